/-
  WALKS: ".1" is read: the whole of it.
-/
import Derived.Test.YthhlhiighgnkmaaGreatDoorNumC
namespace Go.Proofs.YthhlhiighgnkmaaGreatDoor
set_option linter.unusedVariables false
set_option linter.unusedSimpArgs false
open Go.RowKit Go.PlainAid
def bTen : List Nat := [46, 49]
theorem bTen_isB : IsB bTen := by unfold IsB bTen; decide
theorem TenTab.only {w w' : World} {a o cap R : Nat} (h : TenTab w a o cap) (hb : Only [R] w w') (h1 : 18 ≤ R) (h2 : a ≠ R) : TenTab w' a o cap := by
  have hh := h.hi
  exact ⟨(hb.cell (p := ⟨14, 0, none⟩) (show 14 < _ by omega) (show 14 ∉ [R] by simp; omega)).trans h.info, (hb.cell (p := ⟨4, 0, none⟩) (show 4 < _ by omega) (show 4 ∉ [R] by simp; omega)).trans h.opt, (hb.cell (p := ⟨17, 0, none⟩) (show 17 < _ by omega) (show 17 ∉ [R] by simp; omega)).trans h.pow, (hb.cell (p := ⟨a, o + 1, none⟩) h.lo (show a ∉ [R] by simpa using h2)).trans h.ten, Nat.lt_of_lt_of_le h.lo hb.size, Nat.le_trans hh hb.size⟩
theorem TenTab.drewN {w : World} {a o cap : Nat} (h : TenTab w a o cap) (n : Nat) : TenTab (w.drewN n) a o cap := h.stay (below_drewN (Below.refl _ _) n)
set_option maxRecDepth 100000 in
theorem sign_ten (R : Nat) (w : World) (H : Rd w R bTen 0) : Calls Tryz.prog 81 #[.pointer (some ⟨R, 0, none⟩)] w fun e w' => e = .returned (.bool false) ∧ ∃ m, w' = w.drewN m := by
  have C1 := Lib.hid (fun w (H : Rd w R bTen 0) => skip_no R bTen 0 46 { data := #[45] } bTen_isB (by decide) rfl (by decide +kernel) w H)
  have C2 := Lib.hid (fun w (H : Rd w R bTen 0) => skip_no R bTen 0 46 { data := #[43] } bTen_isB (by decide) rfl (by decide +kernel) w H)
  have HR := Lib.hid H
  clear H
  go_enter Tryz.func81, Tryz.ntmps81
  go_wp2_with fail
  refine (C1.out _ HR.out).mono ?_
  rintro e w1 ⟨rfl, m1, rfl⟩
  go_wp2_with fail
  refine (C2.out (w.drewN m1) HR.out).mono ?_
  rintro e w1 ⟨rfl, m2, rfl⟩
  go_wp2
  go_ret
  exact ⟨rfl, m1 + m2, rfl⟩
theorem dec_zero : Lib.decDigits 0 = [48] := by first | decide +kernel | (unfold Lib.decDigits; rfl) | simp [Lib.decDigits]
set_option maxRecDepth 100000 in
set_option maxHeartbeats 1000000 in
theorem decimal_ten (R a o cap : Nat) (w : World) (H : Rd w R bTen 0) (T : TenTab w a o cap) (hR : 18 ≤ R) (hRa : a ≠ R) : Calls Tryz.prog 134 #[.pointer (some ⟨R, 0, none⟩)] w fun e w' => e = .returned (.tuple #[.int .u64 4591870180066957722, .nilIface]) ∧ Only [R] w w' ∧ Rd w' R bTen 2 := by
  have CR0 := Lib.hid (fun w H => run_dig R bTen 0 0 [] bTen_isB (by decide) rfl (by decide) (fun k c hk => by cases hk) (fun c hc => by cases hc; rfl) w H)
  have CS1 := Lib.hid (fun w H => skip_yes R bTen 0 46 { data := #[46] } 0 bTen_isB (by decide) rfl (by decide +kernel) w H)
  have CR1 := Lib.hid (fun w H => run_dig R bTen 1 1 [49] bTen_isB (by decide) rfl (by decide) (fun k c hk => by
    match k, hk with
    | 0, hk => cases hk; exact ⟨rfl, rfl⟩
    | k + 1, hk => simp at hk) (fun c hc => by cases hc) w H)
  have CS2 := Lib.hid (fun w H => skip_end R bTen 2 { data := #[101, 69] } rfl w H)
  have CI := Lib.hid (fun w => Tryz.strconv_Itoa_small 0 (by decide) w)
  rw [show (ByteArray.mk (Lib.decDigits 0).toArray) = { data := #[48] } from by rw [dec_zero]] at CI
  have CP := Lib.hid (fun S hs h0 h1 h2 h3 w H => parse_tenth S hs h0 h1 h2 h3 a o cap w H)
  have he : (strOf [] ++ strOf [49]).toList.isEmpty = false := by rw [Lib.toList_data]; decide +kernel
  have HH := Lib.hid H
  have TT := Lib.hid T
  clear H T
  go_enter Tryz.func134, Tryz.ntmps134
  go_wp2_with fail
  refine (CR0.out _ HH.out).mono ?_
  rintro e w1 ⟨rfl, ho, hr⟩
  have O1 := Lib.hid ho
  have R1 := Lib.hid hr
  clear ho hr
  go_wp2_with fail
  refine (CS1.out _ R1.out).mono ?_
  rintro e w2 ⟨rfl, ho, hr⟩
  have O2 := Lib.hid (O1.out.trans ho (fun x hx => .inl hx))
  have R2 := Lib.hid hr
  clear ho hr
  go_wp2_with fail
  refine (CR1.out _ R2.out).mono ?_
  rintro e w3 ⟨rfl, ho, hr⟩
  have O3 := Lib.hid (O2.out.trans ho (fun x hx => .inl hx))
  have R3 := Lib.hid hr
  clear ho hr
  go_wp2_with fail
  refine (CS2.out w3 R3.out).mono ?_
  rintro e w4 ⟨rfl, m, rfl⟩
  have T3 := Lib.hid (TT.out.only O3.out hR hRa)
  go_wp2_with fail
  refine (CI.out _).mono ?_
  rintro e w5 ⟨rfl, rfl⟩
  go_wp2_with fail
  refine (CP.out _ ?_ ?_ ?_ ?_ ?_ (w3.drewN m) (T3.out.drewN m)).mono ?_
  · decide +kernel
  · decide +kernel
  · decide +kernel
  · decide +kernel
  · decide +kernel
  rintro e w5 ⟨rfl, rfl⟩
  go_wp2
  go_ret2
  exact ⟨rfl, O3.out.drewN _, R3.out⟩
set_option maxRecDepth 100000 in
theorem unsigned_ten (R a o cap : Nat) (w : World) (H : Rd w R bTen 0) (T : TenTab w a o cap) (hR : 18 ≤ R) (hRa : a ≠ R) : Calls Tryz.prog 82 #[.pointer (some ⟨R, 0, none⟩)] w fun e w' => e = .returned (.tuple #[.int .u64 4591870180066957722, .nilIface]) ∧ Only [R] w w' ∧ Rd w' R bTen 2 := by
  have C1 := Lib.hid (fun w (H : Rd w R bTen 0) => word_short R bTen 0 { data := #[105, 110, 102, 105, 110, 105, 116, 121] } (by decide) (by decide) (by decide) w H)
  have C2 := Lib.hid (fun w (H : Rd w R bTen 0) => word_short R bTen 0 { data := #[105, 110, 102] } (by decide) (by decide) (by decide) w H)
  have C3 := Lib.hid (fun w (H : Rd w R bTen 0) => word_short R bTen 0 { data := #[110, 97, 110] } (by decide) (by decide) (by decide) w H)
  have C4 := Lib.hid (fun w (H : Rd w R bTen 0) => word_other R bTen 0 46 48 { data := #[48, 120] } bTen_isB rfl (by decide) (by decide) (by decide) (by decide) (by decide +kernel) (by decide) w H)
  have CD := Lib.hid (fun w H T => decimal_ten R a o cap w H T hR hRa)
  have HH := Lib.hid H
  have TT := Lib.hid T
  clear H T
  go_enter Tryz.func82, Tryz.ntmps82
  go_wp2_with fail
  refine (C1.out w HH.out).mono ?_
  rintro e w1 ⟨rfl, m1, rfl⟩
  go_wp2_with fail
  refine (C2.out (w.drewN m1) HH.out).mono ?_
  rintro e w1 ⟨rfl, m2, rfl⟩
  go_wp2_with fail
  refine (C3.out (w.drewN (m1 + m2)) HH.out).mono ?_
  rintro e w1 ⟨rfl, m3, rfl⟩
  go_wp2_with fail
  refine (C4.out (w.drewN (m1 + m2 + m3)) HH.out).mono ?_
  rintro e w1 ⟨rfl, m4, rfl⟩
  go_wp2_with fail
  refine (CD.out (w.drewN (m1 + m2 + m3 + m4)) HH.out (TT.out.drewN _)).mono ?_
  rintro e w1 ⟨rfl, ho, hr⟩
  have O1 := Lib.hid (show Only [R] w w1 from ((Only.refl [R] w).drewN _).trans ho (fun x hx => .inl hx))
  have R1 := Lib.hid hr
  clear ho hr
  go_wp2
  go_ret2
  exact ⟨rfl, O1.out, R1.out⟩
set_option maxRecDepth 100000 in
theorem number_ten (R a o cap : Nat) (w : World) (H : Rd w R bTen 0) (T : TenTab w a o cap) (hR : 18 ≤ R) (hRa : a ≠ R) : Calls Tryz.prog 43 #[.pointer (some ⟨R, 0, none⟩)] w fun e w' => e = .returned (.tuple #[.int .u64 4591870180066957722, .nilIface]) ∧ Only [R] w w' := by
  have CS := Lib.hid (fun w H => sign_ten R w H)
  have CU := Lib.hid (fun w H T => unsigned_ten R a o cap w H T hR hRa)
  have CD := Lib.hid (fun w H => isdone_any R bTen 2 w H)
  rw [show decide (2 = bTen.length) = true by decide] at CD
  have h0 := H.c0
  have hsz : (strOf bTen).size = 2 := rfl
  have HH := Lib.hid H
  have TT := Lib.hid T
  obtain ⟨S, hS⟩ : ∃ S, strOf bTen = S := ⟨_, rfl⟩
  rw [hS] at h0 hsz
  clear hS H T
  go_enter Tryz.func43, Tryz.ntmps43
  go_wp2_with fail
  refine (CS.out w HH.out).mono ?_
  rintro e w1 ⟨rfl, m1, rfl⟩
  go_wp2_with fail
  refine (CU.out (w.drewN m1) HH.out (TT.out.drewN _)).mono ?_
  rintro e w1 ⟨rfl, ho, hr⟩
  have O1 := Lib.hid (show Only [R] w w1 from ((Only.refl [R] w).drewN _).trans ho (fun x hx => .inl hx))
  have R1 := Lib.hid hr
  clear ho hr h0
  go_wp2_with fail
  refine (CD.out w1 R1.out).mono ?_
  rintro e w2 ⟨rfl, hb⟩
  have O2 := Lib.hid (O1.out.trans (Only.of_below hb [R]) (fun x hx => .inl hx))
  clear hb
  go_wp2
  go_ret2
  exact ⟨rfl, O2.out⟩
set_option maxRecDepth 100000 in
theorem number_tenth (a o cap : Nat) (w : World) (T : TenTab w a o cap) : Calls Tryz.prog 14 #[.string (strOf bTen)] w (Gives w (.tuple #[.int .u64 4591870180066957722, .int .u16 0])) := by
  have hT := T.hi
  have hlo := T.lo
  have CQ := Lib.hid (fun w1 (H : Rd w1 w.heap.size bTen 0) (T : TenTab w1 a o cap) => number_ten w.heap.size a o cap w1 H T hT (by omega))
  have CA := Lib.hid as_nil
  have T1 := Lib.hid (show TenTab (w.alloc (.cells #[.string (strOf bTen), .int .i64 0] 58)) a o cap from T.stay ((Below.refl _ w).alloc (Nat.le_refl _) _))
  have HRL := Lib.hid (Rd.laid w bTen)
  obtain ⟨S, hS⟩ : ∃ S, strOf bTen = S := ⟨_, rfl⟩
  rw [hS] at HRL T1 ⊢
  clear hS hT hlo T
  go_enter Tryz.func14, Tryz.ntmps14
  go_wp2_with fail
  refine (CQ.out _ HRL.out T1.out).mono ?_
  rintro e w1 ⟨rfl, ho⟩
  have BB := Lib.hid (Below.trans ((Below.refl w.heap.size w).alloc (Nat.le_refl _) _) (ho.below (B := w.heap.size) (by simp) (by simp)))
  clear ho
  go_wp2_with fail
  refine (CA.out _ _).mono ?_
  rintro e w2 ⟨rfl, rfl⟩
  go_wp2
  go_ret2
  exact ⟨rfl, BB.out.alloc BB.out.size _⟩
end Go.Proofs.YthhlhiighgnkmaaGreatDoor
