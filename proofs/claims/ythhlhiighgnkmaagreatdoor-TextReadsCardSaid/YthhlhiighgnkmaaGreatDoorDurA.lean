/-
  WALKS: runs of bytes; whole numbers; units.
-/
import Derived.Test.YthhlhiighgnkmaaGreatDoorUnC
import Derived.Test.YthhlhiighgnkmaaGreatDoorShelf
import Derived.Lib.Strings
namespace Go.Proofs.YthhlhiighgnkmaaGreatDoor
set_option linter.unusedVariables false
set_option linter.unusedSimpArgs false
open Go.RowKit Go.PlainAid
theorem isdone_q (R : Nat) (bs : List Nat) (p : Nat) (w : World) (H : Rd w R bs p) : Calls Tryz.prog 83 #[.pointer (some ⟨R, 0, none⟩)] w fun e w' => e = .returned (.bool (decide (p = bs.length))) ∧ ∃ m, w' = w.drewN m := by
  have h0 := H.c0
  have h1 := H.c1
  have hsz := strOf_size bs
  obtain ⟨L, hL⟩ : ∃ L, bs.length = L := ⟨_, rfl⟩
  rw [hL] at hsz ⊢
  have he : (((p : Nat) : Int) == ((L : Nat) : Int)) = decide (p = L) := by
    by_cases h : p = L
    · subst h; simp
    · rw [decide_eq_false h]; simp; omega
  clear H hL
  go_enter Tryz.func83, Tryz.ntmps83
  go_wp2_with fail
  go_quiet (fail)
  go_wp2
  go_ret
  exact ⟨rfl, _, rfl⟩
theorem toList_strOf (bs : List Nat) : (strOf bs).toList = bs.map UInt8.ofNat := by
  rw [Lib.toList_data]
  rfl
def dig (c : Nat) : Bool := decide (48 ≤ c) && decide (c ≤ 57)
theorem notdigit_any (c : Nat) (hc : c < 256) (w : World) : Calls Tryz.prog 148 #[.int .u8 (c : Int)] w fun e w' => e = .returned (.bool (!dig c)) ∧ w' = w := by
  have CD := Lib.hid (fun w => isdigit_any c hc w)
  unfold dig
  obtain ⟨x, hx⟩ : ∃ x, (decide (48 ≤ c) && decide (c ≤ 57)) = x := ⟨_, rfl⟩
  rw [hx] at CD ⊢
  clear hx hc
  go_enter Tryz.func148, Tryz.ntmps148
  go_wp2_with fail
  refine (CD.out _).mono ?_
  rintro e w1 ⟨rfl, rfl⟩
  go_wp2
  go_ret
  exact ⟨rfl, rfl⟩
theorem extract_strOf (bs ds : List Nat) (p n : Nat) (hlen : ds.length = n) (hds : ∀ k c, ds[k]? = some c → bs[p + k]? = some c) : (strOf bs).extract p (p + n) = strOf ds := by
  have e : ds = (bs.drop p).take n := by
    apply List.ext_getElem?
    intro k
    by_cases hk : k < n
    · rw [List.getElem?_take, if_pos hk, List.getElem?_drop]
      have h := List.getElem?_eq_getElem (l := ds) (show k < ds.length by omega)
      rw [h, hds k _ h]
    · rw [List.getElem?_eq_none (by omega), List.getElem?_take, if_neg hk]
  apply ByteArray.ext
  rw [ByteArray.data_extract]
  unfold strOf
  rw [e]
  apply Array.ext'
  simp [List.map_take, List.map_drop]
set_option maxHeartbeats 2000000 in
theorem run_not (R : Nat) (bs : List Nat) (p n : Nat) (ds : List Nat) (hB : IsB bs) (hl : bs.length ≤ 200000) (hlen : ds.length = n) (hp : p + n ≤ bs.length) (hds : ∀ k c, ds[k]? = some c → bs[p + k]? = some c ∧ (!dig c) = true) (hend : ∀ c, bs[p + n]? = some c → (!dig c) = false) (w : World) (H : Rd w R bs p) :
    Calls Tryz.prog 145 #[.pointer (some ⟨R, 0, none⟩), .func (.func 148) #[] #[]] w fun e w' => e = .returned (.string (strOf ds)) ∧ Only [R] w w' ∧ Rd w' R bs (p + n) := by
  have HQ := Lib.hid (fun (q : Nat) (w : World) (H : Rd w R bs q) => isdone_q R bs q w H)
  have HF := Lib.hid (fun (q c : Nat) (hc : bs[q]? = some c) (w : World) => notdigit_any c (at_isB hB hc) w)
  have HX := Lib.hid (extract_strOf bs ds p n hlen (fun k c hk => (hds k c hk).1))
  have HG := Lib.hid hds
  have HE := Lib.hid hend
  have HL := Lib.hid hlen
  have H0 := Lib.hid H
  have h1 := H.c1
  have hsz := strOf_size bs
  have hbt := get_bt (strOf bs)
  have HBT := Lib.hid (fun (q c : Nat) (hc : bs[q]? = some c) => show bt (strOf bs) q = ((c : Nat) : Int) by
    obtain ⟨hq, rfl⟩ := List.getElem?_eq_some_iff.1 hc
    exact strOf_bt bs hB q hq)
  obtain ⟨L, hL⟩ : ∃ L, bs.length = L := ⟨_, rfl⟩
  have HLL := Lib.hid hL
  rw [hL] at hsz hl hp HQ
  clear hds hend hlen hB hL H
  go_enter Tryz.func145, Tryz.ntmps145
  go_wp2
  clear h1
  go_loopw [] (fun wr => ∃ (k : Nat), k ≤ n ∧ Hid (Only [R] w wr) ∧ Hid (Rd wr R bs (p + k))) (fun wr => match wr.cell? ⟨R, 1, none⟩ with | some v => (p + n - intOf v).toNat | none => 0)
  case atStart => exact ⟨0, by omega, Lib.hid (Only.refl _ _), H0⟩
  case round =>
    obtain ⟨k, hk, HO, HR⟩ := hrel
    have h0 := HR.out.c0
    have h1 := HR.out.c1
    have f1 := HR.out.fz 1
    have CQ := Lib.hid (fun m => HQ.out (p + k) (wr.drewN m) HR.out)
    by_cases hkn : k < n
    · obtain ⟨c, hce⟩ : ∃ c, ds[k]? = some c := ⟨_, List.getElem?_eq_getElem (by rw [HL.out]; exact hkn)⟩
      obtain ⟨hc, hfc⟩ := HG.out k c hce
      have hb := HBT.out (p + k) c hc
      have CF := Lib.hid (fun w => HF.out (p + k) c hc w)
      simp only [hfc] at CF
      have hpk : p + k < L := by omega
      rw [decide_eq_false (by omega)] at CQ
      have hpi : ((p + k : Nat) : Int) < (L : Int) := by omega
      obtain ⟨q, hq⟩ : ∃ q, p + k = q := ⟨_, rfl⟩
      rw [hq] at h1 hb hpk hpi
      have HQQ := Lib.hid hq
      clear hce hc hfc hq
      have e1 : IntKind.i64.wrap ((q : Int) + 1) = ((q + 1 : Nat) : Int) := by rw [IntKind.wrap_i64]; omega
      go_wp2_with fail
      go_quiet ((first
        | (go_at_call 83; exact Calls.quiet_of (CQ.out _))
        | (go_at_call 148; exact Calls.quiet_of_same (CF.out _))))
      go_wp2
      go_roundw
      case rel => exact ⟨k + 1, by omega, Lib.hid ((HO.out.drewN nq).setCell (.inl (by simp)) _), Lib.hid (by have h := Rd.set (w := wr.drewN nq) HR.out (q + 1); rw [← HQQ.out] at h ⊢; exact h)⟩
      case measure =>
        have h9 := HQQ.out
        have hms3 : ((wr.drewN nq).setCell ⟨R, 1, none⟩ (.int .i64 ((q : Int) + 1))).cell? ⟨R, 1, none⟩ = some (.int .i64 ((q : Int) + 1)) := (Rd.set (w := wr.drewN nq) HR.out (q + 1)).c1
        rw [hms3, h1]
        simp only [intOf]
        omega
    · obtain rfl : k = n := by omega
      have HK := Lib.hid (HO.out)
      obtain ⟨q, hq⟩ : ∃ q, p + k = q := ⟨_, rfl⟩
      have hx := HX.out
      rw [hq] at h1 hp hx
      have HQQ := Lib.hid hq
      by_cases hd : q = L
      · rw [hq, decide_eq_true hd] at CQ
        subst hd
        have hle : p ≤ q := by omega
        have hqi : ((q : Nat) : Int) ≤ (q : Int) := by omega
        have hpi : ((p : Nat) : Int) ≤ (q : Int) := by omega
        clear hq hkn hk
        go_wp2_with fail
        go_quiet ((go_at_call 83; exact Calls.quiet_of (CQ.out _)))
        go_wp2_with fail
        go_quiet (fail)
        go_wp2
        go_ret
        refine ⟨?_, (HK.out.drewN _).drewN _, by first | exact HR.out | (rw [← HQQ.out]; exact HR.out)⟩
        first | rfl | rw [hx] | simp [hx]
      · obtain ⟨c, hc⟩ : ∃ c, bs[q]? = some c := ⟨_, List.getElem?_eq_getElem (by rw [HLL.out]; omega)⟩
        have hfc := HE.out c (by rw [HQQ.out]; exact hc)
        have hb := HBT.out q c hc
        have CF := Lib.hid (fun w => HF.out q c hc w)
        simp only [hfc] at CF
        rw [hq, decide_eq_false hd] at CQ
        have hle : p ≤ q := by omega
        have hql : q < L := by omega
        have hqi2 : ((q : Nat) : Int) < (L : Int) := by omega
        have hqi : ((q : Nat) : Int) ≤ (L : Int) := by omega
        have hpi : ((p : Nat) : Int) ≤ (q : Int) := by omega
        clear hq hkn hk hc hfc
        go_wp2_with fail
        go_quiet ((first
          | (go_at_call 83; exact Calls.quiet_of (CQ.out _))
          | (go_at_call 148; exact Calls.quiet_of_same (CF.out _))))
        go_wp2_with fail
        go_quiet (fail)
        go_wp2
        go_ret
        refine ⟨?_, (HK.out.drewN _).drewN _, by first | exact HR.out | (rw [← HQQ.out]; exact HR.out)⟩
        first | rfl | rw [hx] | simp [hx]
set_option maxHeartbeats 2000000 in
theorem run_dig (R : Nat) (bs : List Nat) (p n : Nat) (ds : List Nat) (hB : IsB bs) (hl : bs.length ≤ 200000) (hlen : ds.length = n) (hp : p + n ≤ bs.length) (hds : ∀ k c, ds[k]? = some c → bs[p + k]? = some c ∧ dig c = true) (hend : ∀ c, bs[p + n]? = some c → dig c = false) (w : World) (H : Rd w R bs p) :
    Calls Tryz.prog 145 #[.pointer (some ⟨R, 0, none⟩), .func (.func 146) #[] #[]] w fun e w' => e = .returned (.string (strOf ds)) ∧ Only [R] w w' ∧ Rd w' R bs (p + n) := by
  have HQ := Lib.hid (fun (q : Nat) (w : World) (H : Rd w R bs q) => isdone_q R bs q w H)
  have HF := Lib.hid (fun (q c : Nat) (hc : bs[q]? = some c) (w : World) => isdigit_any c (at_isB hB hc) w)
  have HX := Lib.hid (extract_strOf bs ds p n hlen (fun k c hk => (hds k c hk).1))
  have HG := Lib.hid hds
  have HE := Lib.hid hend
  have HL := Lib.hid hlen
  have H0 := Lib.hid H
  have h1 := H.c1
  have hsz := strOf_size bs
  have hbt := get_bt (strOf bs)
  have HBT := Lib.hid (fun (q c : Nat) (hc : bs[q]? = some c) => show bt (strOf bs) q = ((c : Nat) : Int) by
    obtain ⟨hq, rfl⟩ := List.getElem?_eq_some_iff.1 hc
    exact strOf_bt bs hB q hq)
  obtain ⟨L, hL⟩ : ∃ L, bs.length = L := ⟨_, rfl⟩
  have HLL := Lib.hid hL
  rw [hL] at hsz hl hp HQ
  clear hds hend hlen hB hL H
  go_enter Tryz.func145, Tryz.ntmps145
  go_wp2
  clear h1
  go_loopw [] (fun wr => ∃ (k : Nat), k ≤ n ∧ Hid (Only [R] w wr) ∧ Hid (Rd wr R bs (p + k))) (fun wr => match wr.cell? ⟨R, 1, none⟩ with | some v => (p + n - intOf v).toNat | none => 0)
  case atStart => exact ⟨0, by omega, Lib.hid (Only.refl _ _), H0⟩
  case round =>
    obtain ⟨k, hk, HO, HR⟩ := hrel
    have h0 := HR.out.c0
    have h1 := HR.out.c1
    have f1 := HR.out.fz 1
    have CQ := Lib.hid (fun m => HQ.out (p + k) (wr.drewN m) HR.out)
    by_cases hkn : k < n
    · obtain ⟨c, hce⟩ : ∃ c, ds[k]? = some c := ⟨_, List.getElem?_eq_getElem (by rw [HL.out]; exact hkn)⟩
      obtain ⟨hc, hfc⟩ := HG.out k c hce
      have hb := HBT.out (p + k) c hc
      have CF := Lib.hid (fun w => HF.out (p + k) c hc w)
      simp only [show (decide (48 ≤ c) && decide (c ≤ 57)) = dig c from rfl, hfc] at CF
      have hpk : p + k < L := by omega
      rw [decide_eq_false (by omega)] at CQ
      have hpi : ((p + k : Nat) : Int) < (L : Int) := by omega
      obtain ⟨q, hq⟩ : ∃ q, p + k = q := ⟨_, rfl⟩
      rw [hq] at h1 hb hpk hpi
      have HQQ := Lib.hid hq
      clear hce hc hfc hq
      have e1 : IntKind.i64.wrap ((q : Int) + 1) = ((q + 1 : Nat) : Int) := by rw [IntKind.wrap_i64]; omega
      go_wp2_with fail
      go_quiet ((first
        | (go_at_call 83; exact Calls.quiet_of (CQ.out _))
        | (go_at_call 146; exact Calls.quiet_of_same (CF.out _))))
      go_wp2
      go_roundw
      case rel => exact ⟨k + 1, by omega, Lib.hid ((HO.out.drewN nq).setCell (.inl (by simp)) _), Lib.hid (by have h := Rd.set (w := wr.drewN nq) HR.out (q + 1); rw [← HQQ.out] at h ⊢; exact h)⟩
      case measure =>
        have h9 := HQQ.out
        have hms3 : ((wr.drewN nq).setCell ⟨R, 1, none⟩ (.int .i64 ((q : Int) + 1))).cell? ⟨R, 1, none⟩ = some (.int .i64 ((q : Int) + 1)) := (Rd.set (w := wr.drewN nq) HR.out (q + 1)).c1
        rw [hms3, h1]
        simp only [intOf]
        omega
    · obtain rfl : k = n := by omega
      have HK := Lib.hid (HO.out)
      obtain ⟨q, hq⟩ : ∃ q, p + k = q := ⟨_, rfl⟩
      have hx := HX.out
      rw [hq] at h1 hp hx
      have HQQ := Lib.hid hq
      by_cases hd : q = L
      · rw [hq, decide_eq_true hd] at CQ
        subst hd
        have hle : p ≤ q := by omega
        have hqi : ((q : Nat) : Int) ≤ (q : Int) := by omega
        have hpi : ((p : Nat) : Int) ≤ (q : Int) := by omega
        clear hq hkn hk
        go_wp2_with fail
        go_quiet ((go_at_call 83; exact Calls.quiet_of (CQ.out _)))
        go_wp2_with fail
        go_quiet (fail)
        go_wp2
        go_ret
        refine ⟨?_, (HK.out.drewN _).drewN _, by first | exact HR.out | (rw [← HQQ.out]; exact HR.out)⟩
        first | rfl | rw [hx] | simp [hx]
      · obtain ⟨c, hc⟩ : ∃ c, bs[q]? = some c := ⟨_, List.getElem?_eq_getElem (by rw [HLL.out]; omega)⟩
        have hfc := HE.out c (by rw [HQQ.out]; exact hc)
        have hb := HBT.out q c hc
        have CF := Lib.hid (fun w => HF.out q c hc w)
        simp only [show (decide (48 ≤ c) && decide (c ≤ 57)) = dig c from rfl, hfc] at CF
        rw [hq, decide_eq_false hd] at CQ
        have hle : p ≤ q := by omega
        have hql : q < L := by omega
        have hqi2 : ((q : Nat) : Int) < (L : Int) := by omega
        have hqi : ((q : Nat) : Int) ≤ (L : Int) := by omega
        have hpi : ((p : Nat) : Int) ≤ (q : Int) := by omega
        clear hq hkn hk hc hfc
        go_wp2_with fail
        go_quiet ((first
          | (go_at_call 83; exact Calls.quiet_of (CQ.out _))
          | (go_at_call 146; exact Calls.quiet_of_same (CF.out _))))
        go_wp2_with fail
        go_quiet (fail)
        go_wp2
        go_ret
        refine ⟨?_, (HK.out.drewN _).drewN _, by first | exact HR.out | (rw [← HQQ.out]; exact HR.out)⟩
        first | rfl | rw [hx] | simp [hx]
/-- a whole number is read -/
theorem whole_ok (R : Nat) (bs : List Nat) (p n : Nat) (ds : List Nat) (v : Int) (hB : IsB bs) (hl : bs.length ≤ 200000) (hlen : ds.length = n) (hn : 1 ≤ n) (hp : p + n ≤ bs.length) (hds : ∀ k c, ds[k]? = some c → bs[p + k]? = some c ∧ dig c = true) (hend : ∀ c, bs[p + n]? = some c → dig c = false) (hv : Lib.parseIntB 64 (strOf ds).data.toList = .ok v) (w : World) (H : Rd w R bs p) :
    Calls Tryz.prog 101 #[.pointer (some ⟨R, 0, none⟩)] w fun e w' => e = .returned (.tuple #[.int .i64 v, .nilIface]) ∧ Only [R] w w' ∧ Rd w' R bs (p + n) := by
  have CR := Lib.hid (fun w H => run_dig R bs p n ds hB hl hlen hp hds hend w H)
  have CP := Lib.hid (fun w => Tryz.strconv_ParseInt_10_at64_ok (strOf ds) (by rw [strOf_size]; omega) v hv w)
  have h1 := H.c1
  have hsz := strOf_size ds
  have hne : (strOf ds).toList.isEmpty = false := by
    rw [toList_strOf]
    cases ds with
    | nil => simp at hlen; omega
    | cons c ds => rfl
  obtain ⟨S, hS⟩ : ∃ S, strOf ds = S := ⟨_, rfl⟩
  rw [hS] at CR CP hne
  have H0 := Lib.hid H
  clear hds hend hv hsz hS H
  go_enter Tryz.func101, Tryz.ntmps101
  go_wp2_with fail
  refine (CR.out _ H0.out).mono ?_
  rintro e w1 ⟨rfl, ho, hr⟩
  have O1 := Lib.hid ho
  have R1 := Lib.hid hr
  clear ho hr
  go_wp2_with fail
  refine (CP.out _).mono ?_
  rintro e w2 ⟨rfl, hw⟩
  have O2 := Lib.hid (show Only [R] w w2 ∧ Rd w2 R bs (p + n) by
    rcases hw with rfl | ⟨t, rfl⟩
    · exact ⟨O1.out, R1.out⟩
    · exact ⟨O1.out.trans (Only.of_below (Lib.bytesWorld_below w1 5 t) [R]) (fun x hx => .inl hx), R1.out.stay (Lib.bytesWorld_below w1 5 t)⟩)
  clear hw
  go_wp2
  go_ret2
  exact ⟨rfl, O2.out.1, O2.out.2⟩
end Go.Proofs.YthhlhiighgnkmaaGreatDoor
