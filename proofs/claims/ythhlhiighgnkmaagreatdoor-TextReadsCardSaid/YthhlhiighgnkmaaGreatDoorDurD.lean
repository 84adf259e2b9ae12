/-
  WALKS: ReadDuration of "1h30m".
-/
import Derived.Test.YthhlhiighgnkmaaGreatDoorDurC
import Derived.LoopN
namespace Go.Proofs.YthhlhiighgnkmaaGreatDoor
set_option linter.unusedVariables false
set_option linter.unusedSimpArgs false
open Go.RowKit Go.PlainAid
def unm (i : Nat) : ByteArray := match i with | 0 => { data := #[121] } | 1 => { data := #[119] } | 2 => { data := #[100] } | 3 => { data := #[104] } | 4 => { data := #[109] } | 5 => { data := #[115] } | _ => { data := #[109, 115] }
def ums (i : Nat) : Int := match i with | 0 => 31536000000 | 1 => 604800000 | 2 => 86400000 | 3 => 3600000 | 4 => 60000 | 5 => 1000 | _ => 1
theorem units_at {w : World} {g : Nat} (h : ∀ i v, unitCells[i]? = some v → w.cell? ⟨g, i, none⟩ = some v) (i : Nat) (hi : i < 7) : w.cell? ⟨g, i * 2, none⟩ = some (.string (unm i)) ∧ w.cell? ⟨g, i * 2 + 1, none⟩ = some (.int .i64 (ums i)) := by
  match i, hi with
  | 0, _ => exact ⟨h _ _ rfl, h _ _ rfl⟩
  | 1, _ => exact ⟨h _ _ rfl, h _ _ rfl⟩
  | 2, _ => exact ⟨h _ _ rfl, h _ _ rfl⟩
  | 3, _ => exact ⟨h _ _ rfl, h _ _ rfl⟩
  | 4, _ => exact ⟨h _ _ rfl, h _ _ rfl⟩
  | 5, _ => exact ⟨h _ _ rfl, h _ _ rfl⟩
  | 6, _ => exact ⟨h _ _ rfl, h _ _ rfl⟩
def b130 : List Nat := [49, 104, 51, 48, 109]
theorem b130_isB : IsB b130 := by unfold IsB b130; decide
theorem w1_any (R : Nat) (w : World) (H : Rd w R b130 0) : Calls Tryz.prog 101 #[.pointer (some ⟨R, 0, none⟩)] w fun e w' => e = .returned (.tuple #[.int .i64 1, .nilIface]) ∧ Only [R] w w' ∧ Rd w' R b130 1 :=
  whole_ok R b130 0 1 [49] 1 b130_isB (by decide) rfl (by decide) (by decide) (fun k c hk => by
    match k, hk with
    | 0, hk => cases hk; exact ⟨rfl, rfl⟩
    | k + 1, hk => simp at hk) (fun c hc => by cases hc; rfl) (by decide +kernel) w H
theorem w2_any (R : Nat) (w : World) (H : Rd w R b130 2) : Calls Tryz.prog 101 #[.pointer (some ⟨R, 0, none⟩)] w fun e w' => e = .returned (.tuple #[.int .i64 30, .nilIface]) ∧ Only [R] w w' ∧ Rd w' R b130 4 :=
  whole_ok R b130 2 2 [51, 48] 30 b130_isB (by decide) rfl (by decide) (by decide) (fun k c hk => by
    match k, hk with
    | 0, hk => cases hk; exact ⟨rfl, rfl⟩
    | 1, hk => cases hk; exact ⟨rfl, rfl⟩
    | k + 2, hk => simp at hk) (fun c hc => by cases hc; rfl) (by decide +kernel) w H
theorem u1_any (R g cap : Nat) (w : World) (H : Rd w R b130 1) (hgR : g ≠ R) (hcap : 7 ≤ cap) (hg : g < w.heap.size) (hc : ∀ i v, unitCells[i]? = some v → w.cell? ⟨g, i, none⟩ = some v) :
    Calls Tryz.prog 102 #[.pointer (some ⟨R, 0, none⟩), .int .i64 0, .int .i64 1, .slice (some ⟨g, 0, none⟩) 7 cap] w fun e w' =>
      e = .returned (.tuple #[.int .i64 3600000, .slice (some ⟨g, 8, none⟩) 3 (cap - 4), .nilIface]) ∧ Only [R] w w' ∧ Rd w' R b130 2 :=
  addunits_ok R b130 1 1 [104] g 0 7 cap 3 unm ums 0 1 w b130_isB (by decide) rfl (by decide) (fun k c hk => by
    match k, hk with
    | 0, hk => cases hk; exact ⟨rfl, rfl⟩
    | k + 1, hk => simp at hk) (fun c hc => by cases hc; rfl) H hgR (by decide) hcap hg (fun i hi => by rw [Nat.zero_add]; exact units_at hc i hi) (by decide) (by decide) (by rw [Lib.toList_data, Lib.toList_data]; decide +kernel) (fun i hi => by
    rw [Lib.toList_data, Lib.toList_data]
    match i, hi with
    | 0, _ => decide +kernel
    | 1, _ => decide +kernel
    | 2, _ => decide +kernel) (fun w => add_any 0 1 3600000 (by decide) (by decide) (by decide) (by decide) (by decide) (by decide) (by decide) (by decide) w)
theorem u2_any (R g cap : Nat) (w : World) (H : Rd w R b130 4) (hgR : g ≠ R) (hcap : 3 ≤ cap) (hg : g < w.heap.size) (hc : ∀ i v, unitCells[i]? = some v → w.cell? ⟨g, i, none⟩ = some v) :
    Calls Tryz.prog 102 #[.pointer (some ⟨R, 0, none⟩), .int .i64 3600000, .int .i64 30, .slice (some ⟨g, 8, none⟩) 3 cap] w fun e w' =>
      e = .returned (.tuple #[.int .i64 5400000, .slice (some ⟨g, 10, none⟩) 2 (cap - 1), .nilIface]) ∧ Only [R] w w' ∧ Rd w' R b130 5 :=
  addunits_ok R b130 4 1 [109] g 8 3 cap 0 (fun i => unm (i + 4)) (fun i => ums (i + 4)) 3600000 30 w b130_isB (by decide) rfl (by decide) (fun k c hk => by
    match k, hk with
    | 0, hk => cases hk; exact ⟨rfl, rfl⟩
    | k + 1, hk => simp at hk) (fun c hc => by cases hc) H hgR (by decide) hcap hg (fun i hi => by
    have h := units_at hc (i + 4) (by omega)
    rw [show (i + 4) * 2 = 8 + i * 2 by omega] at h
    exact h) (by decide) (by decide) (by rw [Lib.toList_data, Lib.toList_data]; decide +kernel) (fun i hi => by omega) (fun w => add_any 3600000 30 60000 (by decide) (by decide) (by decide) (by decide) (by decide) (by decide) (by decide) (by decide) w)
set_option maxRecDepth 100000 in
set_option maxHeartbeats 2000000 in
theorem duration_130 (R : Nat) (w : World) (H : Rd w R b130 0) : Calls Tryz.prog 55 #[.pointer (some ⟨R, 0, none⟩)] w fun e w' => e = .returned (.tuple #[.int .i64 5400000, .nilIface]) ∧ Only [R] w w' := by
  have h0 := H.c0
  have h1 := H.c1
  have hsz : (strOf b130).size = 5 := rfl
  have CW1 := Lib.hid (w1_any R)
  have CW2 := Lib.hid (w2_any R)
  have CU1 := Lib.hid (u1_any R)
  have CU2 := Lib.hid (u2_any R)
  have CD1 := Lib.hid (fun w (H : Rd w R b130 2) => isdone_any R b130 2 w H)
  have CD2 := Lib.hid (fun w (H : Rd w R b130 5) => isdone_any R b130 5 w H)
  rw [show decide (2 = b130.length) = false by decide] at CD1
  rw [show decide (5 = b130.length) = true by decide] at CD2
  have CAU := Lib.hid allunits_any
  have H0 := Lib.hid H
  obtain ⟨S, hS⟩ : ∃ S, strOf b130 = S := ⟨_, rfl⟩
  rw [hS] at h0 hsz
  clear hS H
  go_enter Tryz.func55, Tryz.ntmps55
  go_wp2_with fail
  refine (CAU.out _).mono ?_
  rintro e w1 ⟨g, cap, rfl, hcap, hgw, hg, hcl, hb⟩
  have hgR : g ≠ R := by have := H0.out.lt; omega
  have R1 := H0.out.stay hb
  have h2 := R1.c1
  have CX1 := Lib.hid (CW1.out w1 R1)
  have O1 := Lib.hid (Only.of_below hb [R])
  have HCL := Lib.hid hcl
  have HGR := Lib.hid hgR
  have HG := Lib.hid hg
  have HK : Hid (∀ (w2 : World), Only [R] w1 w2 → g < w2.heap.size ∧ ∀ i v, unitCells[i]? = some v → w2.cell? ⟨g, i, none⟩ = some v) := Lib.hid (fun w2 ho => ⟨Nat.lt_of_lt_of_le hg ho.size, fun i v hv => (ho.cell (p := ⟨g, i, none⟩) hg (by simpa using hgR)).trans (hcl i v hv)⟩)
  clear hb hcl R1 h0 h1 hg hgR hgw
  go_wp2_with fail
  refine wp_loop_rounds 3 ?_
  rw [rounds_succ]
  go_wp2_with fail
  refine CX1.out.mono ?_
  rintro e w2 ⟨rfl, ho, hr⟩
  have A2 := Lib.hid ho
  have k2 := HK.out w2 ho
  have CX2 := Lib.hid (CU1.out g cap w2 hr HGR.out hcap k2.1 k2.2)
  clear ho hr k2 h2
  go_wp2_with fail
  refine CX2.out.mono ?_
  rintro e w3 ⟨rfl, ho, hr⟩
  have A3 := Lib.hid (A2.out.trans ho (fun x hx => .inl hx))
  have R3 := Lib.hid hr
  clear ho hr
  go_wp2_with fail
  refine (CD1.out _ R3.out).mono ?_
  rintro e w4 ⟨rfl, hb⟩
  have A4 := Lib.hid (A3.out.trans (Only.of_below hb [R]) (fun x hx => .inl hx))
  have r4 := R3.out.stay hb
  have h4 := r4.c1
  have CX4 := Lib.hid (CW2.out w4 r4)
  clear hb r4
  go_wp2
  rw [rounds_succ]
  go_wp2_with fail
  refine CX4.out.mono ?_
  rintro e w5 ⟨rfl, ho, hr⟩
  have A5 := Lib.hid (A4.out.trans ho (fun x hx => .inl hx))
  have k5 := HK.out w5 A5.out
  have CX5 := Lib.hid (CU2.out g (cap - 4) w5 hr HGR.out (by omega) k5.1 k5.2)
  clear ho hr k5 h4
  go_wp2_with fail
  refine CX5.out.mono ?_
  rintro e w6 ⟨rfl, ho, hr⟩
  have A6 := Lib.hid (A5.out.trans ho (fun x hx => .inl hx))
  have R6 := Lib.hid hr
  clear ho hr
  go_wp2_with fail
  refine (CD2.out _ R6.out).mono ?_
  rintro e w7 ⟨rfl, hb⟩
  have A7 := Lib.hid (A6.out.trans (Only.of_below hb [R]) (fun x hx => .inl hx))
  clear hb
  go_wp2
  go_ret2
  exact ⟨rfl, O1.out.trans A7.out (fun x hx => .inl hx)⟩
set_option maxRecDepth 100000 in
theorem readduration_130 (w : World) : Calls Tryz.prog 22 #[.string (strOf b130)] w (Gives w (.tuple #[.int .i64 5400000, .int .u16 0])) := by
  have CQ := Lib.hid (fun (R : Nat) (w : World) (H : Rd w R b130 0) => duration_130 R w H)
  have CA := Lib.hid as_nil
  obtain ⟨S, hS⟩ : ∃ S, strOf b130 = S := ⟨_, rfl⟩
  have HRL := Lib.hid (Rd.laid w b130)
  rw [hS] at HRL ⊢
  clear hS
  go_enter Tryz.func22, Tryz.ntmps22
  go_wp2_with fail
  refine (CQ.out _ _ HRL.out).mono ?_
  rintro e w1 ⟨rfl, ho⟩
  have BB := Lib.hid (Below.trans ((Below.refl w.heap.size w).alloc (Nat.le_refl _) _) (ho.below (B := w.heap.size) (by simp) (by simp)))
  clear ho
  go_wp2_with fail
  refine (CA.out _ _).mono ?_
  rintro e w2 ⟨rfl, rfl⟩
  go_wp2
  go_ret2
  exact ⟨rfl, BB.out.alloc BB.out.size _⟩
end Go.Proofs.YthhlhiighgnkmaaGreatDoor
