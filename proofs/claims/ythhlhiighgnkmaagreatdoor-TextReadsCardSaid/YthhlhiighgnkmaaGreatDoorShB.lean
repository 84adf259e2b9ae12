/-
  WALKS: one tenth is shown: its shortest digits.
-/
import Derived.Test.YthhlhiighgnkmaaGreatDoorShA
namespace Go.Proofs.YthhlhiighgnkmaaGreatDoor
set_option linter.unusedVariables false
set_option linter.unusedSimpArgs false
open Go.RowKit Go.PlainAid
theorem Pre.below {w w' : World} {P B : Nat} (h : Pre w P) (hb : Below B w w') (hB : P < B) : Pre w' P := (hb.block P hB).trans h
set_option maxRecDepth 100000 in
set_option maxHeartbeats 1000000 in
theorem short_tenth (w : World) (h1 : w.cell? ⟨11, 730, none⟩ = some (.int .u64 12800000000000000000)) (h2 : w.cell? ⟨11, 731, none⟩ = some (.int .u64 0)) (hS : 18 ≤ w.heap.size) :
    Calls Tryz.prog 204 #[.int .u64 14757395258967642112, .int .i64 (-67)] w (Gives w (.tuple #[.int .u64 1000000000000000, .int .i64 (-16)])) := by
  have C1 := Lib.hid log10_m56
  have C2 := Lib.hid log2_17
  have hA : ∀ o : Obj, Below w.heap.size w (w.alloc o) := fun o => (Below.refl _ w).alloc (Nat.le_refl _) o
  have C3 := Lib.hid (prescale_17 w.heap.size (w.alloc (.cells #[.int .u64 0, .int .u64 0, .int .i64 0] 255)) .nilIface (heap_alloc_new w _) (((hA _).cell (p := ⟨11, 730, none⟩) (show 11 < _ by omega)).trans h1) (((hA _).cell (p := ⟨11, 731, none⟩) (show 11 < _ by omega)).trans h2) (by omega))
  have HA := Lib.hid hA
  have C4 := Lib.hid (fun w1 H => uscale_min w.heap.size w1 H)
  have C5 := Lib.hid (fun w1 H => uscale_max w.heap.size w1 H)
  have C6 := Lib.hid (fun w => nudge_zero 39999999999999999 (by decide) w)
  have C7 := Lib.hid (fun w => nudge_zero 40000000000000005 (by decide) w)
  have C8 := Lib.hid ceil_min
  have C9 := Lib.hid floor_max
  have hb0 : bits .and .i64 7205759403792794 1 = 0 := by decide +kernel
  clear h1 h2 hA hS
  go_enter Tryz.func204, Tryz.ntmps204
  go_wp2_with fail
  refine (C1.out _).mono ?_
  rintro e w1 ⟨rfl, rfl⟩
  go_wp2_with fail
  refine (C2.out _).mono ?_
  rintro e w1 ⟨rfl, rfl⟩
  go_wp2_with fail
  refine C3.out.mono ?_
  rintro e w2 ⟨rfl, ho, hp⟩
  have B2 := Lib.hid (Below.trans (HA.out _) (ho.below (B := w1.heap.size) (by simp) (by simp)))
  have P2 := Lib.hid hp
  clear ho hp
  go_wp2_with fail
  refine (C4.out _ P2.out).mono ?_
  rintro e w3 ⟨rfl, rfl⟩
  go_wp2_with fail
  refine (C6.out _).mono ?_
  rintro e w4 ⟨rfl, rfl⟩
  go_wp2_with fail
  refine (C8.out _).mono ?_
  rintro e w4 ⟨rfl, rfl⟩
  go_wp2_with fail
  refine (C5.out _ P2.out).mono ?_
  rintro e w4 ⟨rfl, rfl⟩
  go_wp2_with fail
  refine (C7.out _).mono ?_
  rintro e w4 ⟨rfl, rfl⟩
  go_wp2_with fail
  refine (C9.out _).mono ?_
  rintro e w4 ⟨rfl, rfl⟩
  go_wp2
  go_returns
  exact ⟨rfl, B2.out⟩
end Go.Proofs.YthhlhiighgnkmaaGreatDoor
