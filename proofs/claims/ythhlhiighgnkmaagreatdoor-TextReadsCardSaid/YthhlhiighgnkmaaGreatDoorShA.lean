/-
  WALKS: one tenth is shown: scaling.
-/
import Derived.Test.YthhlhiighgnkmaaGreatDoorNumD
namespace Go.Proofs.YthhlhiighgnkmaaGreatDoor
set_option linter.unusedVariables false
set_option linter.unusedSimpArgs false
open Go.RowKit Go.PlainAid
theorem log10_m56 (w : World) : Calls Tryz.prog 177 #[.int .i64 (-56)] w fun e w' => e = .returned (.int .i64 (-17)) ∧ w' = w := by
  go_enter Tryz.func177, Tryz.ntmps177
  go_wp2
  go_ret
  exact ⟨rfl, rfl⟩
theorem log2_17 (w : World) : Calls Tryz.prog 221 #[.int .i64 17] w fun e w' => e = .returned (.int .i64 56) ∧ w' = w := by
  go_enter Tryz.func221, Tryz.ntmps221
  go_wp2
  go_ret
  exact ⟨rfl, rfl⟩
theorem nudge_zero (u : Nat) (hu : u < 2 ^ 60) (w : World) : Calls Tryz.prog 223 #[.int .u64 (u : Int), .int .i64 0] w fun e w' => e = .returned (.int .u64 (u : Int)) ∧ w' = w := by
  have e0 : IntKind.u64.wrap 0 = 0 := by decide
  have e1 : IntKind.u64.wrap (u : Int) = (u : Int) := by rw [IntKind.wrap_u64]; omega
  have e2 : IntKind.u64.wrap ((u : Int) + 0) = (u : Int) := by rw [IntKind.wrap_u64]; omega
  clear hu
  go_enter Tryz.func223, Tryz.ntmps223
  go_wp2
  go_ret
  exact ⟨rfl, rfl⟩
theorem ceil_min (w : World) : Calls Tryz.prog 224 #[.int .u64 39999999999999999] w fun e w' => e = .returned (.int .u64 10000000000000000) ∧ w' = w := by
  go_enter Tryz.func224, Tryz.ntmps224
  go_wp2
  go_ret
  exact ⟨rfl, rfl⟩
theorem floor_max (w : World) : Calls Tryz.prog 225 #[.int .u64 40000000000000005] w fun e w' => e = .returned (.int .u64 10000000000000001) ∧ w' = w := by
  go_enter Tryz.func225, Tryz.ntmps225
  go_wp2
  go_ret
  exact ⟨rfl, rfl⟩
/-- the scaler of one tenth -/
def Pre (w : World) (P : Nat) : Prop := w.heap[P]? = some (.cells #[.int .u64 12800000000000000000, .int .u64 0, .int .i64 8] 255 (0, 0))
theorem Pre.c0 {w : World} {P : Nat} (h : Pre w P) : w.cell? ⟨P, 0, none⟩ = some (.int .u64 12800000000000000000) := by rw [cell_of_row _ _ _ _ _ _ h]; rfl
theorem Pre.c1 {w : World} {P : Nat} (h : Pre w P) : w.cell? ⟨P, 1, none⟩ = some (.int .u64 0) := by rw [cell_of_row _ _ _ _ _ _ h]; rfl
theorem Pre.c2 {w : World} {P : Nat} (h : Pre w P) : w.cell? ⟨P, 2, none⟩ = some (.int .i64 8) := by rw [cell_of_row _ _ _ _ _ _ h]; rfl
theorem uscale_min (P : Nat) (w : World) (H : Pre w P) : Calls Tryz.prog 222 #[.int .u64 14757395258967641088, .pointer (some ⟨P, 0, none⟩)] w fun e w' => e = .returned (.int .u64 39999999999999999) ∧ w' = w := by
  have c0 := H.c0
  have c2 := H.c2
  have CM := Lib.hid (fun w => Tryz.bits_Mul64 14757395258967641088 12800000000000000000 (by decide) (by decide) w)
  rw [show (14757395258967641088 * 12800000000000000000 / 18446744073709551616 : Nat) = 10239999999999999857 by decide, show (14757395258967641088 * 12800000000000000000 % 18446744073709551616 : Nat) = 16444402540465881088 by decide] at CM
  have hb8 : bits .and .i64 8 63 = 8 := by decide +kernel
  have hor : bits .or .u64 39999999999999999 1 = 39999999999999999 := by decide +kernel
  clear H
  go_enter Tryz.func222, Tryz.ntmps222
  go_wp2_with fail
  refine (CM.out _).mono ?_
  rintro e w1 ⟨rfl, rfl⟩
  go_wp2
  go_ret
  exact ⟨rfl, rfl⟩
theorem uscale_max (P : Nat) (w : World) (H : Pre w P) : Calls Tryz.prog 222 #[.int .u64 14757395258967643136, .pointer (some ⟨P, 0, none⟩)] w fun e w' => e = .returned (.int .u64 40000000000000005) ∧ w' = w := by
  have c0 := H.c0
  have c2 := H.c2
  have CM := Lib.hid (fun w => Tryz.bits_Mul64 14757395258967643136 12800000000000000000 (by decide) (by decide) w)
  rw [show (14757395258967643136 * 12800000000000000000 / 18446744073709551616 : Nat) = 10240000000000001278 by decide, show (14757395258967643136 * 12800000000000000000 % 18446744073709551616 : Nat) = 18021073799193034752 by decide] at CM
  have hb8 : bits .and .i64 8 63 = 8 := by decide +kernel
  have hor : bits .or .u64 40000000000000004 1 = 40000000000000005 := by decide +kernel
  clear H
  go_enter Tryz.func222, Tryz.ntmps222
  go_wp2_with fail
  refine (CM.out _).mono ?_
  rintro e w1 ⟨rfl, rfl⟩
  go_wp2
  go_ret
  exact ⟨rfl, rfl⟩
theorem prescale_17 (P : Nat) (w : World) (x : Value) (hP : w.heap[P]? = some (.cells #[.int .u64 0, .int .u64 0, .int .i64 0] 255 (0, 0))) (h1 : w.cell? ⟨11, 730, none⟩ = some (.int .u64 12800000000000000000)) (h2 : w.cell? ⟨11, 731, none⟩ = some (.int .u64 0)) (hne : P ≠ 11) :
    Calls Tryz.prog 220 #[.pointer (some ⟨P, 0, none⟩), .int .i64 (-67), .int .i64 17, .int .i64 56] w fun e w' => e = .returned (.tuple #[]) ∧ Only [P] w w' ∧ Pre w' P := by
  have f0 : w.frozen? ⟨P, 0, none⟩ = false := frozen_of_row _ _ _ _ _ hP
  have f1 : w.frozen? ⟨P, 1, none⟩ = false := frozen_of_row _ _ _ _ _ hP
  have f2 : w.frozen? ⟨P, 2, none⟩ = false := frozen_of_row _ _ _ _ _ hP
  have c0 : w.cell? ⟨P, 0, none⟩ = some (.int .u64 0) := by rw [cell_of_row _ _ _ _ _ _ hP]; rfl
  have c1 : w.cell? ⟨P, 1, none⟩ = some (.int .u64 0) := by rw [cell_of_row _ _ _ _ _ _ hP]; rfl
  have c2 : w.cell? ⟨P, 2, none⟩ = some (.int .i64 0) := by rw [cell_of_row _ _ _ _ _ _ hP]; rfl
  have hlt : P < w.heap.size := (Array.getElem?_eq_some_iff.1 hP).1
  have HP := Lib.hid hP
  clear hP
  go_enter Tryz.func220, Tryz.ntmps220
  go_wp2
  go_returns
  have k0 := heap_setCell_same _ _ 0 _ _ (.int .u64 12800000000000000000) HP.out
  have k1 := heap_setCell_same _ _ 1 _ _ (.int .u64 0) k0
  have k2 := heap_setCell_same _ _ 2 _ _ (.int .i64 8) k1
  exact ⟨rfl, (((Only.refl [P] w).setCell (.inl (by simp)) _).setCell (.inl (by simp)) _).setCell (.inl (by simp)) _, k2⟩
end Go.Proofs.YthhlhiighgnkmaaGreatDoor
