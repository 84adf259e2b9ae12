/-
  WALKS of the book: a mark.
-/
import Derived.Test.YtiolghcjndoigaaGreatDoorCut
namespace Go.Proofs.YtiolghcjndoigaaGreatDoor
set_option linter.unusedVariables false
set_option linter.unusedSimpArgs false
open Go.RowKit Go.PlainAid Go.Shelf
/-- the mark of a place -/
def markL (i k : Nat) : List Nat := [97 + i % 26, 97 + i / 26 % 26, 97 + i / 676 % 26, 97 + k % 26, 97 + k / 26 % 26]
theorem mk_rem (x : Nat) : (x : Int).tmod 26 = ((x % 26 : Nat) : Int) ∧ IntKind.i64.wrap ((x % 26 : Nat) : Int) = ((x % 26 : Nat) : Int) := ⟨by rw [Int.tmod_eq_emod_of_nonneg (by omega)]; omega, by rw [IntKind.wrap_i64]; omega⟩
set_option maxRecDepth 100000 in
set_option maxHeartbeats 1000000 in
theorem mark_pos (i k : Nat) (hi : i ≤ 1000) (hk : k ≤ 1000000) (w : World) : Calls Tryz.prog 112 #[.int .i64 ((i : Nat) : Int), .int .i64 ((k : Nat) : Int)] w (Gives w (.string (strOf (markL i k)))) := by
  have HM := Lib.hid (show markL i k = [97 + i % 26, 97 + i / 26 % 26, 97 + i / 676 % 26, 97 + k % 26, 97 + k / 26 % 26] from rfl)
  obtain ⟨L, hL⟩ : ∃ L, markL i k = L := ⟨_, rfl⟩
  rw [hL] at HM ⊢
  have d1 : decide ((i : Int) < 0) = false := decide_eq_false (by omega)
  have r1 : (i : Int).tmod 26 = (i : Int) % 26 := Int.tmod_eq_emod_of_nonneg (by omega)
  have r2 : (i : Int).tdiv 26 = (i : Int) / 26 := Int.tdiv_eq_ediv_of_nonneg (by omega)
  have r3 : ((i : Int) / 26).tmod 26 = (i : Int) / 26 % 26 := Int.tmod_eq_emod_of_nonneg (by omega)
  have r4 : (i : Int).tdiv 676 = (i : Int) / 676 := Int.tdiv_eq_ediv_of_nonneg (by omega)
  have r5 : ((i : Int) / 676).tmod 26 = (i : Int) / 676 % 26 := Int.tmod_eq_emod_of_nonneg (by omega)
  have r6 : (k : Int).tmod 26 = (k : Int) % 26 := Int.tmod_eq_emod_of_nonneg (by omega)
  have r7 : (k : Int).tdiv 26 = (k : Int) / 26 := Int.tdiv_eq_ediv_of_nonneg (by omega)
  have r8 : ((k : Int) / 26).tmod 26 = (k : Int) / 26 % 26 := Int.tmod_eq_emod_of_nonneg (by omega)
  obtain ⟨x1, hx1⟩ : ∃ x, 97 + i % 26 = x := ⟨_, rfl⟩
  obtain ⟨x2, hx2⟩ : ∃ x, 97 + i / 26 % 26 = x := ⟨_, rfl⟩
  obtain ⟨x3, hx3⟩ : ∃ x, 97 + i / 676 % 26 = x := ⟨_, rfl⟩
  obtain ⟨x4, hx4⟩ : ∃ x, 97 + k % 26 = x := ⟨_, rfl⟩
  obtain ⟨x5, hx5⟩ : ∃ x, 97 + k / 26 % 26 = x := ⟨_, rfl⟩
  have u1 : IntKind.u8.wrap (97 + (i : Int) % 26) = (x1 : Int) := by rw [IntKind.wrap_u8]; omega
  have u2 : IntKind.u8.wrap (97 + (i : Int) / 26 % 26) = (x2 : Int) := by rw [IntKind.wrap_u8]; omega
  have u3 : IntKind.u8.wrap (97 + (i : Int) / 676 % 26) = (x3 : Int) := by rw [IntKind.wrap_u8]; omega
  have u4 : IntKind.u8.wrap (97 + (k : Int) % 26) = (x4 : Int) := by rw [IntKind.wrap_u8]; omega
  have u5 : IntKind.u8.wrap (97 + (k : Int) / 26 % 26) = (x5 : Int) := by rw [IntKind.wrap_u8]; omega
  rw [hx1, hx2, hx3, hx4, hx5] at HM
  have hA : Below w.heap.size w (w.alloc (.cells (cellsOf [x1, x2, x3, x4, x5]).toArray 5)) := (Below.refl _ w).alloc (Nat.le_refl _) _
  have HA := Lib.hid hA
  have hb : Byt (w.alloc (.cells (cellsOf [x1, x2, x3, x4, x5]).toArray 5)) (some ⟨w.heap.size, 0, none⟩) [x1, x2, x3, x4, x5] := .inr ⟨w.heap.size, 0, rfl, by simp, fun j hj => by
    have := alloc_row w [x1, x2, x3, x4, x5] j _ (cellsOf_get _ j hj)
    rw [add_here] at this
    rw [Nat.zero_add]
    exact this⟩
  have hcv := conv_byt hb 5
  have hcv' : (convert 83 9 (.slice (some ⟨w.heap.size, 0, none⟩) 5 5)).run Tryz.prog (w.alloc (.cells #[.int .u8 (x1 : Int), .int .u8 (x2 : Int), .int .u8 (x3 : Int), .int .u8 (x4 : Int), .int .u8 (x5 : Int)] 5)) = .ok (.string (strOf L)) (w.alloc (.cells #[.int .u8 (x1 : Int), .int .u8 (x2 : Int), .int .u8 (x3 : Int), .int .u8 (x4 : Int), .int .u8 (x5 : Int)] 5)) := by
    rw [show strOf L = strOf [x1, x2, x3, x4, x5] by rw [HM.out]]
    exact hcv
  clear hcv hb hA hL hx1 hx2 hx3 hx4 hx5
  go_enter Tryz.func112, Tryz.ntmps112
  go_wp2
  go_ret
  exact ⟨rfl, HA.out⟩
set_option maxRecDepth 100000 in
set_option maxHeartbeats 1000000 in
theorem mark_neg (i k : Nat) (hi : i ≤ 1000) (hk : k ≤ 1000000) (w : World) : Calls Tryz.prog 112 #[.int .i64 (-1 - (i : Int)), .int .i64 ((k : Nat) : Int)] w (Gives w (.string (strOf (45 :: markL i k)))) := by
  have C := Lib.hid (mark_pos i k hi hk w)
  have HS := Lib.hid (show (⟨#[45]⟩ : ByteArray) ++ strOf (markL i k) = strOf (45 :: markL i k) from strOf_append [45] (markL i k))
  obtain ⟨S, hS⟩ : ∃ S, strOf (markL i k) = S := ⟨_, rfl⟩
  obtain ⟨T, hT⟩ : ∃ T, strOf (45 :: markL i k) = T := ⟨_, rfl⟩
  have hsz : S.size = 5 := by rw [← hS, strOf_size]; rfl
  rw [hS] at C HS
  rw [hT] at HS ⊢
  have hcat := HS.out
  obtain ⟨z, hz⟩ : ∃ z : Int, -1 - (i : Int) = z := ⟨_, rfl⟩
  rw [hz]
  have d1 : decide (z < 0) = true := decide_eq_true (by omega)
  have u1 : wrap64 (z + 1) = z + 1 := wrap64_small (by omega) (by omega)
  have u2 : wrap64 (-(z + 1)) = (i : Int) := by rw [wrap64_small (by omega) (by omega)]; omega
  have u3 : IntKind.i64.wrap (-(z + 1)) = (i : Int) := by rw [IntKind.wrap_i64]; omega
  clear hS hT hz
  go_enter Tryz.func112, Tryz.ntmps112
  go_wp2_with (go_at_call 112; refine C.out.mono ?_; rintro e w' ⟨rfl, hb⟩; have HB := Lib.hid hb; clear hb)
  go_ret
  exact ⟨rfl, HB.out⟩
end Go.Proofs.YtiolghcjndoigaaGreatDoor
