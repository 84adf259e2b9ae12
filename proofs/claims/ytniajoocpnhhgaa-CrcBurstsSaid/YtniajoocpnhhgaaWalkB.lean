/-
  WALKS of the table of half bytes.
-/
import Derived.Test.YtniajoocpnhhgaaWalkA
import Derived.Deep.LoopGhost
import Derived.Laws.Rows
import Derived.Laws.CopyOwn
namespace Go.Proofs.Ytniajoocpnhhgaa
open Go.RowKit
/-- the table, its first k filled in -/
def Tb (k : Nat) : Array Value := ((List.range 16).map fun j => Value.int .u32 ((if j < k then Crc.It 4 j else 0 : Nat) : Int)).toArray
theorem Tb_size (k : Nat) : (Tb k).size = 16 := by simp [Tb]
theorem Tb_get (k j : Nat) (h : j < 16) : (Tb k)[j]? = some (Value.int .u32 ((if j < k then Crc.It 4 j else 0 : Nat) : Int)) := by
  unfold Tb; rw [List.getElem?_toArray, List.getElem?_map, List.getElem?_range h]; rfl
theorem Tb_set (k : Nat) (h : k < 16) : (Tb k).setIfInBounds k (Value.int .u32 (Crc.It 4 k : Nat)) = Tb (k + 1) := by
  apply Array.ext_getElem?
  intro j
  rw [Array.getElem?_setIfInBounds]
  by_cases hj : j < 16
  · rw [Tb_get (k + 1) j hj]
    by_cases e : k = j
    · subst e; rw [if_pos rfl, if_pos (by rw [Tb_size]; exact h), if_pos (by omega)]
    · rw [if_neg e, Tb_get k j hj]
      by_cases l : j < k
      · rw [if_pos l, if_pos (by omega)]
      · rw [if_neg l, if_neg (by omega)]
  · have h1 : (Tb k)[j]? = none := Array.getElem?_eq_none (by rw [Tb_size]; omega)
    have h2 : (Tb (k + 1))[j]? = none := Array.getElem?_eq_none (by rw [Tb_size]; omega)
    rw [if_neg (by omega), h1, h2]
theorem Tb_zero : Tb 0 = #[Value.int .u32 0, .int .u32 0, .int .u32 0, .int .u32 0, .int .u32 0, .int .u32 0, .int .u32 0, .int .u32 0, .int .u32 0, .int .u32 0, .int .u32 0, .int .u32 0, .int .u32 0, .int .u32 0, .int .u32 0, .int .u32 0] := rfl
theorem Tb_one (k : Nat) : (Tb k).all (·.oneCell') = true := by
  rw [Array.all_eq_true_iff_forall_mem]
  intro v hv
  simp [Tb] at hv
  obtain ⟨a, _, rfl⟩ := hv
  rfl
/-- the world in which the first k are filled in -/
def TabAt (w wr : World) (k : Nat) : Prop :=
  wr.heap[w.heap.size + 1]? = some (.cells (Tb k) 34 (0, 0)) ∧ wr.heap[w.heap.size]? = some (.cells (Tb 0) 34 (0, 0)) ∧ Below w.heap.size w wr
theorem tabAt_start (w : World) : TabAt w ((w.alloc (.cells (Tb 0) 34)).alloc (.cells (Tb 0) 34)) 0 :=
  ⟨heap_alloc2_new _ _ _, heap_alloc2_old _ _ _, ((Below.refl _ _).alloc (Nat.le_refl _) _).alloc (by simp) _⟩
theorem tabAt_step {w wr : World} {k : Nat} (hk : k < 16) (h : TabAt w wr k) : TabAt w (wr.setCell ⟨w.heap.size + 1, k, none⟩ (.int .u32 (Crc.It 4 k : Nat))) (k + 1) := by
  obtain ⟨h1, h2, h3⟩ := h
  refine ⟨?_, ?_, h3.setCell (by simp) _⟩
  · rw [heap_setCell_same _ _ _ _ _ _ h1, Tb_set k hk]
  · rw [heap_setCell_other _ _ _ _ (by simp)]; exact h2
theorem tabAt_cell {w wr : World} {k : Nat} (hk : k < 16) (h : TabAt w wr k) : wr.cell? ⟨w.heap.size + 1, k, none⟩ = some (.int .u32 0) := by
  rw [cell_of_row wr _ _ _ _ _ h.1, Tb_get k k hk, if_neg (by omega)]; rfl
theorem tabAt_frozen {w wr : World} {k : Nat} (h : TabAt w wr k) : wr.frozen? ⟨w.heap.size + 1, k, none⟩ = false := frozen_of_row wr _ _ _ _ h.1
set_option maxHeartbeats 400000 in
theorem table_any (w : World) :
    Calls Try.prog 14 #[] w fun e w' => e = .returned (.agg (Tb 16)) ∧ Below w.heap.size w w' := by
  have h0 := Lib.hid (tabAt_start w)
  rw [Tb_zero] at h0
  go_enter Try.func14, Try.ntmps14
  go_wp2
  go_loopw [4] (fun i wr => ∃ k : Nat, k ≤ 16 ∧ i = .int .i64 k ∧ Hid (TabAt w wr k)) (fun i _ => 16 - (intOf i).toNat)
  case atStart => exact ⟨0, Nat.zero_le _, rfl, h0⟩
  case round =>
    obtain ⟨k, hk, rfl, HT⟩ := hrel
    by_cases hlt : k < 16
    · have hd : decide ((k : Int) < 16) = true := by simp; omega
      go_wp2
      go_loop [3, 9] (fun r i => ∃ m : Nat, m ≤ 4 ∧ i = .int .i64 m ∧ r = .int .u32 (Crc.It m k : Nat)) (fun _ i => 4 - (intOf i).toNat)
      case atStart => exact ⟨0, Nat.zero_le _, rfl, rfl⟩
      case round =>
        obtain ⟨m, hm, rfl, rfl⟩ := hrel
        have hb := Crc.It_lt m k (by omega)
        by_cases hl2 : m < 4
        · have HS := Lib.hid (Crc.It_succ m k)
          go_wp2_with (go_at_call 17; refine (step_any _ hb _).mono ?_; rintro e w' ⟨rfl, rfl⟩)
          go_round
          case rel => exact ⟨m + 1, by omega, by go_num, by rw [HS.out]⟩
          case measure => simp [intOf]; omega
        · obtain rfl : m = 4 := by omega
          have hc := tabAt_cell hlt HT.out
          have hf := tabAt_frozen HT.out
          go_wp2
          go_roundw
          case rel => exact ⟨k + 1, by omega, by go_num, tabAt_step hlt HT.out⟩
          case measure => simp [intOf]; omega
    · obtain rfl : k = 16 := by omega
      obtain ⟨h1, h2, h3⟩ := HT.out
      clear HT hlt hk
      have hn := setRow_heap wr w.heap.size (Tb 0) (Tb 16) 34 (0, 0) h2
      have hz : (Tb 0).size = (Tb 16).size := by rw [Tb_size, Tb_size]
      have HZ := Lib.hid hz
      clear hz
      go_wp2_with (first | (refine wpList_load_row rfl 34 (.tmp 1) rfl (w.heap.size + 1) rfl 34 (Tb 16) (0, 0) _ h1 Try.underlying34 rfl (by kernel_rfl) ?_) | (refine wpList_store_row rfl 34 (.tmp 0) (.tmp 18) rfl w.heap.size (Tb 16) rfl rfl 34 (Tb 0) h2 (by kernel_rfl) HZ.out (Tb_one 16) ?_))
      exact bodyPost_ret (results_cell_row rfl _ _ w.heap.size 34 (Tb 16) (0, 0) _ rfl hn Try.underlying34 rfl (by kernel_rfl)) rfl ⟨rfl, below_setRow h3 (Nat.le_refl _) _⟩
end Go.Proofs.Ytniajoocpnhhgaa
