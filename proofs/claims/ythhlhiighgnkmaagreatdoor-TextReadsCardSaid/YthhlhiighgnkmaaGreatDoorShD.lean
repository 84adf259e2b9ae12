/-
  WALKS: one tenth is shown: its digits as text.
-/
import Derived.Test.YthhlhiighgnkmaaGreatDoorShC
namespace Go.Proofs.YthhlhiighgnkmaaGreatDoor
set_option linter.unusedVariables false
set_option linter.unusedSimpArgs false
open Go.RowKit Go.PlainAid
theorem app_next {w wr : World} {w2 : World} {base : Nat} {o v2 : Value} {ds es : List Nat} {n : Nat} {x : Obj} (h : w2.ownsRow base 5 1 v2 n (cellsOf ds ++ cellsOf es)) (hn : n = ds.length + es.length) (hO : ∀ k, o.ownBlock = some k → base ≤ k) (hg : (wr.alloc x).grownBy w2 o.ownBlock) (hB : Hid (Below base w wr)) (hs : Hid (base ≤ wr.heap.size)) (h0 : Hid (base ≤ w.heap.size)) :
    ∃ a c, v2 = .slice a n c ∧ Hid (Own w2 base v2 (ds ++ es)) ∧ Hid (Below base w w2) ∧ Hid (base ≤ w2.heap.size) ∧ Hid (∀ y, (w2.alloc y).ownsRow base 5 1 v2 n (cellsOf (ds ++ es))) := by
  obtain ⟨g1, g2⟩ := own_grow h hn hO hg (hB.out.alloc hs.out _) (by have := hs.out; simp; omega)
  obtain ⟨a, c, hv⟩ := own_shape g1
  refine ⟨a, c, by rw [hv, List.length_append, hn], Lib.hid g1, Lib.hid g2, Lib.hid (Nat.le_trans h0.out g2.size), Lib.hid (fun y => ?_)⟩
  have h := g1.below ((Below.refl w2.heap.size w2).alloc (Nat.le_refl _) y)
  unfold Own at h
  rw [List.length_append, ← hn] at h
  exact h
set_option maxRecDepth 100000 in
set_option maxHeartbeats 2000000 in
theorem fmt_tenth (base b : Nat) (w : World) (v : Value) (hO : Own w base v []) (hbase : base ≤ w.heap.size) (hc : w.cell? ⟨b, 0, none⟩ = some (.int .u8 49)) :
    Calls Tryz.prog 197 #[v, .bool false, .slice (some ⟨b, 0, none⟩) 32 32, .int .i64 0, .int .i64 1, .int .i64 0, .int .u8 101, .bool true] w fun e w' => ∃ v', e = .returned v' ∧ Own w' base v' [49, 101, 45, 48, 49] ∧ Below base w w' := by
  obtain ⟨i0, hi, hz0, hz1, hz2⟩ := info_parts info5
  obtain ⟨a0, c0, rfl⟩ := own_shape hO
  have HO0 := Lib.hid hO
  have HB0 := Lib.hid (Below.refl base w)
  have HW0 := Lib.hid hbase
  have HOA0 : Hid (∀ o, (w.alloc o).ownsRow base 5 1 (.slice a0 0 c0) 0 (cellsOf [])) := Lib.hid (fun o => HO0.out.below ((Below.refl _ _).alloc (Nat.le_refl _) o))
  clear hO hbase
  rw [show ([] : List Nat).length = 0 from rfl]
  go_enter Tryz.func197, Tryz.ntmps197
  go_wp2_with (at_builtin; first
    | (refine wpList_append_own _ rfl (.tmp 87) (.tmp 89) 87 rfl base 5 i0 (.int .u8 0) 1 1 Tryz.underlying87 hi hz0 hz1 hz2 rfl (by decide) (.slice a0 0 c0) 0 (cellsOf []) rfl (HOA0.out _) ⟨w.heap.size, 0, none⟩ 1 1 (cellsOf [49]) rfl rfl (alloc_row _ [49]) (cellsOf_one _) (by unfold maxLen; omega) (by omega) (by have := HW0.out; simp; omega) ?_; intro v1 w1 hown2 hgr2 hne2; obtain ⟨a1, c1, rfl, HO1, HB1, HW1, HOA1⟩ := app_next (ds := []) (es := [49]) hown2 rfl (own_block HO0.out) hgr2 HB0 HW0 HW0; clear hown2 hgr2 hne2)
    | (refine wpList_append_own _ rfl (.tmp 120) (.tmp 122) 87 rfl base 5 i0 (.int .u8 0) 1 1 Tryz.underlying87 hi hz0 hz1 hz2 rfl (by decide) (.slice a1 1 c1) 1 (cellsOf [49]) rfl (HOA1.out _) ⟨w1.heap.size, 0, none⟩ 1 1 (cellsOf [101]) rfl rfl (alloc_row _ [101]) (cellsOf_one _) (by unfold maxLen; omega) (by omega) (by have := HW1.out; simp; omega) ?_; intro v2 w2 hown2 hgr2 hne2; obtain ⟨a2, c2, rfl, HO2, HB2, HW2, HOA2⟩ := app_next (ds := [49]) (es := [101]) hown2 rfl (own_block HO1.out) hgr2 HB1 HW1 HW0; clear hown2 hgr2 hne2)
    | (refine wpList_append_own _ rfl (.tmp 132) (.tmp 134) 87 rfl base 5 i0 (.int .u8 0) 1 1 Tryz.underlying87 hi hz0 hz1 hz2 rfl (by decide) (.slice a2 2 c2) 2 (cellsOf [49, 101]) rfl (HOA2.out _) ⟨w2.heap.size, 0, none⟩ 1 1 (cellsOf [45]) rfl rfl (alloc_row _ [45]) (cellsOf_one _) (by unfold maxLen; omega) (by omega) (by have := HW2.out; simp; omega) ?_; intro v3 w3 hown2 hgr2 hne2; obtain ⟨a3, c3, rfl, HO3, HB3, HW3, HOA3⟩ := app_next (ds := [49, 101]) (es := [45]) hown2 rfl (own_block HO2.out) hgr2 HB2 HW2 HW0; clear hown2 hgr2 hne2)
    | (refine wpList_append_own _ rfl (.tmp 155) (.tmp 159) 87 rfl base 5 i0 (.int .u8 0) 1 1 Tryz.underlying87 hi hz0 hz1 hz2 rfl (by decide) (.slice a3 3 c3) 3 (cellsOf [49, 101, 45]) rfl (HOA3.out _) ⟨w3.heap.size, 0, none⟩ 2 2 (cellsOf [48, 49]) rfl rfl (alloc_row _ [48, 49]) (cellsOf_one _) (by unfold maxLen; omega) (by omega) (by have := HW3.out; simp; omega) ?_; intro v4 w4 hown2 hgr2 hne2; obtain ⟨a4, c4, rfl, HO4, HB4, HW4, HOA4⟩ := app_next (ds := [49, 101, 45]) (es := [48, 49]) hown2 rfl (own_block HO3.out) hgr2 HB3 HW3 HW0; clear hown2 hgr2 hne2))
  go_returns
  exact ⟨_, rfl, HO4.out, HB4.out⟩
end Go.Proofs.YthhlhiighgnkmaaGreatDoor
