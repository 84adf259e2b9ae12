/-
  WALKS of the book: the look at no flags at all, and one row more.
-/
import Derived.Test.YtimmlnfoabbbjaaBookC
namespace Go.Proofs.Ytimmlnfoabbbjaa
open Go.RowKit
theorem info191 : (Try.prog.info? 191).map (fun i => (i.zero, i.size, i.bytes)) = some (some (.slice none 0 0), 1, 24) := by kernel_rfl
set_option maxRecDepth 100000 in
set_option maxHeartbeats 1000000 in
theorem own68 (w : World) : Calls Try.prog 68 #[.slice none 0 0] w fun e w' => e = .returned (.bool true) ∧ Below w.heap.size w w' := by
  obtain ⟨i0, hi, hz0, hz1, hz2⟩ := info_parts info191
  go_enter Try.func68, Try.ntmps68
  go_wp2_with (at_make; refine wpList_make_own _ rfl _ _ 60 rfl w.heap.size 191 i0 (.slice none 0 0) 1 Try.underlying60 hi hz0 hz1 .i64 .i64 _ 0 rfl rfl (by rfl) (by omega) (by unfold maxLen; omega) (Nat.le_refl _) ?_; intro w1 hown1 hgr1)
  have HB := Lib.hid ((Below.refl _ w).grown hgr1 (Nat.le_refl _) (fun k hk => by cases hk))
  clear hown1 hgr1
  go_loop [4] (fun i => i = .int .i64 0) (fun _ => 0)
  case atStart => rfl
  case round =>
    obtain rfl := hrel
    go_wp2
    go_ret
    exact ⟨rfl, HB.out⟩
/-- the book's cells: the rows of bytes, and nothing else -/
def bk (v : Value) : Array Value := (v :: List.replicate 31 (.slice none 0 0)).toArray
theorem bk_first (v : Value) : (bk v)[0]? = some v := rfl
theorem bk_rest (v : Value) (k : Nat) (h : k < 31) : (bk v)[k + 1]? = some (.slice none 0 0) := by
  unfold bk
  rw [List.getElem?_toArray, List.getElem?_cons_succ, List.getElem?_replicate, if_pos h]
/-- the book at pb has these rows; h is where they lie -/
def BookAt (w : World) (pb h n : Nat) (X : Nat → Value) : Prop :=
  ∃ v, w.heap[pb]? = some (.cells (bk v) 64 (0, 0)) ∧ w.ownsRow 0 27 1 v n ((List.range n).map X) ∧ h = v.ownBlock.getD pb ∧ v.ownBlock ≠ some pb
theorem BookAt.lt {w : World} {pb h n : Nat} {X : Nat → Value} (H : BookAt w pb h n X) : pb < w.heap.size ∧ h < w.heap.size := by
  obtain ⟨v, h1, h2, rfl, _⟩ := H
  have hp := (Array.getElem?_eq_some_iff.1 h1).1
  refine ⟨hp, ?_⟩
  cases e : v.ownBlock with
  | none => exact hp
  | some g => exact (h2.lt g e).2
theorem BookAt.only {w w' : World} {pb h n : Nat} {X : Nat → Value} (H : BookAt w pb h n X) {S : List Nat} (ho : Only S w w') (hp : pb ∉ S) (hh : h ∉ S) : BookAt w' pb h n X := by
  obtain ⟨v, h1, h2, rfl, h4⟩ := H
  refine ⟨v, (ho.block pb (Array.getElem?_eq_some_iff.1 h1).1 hp).trans h1, owns_only h2 ho (fun g hg => ?_), rfl, h4⟩
  rw [hg] at hh
  exact hh
theorem BookAt.below {w w' : World} {pb h n : Nat} {X : Nat → Value} (H : BookAt w pb h n X) (hb : Below w.heap.size w w') : BookAt w' pb h n X := H.only (Only.of_below hb []) (by simp) (by simp)
/-- behind a row more -/
def BookPost (w : World) (pb h n : Nat) (X : Nat → Value) (w' : World) : Prop := ∃ h', BookAt w' pb h' n X ∧ (h' = h ∨ w.heap.size ≤ h') ∧ Only [pb, h] w w'
theorem BookAt.congr {w : World} {pb h n : Nat} {X Y : Nat → Value} (H : BookAt w pb h n X) (he : ∀ j, j < n → Y j = X j) : BookAt w pb h n Y := by
  obtain ⟨v, h1, h2, h3, h4⟩ := H
  refine ⟨v, h1, ?_, h3, h4⟩
  have : (List.range n).map Y = (List.range n).map X := List.map_congr_left fun j hj => he j (List.mem_range.1 hj)
  rw [this]; exact h2
set_option maxRecDepth 100000 in
set_option maxHeartbeats 1000000 in
theorem bookbytes_any (pb h n m cap : Nat) (a : Option Addr) (X : Nat → Value) (hX : X n = .slice a m cap) (w : World) (H : BookAt w pb h n X) (hn : n ≤ 1000) :
    Calls Try.prog 12 #[.pointer (some ⟨pb, 0, none⟩), .slice a m cap] w fun e w' => e = .returned (.tuple #[]) ∧ BookPost w pb h (n + 1) X w' := by
  obtain ⟨i0, hi, hz0, hz1, hz2⟩ := info_parts info27
  obtain ⟨v, h1, h2, rfl, h4⟩ := H
  have hvs : ∃ av cv, v = .slice av n cv := by
    rcases h2.2 with ⟨hv, h0⟩ | ⟨g, c2, _, hv, _⟩
    · exact ⟨none, 0, by rw [hv, h0]⟩
    · exact ⟨_, _, hv⟩
  obtain ⟨av, cv, rfl⟩ := hvs
  have c0 : w.cell? ⟨pb, 0, none⟩ = some (.slice av n cv) := by rw [cell_of_row _ _ _ _ _ _ h1]; rfl
  have f0 : w.frozen? ⟨pb, 0, none⟩ = false := frozen_of_row _ _ _ _ _ h1
  have hpl := (Array.getElem?_eq_some_iff.1 h1).1
  have H1 := Lib.hid h1
  have H2 := Lib.hid h2
  have H4 := Lib.hid h4
  have HX := Lib.hid hX
  clear h1 h2 h4 hX
  go_enter Try.func12, Try.ntmps12
  go_wp2_with (at_builtin; refine wpList_append_place _ rfl (.tmp 8) (.tmp 10) 31 rfl 27 i0 (.slice none 0 0) 1 24 Try.underlying31 hi hz0 hz1 hz2 rfl (by decide) (.slice av n cv) n ((List.range n).map X) rfl (H2.out.alloc _) ⟨w.heap.size, 0, none⟩ 1 1 [Value.slice a m cap] rfl rfl (one_any w _ 27) (by simp [Value.oneCell']) (by unfold maxLen; omega) (by omega) ?_)
  intro v2 w2 hown2 hgr2 hpl2
  have hvs2 : ∃ a2 c3, v2 = .slice a2 (n + 1) c3 := by
    rcases hown2.2 with ⟨_, h0⟩ | ⟨g, c4, _, hv, _⟩
    · omega
    · exact ⟨_, _, hv⟩
  obtain ⟨a2, c3, rfl⟩ := hvs2
  have hne : some pb ≠ (Value.slice av n cv).ownBlock := fun e => H4.out e.symm
  have hb2 : w2.heap[pb]? = some (.cells (bk (.slice av n cv)) 64 (0, 0)) := (hgr2.block pb (by simp; omega) hne).trans ((Below.heap_alloc w _ pb hpl).trans H1.out)
  have c2 : w2.cell? ⟨pb, 0, none⟩ = some (.slice av n cv) := by rw [cell_of_row _ _ _ _ _ _ hb2]; rfl
  have f2 : w2.frozen? ⟨pb, 0, none⟩ = false := frozen_of_row _ _ _ _ _ hb2
  have hnb : (Value.slice a2 (n + 1) c3).ownBlock ≠ some pb := by
    rcases hpl2 with e | ⟨g, e, hg⟩
    · rw [e]; exact H4.out
    · rw [e]; simp at hg ⊢; omega
  have hsome : ∃ g, (Value.slice a2 (n + 1) c3).ownBlock = some g ∧ (g = (Value.slice av n cv).ownBlock.getD pb ∨ w.heap.size ≤ g) := by
    rcases hown2.2 with ⟨_, h0⟩ | ⟨g, _, _, hv, _⟩
    · omega
    · refine ⟨g, by rw [hv]; rfl, ?_⟩
      rcases hpl2 with e | ⟨g', e, hg⟩
      · left; rw [← e, hv]; rfl
      · right; rw [hv] at e; simp [Value.ownBlock] at e; omega
  have ho2 : Only [pb, (Value.slice av n cv).ownBlock.getD pb] w w2 := ((Only.refl _ w).alloc _).grown hgr2 (fun k hk => .inl (by simp [hk]))
  have HN := Lib.hid (show BookPost w pb ((Value.slice av n cv).ownBlock.getD pb) (n + 1) X (w2.setCell ⟨pb, 0, none⟩ (.slice a2 (n + 1) c3)) from by
    obtain ⟨g, hg1, hg2⟩ := hsome
    refine ⟨g, ⟨_, ?_, ?_, by rw [hg1]; rfl, hnb⟩, hg2, ho2.setCell (p := ⟨pb, 0, none⟩) (.inl (by simp)) _⟩
    · rw [heap_setCell_same _ _ _ _ _ _ hb2]; rfl
    · have e : (List.range (n + 1)).map X = (List.range n).map X ++ [Value.slice a m cap] := by rw [List.range_succ, List.map_append, List.map_singleton, HX.out]
      rw [e]
      exact owns_only hown2 ((Only.refl [pb] _).setCell (p := ⟨pb, 0, none⟩) (.inl (by simp)) _) (fun g' hg' hm => by
        simp at hm; subst hm; exact hnb hg'))
  clear hown2 hgr2 hpl2 hb2 hsome ho2
  go_wp2
  go_end0
  exact ⟨rfl, HN.out⟩
end Go.Proofs.Ytimmlnfoabbbjaa
