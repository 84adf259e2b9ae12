/-
  WALKS: what is collected from the iterator: a list of its own.
-/
import Derived.Test.YtiolghcjndoigaaGreatDoorItr
namespace Go.Proofs.YtiolghcjndoigaaGreatDoor
set_option linter.unusedVariables false
set_option linter.unusedSimpArgs false
open Go.RowKit Go.PlainAid Go.Shelf
attribute [local go_sem] Oper.semAt_some
theorem info94 : (Tryz.prog.info? 94).map (fun i => (i.zero, i.size, i.bytes)) = some (some (.agg #[.string ⟨#[]⟩, .string ⟨#[]⟩]), 2, 32) := by kernel_rfl
/-- a list of labels of the call's own -/
def OwnL (w : World) (base : Nat) (v : Value) (l : List Lm.Lb) : Prop := w.ownsRow base 94 2 v l.length (l.flatMap enc2)
theorem two_new (w : World) (x : Lm.Lb) : ∀ j u, (enc2 x)[j]? = some u → (w.alloc (.cells #[.string x.1, .string x.2] 94)).cell? ((⟨w.heap.size, 0, none⟩ : Addr).add j) = some u := by
  intro j u hj
  rw [add_here, cell_of_row _ _ _ _ _ _ (heap_alloc_new w _), List.getElem?_toArray]
  exact hj
def colTmps (sv : Value) (B Bx : Nat) (x : Lm.Lb) : Array Value := #[.slice none 0 0, sv, .pointer (some ⟨B, 0, none⟩), undef, .slice none 0 0, .pointer (some ⟨Bx, 0, none⟩), sv, .agg #[.string x.1, .string x.2], undef, undef, undef, undef, undef]
set_option maxRecDepth 100000 in
set_option maxHeartbeats 4000000 in
theorem appendSeq_in (F : Fence) (n : Nat) (h11 : F.fn 139) (h7 : F.fn 129) (hro : F.round = none) (hn : 4 ≤ n) (lb : Array Value) (zs : List Lm.Lb) (Sp : List Lm.Lb → Prop) (w : World) (hz : zs.length * 32 ≤ 140737488355328)
    (hseq : SeqStopsK F (n - 1) Tryz.prog 129 lb encs1 (Below w.heap.size) (fun ys => ys = zs) Sp zs.length w) :
    CallsIn F n Tryz.prog 139 #[.slice none 0 0, .func (.func 129) #[] lb] w fun e w' => ∃ v, e = .returned v ∧ OwnL w' w.heap.size v zs ∧ (v = .slice none 0 0 ↔ zs = []) ∧ Below w.heap.size w w' := by
  have h1 : 1 ≤ n := by omega
  obtain ⟨i0, hi, hz0, hz1, hz2⟩ := info_parts info94
  refine callsIn_of_wp_marks Tryz.func139 rfl h11 ?_ hro
  simp only [Tryz.ntmps139, List.size_toArray, List.length_cons, List.length_nil, Nat.reduceAdd, Nat.reduceSub, Array.replicate_succ, Array.replicate_zero, List.push_toArray, List.append_toArray, List.nil_append, List.cons_append]
  gi_wp2
  have bB := Boxed.new w 22 (.slice none 0 0)
  have hB0 : Below w.heap.size w (w.alloc (.cells #[.slice none 0 0] 22)) := (Below.refl _ w).alloc (Nat.le_refl _) _
  have hsz : (w.alloc (.cells #[.slice none 0 0] 22)).heap.size = w.heap.size + 1 := by simp
  obtain ⟨W0, hW0⟩ : ∃ W0, w.alloc (.cells #[.slice none 0 0] 22) = W0 := ⟨_, rfl⟩
  rw [hW0] at bB hB0 hsz ⊢
  clear hW0
  have hI : OwnFrom W0.heap.size (fun (pre : List Lm.Lb) W => (∃ v, Boxed W w.heap.size 22 v ∧ W.ownsRow w.heap.size 94 2 v pre.length (pre.flatMap enc2) ∧ (v = .slice none 0 0 ↔ pre = [])) ∧ Below w.heap.size w W) :=
    OwnFrom.and (Own.from (holdsRow_own w.heap.size w.heap.size 22 94 2 List.length (fun pre => pre.flatMap enc2) (fun pre v => v = .slice none 0 0 ↔ pre = [])) _) (ownFrom_below (Nat.le_refl _) (by omega))
  refine wpIn_rangeFunc_ownH hro h1 (gf := 129) (lb := lb) rfl h7 (enters_of Tryz.func129 (by kernel_rfl) rfl) hseq belowK_t (belowK_b (by omega)) hB0 (fun _ => rfl)
    (fun pre W => (∃ v, Boxed W w.heap.size 22 v ∧ W.ownsRow w.heap.size 94 2 v pre.length (pre.flatMap enc2) ∧ (v = .slice none 0 0 ↔ pre = [])) ∧ Below w.heap.size w W)
    (fun _ _ _ => False) hI (fun c s W W' row h _ _ => h) ?start
    (fun x a' W => ∃ Bx, w.heap.size < Bx ∧ W.heap[Bx]? = some (.cells #[.string x.1, .string x.2] 94 (0, 0)) ∧ a' = { tmps := colTmps (.func (.func 129) #[] lb) w.heap.size Bx x, defers := [] }) ?ax ?assign ?body ?done ?stop
  case start => exact ⟨⟨_, bB, World.ownsRow_nil _ _ _ _, by simp⟩, hB0⟩
  case ax =>
    rintro x a' _ W W' row ⟨Bx, h0, h1, h2⟩ hg hr
    exact ⟨Bx, h0, (hg.block Bx (Array.getElem?_eq_some_iff.1 h1).1 (fun e => by
      obtain ⟨_, o, ho, hc⟩ := hr Bx e.symm
      rw [h1] at ho; cases ho; cases hc)).trans h1, h2⟩
  case assign =>
    rintro l pre x W K hi2 hK
    have hs : w.heap.size < W.heap.size := by
      obtain ⟨⟨v, hv, _⟩, hB⟩ := hi2
      exact hv.lt
    unfold encs1
    gi_wp2
    exact hK _ _ ((KeepsOthers.alloc _ _).from _) ((Below.refl _ W).alloc (by omega) _) (hI.alloc _ hi2) ⟨W.heap.size, hs, heap_alloc_new W _, rfl⟩
  case body =>
    rintro l pre x a' W hl ⟨r, hr⟩ ⟨⟨v, hv, hrow, hnil⟩, hB⟩ ⟨Bx, hBx, bX, rfl⟩ hlt
    have hc0 := hv.cell
    have hf0 := hv.frozen
    have x1 : W.cell? ⟨Bx, 0, none⟩ = some (.string x.1) := by rw [cell_of_row _ _ _ _ _ _ bX]; rfl
    have x2 : W.cell? ⟨Bx, 1, none⟩ = some (.string x.2) := by rw [cell_of_row _ _ _ _ _ _ bX]; rfl
    have hle : w.heap.size ≤ w.heap.size := Nat.le_refl _
    have hBs := hB.size
    have hmx : maxLen = 9223372036854775807 := rfl
    unfold colTmps
    gi_wp2_with (gi_at_builtin; refine wpListIn_append_own _ rfl _ _ 22 rfl w.heap.size 94 i0 (.agg #[.string ⟨#[]⟩, .string ⟨#[]⟩]) 2 32 Tryz.underlying22 hi hz0 hz1 hz2 rfl (by decide) _ _ _ rfl (hrow.alloc _) ⟨W.heap.size, 0, none⟩ 1 1 (enc2 x) rfl rfl (two_new _ _) (by simp [Value.oneCell', enc2]) (by omega) (by omega) (by simp; omega) ?_; intro v' w1 hown' hgrow _; obtain ⟨g', cap', rfl⟩ := ownsRow_succ hown'; obtain ⟨hv1, hv2, hr2, hk2, hb2⟩ := hv.appended (by decide) hrow hB.size hle hown' hgrow; have hc1 := hv1.cell; have hf1 := hv1.frozen)
    exact ⟨hk2.from _, hb2, ⟨⟨_, hv2, by simpa using hr2, by simp⟩, hB.trans hb2⟩⟩
  case done =>
    rintro D ys W hD rfl ⟨⟨v, hv, hrow, hnil⟩, hB⟩ hK
    have hc0 := hv.cell
    gi_wp2
    refine ⟨by simp, .inl ⟨_, _, rfl, run_takeDeferred hK, ?_⟩⟩
    exact ⟨_, results_tmp rfl _ _ _, v, rfl, ownsRow_putObj hrow _ hK rfl, hnil, hB.trans (belowK_b (w := w) (Nat.le_refl _) W D _ _ (by omega) hK rfl rfl)⟩
  case stop =>
    rintro D c pre W hD _ h _
    exact h.elim
end Go.Proofs.YtiolghcjndoigaaGreatDoor
