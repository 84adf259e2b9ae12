/-
  WALKS of the labels that the statements lend: they are written over.
-/
import Derived.Test.YtiolghcjndoigaaGreatDoorKno
import Derived.Deep.DeepAppendRoom
import Derived.Deep.DeepMust
import Derived.Laws.DeepNot64
import Derived.Defers
namespace Go.Proofs.YtiolghcjndoigaaGreatDoor
set_option linter.unusedVariables false
set_option linter.unusedSimpArgs false
open Go.RowKit Go.PlainAid
theorem grownL {B : Nat} {w0 w w' : World} {g : Nat} (h : Below B w0 w) (hg : w.grownBy w' (some g)) (hB : B ≤ w.heap.size) (hr : B ≤ g) : Below B w0 w' := h.grown hg hB (fun k hk => by cases hk; exact hr)
theorem grownL0 {B : Nat} {w0 w w' : World} (h : Below B w0 w) (hg : w.grownBy w' none) (hB : B ≤ w.heap.size) : Below B w0 w' := h.grown hg hB (fun k hk => by cases hk)
theorem labs_flat {w : World} {b : Nat} : ∀ (l : List Lm.Lb) (off : Nat), (∀ i (h : i < l.length), w.cell? ⟨b, off + i * 2, none⟩ = some (.string l[i].1) ∧ w.cell? ⟨b, off + i * 2 + 1, none⟩ = some (.string l[i].2)) → ∀ j u, (l.flatMap enc2)[j]? = some u → w.cell? ⟨b, off + j, none⟩ = some u
  | [], off, hc, j, u, hu => by simp at hu
  | x :: t, off, hc, j, u, hu => by
    have e : (x :: t).flatMap enc2 = .string x.1 :: .string x.2 :: t.flatMap enc2 := rfl
    rw [e] at hu
    match j, hu with
    | 0, hu =>
      have := (hc 0 (by simp)).1
      simp only [List.getElem?_cons_zero, Option.some.injEq] at hu
      rw [← hu]
      simpa using this
    | 1, hu =>
      have := (hc 0 (by simp)).2
      simp only [List.getElem?_cons_succ, List.getElem?_cons_zero, Option.some.injEq] at hu
      rw [← hu]
      simpa using this
    | j + 2, hu =>
      simp only [List.getElem?_cons_succ] at hu
      have := labs_flat t (off + 2) (fun i hi => by
        have := hc (i + 1) (by simpa using hi)
        rw [show off + (i + 1) * 2 = off + 2 + i * 2 by omega] at this
        simpa using this) j u hu
      rw [show off + (j + 2) = off + 2 + j by omega]
      exact this
theorem labs_news {w : World} {ad : Addr} {l : List Lm.Lb} (H : Labs w (some ad) l) : ∀ j u, (l.flatMap enc2)[j]? = some u → w.cell? (ad.add j) = some u := by
  intro j u hu
  by_cases hn : l = []
  · subst hn; simp at hu
  · obtain ⟨b, off, ha, hlt, hc⟩ := H hn
    cases ha
    rw [add_at]
    exact labs_flat l off hc j u hu
def markO : Lm.Lb := (⟨#[111]⟩, ⟨#[]⟩)
def markP : Lm.Lb := (⟨#[112]⟩, ⟨#[]⟩)
/-- what is lent: a block of its own, the labels and two marks behind them -/
def LentL (w : World) (g : Nat) (l : List Lm.Lb) : Prop := w.heap[g]? = some (.cells ((l ++ [markO, markP]).flatMap enc2).toArray 94 (0, 0))
def LentLPost (w : World) (l : List Lm.Lb) (e : Ending) (w' : World) : Prop :=
  ∃ g, w.heap.size ≤ g ∧ e = .returned (.slice (some ⟨g, 0, none⟩) l.length (l.length + 2)) ∧ LentL w' g l ∧ Below w.heap.size w w'
theorem lentl_of_owns {w : World} {base g n : Nat} {xs : List Value} (h : w.ownsRow base 94 2 (.slice (some ⟨g, 0, none⟩) n n) n xs) : w.heap[g]? = some (.cells xs.toArray 94 (0, 0)) := by
  obtain ⟨hl, h2⟩ := h
  rcases h2 with ⟨h0, _⟩ | ⟨g', cap, cur, hv, _, hg, _, _, hcs, ht⟩
  · cases h0
  · cases hv
    rw [hg]
    have : cur.toList = xs := by rw [← ht, List.take_of_length_le (by simp; omega)]
    rw [← this]
theorem marksl_at (W : World) : ∀ (j : Nat) (u : Value), ([markO, markP].flatMap enc2)[j]? = some u → (W.alloc (.cells #[.string ⟨#[111]⟩, .string ⟨#[]⟩, .string ⟨#[112]⟩, .string ⟨#[]⟩] 94)).cell? ((⟨W.heap.size, 0, none⟩ : Addr).add j) = some u := by
  intro j u hu
  rw [show (⟨W.heap.size, 0, none⟩ : Addr).add j = ⟨W.heap.size, j, none⟩ by unfold Addr.add; split <;> simp_all, cell_of_row _ _ _ _ _ _ (heap_alloc_new W _)]
  rw [show (#[Value.string ⟨#[111]⟩, .string ⟨#[]⟩, .string ⟨#[112]⟩, .string ⟨#[]⟩] : Array Value) = ([markO, markP].flatMap enc2).toArray from rfl, List.getElem?_toArray]
  exact hu
theorem flat2_len (l : List Lm.Lb) : (l.flatMap enc2).length = l.length * 2 := by
  induction l with
  | nil => rfl
  | cons x t ih => rw [List.flatMap_cons, List.length_append, ih, enc2_len, List.length_cons]; omega
theorem enc2_one (l : List Lm.Lb) : ∀ u ∈ l.flatMap enc2, u.oneCell' = true := by
  intro u hu
  obtain ⟨x, _, hx⟩ := List.mem_flatMap.1 hu
  simp [enc2] at hx
  rcases hx with rfl | rfl <;> rfl
set_option maxRecDepth 100000 in
set_option maxHeartbeats 1000000 in
theorem lentl_any (a : Option Addr) (l : List Lm.Lb) (cap : Nat) (w : World) (H : Labs w a l) (hc0 : a = none → cap = 0) (hsm : l.length ≤ 100000) :
    Calls Tryz.prog 10 #[.slice a l.length cap] w (LentLPost w l) := by
  obtain ⟨i0, hi, hz0, hz1, hz2⟩ := info_parts info94
  have A1 := Lib.hid H
  have HF := Lib.hid (flat2_len l)
  have HONE := Lib.hid (enc2_one l)
  clear H
  unfold LentLPost
  cases a with
  | none =>
    obtain rfl : cap = 0 := hc0 rfl
    have hbs : l = [] := by
      refine Decidable.by_contra fun hn => ?_
      obtain ⟨b, off, e, _⟩ := A1.out hn
      cases e
    subst hbs
    clear hc0 hsm
    go_enter Tryz.func10, Tryz.ntmps10
    go_wp2_with (first | (at_make; refine wpList_make_own _ rfl _ _ 22 rfl w.heap.size 94 i0 (.agg #[.string ⟨#[]⟩, .string ⟨#[]⟩]) 2 Tryz.underlying22 hi hz0 hz1 .i64 .i64 _ 2 rfl rfl (by rfl) (by rw [hz2]; omega) (by unfold maxLen; omega) (Nat.le_refl _) ?_; intro w1 hown1 hgr1) | (at_builtin; refine wpList_append_own_none rfl (.tmp 8) (.tmp 9) 22 rfl w.heap.size 94 i0 2 Tryz.underlying22 hi _ 0 [] rfl hown1 rfl ?_) | (at_builtin; refine wpList_append_own_spare _ rfl (.tmp 11) (.tmp 14) 22 rfl w.heap.size 94 i0 2 Tryz.underlying22 hi hz1 w.heap.size 0 2 [] rfl (hown1.alloc _) ⟨w1.heap.size, 0, none⟩ 2 2 ([markO, markP].flatMap enc2) rfl rfl (marksl_at w1) (enc2_one _) (by omega) ?_; intro w3 hown3 hgr3))
    go_ret
    have hz1' : w.heap.size ≤ w1.heap.size := hgr1.size
    exact ⟨w.heap.size, Nat.le_refl _, rfl, lentl_of_owns hown3, grownL ((grownL0 (Below.refl _ _) hgr1 (Nat.le_refl _)).alloc hz1' _) hgr3 (by simp; omega) (Nat.le_refl _)⟩
  | some ad =>
    clear hc0
    obtain ⟨n, hn⟩ : ∃ n, l.length = n := ⟨_, rfl⟩
    have HN := Lib.hid hn
    rw [hn] at hsm ⊢
    clear hn
    go_enter Tryz.func10, Tryz.ntmps10
    go_wp2_with (first | (at_make; refine wpList_make_own _ rfl _ _ 22 rfl w.heap.size 94 i0 (.agg #[.string ⟨#[]⟩, .string ⟨#[]⟩]) 2 Tryz.underlying22 hi hz0 hz1 .i64 .i64 _ (n + 2) rfl rfl (by simp) (by rw [hz2]; omega) (by unfold maxLen; omega) (Nat.le_refl _) ?_; intro w1 hown1 hgr1; have HB1 := Lib.hid (grownL0 (Below.refl _ _) hgr1 (Nat.le_refl _)); have hsz : w.heap.size ≤ w1.heap.size := hgr1.size; clear hgr1) | (at_builtin; refine wpList_append_own_spare _ rfl (.tmp 8) (.tmp 9) 22 rfl w.heap.size 94 i0 2 Tryz.underlying22 hi hz1 w.heap.size 0 (n + 2) [] rfl hown1 ad n cap (l.flatMap enc2) rfl (by rw [HF.out, HN.out]) (labs_news (A1.out.below HB1.out)) HONE.out (by omega) ?_; intro w2 hown2 hgr2; have hsz2 : w.heap.size ≤ w2.heap.size := Nat.le_trans hsz hgr2.size; have HB2 := Lib.hid (grownL HB1.out hgr2 hsz (Nat.le_refl _)); clear hgr2 hown1; simp only [Nat.zero_add, List.nil_append] at hown2) | (at_builtin; refine wpList_append_own_spare _ rfl (.tmp 11) (.tmp 14) 22 rfl w.heap.size 94 i0 2 Tryz.underlying22 hi hz1 w.heap.size n (n + 2) (l.flatMap enc2) rfl (hown2.alloc _) ⟨w2.heap.size, 0, none⟩ 2 2 ([markO, markP].flatMap enc2) rfl rfl (marksl_at w2) (enc2_one _) (by omega) ?_; intro w3 hown3 hgr3))
    go_ret
    refine ⟨w.heap.size, Nat.le_refl _, rfl, ?_, grownL (HB2.out.alloc hsz2 _) hgr3 (by simp; omega) (Nat.le_refl _)⟩
    unfold LentL
    rw [lentl_of_owns hown3, List.flatMap_append]
theorem LentL.below {w w' : World} {g : Nat} {l : List Lm.Lb} (h : LentL w g l) (hb : Below w.heap.size w w') : LentL w' g l := (hb.block g (Array.getElem?_eq_some_iff.1 h).1).trans h
theorem flat2_get : ∀ (l : List Lm.Lb) (i : Nat) (h : i < l.length), (l.flatMap enc2)[i * 2]? = some (.string l[i].1) ∧ (l.flatMap enc2)[i * 2 + 1]? = some (.string l[i].2)
  | [], i, h => by simp at h
  | x :: t, 0, h => ⟨rfl, rfl⟩
  | x :: t, i + 1, h => by
    have := flat2_get t i (by simpa using h)
    have e : (x :: t).flatMap enc2 = .string x.1 :: .string x.2 :: t.flatMap enc2 := rfl
    rw [e, show (i + 1) * 2 = i * 2 + 1 + 1 by omega]
    simpa using this
theorem LentL.all {w : World} {g : Nat} {l : List Lm.Lb} (h : LentL w g l) : Labs w (some ⟨g, 0, none⟩) (l ++ [markO, markP]) := fun _ => by
  refine ⟨g, 0, rfl, (Array.getElem?_eq_some_iff.1 h).1, fun i hi => ?_⟩
  obtain ⟨h1, h2⟩ := flat2_get _ i hi
  rw [Nat.zero_add, cell_of_row _ _ _ _ _ _ h, cell_of_row _ _ _ _ _ _ h, List.getElem?_toArray, List.getElem?_toArray]
  exact ⟨h1, h2⟩
theorem LentL.labs {w : World} {g : Nat} {l : List Lm.Lb} (h : LentL w g l) : Labs w (some ⟨g, 0, none⟩) l := fun hn => by
  obtain ⟨b, off, ha, hlt, hc⟩ := h.all (by simp)
  refine ⟨b, off, ha, hlt, fun i hi => ?_⟩
  have := hc i (by simp; omega)
  rw [List.getElem_append_left hi] at this
  exact this
end Go.Proofs.YtiolghcjndoigaaGreatDoor
namespace Go.Proofs.YtiolghcjndoigaaGreatDoor
set_option linter.unusedVariables false
set_option linter.unusedSimpArgs false
open Go.RowKit Go.PlainAid
theorem eq94 (x y : Lm.Lb) (W : World) : (binOp .eql 94 (.agg #[.string x.1, .string x.2]) (.agg #[.string y.1, .string y.2])).run Tryz.prog W = .ok (.bool (decide (x = y))) W := by
  have u9 := Tryz.underlying9
  have a9 := Tryz.isAgg9
  have z9 := Tryz.sizeOf9
  have hS : Tryz.prog.underlying 94 = some (.struct (Tryz.prog.fieldsOf 94)) := by kernel_rfl
  have hp : Tryz.prog.stoodInHeld 94 = false := by kernel_rfl
  rw [run_eql_struct, show (10000 : Nat) = 9999 + 1 from rfl, run_equalIn_agg W 9999 94 _ _ hS hp]
  simp only [Program.fieldsOf, Tryz.underlying94]
  go_simp
  have e1 := toList_iff x.1 y.1
  have e2 := toList_iff x.2 y.2
  by_cases h1 : x.1 = y.1 <;> by_cases h2 : x.2 = y.2 <;> simp [h1, h2, Prod.ext_iff, e1, e2]
set_option maxRecDepth 100000 in
set_option maxHeartbeats 1000000 in
theorem wholel_any (g : Nat) (a : Option Addr) (l : List Lm.Lb) (cap : Nat) (w : World) (L : LentL w g l) (H : Labs w a l) (hsm : l.length ≤ 100000) :
    Calls Tryz.prog 14 #[.slice (some ⟨g, 0, none⟩) l.length (l.length + 2), .slice a l.length cap] w (Gives w (.bool true)) := by
  obtain ⟨b, off, hb, hlt, hc⟩ := L.all (by simp)
  cases hb
  have q1 := hc l.length (by simp)
  have q2 := hc (l.length + 1) (by simp)
  rw [show (l ++ [markO, markP])[l.length]'(by simp) = markO by simp] at q1
  rw [show (l ++ [markO, markP])[l.length + 1]'(by simp) = markP by simp] at q2
  have C := Lib.hid (show Calls Tryz.prog 18 #[.slice (some ⟨g, 0, none⟩) l.length (l.length + 2), .slice a l.length cap] w (Gives w (.bool true)) by
    have h := same_any _ a (l.length + 2) cap l l w L.labs H (by unfold maxLen; omega)
    rw [decide_eq_true rfl] at h
    exact h)
  obtain ⟨n, hn⟩ : ∃ n, l.length = n := ⟨_, rfl⟩
  rw [hn] at q1 q2 C hsm ⊢
  obtain ⟨r1, r2⟩ := q1
  obtain ⟨r3, r4⟩ := q2
  simp only [markO, markP, Nat.zero_add] at r1 r2 r3 r4
  have h1 := fun W => eq94 markO markO W
  have h2 := fun W => eq94 markP markP W
  have hd : decide (markO = markO) = true := decide_eq_true rfl
  have hd2 : decide (markP = markP) = true := decide_eq_true rfl
  rw [hd] at h1
  rw [hd2] at h2
  simp only [markO, markP] at h1 h2
  clear L H hc hd hd2 hn
  go_enter Tryz.func14, Tryz.ntmps14
  go_wp2_with (go_at_call 18; refine C.out.mono ?_; rintro e w' ⟨rfl, hb⟩; have HB := Lib.hid hb; clear hb)
  go_ret
  exact ⟨rfl, HB.out⟩
end Go.Proofs.YtiolghcjndoigaaGreatDoor
namespace Go.Proofs.YtiolghcjndoigaaGreatDoor
set_option linter.unusedVariables false
set_option linter.unusedSimpArgs false
open Go.RowKit Go.PlainAid
def SpoiltL (w : World) (g L : Nat) (wr : World) : Prop := (∃ cur, wr.heap[g]? = some (.cells cur 94 (0, 0)) ∧ cur.size = 2 * L) ∧ Only [g] w wr
theorem SpoiltL.cell {w wr : World} {g L j : Nat} (h : SpoiltL w g L wr) (hk : j < 2 * L) : (∃ u, wr.cell? ⟨g, j, none⟩ = some u) ∧ wr.frozen? ⟨g, j, none⟩ = false ∧ ∀ u, SpoiltL w g L (wr.setCell ⟨g, j, none⟩ u) := by
  obtain ⟨⟨cur, h1, h2⟩, h3⟩ := h
  refine ⟨⟨cur[j]'(by omega), ?_⟩, frozen_of_row _ _ _ _ _ h1, fun u => ⟨⟨_, heap_setCell_same _ _ _ _ _ _ h1, by simpa using h2⟩, h3.setCell (p := ⟨g, j, none⟩) (.inl (by simp)) u⟩⟩
  rw [cell_of_row _ _ _ _ _ _ h1, Array.getElem?_eq_getElem (by omega)]
set_option maxRecDepth 100000 in
set_option maxHeartbeats 1000000 in
theorem spoill_any (g n L : Nat) (w : World) (hnL : n ≤ L) (hL : L ≤ 1000000) (cur : Array Value) (h1 : w.heap[g]? = some (.cells cur 94 (0, 0))) (h2 : cur.size = 2 * L) :
    Calls Tryz.prog 15 #[.slice (some ⟨g, 0, none⟩) n L] w fun e w' => e = .returned (.tuple #[]) ∧ Only [g] w w' := by
  have H0 := Lib.hid (show SpoiltL w g L w from ⟨⟨cur, h1, h2⟩, Only.refl _ _⟩)
  clear h1 h2
  go_enter Tryz.func15, Tryz.ntmps15
  go_wp2
  go_loopw [3] (fun i wr => ∃ k : Nat, k ≤ L ∧ i = .int .i64 (k : Nat) ∧ Hid (SpoiltL w g L wr)) (fun i _ => L - (intOf i).toNat)
  case atStart => exact ⟨0, Nat.zero_le _, rfl, H0⟩
  case round =>
    obtain ⟨k, hk, rfl, HS⟩ := hrel
    by_cases hlt : k < L
    · obtain ⟨⟨u, hc⟩, hf, hset⟩ := HS.out.cell (j := k * 2) (by omega)
      obtain ⟨⟨u1, hc1⟩, hf1, hset1⟩ := (hset (.string ⟨#[115, 112, 111, 105, 108, 116]⟩)).cell (j := k * 2 + 1) (by omega)
      obtain ⟨⟨u2, hc2⟩, hf2, _⟩ := HS.out.cell (j := k * 2 + 1) (by omega)
      have HN := Lib.hid (hset1 (.string ⟨#[]⟩))
      have hi : (k : Int) < (L : Int) := by omega
      have hd : decide ((k : Int) < (L : Int)) = true := by simp; omega
      clear hset hset1
      go_wp2
      go_roundw
      case rel => exact ⟨k + 1, by omega, by go_num, HN⟩
      case measure => simp [intOf]; omega
    · obtain rfl : k = L := by omega
      go_wp2
      go_end0
      exact ⟨rfl, HS.out.2⟩
end Go.Proofs.YtiolghcjndoigaaGreatDoor
