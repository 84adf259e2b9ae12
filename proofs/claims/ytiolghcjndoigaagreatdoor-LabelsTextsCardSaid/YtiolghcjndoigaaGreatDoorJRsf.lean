/-
  WALKS: the reference: Set, walked.
-/
import Derived.Test.YtiolghcjndoigaaGreatDoorJKno
import Derived.Test.YtiolghcjndoigaaGreatDoorSam
import Derived.Test.YtiolghcjndoigaaGreatDoorEnc
import Derived.Test.YtiolghcjndoigaaGreatDoorJBck
import Derived.Test.YtiolghcjndoigaaGreatDoorRis
import Derived.Deep.DeepAppendRoom
import Derived.Deep.DeepMust
import Derived.Laws.DeepNot64
import Derived.Defers
namespace Go.Proofs.YtiolghcjndoigaaGreatDoor
set_option linter.unusedVariables false
set_option linter.unusedSimpArgs false
open Go.RowKit Go.PlainAid
theorem grownL {B : Nat} {w0 w w' : World} {g : Nat} (h : Below B w0 w) (hg : w.grownBy w' (some g)) (hB : B ≤ w.heap.size) (hr : B ≤ g) : Below B w0 w' := h.grown hg hB (fun k hk => by cases hk; exact hr)
theorem grownL0 {B : Nat} {w0 w w' : World} (h : Below B w0 w) (hg : w.grownBy w' none) (hB : B ≤ w.heap.size) : Below B w0 w' := h.grown hg hB (fun k hk => by cases hk)
theorem labs_flat {w : World} {b : Nat} : ∀ (l : List Lm.Lb) (off : Nat), (∀ i (h : i < l.length), w.cell? ⟨b, off + i * 2, none⟩ = some (.string l[i].1) ∧ w.cell? ⟨b, off + i * 2 + 1, none⟩ = some (.string l[i].2)) → ∀ j u, (l.flatMap enc2)[j]? = some u → w.cell? ⟨b, off + j, none⟩ = some u
  | [], off, hc, j, u, hu => by simp at hu
  | x :: t, off, hc, j, u, hu => by
    have e : (x :: t).flatMap enc2 = .string x.1 :: .string x.2 :: t.flatMap enc2 := rfl
    rw [e] at hu
    match j, hu with
    | 0, hu =>
      have := (hc 0 (by simp)).1
      simp only [List.getElem?_cons_zero, Option.some.injEq] at hu
      rw [← hu]
      simpa using this
    | 1, hu =>
      have := (hc 0 (by simp)).2
      simp only [List.getElem?_cons_succ, List.getElem?_cons_zero, Option.some.injEq] at hu
      rw [← hu]
      simpa using this
    | j + 2, hu =>
      simp only [List.getElem?_cons_succ] at hu
      have := labs_flat t (off + 2) (fun i hi => by
        have := hc (i + 1) (by simpa using hi)
        rw [show off + (i + 1) * 2 = off + 2 + i * 2 by omega] at this
        simpa using this) j u hu
      rw [show off + (j + 2) = off + 2 + j by omega]
      exact this
theorem labs_news {w : World} {ad : Addr} {l : List Lm.Lb} (H : Labs w (some ad) l) : ∀ j u, (l.flatMap enc2)[j]? = some u → w.cell? (ad.add j) = some u := by
  intro j u hu
  by_cases hn : l = []
  · subst hn; simp at hu
  · obtain ⟨b, off, ha, hlt, hc⟩ := H hn
    cases ha
    rw [add_at]
    exact labs_flat l off hc j u hu
def markO : Lm.Lb := (⟨#[111]⟩, ⟨#[]⟩)
def markP : Lm.Lb := (⟨#[112]⟩, ⟨#[]⟩)
/-- what is lent: a block of its own, the labels and two marks behind them -/
def LentL (w : World) (g : Nat) (l : List Lm.Lb) : Prop := w.heap[g]? = some (.cells ((l ++ [markO, markP]).flatMap enc2).toArray 94 (0, 0))
def LentLPost (w : World) (l : List Lm.Lb) (e : Ending) (w' : World) : Prop :=
  ∃ g, w.heap.size ≤ g ∧ e = .returned (.slice (some ⟨g, 0, none⟩) l.length (l.length + 2)) ∧ LentL w' g l ∧ Below w.heap.size w w'
theorem lentl_of_owns {w : World} {base g n : Nat} {xs : List Value} (h : w.ownsRow base 94 2 (.slice (some ⟨g, 0, none⟩) n n) n xs) : w.heap[g]? = some (.cells xs.toArray 94 (0, 0)) := by
  obtain ⟨hl, h2⟩ := h
  rcases h2 with ⟨h0, _⟩ | ⟨g', cap, cur, hv, _, hg, _, _, hcs, ht⟩
  · cases h0
  · cases hv
    rw [hg]
    have : cur.toList = xs := by rw [← ht, List.take_of_length_le (by simp; omega)]
    rw [← this]
theorem marksl_at (W : World) : ∀ (j : Nat) (u : Value), ([markO, markP].flatMap enc2)[j]? = some u → (W.alloc (.cells #[.string ⟨#[111]⟩, .string ⟨#[]⟩, .string ⟨#[112]⟩, .string ⟨#[]⟩] 94)).cell? ((⟨W.heap.size, 0, none⟩ : Addr).add j) = some u := by
  intro j u hu
  rw [show (⟨W.heap.size, 0, none⟩ : Addr).add j = ⟨W.heap.size, j, none⟩ by unfold Addr.add; split <;> simp_all, cell_of_row _ _ _ _ _ _ (heap_alloc_new W _)]
  rw [show (#[Value.string ⟨#[111]⟩, .string ⟨#[]⟩, .string ⟨#[112]⟩, .string ⟨#[]⟩] : Array Value) = ([markO, markP].flatMap enc2).toArray from rfl, List.getElem?_toArray]
  exact hu
theorem flat2_len (l : List Lm.Lb) : (l.flatMap enc2).length = l.length * 2 := by
  induction l with
  | nil => rfl
  | cons x t ih => rw [List.flatMap_cons, List.length_append, ih, enc2_len, List.length_cons]; omega
theorem enc2_one (l : List Lm.Lb) : ∀ u ∈ l.flatMap enc2, u.oneCell' = true := by
  intro u hu
  obtain ⟨x, _, hx⟩ := List.mem_flatMap.1 hu
  simp [enc2] at hx
  rcases hx with rfl | rfl <;> rfl
set_option maxRecDepth 100000 in
set_option maxHeartbeats 1000000 in
theorem lentl_any (a : Option Addr) (l : List Lm.Lb) (cap : Nat) (w : World) (H : Labs w a l) (hc0 : a = none → cap = 0) (hsm : l.length ≤ 100000) :
    Calls Tryz.prog 10 #[.slice a l.length cap] w (LentLPost w l) := by
  obtain ⟨i0, hi, hz0, hz1, hz2⟩ := info_parts info94
  have A1 := Lib.hid H
  have HF := Lib.hid (flat2_len l)
  have HONE := Lib.hid (enc2_one l)
  clear H
  unfold LentLPost
  cases a with
  | none =>
    obtain rfl : cap = 0 := hc0 rfl
    have hbs : l = [] := by
      refine Decidable.by_contra fun hn => ?_
      obtain ⟨b, off, e, _⟩ := A1.out hn
      cases e
    subst hbs
    clear hc0 hsm
    go_enter Tryz.func10, Tryz.ntmps10
    go_wp2_with (first | (at_make; refine wpList_make_own _ rfl _ _ 22 rfl w.heap.size 94 i0 (.agg #[.string ⟨#[]⟩, .string ⟨#[]⟩]) 2 Tryz.underlying22 hi hz0 hz1 .i64 .i64 _ 2 rfl rfl (by rfl) (by rw [hz2]; omega) (by unfold maxLen; omega) (Nat.le_refl _) ?_; intro w1 hown1 hgr1) | (at_builtin; refine wpList_append_own_none rfl (.tmp 8) (.tmp 9) 22 rfl w.heap.size 94 i0 2 Tryz.underlying22 hi _ 0 [] rfl hown1 rfl ?_) | (at_builtin; refine wpList_append_own_spare _ rfl (.tmp 11) (.tmp 14) 22 rfl w.heap.size 94 i0 2 Tryz.underlying22 hi hz1 w.heap.size 0 2 [] rfl (hown1.alloc _) ⟨w1.heap.size, 0, none⟩ 2 2 ([markO, markP].flatMap enc2) rfl rfl (marksl_at w1) (enc2_one _) (by omega) ?_; intro w3 hown3 hgr3))
    go_ret
    have hz1' : w.heap.size ≤ w1.heap.size := hgr1.size
    exact ⟨w.heap.size, Nat.le_refl _, rfl, lentl_of_owns hown3, grownL ((grownL0 (Below.refl _ _) hgr1 (Nat.le_refl _)).alloc hz1' _) hgr3 (by simp; omega) (Nat.le_refl _)⟩
  | some ad =>
    clear hc0
    obtain ⟨n, hn⟩ : ∃ n, l.length = n := ⟨_, rfl⟩
    have HN := Lib.hid hn
    rw [hn] at hsm ⊢
    clear hn
    go_enter Tryz.func10, Tryz.ntmps10
    go_wp2_with (first | (at_make; refine wpList_make_own _ rfl _ _ 22 rfl w.heap.size 94 i0 (.agg #[.string ⟨#[]⟩, .string ⟨#[]⟩]) 2 Tryz.underlying22 hi hz0 hz1 .i64 .i64 _ (n + 2) rfl rfl (by simp) (by rw [hz2]; omega) (by unfold maxLen; omega) (Nat.le_refl _) ?_; intro w1 hown1 hgr1; have HB1 := Lib.hid (grownL0 (Below.refl _ _) hgr1 (Nat.le_refl _)); have hsz : w.heap.size ≤ w1.heap.size := hgr1.size; clear hgr1) | (at_builtin; refine wpList_append_own_spare _ rfl (.tmp 8) (.tmp 9) 22 rfl w.heap.size 94 i0 2 Tryz.underlying22 hi hz1 w.heap.size 0 (n + 2) [] rfl hown1 ad n cap (l.flatMap enc2) rfl (by rw [HF.out, HN.out]) (labs_news (A1.out.below HB1.out)) HONE.out (by omega) ?_; intro w2 hown2 hgr2; have hsz2 : w.heap.size ≤ w2.heap.size := Nat.le_trans hsz hgr2.size; have HB2 := Lib.hid (grownL HB1.out hgr2 hsz (Nat.le_refl _)); clear hgr2 hown1; simp only [Nat.zero_add, List.nil_append] at hown2) | (at_builtin; refine wpList_append_own_spare _ rfl (.tmp 11) (.tmp 14) 22 rfl w.heap.size 94 i0 2 Tryz.underlying22 hi hz1 w.heap.size n (n + 2) (l.flatMap enc2) rfl (hown2.alloc _) ⟨w2.heap.size, 0, none⟩ 2 2 ([markO, markP].flatMap enc2) rfl rfl (marksl_at w2) (enc2_one _) (by omega) ?_; intro w3 hown3 hgr3))
    go_ret
    refine ⟨w.heap.size, Nat.le_refl _, rfl, ?_, grownL (HB2.out.alloc hsz2 _) hgr3 (by simp; omega) (Nat.le_refl _)⟩
    unfold LentL
    rw [lentl_of_owns hown3, List.flatMap_append]
theorem LentL.below {w w' : World} {g : Nat} {l : List Lm.Lb} (h : LentL w g l) (hb : Below w.heap.size w w') : LentL w' g l := (hb.block g (Array.getElem?_eq_some_iff.1 h).1).trans h
theorem flat2_get : ∀ (l : List Lm.Lb) (i : Nat) (h : i < l.length), (l.flatMap enc2)[i * 2]? = some (.string l[i].1) ∧ (l.flatMap enc2)[i * 2 + 1]? = some (.string l[i].2)
  | [], i, h => by simp at h
  | x :: t, 0, h => ⟨rfl, rfl⟩
  | x :: t, i + 1, h => by
    have := flat2_get t i (by simpa using h)
    have e : (x :: t).flatMap enc2 = .string x.1 :: .string x.2 :: t.flatMap enc2 := rfl
    rw [e, show (i + 1) * 2 = i * 2 + 1 + 1 by omega]
    simpa using this
theorem LentL.all {w : World} {g : Nat} {l : List Lm.Lb} (h : LentL w g l) : Labs w (some ⟨g, 0, none⟩) (l ++ [markO, markP]) := fun _ => by
  refine ⟨g, 0, rfl, (Array.getElem?_eq_some_iff.1 h).1, fun i hi => ?_⟩
  obtain ⟨h1, h2⟩ := flat2_get _ i hi
  rw [Nat.zero_add, cell_of_row _ _ _ _ _ _ h, cell_of_row _ _ _ _ _ _ h, List.getElem?_toArray, List.getElem?_toArray]
  exact ⟨h1, h2⟩
theorem LentL.labs {w : World} {g : Nat} {l : List Lm.Lb} (h : LentL w g l) : Labs w (some ⟨g, 0, none⟩) l := fun hn => by
  obtain ⟨b, off, ha, hlt, hc⟩ := h.all (by simp)
  refine ⟨b, off, ha, hlt, fun i hi => ?_⟩
  have := hc i (by simp; omega)
  rw [List.getElem_append_left hi] at this
  exact this
end Go.Proofs.YtiolghcjndoigaaGreatDoor
namespace Go.Proofs.YtiolghcjndoigaaGreatDoor
set_option linter.unusedVariables false
set_option linter.unusedSimpArgs false
open Go.RowKit Go.PlainAid
theorem eq94 (x y : Lm.Lb) (W : World) : (binOp .eql 94 (.agg #[.string x.1, .string x.2]) (.agg #[.string y.1, .string y.2])).run Tryz.prog W = .ok (.bool (decide (x = y))) W := by
  have u9 := Tryz.underlying9
  have a9 := Tryz.isAgg9
  have z9 := Tryz.sizeOf9
  have hS : Tryz.prog.underlying 94 = some (.struct (Tryz.prog.fieldsOf 94)) := by kernel_rfl
  have hp : Tryz.prog.stoodInHeld 94 = false := by kernel_rfl
  rw [run_eql_struct, show (10000 : Nat) = 9999 + 1 from rfl, run_equalIn_agg W 9999 94 _ _ hS hp]
  simp only [Program.fieldsOf, Tryz.underlying94]
  go_simp
  have e1 := toList_iff x.1 y.1
  have e2 := toList_iff x.2 y.2
  by_cases h1 : x.1 = y.1 <;> by_cases h2 : x.2 = y.2 <;> simp [h1, h2, Prod.ext_iff, e1, e2]
set_option maxRecDepth 100000 in
set_option maxHeartbeats 1000000 in
theorem wholel_any (g : Nat) (a : Option Addr) (l : List Lm.Lb) (cap : Nat) (w : World) (L : LentL w g l) (H : Labs w a l) (hsm : l.length ≤ 100000) :
    Calls Tryz.prog 14 #[.slice (some ⟨g, 0, none⟩) l.length (l.length + 2), .slice a l.length cap] w (Gives w (.bool true)) := by
  obtain ⟨b, off, hb, hlt, hc⟩ := L.all (by simp)
  cases hb
  have q1 := hc l.length (by simp)
  have q2 := hc (l.length + 1) (by simp)
  rw [show (l ++ [markO, markP])[l.length]'(by simp) = markO by simp] at q1
  rw [show (l ++ [markO, markP])[l.length + 1]'(by simp) = markP by simp] at q2
  have C := Lib.hid (show Calls Tryz.prog 18 #[.slice (some ⟨g, 0, none⟩) l.length (l.length + 2), .slice a l.length cap] w (Gives w (.bool true)) by
    have h := same_any _ a (l.length + 2) cap l l w L.labs H (by unfold maxLen; omega)
    rw [decide_eq_true rfl] at h
    exact h)
  obtain ⟨n, hn⟩ : ∃ n, l.length = n := ⟨_, rfl⟩
  rw [hn] at q1 q2 C hsm ⊢
  obtain ⟨r1, r2⟩ := q1
  obtain ⟨r3, r4⟩ := q2
  simp only [markO, markP, Nat.zero_add] at r1 r2 r3 r4
  have h1 := fun W => eq94 markO markO W
  have h2 := fun W => eq94 markP markP W
  have hd : decide (markO = markO) = true := decide_eq_true rfl
  have hd2 : decide (markP = markP) = true := decide_eq_true rfl
  rw [hd] at h1
  rw [hd2] at h2
  simp only [markO, markP] at h1 h2
  clear L H hc hd hd2 hn
  go_enter Tryz.func14, Tryz.ntmps14
  go_wp2_with (go_at_call 18; refine C.out.mono ?_; rintro e w' ⟨rfl, hb⟩; have HB := Lib.hid hb; clear hb)
  go_ret
  exact ⟨rfl, HB.out⟩
end Go.Proofs.YtiolghcjndoigaaGreatDoor
namespace Go.Proofs.YtiolghcjndoigaaGreatDoor
set_option linter.unusedVariables false
set_option linter.unusedSimpArgs false
open Go.RowKit Go.PlainAid
def SpoiltL (w : World) (g L : Nat) (wr : World) : Prop := (∃ cur, wr.heap[g]? = some (.cells cur 94 (0, 0)) ∧ cur.size = 2 * L) ∧ Only [g] w wr
theorem SpoiltL.cell {w wr : World} {g L j : Nat} (h : SpoiltL w g L wr) (hk : j < 2 * L) : (∃ u, wr.cell? ⟨g, j, none⟩ = some u) ∧ wr.frozen? ⟨g, j, none⟩ = false ∧ ∀ u, SpoiltL w g L (wr.setCell ⟨g, j, none⟩ u) := by
  obtain ⟨⟨cur, h1, h2⟩, h3⟩ := h
  refine ⟨⟨cur[j]'(by omega), ?_⟩, frozen_of_row _ _ _ _ _ h1, fun u => ⟨⟨_, heap_setCell_same _ _ _ _ _ _ h1, by simpa using h2⟩, h3.setCell (p := ⟨g, j, none⟩) (.inl (by simp)) u⟩⟩
  rw [cell_of_row _ _ _ _ _ _ h1, Array.getElem?_eq_getElem (by omega)]
set_option maxRecDepth 100000 in
set_option maxHeartbeats 1000000 in
theorem spoill_any (g n L : Nat) (w : World) (hnL : n ≤ L) (hL : L ≤ 1000000) (cur : Array Value) (h1 : w.heap[g]? = some (.cells cur 94 (0, 0))) (h2 : cur.size = 2 * L) :
    Calls Tryz.prog 15 #[.slice (some ⟨g, 0, none⟩) n L] w fun e w' => e = .returned (.tuple #[]) ∧ Only [g] w w' := by
  have H0 := Lib.hid (show SpoiltL w g L w from ⟨⟨cur, h1, h2⟩, Only.refl _ _⟩)
  clear h1 h2
  go_enter Tryz.func15, Tryz.ntmps15
  go_wp2
  go_loopw [3] (fun i wr => ∃ k : Nat, k ≤ L ∧ i = .int .i64 (k : Nat) ∧ Hid (SpoiltL w g L wr)) (fun i _ => L - (intOf i).toNat)
  case atStart => exact ⟨0, Nat.zero_le _, rfl, H0⟩
  case round =>
    obtain ⟨k, hk, rfl, HS⟩ := hrel
    by_cases hlt : k < L
    · obtain ⟨⟨u, hc⟩, hf, hset⟩ := HS.out.cell (j := k * 2) (by omega)
      obtain ⟨⟨u1, hc1⟩, hf1, hset1⟩ := (hset (.string ⟨#[115, 112, 111, 105, 108, 116]⟩)).cell (j := k * 2 + 1) (by omega)
      obtain ⟨⟨u2, hc2⟩, hf2, _⟩ := HS.out.cell (j := k * 2 + 1) (by omega)
      have HN := Lib.hid (hset1 (.string ⟨#[]⟩))
      have hi : (k : Int) < (L : Int) := by omega
      have hd : decide ((k : Int) < (L : Int)) = true := by simp; omega
      clear hset hset1
      go_wp2
      go_roundw
      case rel => exact ⟨k + 1, by omega, by go_num, HN⟩
      case measure => simp [intOf]; omega
    · obtain rfl : k = L := by omega
      go_wp2
      go_end0
      exact ⟨rfl, HS.out.2⟩
end Go.Proofs.YtiolghcjndoigaaGreatDoor
namespace Go.Proofs.YtiolghcjndoigaaGreatDoor
set_option linter.unusedVariables false
set_option linter.unusedSimpArgs false
open Go.RowKit Go.PlainAid Go.Shelf
def TwiceP (l : List Lm.Lb) : Prop := ∃ (i j : Nat) (hi : i < l.length) (hj : j < i), l[i].1 = (l[j]'(by omega)).1
theorem twice_iff (l : List Lm.Lb) : TwiceP l ↔ ¬ (l.map Prod.fst).Nodup := by
  unfold TwiceP
  rw [List.nodup_iff_pairwise_ne, List.pairwise_iff_getElem]
  constructor
  · rintro ⟨i, j, hi, hj, e⟩ h
    refine h j i (by rw [List.length_map]; omega) (by rw [List.length_map]; omega) hj ?_
    rw [List.getElem_map, List.getElem_map]
    exact e.symm
  · intro h
    refine Classical.byContradiction fun hn => h fun i j hi hj hij e => hn ?_
    rw [List.length_map] at hi hj
    rw [List.getElem_map, List.getElem_map] at e
    exact ⟨j, i, hj, hij, e.symm⟩
def twiceB (l : List Lm.Lb) : Bool := !decide ((l.map Prod.fst).Nodup)
theorem twice_yes {l : List Lm.Lb} (h : TwiceP l) : twiceB l = true := by
  unfold twiceB
  rw [decide_eq_false ((twice_iff l).1 h)]; rfl
theorem twice_no {l : List Lm.Lb} (h : ¬ TwiceP l) : twiceB l = false := by
  unfold twiceB
  rw [decide_eq_true (Classical.byContradiction fun hn => h ((twice_iff l).2 hn))]; rfl
set_option maxHeartbeats 1000000 in
theorem rtwice_any (a : Option Addr) (c : Nat) (l : List Lm.Lb) (w : World) (H : Labs w a l) (hz : l.length ≤ maxLen) : Calls Tryz.prog 56 #[.slice a l.length c] w (Gives w (.bool (twiceB l))) := by
  have HL := Lib.hid H
  obtain ⟨n, hn⟩ : ∃ n, l.length = n := ⟨_, rfl⟩
  have HN := Lib.hid hn
  have hz' : n ≤ 9223372036854775807 := by rw [← hn]; exact hz
  rw [hn]
  clear H hz hn
  go_enter Tryz.func56, Tryz.ntmps56
  go_wp2
  go_loopw [3] (fun i wr => ∃ k : Nat, k ≤ n ∧ i = .int .i64 k ∧ Hid (Below w.heap.size w wr) ∧ Hid (∀ (p q : Nat) (hp : p < l.length) (hq : q < p), p < k → l[p].1 ≠ (l[q]'(by omega)).1)) (fun i _ => (n - (intOf i).toNat))
  case atStart => exact ⟨0, by omega, rfl, Lib.hid (Below.refl _ _), Lib.hid (fun p q hp hq h => by omega)⟩
  case round =>
    obtain ⟨k, hk1, rfl, HB, HT⟩ := hrel
    by_cases hkn : k < n
    · have da : decide ((k : Int) < (n : Int)) = true := decide_eq_true (by omega)
      have da2 : decide (k < n) = true := decide_eq_true hkn
      have hkl : k < l.length := by rw [HN.out]; exact hkn
      have HKL := Lib.hid hkl
      clear hkl
      go_wp2
      go_loopw [4] (fun i wr => ∃ j : Nat, j ≤ k ∧ i = .int .i64 j ∧ Hid (Below w.heap.size w wr) ∧ Hid (∀ (q : Nat) (hq : q < k), q < j → (l[k]'HKL.out).1 ≠ (l[q]'(by have := HKL.out; omega)).1)) (fun i _ => (k - (intOf i).toNat))
      case atStart => exact ⟨0, by omega, rfl, HB, Lib.hid (fun q hq h => by omega)⟩
      case round =>
        obtain ⟨j, hj1, rfl, HB2, HU⟩ := hrel
        by_cases hjk : j < k
        · have db : decide ((j : Int) < (k : Int)) = true := decide_eq_true (by omega)
          have db2 : decide (j < k) = true := decide_eq_true hjk
          have hkl := HKL.out
          have hjl : j < l.length := by omega
          have hjn : j < n := by omega
          have i1 : (j : Int) < (n : Int) := by omega
          have i2 : (k : Int) < (n : Int) := by omega
          obtain ⟨b1, o1, rfl, hb1, hc1⟩ := (HL.out.below HB2.out) (by intro e; rw [e] at hkl; simp at hkl)
          obtain ⟨p1, p2⟩ := hc1 k hkl
          obtain ⟨q1, q2⟩ := hc1 j hjl
          obtain ⟨x, hx⟩ : ∃ x, l[k].1 = x := ⟨_, rfl⟩
          obtain ⟨y, hy⟩ : ∃ x, l[j].1 = x := ⟨_, rfl⟩
          rw [hx] at p1
          rw [hy] at q1
          have hq : (x.toList == y.toList) = decide (x = y) := by
            have := toList_iff x y
            by_cases e : x = y
            · rw [decide_eq_true e, e]; simp
            · rw [decide_eq_false e]; simpa using fun h => e (this.1 h)
          by_cases hxy : x = y
          · have hq2 : x.toList = y.toList := by rw [hxy]
            rw [decide_eq_true hxy] at hq
            have E := Lib.hid (show twiceB l = true from twice_yes ⟨k, j, hkl, hjk, by rw [hx, hy, hxy]⟩)
            clear hxy hx hy hc1 p2 q2 hkl hjl
            go_wp2_with (go_quiet (fail))
            go_ret
            exact ⟨congrArg (fun x => Ending.returned (.bool x)) E.out.symm, (by have := HB2.out; exact ⟨this.os, this.tape, this.output, this.size, this.block⟩)⟩
          · have hq2 : ¬ x.toList = y.toList := fun e => hxy ((toList_iff x y).1 e)
            rw [decide_eq_false hxy] at hq
            have HU2 := Lib.hid (show ∀ (q : Nat) (hq : q < k), q < j + 1 → (l[k]'HKL.out).1 ≠ (l[q]'(by have := HKL.out; omega)).1 by
              intro q hq hqj
              by_cases e : q = j
              · subst e
                rw [hx, hy]; exact hxy
              · exact HU.out q hq (by omega))
            clear hxy hx hy hc1 p2 q2
            go_wp2_with (go_quiet (fail))
            go_roundw
            case rel => exact ⟨j + 1, by omega, by simp, Lib.hid (by have := HB2.out; exact ⟨this.os, this.tape, this.output, this.size, this.block⟩), HU2⟩
            case measure => simp [intOf]; omega
        · have hjk2 : j = k := by omega
          subst hjk2
          have db : decide ((j : Int) < (j : Int)) = false := decide_eq_false (by omega)
          have db2 : decide (j < j) = false := decide_eq_false (by omega)
          have HT2 := Lib.hid (show ∀ (p q : Nat) (hp : p < l.length) (hq : q < p), p < j + 1 → l[p].1 ≠ (l[q]'(by omega)).1 by
            intro p q hp hq hpk
            by_cases e : p = j
            · subst e
              exact HU.out q hq hq
            · exact HT.out p q hp hq (by omega))
          go_wp2
          go_roundw
          case rel => exact ⟨j + 1, by omega, by simp, HB2, HT2⟩
          case measure => simp [intOf]; omega
    · have da : decide ((k : Int) < (n : Int)) = false := decide_eq_false (by omega)
      have da2 : decide (k < n) = false := decide_eq_false (by omega)
      have E := Lib.hid (show twiceB l = false by
        refine twice_no ?_
        rintro ⟨i, j, hi, hj, e⟩
        exact HT.out i j hi hj (by have := HN.out; omega) e)
      go_wp2
      go_ret
      exact ⟨congrArg (fun x => Ending.returned (.bool x)) E.out.symm, HB.out⟩
end Go.Proofs.YtiolghcjndoigaaGreatDoor
namespace Go.Proofs.YtiolghcjndoigaaGreatDoor
set_option linter.unusedVariables false
set_option linter.unusedSimpArgs false
open Go.RowKit Go.PlainAid
theorem nameB_of {bs : List Nat} (hB : IsB bs) : nameB (strOf bs) = (decide (bs ≠ []) && decide (nmL bs = bs.length)) := by
  have e : bytesOf (strOf bs) = bs := bytesOf_strOf bs hB
  unfold nameB
  rw [e]
set_option maxHeartbeats 4000000 in
theorem rname_bs (bs : List Nat) (hB : IsB bs) (w : World) : Calls Tryz.prog 37 #[.string (strOf bs)] w fun e w' => e = .returned (.bool (nameB (strOf bs))) ∧ w' = w := by
  have hsz := strOf_size bs
  have hbt := get_bt (strOf bs)
  have HS := Lib.hid (strOf_bt bs hB)
  have HE := Lib.hid (nameB_of hB)
  have HSM := Lib.hid (fun h => nameB_size (s := strOf bs) h)
  obtain ⟨R, hR⟩ : ∃ R, nameB (strOf bs) = R := ⟨_, rfl⟩
  rw [hR] at HE HSM ⊢
  obtain ⟨L, hL⟩ : ∃ L, bs.length = L := ⟨_, rfl⟩
  rw [hL] at hsz HE
  have HL := Lib.hid hL
  have HB := Lib.hid hB
  rw [hsz] at HSM
  clear hL hB hR
  by_cases h0 : L < 1
  · have E := Lib.hid (show R = false by
      cases R with
      | false => rfl
      | true => have := HSM.out rfl; omega)
    have da : decide ((L : Int) < 1) = true := decide_eq_true (by omega)
    have da2 : decide (L < 1) = true := decide_eq_true (by omega)
    have da3 : decide (L = 0) = true := decide_eq_true (by omega)
    go_enter Tryz.func37, Tryz.ntmps37
    go_wp2
    go_ret
    exact ⟨congrArg (fun x => Ending.returned (.bool x)) E.out.symm, rfl⟩
  have ea : decide ((L : Int) < 1) = false := decide_eq_false (by omega)
  have ea2 : decide (L < 1) = false := decide_eq_false (by omega)
  have ea3 : decide (L = 0) = false := decide_eq_false (by omega)
  by_cases h1 : 1024 < L
  · have E := Lib.hid (show R = false by
      cases R with
      | false => rfl
      | true => have := HSM.out rfl; omega)
    have da : decide ((L : Int) > 1024) = true := decide_eq_true (by omega)
    have da2 : decide (1024 < (L : Int)) = true := decide_eq_true (by omega)
    have da3 : decide (1024 < L) = true := decide_eq_true (by omega)
    go_enter Tryz.func37, Tryz.ntmps37
    go_wp2
    go_ret
    exact ⟨congrArg (fun x => Ending.returned (.bool x)) E.out.symm, rfl⟩
  have eb : decide ((L : Int) > 1024) = false := decide_eq_false (by omega)
  have eb2 : decide (1024 < (L : Int)) = false := decide_eq_false (by omega)
  have eb3 : decide (1024 < L) = false := decide_eq_false (by omega)
  go_enter Tryz.func37, Tryz.ntmps37
  go_wp2
  go_loopw [3] (fun i wr => ∃ (k : Nat), k ≤ L ∧ i = .int .i64 k ∧ wr = w ∧ Hid (nmL bs = nmA (bs.drop k) k)) (fun i _ => (L - (intOf i).toNat))
  case atStart => exact ⟨0, by omega, rfl, rfl, Lib.hid rfl⟩
  case round =>
    obtain ⟨k, hk, rfl, rfl, HN⟩ := hrel
    by_cases hkL : k < L
    · have da : decide ((k : Int) < (L : Int)) = true := decide_eq_true (by omega)
      have da2 : decide (k < L) = true := decide_eq_true hkL
      have hkb := HS.out k (by rw [HL.out]; exact hkL)
      have hc256 := HB.out.at k (by rw [HL.out]; exact hkL)
      obtain ⟨c, hc⟩ : ∃ c, bs[k]'(by rw [HL.out]; exact hkL) = c := ⟨_, rfl⟩
      have HD := Lib.hid (show bs.drop k = c :: bs.drop (k + 1) by rw [← hc]; exact List.drop_eq_getElem_cons (by rw [HL.out]; exact hkL))
      rw [hc] at hkb hc256
      clear hc
      have HY := Lib.hid (fun (hp : placeB c k = true) => (show nmL bs = nmA (bs.drop (k + 1)) (k + 1) by rw [HN.out, HD.out, nmA, if_pos hp]))
      have HZ := Lib.hid (fun (hp : placeB c k = false) => (show R = false by
        have h2 : nmL bs = k := by rw [HN.out, HD.out, nmA, if_neg (by rw [hp]; simp)]
        rw [HE.out, h2, decide_eq_false (show ¬ k = L by omega), Bool.and_false]))
      by_cases h0 : c ≤ 47
      · have t97 : decide ((97 : Int) ≤ (c : Int)) = false := decide_eq_false (by omega)
        have s97 : decide (97 ≤ c) = false := decide_eq_false (by omega)
        have r97 : decide ((c : Int) ≥ 97) = false := decide_eq_false (by omega)
        have t65 : decide ((65 : Int) ≤ (c : Int)) = false := decide_eq_false (by omega)
        have s65 : decide (65 ≤ c) = false := decide_eq_false (by omega)
        have r65 : decide ((c : Int) ≥ 65) = false := decide_eq_false (by omega)
        have t122 : decide ((c : Int) ≤ (122 : Int)) = true := decide_eq_true (by omega)
        have s122 : decide (c ≤ 122) = true := decide_eq_true (by omega)
        have t90 : decide ((c : Int) ≤ (90 : Int)) = true := decide_eq_true (by omega)
        have s90 : decide (c ≤ 90) = true := decide_eq_true (by omega)
        have t95 : ((c : Int) == 95) = false := by simp; omega
        have t48 : decide ((c : Int) < (48 : Int)) = true := decide_eq_true (by omega)
        have s48 : decide (c < 48) = true := decide_eq_true (by omega)
        have t57 : decide ((c : Int) > (57 : Int)) = false := decide_eq_false (by omega)
        have s57 : decide ((57 : Int) < (c : Int)) = false := decide_eq_false (by omega)
        have r57 : decide (57 < c) = false := decide_eq_false (by omega)
        have hp : placeB c k = false := by unfold placeB letterB digB; simp; omega
        by_cases hk0 : k = 0
        · subst hk0
          have l0 : 0 < L := hkL
          have l1 : (0 : Int) < (L : Int) := by omega
          have E := Lib.hid (HZ.out hp)
          clear hp
          go_wp2_with fail
          go_ret
          exact ⟨congrArg (fun x => Ending.returned (.bool x)) E.out.symm, rfl⟩
        · have z1 : ((k : Int) == 0) = false := by simp; omega
          have z2 : ¬ ((k : Int) = 0) := by omega
          have E := Lib.hid (HZ.out hp)
          clear hp
          go_wp2_with fail
          go_ret
          exact ⟨congrArg (fun x => Ending.returned (.bool x)) E.out.symm, rfl⟩
      by_cases h1 : c ≤ 57
      · have t97 : decide ((97 : Int) ≤ (c : Int)) = false := decide_eq_false (by omega)
        have s97 : decide (97 ≤ c) = false := decide_eq_false (by omega)
        have r97 : decide ((c : Int) ≥ 97) = false := decide_eq_false (by omega)
        have t65 : decide ((65 : Int) ≤ (c : Int)) = false := decide_eq_false (by omega)
        have s65 : decide (65 ≤ c) = false := decide_eq_false (by omega)
        have r65 : decide ((c : Int) ≥ 65) = false := decide_eq_false (by omega)
        have t122 : decide ((c : Int) ≤ (122 : Int)) = true := decide_eq_true (by omega)
        have s122 : decide (c ≤ 122) = true := decide_eq_true (by omega)
        have t90 : decide ((c : Int) ≤ (90 : Int)) = true := decide_eq_true (by omega)
        have s90 : decide (c ≤ 90) = true := decide_eq_true (by omega)
        have t95 : ((c : Int) == 95) = false := by simp; omega
        have t48 : decide ((c : Int) < (48 : Int)) = false := decide_eq_false (by omega)
        have s48 : decide (c < 48) = false := decide_eq_false (by omega)
        have t57 : decide ((c : Int) > (57 : Int)) = false := decide_eq_false (by omega)
        have s57 : decide ((57 : Int) < (c : Int)) = false := decide_eq_false (by omega)
        have r57 : decide (57 < c) = false := decide_eq_false (by omega)
        by_cases hk0 : k = 0
        · have hp : placeB c k = false := by unfold placeB letterB digB; simp; omega
          subst hk0
          have l0 : 0 < L := hkL
          have l1 : (0 : Int) < (L : Int) := by omega
          have E := Lib.hid (HZ.out hp)
          clear hp
          go_wp2_with fail
          go_ret
          exact ⟨congrArg (fun x => Ending.returned (.bool x)) E.out.symm, rfl⟩
        · have hp : placeB c k = true := by unfold placeB letterB digB; simp; omega
          have z1 : ((k : Int) == 0) = false := by simp; omega
          have z2 : ¬ ((k : Int) = 0) := by omega
          have HN2 := Lib.hid (HY.out hp)
          clear hp
          go_wp2_with fail
          go_roundw
          case rel => exact ⟨k + 1, by omega, by simp, trivial, HN2⟩
          case measure => simp [intOf]; omega
      by_cases h2 : c ≤ 64
      · have t97 : decide ((97 : Int) ≤ (c : Int)) = false := decide_eq_false (by omega)
        have s97 : decide (97 ≤ c) = false := decide_eq_false (by omega)
        have r97 : decide ((c : Int) ≥ 97) = false := decide_eq_false (by omega)
        have t65 : decide ((65 : Int) ≤ (c : Int)) = false := decide_eq_false (by omega)
        have s65 : decide (65 ≤ c) = false := decide_eq_false (by omega)
        have r65 : decide ((c : Int) ≥ 65) = false := decide_eq_false (by omega)
        have t122 : decide ((c : Int) ≤ (122 : Int)) = true := decide_eq_true (by omega)
        have s122 : decide (c ≤ 122) = true := decide_eq_true (by omega)
        have t90 : decide ((c : Int) ≤ (90 : Int)) = true := decide_eq_true (by omega)
        have s90 : decide (c ≤ 90) = true := decide_eq_true (by omega)
        have t95 : ((c : Int) == 95) = false := by simp; omega
        have t48 : decide ((c : Int) < (48 : Int)) = false := decide_eq_false (by omega)
        have s48 : decide (c < 48) = false := decide_eq_false (by omega)
        have t57 : decide ((c : Int) > (57 : Int)) = true := decide_eq_true (by omega)
        have s57 : decide ((57 : Int) < (c : Int)) = true := decide_eq_true (by omega)
        have r57 : decide (57 < c) = true := decide_eq_true (by omega)
        have hp : placeB c k = false := by unfold placeB letterB digB; simp; omega
        by_cases hk0 : k = 0
        · subst hk0
          have l0 : 0 < L := hkL
          have l1 : (0 : Int) < (L : Int) := by omega
          have E := Lib.hid (HZ.out hp)
          clear hp
          go_wp2_with fail
          go_ret
          exact ⟨congrArg (fun x => Ending.returned (.bool x)) E.out.symm, rfl⟩
        · have z1 : ((k : Int) == 0) = false := by simp; omega
          have z2 : ¬ ((k : Int) = 0) := by omega
          have E := Lib.hid (HZ.out hp)
          clear hp
          go_wp2_with fail
          go_ret
          exact ⟨congrArg (fun x => Ending.returned (.bool x)) E.out.symm, rfl⟩
      by_cases h3 : c ≤ 90
      · have t97 : decide ((97 : Int) ≤ (c : Int)) = false := decide_eq_false (by omega)
        have s97 : decide (97 ≤ c) = false := decide_eq_false (by omega)
        have r97 : decide ((c : Int) ≥ 97) = false := decide_eq_false (by omega)
        have t65 : decide ((65 : Int) ≤ (c : Int)) = true := decide_eq_true (by omega)
        have s65 : decide (65 ≤ c) = true := decide_eq_true (by omega)
        have r65 : decide ((c : Int) ≥ 65) = true := decide_eq_true (by omega)
        have t122 : decide ((c : Int) ≤ (122 : Int)) = true := decide_eq_true (by omega)
        have s122 : decide (c ≤ 122) = true := decide_eq_true (by omega)
        have t90 : decide ((c : Int) ≤ (90 : Int)) = true := decide_eq_true (by omega)
        have s90 : decide (c ≤ 90) = true := decide_eq_true (by omega)
        have t95 : ((c : Int) == 95) = false := by simp; omega
        have t48 : decide ((c : Int) < (48 : Int)) = false := decide_eq_false (by omega)
        have s48 : decide (c < 48) = false := decide_eq_false (by omega)
        have t57 : decide ((c : Int) > (57 : Int)) = true := decide_eq_true (by omega)
        have s57 : decide ((57 : Int) < (c : Int)) = true := decide_eq_true (by omega)
        have r57 : decide (57 < c) = true := decide_eq_true (by omega)
        have hp : placeB c k = true := by unfold placeB letterB digB; simp; omega
        have HN2 := Lib.hid (HY.out hp)
        clear hp
        go_wp2_with fail
        go_roundw
        case rel => exact ⟨k + 1, by omega, by simp, trivial, HN2⟩
        case measure => simp [intOf]; omega
      by_cases h4 : c ≤ 94
      · have t97 : decide ((97 : Int) ≤ (c : Int)) = false := decide_eq_false (by omega)
        have s97 : decide (97 ≤ c) = false := decide_eq_false (by omega)
        have r97 : decide ((c : Int) ≥ 97) = false := decide_eq_false (by omega)
        have t65 : decide ((65 : Int) ≤ (c : Int)) = true := decide_eq_true (by omega)
        have s65 : decide (65 ≤ c) = true := decide_eq_true (by omega)
        have r65 : decide ((c : Int) ≥ 65) = true := decide_eq_true (by omega)
        have t122 : decide ((c : Int) ≤ (122 : Int)) = true := decide_eq_true (by omega)
        have s122 : decide (c ≤ 122) = true := decide_eq_true (by omega)
        have t90 : decide ((c : Int) ≤ (90 : Int)) = false := decide_eq_false (by omega)
        have s90 : decide (c ≤ 90) = false := decide_eq_false (by omega)
        have t95 : ((c : Int) == 95) = false := by simp; omega
        have t48 : decide ((c : Int) < (48 : Int)) = false := decide_eq_false (by omega)
        have s48 : decide (c < 48) = false := decide_eq_false (by omega)
        have t57 : decide ((c : Int) > (57 : Int)) = true := decide_eq_true (by omega)
        have s57 : decide ((57 : Int) < (c : Int)) = true := decide_eq_true (by omega)
        have r57 : decide (57 < c) = true := decide_eq_true (by omega)
        have hp : placeB c k = false := by unfold placeB letterB digB; simp; omega
        by_cases hk0 : k = 0
        · subst hk0
          have l0 : 0 < L := hkL
          have l1 : (0 : Int) < (L : Int) := by omega
          have E := Lib.hid (HZ.out hp)
          clear hp
          go_wp2_with fail
          go_ret
          exact ⟨congrArg (fun x => Ending.returned (.bool x)) E.out.symm, rfl⟩
        · have z1 : ((k : Int) == 0) = false := by simp; omega
          have z2 : ¬ ((k : Int) = 0) := by omega
          have E := Lib.hid (HZ.out hp)
          clear hp
          go_wp2_with fail
          go_ret
          exact ⟨congrArg (fun x => Ending.returned (.bool x)) E.out.symm, rfl⟩
      by_cases h5 : c ≤ 95
      · have t97 : decide ((97 : Int) ≤ (c : Int)) = false := decide_eq_false (by omega)
        have s97 : decide (97 ≤ c) = false := decide_eq_false (by omega)
        have r97 : decide ((c : Int) ≥ 97) = false := decide_eq_false (by omega)
        have t65 : decide ((65 : Int) ≤ (c : Int)) = true := decide_eq_true (by omega)
        have s65 : decide (65 ≤ c) = true := decide_eq_true (by omega)
        have r65 : decide ((c : Int) ≥ 65) = true := decide_eq_true (by omega)
        have t122 : decide ((c : Int) ≤ (122 : Int)) = true := decide_eq_true (by omega)
        have s122 : decide (c ≤ 122) = true := decide_eq_true (by omega)
        have t90 : decide ((c : Int) ≤ (90 : Int)) = false := decide_eq_false (by omega)
        have s90 : decide (c ≤ 90) = false := decide_eq_false (by omega)
        have t95 : ((c : Int) == 95) = true := by simp; omega
        have t48 : decide ((c : Int) < (48 : Int)) = false := decide_eq_false (by omega)
        have s48 : decide (c < 48) = false := decide_eq_false (by omega)
        have t57 : decide ((c : Int) > (57 : Int)) = true := decide_eq_true (by omega)
        have s57 : decide ((57 : Int) < (c : Int)) = true := decide_eq_true (by omega)
        have r57 : decide (57 < c) = true := decide_eq_true (by omega)
        have hp : placeB c k = true := by unfold placeB letterB digB; simp; omega
        have HN2 := Lib.hid (HY.out hp)
        clear hp
        go_wp2_with fail
        go_roundw
        case rel => exact ⟨k + 1, by omega, by simp, trivial, HN2⟩
        case measure => simp [intOf]; omega
      by_cases h6 : c ≤ 96
      · have t97 : decide ((97 : Int) ≤ (c : Int)) = false := decide_eq_false (by omega)
        have s97 : decide (97 ≤ c) = false := decide_eq_false (by omega)
        have r97 : decide ((c : Int) ≥ 97) = false := decide_eq_false (by omega)
        have t65 : decide ((65 : Int) ≤ (c : Int)) = true := decide_eq_true (by omega)
        have s65 : decide (65 ≤ c) = true := decide_eq_true (by omega)
        have r65 : decide ((c : Int) ≥ 65) = true := decide_eq_true (by omega)
        have t122 : decide ((c : Int) ≤ (122 : Int)) = true := decide_eq_true (by omega)
        have s122 : decide (c ≤ 122) = true := decide_eq_true (by omega)
        have t90 : decide ((c : Int) ≤ (90 : Int)) = false := decide_eq_false (by omega)
        have s90 : decide (c ≤ 90) = false := decide_eq_false (by omega)
        have t95 : ((c : Int) == 95) = false := by simp; omega
        have t48 : decide ((c : Int) < (48 : Int)) = false := decide_eq_false (by omega)
        have s48 : decide (c < 48) = false := decide_eq_false (by omega)
        have t57 : decide ((c : Int) > (57 : Int)) = true := decide_eq_true (by omega)
        have s57 : decide ((57 : Int) < (c : Int)) = true := decide_eq_true (by omega)
        have r57 : decide (57 < c) = true := decide_eq_true (by omega)
        have hp : placeB c k = false := by unfold placeB letterB digB; simp; omega
        by_cases hk0 : k = 0
        · subst hk0
          have l0 : 0 < L := hkL
          have l1 : (0 : Int) < (L : Int) := by omega
          have E := Lib.hid (HZ.out hp)
          clear hp
          go_wp2_with fail
          go_ret
          exact ⟨congrArg (fun x => Ending.returned (.bool x)) E.out.symm, rfl⟩
        · have z1 : ((k : Int) == 0) = false := by simp; omega
          have z2 : ¬ ((k : Int) = 0) := by omega
          have E := Lib.hid (HZ.out hp)
          clear hp
          go_wp2_with fail
          go_ret
          exact ⟨congrArg (fun x => Ending.returned (.bool x)) E.out.symm, rfl⟩
      by_cases h7 : c ≤ 122
      · have t97 : decide ((97 : Int) ≤ (c : Int)) = true := decide_eq_true (by omega)
        have s97 : decide (97 ≤ c) = true := decide_eq_true (by omega)
        have r97 : decide ((c : Int) ≥ 97) = true := decide_eq_true (by omega)
        have t65 : decide ((65 : Int) ≤ (c : Int)) = true := decide_eq_true (by omega)
        have s65 : decide (65 ≤ c) = true := decide_eq_true (by omega)
        have r65 : decide ((c : Int) ≥ 65) = true := decide_eq_true (by omega)
        have t122 : decide ((c : Int) ≤ (122 : Int)) = true := decide_eq_true (by omega)
        have s122 : decide (c ≤ 122) = true := decide_eq_true (by omega)
        have t90 : decide ((c : Int) ≤ (90 : Int)) = false := decide_eq_false (by omega)
        have s90 : decide (c ≤ 90) = false := decide_eq_false (by omega)
        have t95 : ((c : Int) == 95) = false := by simp; omega
        have t48 : decide ((c : Int) < (48 : Int)) = false := decide_eq_false (by omega)
        have s48 : decide (c < 48) = false := decide_eq_false (by omega)
        have t57 : decide ((c : Int) > (57 : Int)) = true := decide_eq_true (by omega)
        have s57 : decide ((57 : Int) < (c : Int)) = true := decide_eq_true (by omega)
        have r57 : decide (57 < c) = true := decide_eq_true (by omega)
        have hp : placeB c k = true := by unfold placeB letterB digB; simp; omega
        have HN2 := Lib.hid (HY.out hp)
        clear hp
        go_wp2_with fail
        go_roundw
        case rel => exact ⟨k + 1, by omega, by simp, trivial, HN2⟩
        case measure => simp [intOf]; omega
      have t97 : decide ((97 : Int) ≤ (c : Int)) = true := decide_eq_true (by omega)
      have s97 : decide (97 ≤ c) = true := decide_eq_true (by omega)
      have r97 : decide ((c : Int) ≥ 97) = true := decide_eq_true (by omega)
      have t65 : decide ((65 : Int) ≤ (c : Int)) = true := decide_eq_true (by omega)
      have s65 : decide (65 ≤ c) = true := decide_eq_true (by omega)
      have r65 : decide ((c : Int) ≥ 65) = true := decide_eq_true (by omega)
      have t122 : decide ((c : Int) ≤ (122 : Int)) = false := decide_eq_false (by omega)
      have s122 : decide (c ≤ 122) = false := decide_eq_false (by omega)
      have t90 : decide ((c : Int) ≤ (90 : Int)) = false := decide_eq_false (by omega)
      have s90 : decide (c ≤ 90) = false := decide_eq_false (by omega)
      have t95 : ((c : Int) == 95) = false := by simp; omega
      have t48 : decide ((c : Int) < (48 : Int)) = false := decide_eq_false (by omega)
      have s48 : decide (c < 48) = false := decide_eq_false (by omega)
      have t57 : decide ((c : Int) > (57 : Int)) = true := decide_eq_true (by omega)
      have s57 : decide ((57 : Int) < (c : Int)) = true := decide_eq_true (by omega)
      have r57 : decide (57 < c) = true := decide_eq_true (by omega)
      have hp : placeB c k = false := by unfold placeB letterB digB; simp; omega
      by_cases hk0 : k = 0
      · subst hk0
        have l0 : 0 < L := hkL
        have l1 : (0 : Int) < (L : Int) := by omega
        have E := Lib.hid (HZ.out hp)
        clear hp
        go_wp2_with fail
        go_ret
        exact ⟨congrArg (fun x => Ending.returned (.bool x)) E.out.symm, rfl⟩
      · have z1 : ((k : Int) == 0) = false := by simp; omega
        have z2 : ¬ ((k : Int) = 0) := by omega
        have E := Lib.hid (HZ.out hp)
        clear hp
        go_wp2_with fail
        go_ret
        exact ⟨congrArg (fun x => Ending.returned (.bool x)) E.out.symm, rfl⟩
    · have hkk : k = L := by omega
      subst hkk
      have da : decide ((k : Int) < (k : Int)) = false := decide_eq_false (by omega)
      have da2 : decide (k < k) = false := decide_eq_false (by omega)
      have E := Lib.hid (show R = true by
        have h2 : nmL bs = k := by rw [HN.out, List.drop_eq_nil_of_le (by rw [HL.out]; omega), nmA]
        have h3 : bs ≠ [] := by intro e; have := HL.out; rw [e] at this; simp at this; omega
        rw [HE.out, h2, decide_eq_true h3, decide_eq_true rfl]; rfl)
      go_wp2
      go_ret
      exact ⟨congrArg (fun x => Ending.returned (.bool x)) E.out.symm, rfl⟩
theorem rname_any (s : ByteArray) (w : World) : Calls Tryz.prog 37 #[.string s] w fun e w' => e = .returned (.bool (nameB s)) ∧ w' = w := by
  have h := rname_bs (bytesOf s) (isB_bytesOf s) w
  rw [strOf_bytesOf] at h
  exact h
end Go.Proofs.YtiolghcjndoigaaGreatDoor
namespace Go.Proofs.YtiolghcjndoigaaGreatDoor
set_option linter.unusedVariables false
set_option linter.unusedSimpArgs false
open Go.RowKit Go.PlainAid Go.Shelf
/-- what the chapter says of a list, by definition -/
def chkN (l : List Lm.Lb) : Nat :=
  if 64 < l.length then 72 else if (l.any badB || l.any emptyB) = true then 70 else if twiceB l = true then 71 else if risesB l = true then 0 else 70
theorem chk_same {l : List Lm.Lb} {c : Nat} (h : CheckIs l c) : c = chkN l := by
  unfold chkN
  rcases h with ⟨h1, h⟩ | ⟨h1, h2, h⟩ | ⟨h1, h2, h3⟩
  · rw [if_pos h1]; exact h
  · rw [if_neg (by omega), if_pos h2]; exact h
  · rw [if_neg (by omega), if_neg (by rw [h2]; simp)]
    rcases h3 with ⟨h4, h⟩ | ⟨h4, l', hp, hr, h5⟩
    · rw [twice_no (fun ht => (twice_iff l).1 ht (rises_nodup h4)), if_neg (by simp), if_pos h4]; exact h
    · rcases h5 with ⟨h6, h⟩ | ⟨h6, h⟩
      · rw [twice_no (fun ht => (twice_iff l).1 ht ((hp.map Prod.fst).nodup_iff.1 (rises_nodup h6))), if_neg (by simp), if_neg (by rw [h4]; simp)]; exact h
      · have ht : twiceB l = true := by
          refine twice_yes ((twice_iff l).2 fun hd => ?_)
          have := rises_strict hd hp hr
          rw [this] at h6
          cases h6
        rw [if_pos ht]; exact h
theorem chk_le (l : List Lm.Lb) : chkN l ≤ 72 := by unfold chkN; (repeat' split) <;> omega
set_option maxHeartbeats 2000000 in
theorem rcheck_any (a : Option Addr) (c : Nat) (l : List Lm.Lb) (w : World) (H : Labs w a l) (hz : l.length ≤ maxLen) : Calls Tryz.prog 20 #[.slice a l.length c] w (Gives w (.int .u16 ((chkN l : Nat) : Int))) := by
  have CT := Lib.hid (fun w H => rtwice_any a c l w H hz)
  have CN := Lib.hid rname_any
  have HL := Lib.hid H
  have HI := Lib.hid (risesB_iff l)
  have HK := Lib.hid (show chkN l = if 64 < l.length then 72 else if (l.any badB || l.any emptyB) = true then 70 else if twiceB l = true then 71 else if risesB l = true then 0 else 70 from rfl)
  obtain ⟨R, hR⟩ : ∃ R, chkN l = R := ⟨_, rfl⟩
  rw [hR] at HK ⊢
  obtain ⟨n, hn⟩ : ∃ n, l.length = n := ⟨_, rfl⟩
  have HN := Lib.hid hn
  have hz' : n ≤ 9223372036854775807 := by rw [← hn]; exact hz
  rw [hn] at HK CT ⊢
  clear H hz hn hR
  by_cases h64 : 64 < n
  · have E := Lib.hid (show R = 72 by rw [HK.out, if_pos h64])
    have d : decide ((n : Int) > 64) = true := decide_eq_true (by omega)
    have d2 : decide ((64 : Int) < (n : Int)) = true := decide_eq_true (by omega)
    have d3 : decide (64 < n) = true := decide_eq_true (by omega)
    go_enter Tryz.func20, Tryz.ntmps20
    go_wp2
    go_ret
    exact ⟨by rw [E.out]; rfl, Below.refl _ _⟩
  have d1 : decide ((n : Int) > 64) = false := decide_eq_false (by omega)
  have d2 : decide ((64 : Int) < (n : Int)) = false := decide_eq_false (by omega)
  have d3 : decide (64 < n) = false := decide_eq_false (by omega)
  have HK2 := Lib.hid (show R = if (l.any badB || l.any emptyB) = true then 70 else if twiceB l = true then 71 else if risesB l = true then 0 else 70 by rw [HK.out, if_neg h64])
  clear HK
  go_enter Tryz.func20, Tryz.ntmps20
  go_wp2
  go_loopw [3] (fun i wr => ∃ k : Nat, k ≤ n ∧ i = .int .i64 k ∧ Hid (Below w.heap.size w wr) ∧ Hid (∀ j (h : j < l.length), j < k → badB l[j] = false ∧ emptyB l[j] = false)) (fun i _ => (n - (intOf i).toNat))
  case atStart => exact ⟨0, by omega, rfl, Lib.hid (Below.refl _ _), Lib.hid (fun j h hj => by omega)⟩
  case round =>
    obtain ⟨k, hk1, rfl, HB, HT⟩ := hrel
    by_cases hkn : k < n
    · have da : decide ((k : Int) < (n : Int)) = true := decide_eq_true (by omega)
      have da2 : decide (k < n) = true := decide_eq_true hkn
      have hkl : k < l.length := by rw [HN.out]; exact hkn
      obtain ⟨b1, o1, rfl, hb1, hc1⟩ := (HL.out.below HB.out) (by intro e; rw [e] at hkl; simp at hkl)
      obtain ⟨p1, p2⟩ := hc1 k hkl
      obtain ⟨⟨x, y⟩, hx⟩ : ∃ x, l[k] = x := ⟨_, rfl⟩
      rw [hx] at p1 p2
      simp only at p1 p2
      have HIN := Lib.hid (show ((badB (x, y) = true ∨ emptyB (x, y) = true) → R = 70) by
        intro h
        have hm : (x, y) ∈ l := by rw [← hx]; exact List.getElem_mem hkl
        rw [HK2.out, if_pos]
        rw [Bool.or_eq_true]
        exact h.imp (fun h => List.any_eq_true.2 ⟨_, hm, h⟩) (fun h => List.any_eq_true.2 ⟨_, hm, h⟩))
      have HNX := Lib.hid (show badB (x, y) = false → emptyB (x, y) = false → ∀ j (h : j < l.length), j < k + 1 → badB l[j] = false ∧ emptyB l[j] = false by
        intro h1 h2 j hj hjk
        by_cases e : j = k
        · subst e
          rw [hx]; exact ⟨h1, h2⟩
        · exact HT.out j hj (by omega))
      have EB := Lib.hid (show badB (x, y) = (!nameB x || decide (1024 < y.size)) from rfl)
      have EE := Lib.hid (show emptyB (x, y) = decide (y = ⟨#[]⟩) from rfl)
      have C1 := Lib.hid (fun w => CN.out x w)
      clear hx hc1 HT hkl
      by_cases hnx : nameB x = true
      · rw [hnx] at C1
        by_cases hy : y = ⟨#[]⟩
        · have E := Lib.hid (HIN.out (.inr (by rw [EE.out, decide_eq_true hy])))
          have h2 : y.toList = [] := by rw [hy, ByteArray.toList_eq]
          have h3 : y.toList.isEmpty = true := by rw [h2]; rfl
          clear hy hnx
          go_wp2_with (go_at_call 37; refine (C1.out _).mono ?_; rintro e w' ⟨rfl, rfl⟩)
          go_ret
          exact ⟨by rw [E.out]; rfl, HB.out⟩
        · have h2 : ¬ y.toList = [] := fun e => hy ((toList_iff _ _).1 (by rw [e, ByteArray.toList_eq]))
          have h3 : y.toList.isEmpty = false := by cases hh : y.toList with
            | nil => exact absurd hh h2
            | cons => rfl
          by_cases hs : 1024 < y.size
          · have E := Lib.hid (HIN.out (.inl (by rw [EB.out, decide_eq_true hs, Bool.or_true])))
            have e1 : decide ((y.size : Int) > 1024) = true := decide_eq_true (by omega)
            have e2 : decide ((1024 : Int) < (y.size : Int)) = true := decide_eq_true (by omega)
            have e3 : decide (1024 < y.size) = true := decide_eq_true (by omega)
            clear hy hnx
            go_wp2_with (go_at_call 37; refine (C1.out _).mono ?_; rintro e w' ⟨rfl, rfl⟩)
            go_ret
            exact ⟨by rw [E.out]; rfl, HB.out⟩
          · have HT2 := Lib.hid (HNX.out (by rw [EB.out, hnx, decide_eq_false hs]; rfl) (by rw [EE.out, decide_eq_false hy]))
            have e1 : decide ((y.size : Int) > 1024) = false := decide_eq_false (by omega)
            have e2 : decide ((1024 : Int) < (y.size : Int)) = false := decide_eq_false (by omega)
            have e3 : decide (1024 < y.size) = false := decide_eq_false (by omega)
            clear hy hnx
            go_wp2_with (go_at_call 37; refine (C1.out _).mono ?_; rintro e w' ⟨rfl, rfl⟩)
            go_roundw
            case rel => exact ⟨k + 1, by omega, by simp, HB, HT2⟩
            case measure => simp [intOf]; omega
      · have hnx2 : nameB x = false := by simpa using hnx
        rw [hnx2] at C1
        have E := Lib.hid (HIN.out (.inl (by rw [EB.out, hnx2]; rfl)))
        clear hnx hnx2
        go_wp2_with (go_at_call 37; refine (C1.out _).mono ?_; rintro e w' ⟨rfl, rfl⟩)
        go_ret
        exact ⟨by rw [E.out]; rfl, HB.out⟩
    · have hkk : k = n := by omega
      subst hkk
      have da : decide ((k : Int) < (k : Int)) = false := decide_eq_false (by omega)
      have da2 : decide (k < k) = false := decide_eq_false (by omega)
      have HK3 := Lib.hid (show R = if twiceB l = true then 71 else if risesB l = true then 0 else 70 by
        have h1 : l.any badB = false := any_of (fun x hx => by
          obtain ⟨i, hi, rfl⟩ := List.getElem_of_mem hx
          exact (HT.out i hi (by have := HN.out; omega)).1)
        have h2 : l.any emptyB = false := any_of (fun x hx => by
          obtain ⟨i, hi, rfl⟩ := List.getElem_of_mem hx
          exact (HT.out i hi (by have := HN.out; omega)).2)
        rw [HK2.out, if_neg (by rw [h1, h2]; simp)])
      clear HT HK2
      obtain ⟨T, hT⟩ : ∃ T, twiceB l = T := ⟨_, rfl⟩
      rw [hT] at HK3 CT
      clear hT
      go_wp2_with fail
      refine (CT.out _ (HL.out.below HB.out)).mono ?_
      rintro e w2 ⟨rfl, hb⟩
      have HB2 := Lib.hid (HB.out.trans (hb.mono HB.out.size))
      clear hb
      cases T with
      | true =>
        have E := Lib.hid (show R = 71 by rw [HK3.out, if_pos rfl])
        go_wp2
        go_ret
        exact ⟨by rw [E.out]; rfl, HB2.out⟩
      | false =>
        have HK4 := Lib.hid (show R = if risesB l = true then 0 else 70 by rw [HK3.out, if_neg (by simp)])
        clear HK3
        go_wp2
        go_loopw [6] (fun i wr => ∃ j : Nat, (j + 1 ≤ k ∨ j = 0) ∧ i = .int .i64 ((j : Int) + 1) ∧ Hid (Below w.heap.size w wr) ∧ Hid (∀ i (h : i + 1 < l.length), i < j → Lm.strC l[i].1 l[i + 1].1 < 0)) (fun i _ => (k + 1 - (intOf i).toNat))
        case atStart => exact ⟨0, .inr rfl, rfl, HB2, Lib.hid (fun j h hj => by omega)⟩
        case round =>
          obtain ⟨j, hj1, rfl, HB3, HT⟩ := hrel
          by_cases hjk : j + 1 < k
          · have db : decide ((j : Int) + 1 < (k : Int)) = true := decide_eq_true (by omega)
            have db2 : decide (j + 1 < k) = true := decide_eq_true hjk
            have hkl : j + 1 < l.length := by rw [HN.out]; exact hjk
            obtain ⟨b1, o1, rfl, hb1, hc1⟩ := (HL.out.below HB3.out) (by intro e; rw [e] at hkl; simp at hkl)
            obtain ⟨p1, p2⟩ := hc1 j (by omega)
            obtain ⟨q1, q2⟩ := hc1 (j + 1) hkl
            obtain ⟨x, hx⟩ : ∃ x, l[j].1 = x := ⟨_, rfl⟩
            obtain ⟨y, hy⟩ : ∃ x, l[j + 1].1 = x := ⟨_, rfl⟩
            rw [hx] at p1
            rw [hy] at q1
            have hl := less_strC y x
            have hq : (y.toList == x.toList) = decide (y = x) := by
              have := toList_iff y x
              by_cases e : y = x
              · rw [decide_eq_true e, e]; simp
              · rw [decide_eq_false e]; simpa using fun h => e (this.1 h)
            have hs := Lm.strC_lin.same y x
            have ha := Lm.strC_lin.anti y x
            have hw1 : wrap64 ((j : Int) + 1 - 1) = (j : Int) := by rw [wrap64_small (by omega) (by omega)]; omega
            have hw2 : IntKind.i64.wrap ((j : Int) + 1 - 1) = (j : Int) := by rw [IntKind.wrap_i64]; omega
            have i0 : j < k := by omega
            have i1 : (j : Int) < (k : Int) := by omega
            by_cases hr : Lm.strC x y < 0
            · rw [decide_eq_false (by omega)] at hl
              rw [decide_eq_false (fun e => by have := hs.2 e; omega)] at hq
              have HT2 := Lib.hid (show ∀ i (h : i + 1 < l.length), i < j + 1 → Lm.strC l[i].1 l[i + 1].1 < 0 by
                intro i hi hik
                by_cases e : i = j
                · subst e
                  rw [hx, hy]; exact hr
                · exact HT.out i hi (by omega))
              clear hs ha hr hx hy hc1 p2 q2
              go_wp2_with (go_quiet (fail))
              go_roundw
              case rel => exact ⟨j + 1, by omega, by simp, Lib.hid (by have := HB3.out; exact ⟨this.os, this.tape, this.output, this.size, this.block⟩), HT2⟩
              case measure => simp [intOf]; omega
            · have E := Lib.hid (show R = 70 by
                have h0 : risesB l = false := by
                  cases hh : risesB l with
                  | false => rfl
                  | true =>
                    have := HI.out.1 hh j hkl
                    rw [hx, hy] at this
                    exact absurd this hr
                rw [HK4.out, h0, if_neg (by simp)])
              have hor : (Op.bytesLess y.toList x.toList || y.toList == x.toList) = true := by
                rw [hl, hq]
                by_cases e : Lm.strC y x < 0
                · rw [decide_eq_true e]; rfl
                · rw [decide_eq_true (hs.1 (by omega)), Bool.or_true]
              clear hs ha hr hx hy hc1 p2 q2 hl hq
              go_wp2_with (go_quiet (fail))
              go_ret
              exact ⟨by rw [E.out]; rfl, (by have := HB3.out; exact ⟨this.os, this.tape, this.output, this.size, this.block⟩)⟩
          · have db : decide ((j : Int) + 1 < (k : Int)) = false := decide_eq_false (by omega)
            have db2 : decide (j + 1 < k) = false := decide_eq_false (by omega)
            have E := Lib.hid (show R = 0 by
              have h0 : risesB l = true := HI.out.2 (fun i hi => HT.out i hi (by have := HN.out; omega))
              rw [HK4.out, h0, if_pos rfl])
            go_wp2
            go_ret
            exact ⟨by rw [E.out]; rfl, HB3.out⟩
end Go.Proofs.YtiolghcjndoigaaGreatDoor
namespace Go.Proofs.YtiolghcjndoigaaGreatDoor
set_option linter.unusedVariables false
set_option linter.unusedSimpArgs false
open Go.RowKit Go.PlainAid Go.Shelf
theorem toList_eqb (x y : ByteArray) : (x.toList == y.toList) = decide (x = y) := by
  have := toList_iff x y
  by_cases e : x = y
  · rw [decide_eq_true e, e]; simp
  · rw [decide_eq_false e]; simpa using fun h => e (this.1 h)
set_option maxHeartbeats 2000000 in
theorem rcmp_any (a1 a2 : Option Addr) (c1 c2 : Nat) (l m : List Lm.Lb) (w : World) (H1 : Labs w a1 l) (H2 : Labs w a2 m) (hz : l.length ≤ maxLen) : Calls Tryz.prog 21 #[.slice a1 l.length c1, .slice a2 m.length c2] w (Gives w (.int .i64 (Lm.labsC l m))) := by
  have HL := Lib.hid H1
  have HM := Lib.hid H2
  clear H1 H2
  obtain ⟨n, hn⟩ : ∃ n, l.length = n := ⟨_, rfl⟩
  obtain ⟨k2, hk2⟩ : ∃ n, m.length = n := ⟨_, rfl⟩
  have HN := Lib.hid hn
  have HK := Lib.hid hk2
  have hz' : n ≤ 9223372036854775807 := by rw [← hn]; exact hz
  rw [hn, hk2]
  clear hn hk2 hz
  go_enter Tryz.func21, Tryz.ntmps21
  go_wp2
  go_loopw [5] (fun i wr => ∃ k : Nat, k ≤ n ∧ k ≤ k2 ∧ i = .int .i64 k ∧ Hid (Below w.heap.size w wr) ∧ Hid (Lm.labsC l m = Lm.labsC (l.drop k) (m.drop k))) (fun i _ => (n - (intOf i).toNat))
  case atStart => exact ⟨0, Nat.zero_le _, Nat.zero_le _, rfl, Lib.hid (Below.refl _ _), Lib.hid rfl⟩
  case round =>
    obtain ⟨k, hk1, hk3, rfl, HB, HE⟩ := hrel
    have L1 := HL.out.below HB.out
    have L2 := HM.out.below HB.out
    by_cases hkn : k < n
    · have da : decide ((k : Int) < (n : Int)) = true := decide_eq_true (by omega)
      have da2 : decide (k < n) = true := decide_eq_true hkn
      have hkl : k < l.length := by rw [HN.out]; exact hkn
      obtain ⟨⟨x1, x2⟩, hx⟩ : ∃ x, l[k] = x := ⟨_, rfl⟩
      have dl : l.drop k = (x1, x2) :: l.drop (k + 1) := by rw [← hx]; exact List.drop_eq_getElem_cons hkl
      obtain ⟨b1, o1, rfl, hb1, hc1⟩ := L1 (by intro e; rw [e] at hkl; simp at hkl)
      obtain ⟨p1, p2⟩ := hc1 k hkl
      rw [hx] at p1 p2
      simp only at p1 p2
      by_cases hk2 : k < k2
      · have db : decide ((k : Int) < (k2 : Int)) = true := decide_eq_true (by omega)
        have db2 : decide (k < k2) = true := decide_eq_true hk2
        have hkm : k < m.length := by rw [HK.out]; exact hk2
        obtain ⟨⟨y1, y2⟩, hy⟩ : ∃ y, m[k] = y := ⟨_, rfl⟩
        have dm : m.drop k = (y1, y2) :: m.drop (k + 1) := by rw [← hy]; exact List.drop_eq_getElem_cons hkm
        obtain ⟨b2, o2, rfl, hb2, hc2⟩ := L2 (by intro e; rw [e] at hkm; simp at hkm)
        obtain ⟨q1, q2⟩ := hc2 k hkm
        rw [hy] at q1 q2
        simp only at q1 q2
        have E := Lib.hid (show Lm.labsC l m = if Lm.labC (x1, x2) (y1, y2) = 0 then Lm.labsC (l.drop (k + 1)) (m.drop (k + 1)) else Lm.labC (x1, x2) (y1, y2) by
          rw [HE.out, dl, dm]
          split
          · rename_i h; exact labsC_step h
          · rename_i h; exact labsC_stop h)
        have EC := Lib.hid (show Lm.labC (x1, x2) (y1, y2) = if Lm.strC x1 y1 = 0 then Lm.strC x2 y2 else Lm.strC x1 y1 from rfl)
        have f1 := less_strC x1 y1
        have f2 := less_strC x2 y2
        have g1 := toList_eqb x1 y1
        have s1 := Lm.strC_lin.same x1 y1
        have s2 := Lm.strC_lin.same x2 y2
        have lo1 := Lm.strC_lin.lo x1 y1
        have hi1 := Lm.strC_lin.hi x1 y1
        have lo2 := Lm.strC_lin.lo x2 y2
        have hi2 := Lm.strC_lin.hi x2 y2
        have i1 : (k : Int) < (n : Int) := by omega
        have i2 : (k : Int) < (k2 : Int) := by omega
        clear hx hy dl dm hc1 hc2 L1 L2
        have hne := fun W => neq94 (x1, x2) (y1, y2) W
        simp only at hne
        by_cases c1' : Lm.strC x1 y1 < 0
        · rw [decide_eq_true c1'] at f1
          have EX := Lib.hid (show Lm.labsC l m = -1 by rw [E.out, EC.out, if_neg (by omega), if_neg (by omega)]; omega)
          clear s1 s2 lo1 hi1 lo2 hi2 f2 hne c1'
          go_wp2_with (go_quiet (fail))
          go_ret
          exact ⟨congrArg (fun x => Ending.returned (.int .i64 x)) EX.out.symm, (by have := HB.out; exact ⟨this.os, this.tape, this.output, this.size, this.block⟩)⟩
        · rw [decide_eq_false c1'] at f1
          by_cases c2' : Lm.strC x1 y1 = 0
          · have e1 := s1.1 c2'
            subst e1
            have ga : x1.toList = x1.toList := rfl
            rw [decide_eq_true rfl] at g1
            by_cases c3' : Lm.strC x2 y2 < 0
            · rw [decide_eq_true c3'] at f2
              have EX := Lib.hid (show Lm.labsC l m = -1 by rw [E.out, EC.out, if_pos c2', if_neg (by omega)]; omega)
              clear s1 s2 lo1 hi1 lo2 hi2 hne c1' c2' c3'
              go_wp2_with (go_quiet (fail))
              go_ret
              exact ⟨congrArg (fun x => Ending.returned (.int .i64 x)) EX.out.symm, (by have := HB.out; exact ⟨this.os, this.tape, this.output, this.size, this.block⟩)⟩
            · rw [decide_eq_false c3'] at f2
              by_cases c4' : Lm.strC x2 y2 = 0
              · have e2 := s2.1 c4'
                subst e2
                have hd : (!decide ((x1, x2) = (x1, x2))) = false := by rw [decide_eq_true rfl]; rfl
                rw [hd] at hne
                have EX := Lib.hid (show Lm.labsC l m = Lm.labsC (l.drop (k + 1)) (m.drop (k + 1)) by rw [E.out, EC.out, if_pos c2', if_pos c4'])
                clear s1 s2 lo1 hi1 lo2 hi2 c1' c2' c3' c4' hd
                go_wp2_with (go_quiet (fail))
                go_roundw
                case rel => exact ⟨k + 1, by omega, by omega, by simp, Lib.hid (by have := HB.out; exact ⟨this.os, this.tape, this.output, this.size, this.block⟩), EX⟩
                case measure => simp [intOf]; omega
              · have hd : (!decide ((x1, x2) = (x1, y2))) = true := by rw [decide_eq_false (fun h => c4' (s2.2 (congrArg Prod.snd h)))]; rfl
                rw [hd] at hne
                have EX := Lib.hid (show Lm.labsC l m = 1 by rw [E.out, EC.out, if_pos c2', if_neg c4']; omega)
                clear s1 s2 lo1 hi1 lo2 hi2 c1' c2' c3' c4' hd
                go_wp2_with (go_quiet (fail))
                go_ret
                exact ⟨congrArg (fun x => Ending.returned (.int .i64 x)) EX.out.symm, (by have := HB.out; exact ⟨this.os, this.tape, this.output, this.size, this.block⟩)⟩
          · have hnx : ¬ x1 = y1 := fun h => c2' (s1.2 h)
            have ga : ¬ x1.toList = y1.toList := fun e => hnx ((toList_iff x1 y1).1 e)
            rw [decide_eq_false hnx] at g1
            have hd : (!decide ((x1, x2) = (y1, y2))) = true := by rw [decide_eq_false (fun h => hnx (congrArg Prod.fst h))]; rfl
            rw [hd] at hne
            have EX := Lib.hid (show Lm.labsC l m = 1 by rw [E.out, EC.out, if_neg c2', if_neg c2']; omega)
            clear s1 s2 lo1 hi1 lo2 hi2 c1' c2' f2 hnx hd
            go_wp2_with (go_quiet (fail))
            go_ret
            exact ⟨congrArg (fun x => Ending.returned (.int .i64 x)) EX.out.symm, (by have := HB.out; exact ⟨this.os, this.tape, this.output, this.size, this.block⟩)⟩
      · have hkk : k = k2 := by omega
        have db : decide ((k : Int) < (k2 : Int)) = false := decide_eq_false (by omega)
        have db2 : decide (k < k2) = false := decide_eq_false hk2
        have dm : m.drop k = [] := List.drop_eq_nil_of_le (by rw [HK.out]; omega)
        have E := Lib.hid (show Lm.labsC l m = 1 by rw [HE.out, dl, dm]; rfl)
        have dc : decide ((n : Int) < (k2 : Int)) = false := decide_eq_false (by omega)
        have dc2 : decide (n < k2) = false := decide_eq_false (by omega)
        have dd : decide ((n : Int) > (k2 : Int)) = true := decide_eq_true (by omega)
        have dd2 : decide ((k2 : Int) < (n : Int)) = true := decide_eq_true (by omega)
        have dd3 : decide (k2 < n) = true := decide_eq_true (by omega)
        clear hx dl dm hc1 L2
        go_wp2
        go_ret
        exact ⟨congrArg (fun x => Ending.returned (.int .i64 x)) E.out.symm, HB.out⟩
    · have hk : k = n := by omega
      subst hk
      have da : decide ((k : Int) < (k : Int)) = false := decide_eq_false (by omega)
      have da2 : decide (k < k) = false := decide_eq_false (by omega)
      have dl : l.drop k = [] := List.drop_eq_nil_of_le (by rw [HN.out]; omega)
      clear L1 L2
      by_cases hk2 : k < k2
      · have db : decide ((k : Int) < (k2 : Int)) = true := decide_eq_true (by omega)
        have db2 : decide (k < k2) = true := decide_eq_true hk2
        have hkm : k < m.length := by rw [HK.out]; exact hk2
        have E := Lib.hid (show Lm.labsC l m = -1 by
          rw [HE.out, dl, List.drop_eq_getElem_cons hkm]; rfl)
        clear dl
        go_wp2
        go_ret
        exact ⟨congrArg (fun x => Ending.returned (.int .i64 x)) E.out.symm, HB.out⟩
      · have hkk : k = k2 := by omega
        subst hkk
        have dd : decide ((k : Int) > (k : Int)) = false := decide_eq_false (by omega)
        have dm : m.drop k = [] := List.drop_eq_nil_of_le (by rw [HK.out]; omega)
        have E := Lib.hid (show Lm.labsC l m = 0 by rw [HE.out, dl, dm]; rfl)
        clear dl dm
        go_wp2
        go_ret
        exact ⟨congrArg (fun x => Ending.returned (.int .i64 x)) E.out.symm, HB.out⟩
end Go.Proofs.YtiolghcjndoigaaGreatDoor
namespace Go.Proofs.YtiolghcjndoigaaGreatDoor
set_option linter.unusedVariables false
set_option linter.unusedSimpArgs false
open Go.RowKit Go.PlainAid Go.Shelf
/-- a label at its place -/
def insL (x : Lm.Lb) : List Lm.Lb → List Lm.Lb
  | [] => [x]
  | y :: t => if Lm.strC y.1 x.1 ≤ 0 then y :: insL x t else x :: y :: t
theorem labs_drop (a : Option Addr) (n c k : Nat) (hk : k ≤ n) (hc : n ≤ c) :
    ∃ a', (∀ w, (Instr.slice 22 (.slice a n c) (some (.int .i64 ((k : Nat) : Int))) none none).run Tryz.prog w = .ok (.slice a' (n - k) (c - k)) w) ∧ (a = none → a' = none) ∧ (∀ ad, a = some ad → ∃ ad', a' = some ad') ∧ ∀ w (l : List Lm.Lb), l.length = n → Labs w a l → Labs w a' (l.drop k) := by
  refine ⟨if c = k then a else a.map (·.add (k * 2)), fun w => ?_, fun h => ?_, fun ad h => ?_, fun w l hl H hn => ?_⟩
  · rw [run_slice_l w 22 a n c (show Tryz.prog.underlying 22 = some (.slice (Tryz.prog.elem 22)) by kernel_rfl) .i64 (k : Int) (by omega) (by omega)]
    rw [show (sizeOf (Tryz.prog.elem 22)).run Tryz.prog w = .ok 2 w by kernel_rfl]
    rfl
  · subst h; split <;> rfl
  · subst h
    split
    · exact ⟨_, rfl⟩
    · exact ⟨_, rfl⟩
  · have h1 : k < l.length := by
      refine Decidable.by_contra fun h => hn (List.drop_eq_nil_of_le (by omega))
    obtain ⟨b, off, rfl, hlt, hcl⟩ := H (by intro e; rw [e] at h1; simp at h1)
    rw [if_neg (by omega)]
    refine ⟨b, off + k * 2, congrArg some (add_at b off (k * 2)), hlt, fun i hi => ?_⟩
    rw [List.length_drop] at hi
    have := hcl (k + i) (by omega)
    rw [List.getElem_drop, Nat.add_assoc, show k * 2 + i * 2 = (k + i) * 2 by omega]
    exact this
set_option maxRecDepth 100000 in
set_option maxHeartbeats 4000000 in
theorem rinto_some (ad : Addr) (c : Nat) (l : List Lm.Lb) (x : Lm.Lb) (w : World) (H : Labs w (some ad) l) (hz : l.length ≤ 100000) (hc : l.length ≤ c) :
    Calls Tryz.prog 57 #[.slice (some ad) l.length c, .agg #[.string x.1, .string x.2]] w fun e w' => ∃ v, e = .returned v ∧ OwnL w' w.heap.size v (insL x l) ∧ Below w.heap.size w w' := by
  obtain ⟨i0, hi, hz0, hz1, hz2⟩ := info_parts info94
  obtain ⟨x1, x2⟩ := x
  simp only
  have hA : Below w.heap.size w (w.alloc (.cells #[.string x1, .string x2] 94)) := (Below.refl _ w).alloc (Nat.le_refl _) _
  have HA := Lib.hid hA
  have HL := Lib.hid (H.below hA)
  have HX := Lib.hid (show (w.alloc (.cells #[.string x1, .string x2] 94)).cell? ⟨w.heap.size, 0, none⟩ = some (.string x1) ∧ (w.alloc (.cells #[.string x1, .string x2] 94)).cell? ⟨w.heap.size, 1, none⟩ = some (.string x2) from by
    rw [cell_of_row _ _ _ _ _ _ (heap_alloc_new w _), cell_of_row _ _ _ _ _ _ (heap_alloc_new w _)]
    exact ⟨rfl, rfl⟩)
  obtain ⟨w0, hw0⟩ : ∃ w0, w.alloc (.cells #[.string x1, .string x2] 94) = w0 := ⟨_, rfl⟩
  have hsz0 : w0.heap.size = w.heap.size + 1 := by rw [← hw0]; simp
  obtain ⟨n, hn⟩ : ∃ n, l.length = n := ⟨_, rfl⟩
  have HN := Lib.hid hn
  rw [hn] at hz hc ⊢
  rw [hw0] at HA HL HX
  clear H hn hA
  go_enter Tryz.func57, Tryz.ntmps57
  go_wp2
  clear hw0
  go_loopw [5, 6] (fun v i wr => ∃ k : Nat, k ≤ n ∧ i = .int .i64 (k : Nat) ∧ Hid (OwnL wr w0.heap.size v (l.take k)) ∧ Hid (Below w0.heap.size w0 wr) ∧ Hid (insL (x1, x2) l = l.take k ++ insL (x1, x2) (l.drop k))) (fun _ i _ => n - (intOf i).toNat)
  case atStart => exact ⟨0, Nat.zero_le _, rfl, Lib.hid (World.ownsRow_nil _ _ _ _), Lib.hid (Below.refl _ _), Lib.hid rfl⟩
  case round =>
    obtain ⟨k, hk, rfl, HO, HB, HE⟩ := hrel
    obtain ⟨av, cv, rfl⟩ := ownL_shape HO.out
    have hkt : (l.take k).length = k := by rw [List.length_take, HN.out]; omega
    have HKT := Lib.hid hkt
    rw [hkt] at HO ⊢
    clear hkt
    by_cases hkn : k < n
    · have da : decide ((k : Int) < (n : Int)) = true := decide_eq_true (by omega)
      have da2 : decide (k < n) = true := decide_eq_true hkn
      have i1 : (k : Int) < (n : Int) := by omega
      have hkl : k < l.length := by rw [HN.out]; exact hkn
      obtain ⟨b1, o1, had, hb1, hc1⟩ := (HL.out.below HB.out) (by intro e; rw [e] at hkl; simp at hkl)
      cases had
      obtain ⟨p1, p2⟩ := hc1 k hkl
      obtain ⟨⟨y1, y2⟩, hy⟩ : ∃ x, l[k] = x := ⟨_, rfl⟩
      rw [hy] at p1 p2
      simp only at p1 p2
      obtain ⟨z1, z2⟩ := HX.out
      have q1 := (HB.out.cell (p := ⟨w.heap.size, 0, none⟩) (by simp; omega)).trans z1
      have hl := less_strC y1 x1
      have hq := toList_eqb y1 x1
      have hs := Lm.strC_lin.same y1 x1
      have dk : l.drop k = (y1, y2) :: l.drop (k + 1) := by rw [← hy]; exact List.drop_eq_getElem_cons hkl
      have HP := Lib.hid (show ∀ wq, Below wr.heap.size wr wq → wq.cell? ⟨b1, o1 + k * 2, none⟩ = some (.string y1) ∧ wq.cell? ⟨b1, o1 + k * 2 + 1, none⟩ = some (.string y2) from fun wq hb => ⟨(hb.cell (p := ⟨b1, o1 + k * 2, none⟩) hb1).trans p1, (hb.cell (p := ⟨b1, o1 + k * 2 + 1, none⟩) hb1).trans p2⟩)
      clear z1 z2 hc1
      by_cases hr : Lm.strC y1 x1 ≤ 0
      · have hor : (Op.bytesLess y1.toList x1.toList || y1.toList == x1.toList) = true := by
          rw [hl, hq]
          by_cases e : Lm.strC y1 x1 < 0
          · rw [decide_eq_true e]; rfl
          · rw [decide_eq_true (hs.1 (by omega)), Bool.or_true]
        have HT := Lib.hid (show l.take (k + 1) = l.take k ++ [(y1, y2)] by rw [List.take_succ_eq_append_getElem hkl, hy])
        have HE2 := Lib.hid (show insL (x1, x2) l = l.take (k + 1) ++ insL (x1, x2) (l.drop (k + 1)) by
          rw [HE.out, dk, HT.out, insL, if_pos hr, List.append_assoc]; rfl)
        clear hl hq hs hy dk
        go_wp2_with fail
        go_quiet (fail)
        obtain ⟨w1, hw1⟩ : ∃ w1, wr.drewN nq = w1 := ⟨_, rfl⟩
        have BQ : Below wr.heap.size wr w1 := by rw [← hw1]; exact below_drewN (Below.refl _ _) _
        rw [hw1]
        clear hw1
        have B1 := Lib.hid (HB.out.trans (BQ.mono HB.out.size))
        have O1 := Lib.hid (HO.out.below BQ)
        have hw1s : w0.heap.size ≤ w1.heap.size := B1.out.size
        have HON1 : Hid (∀ o : Obj, (w1.alloc o).ownsRow w0.heap.size 94 2 (.slice av k cv) k ((l.take k).flatMap enc2)) := Lib.hid (fun o => by
          have h := O1.out.below ((Below.refl w1.heap.size w1).alloc (Nat.le_refl _) o)
          unfold OwnL at h
          rw [HKT.out] at h
          exact h)
        have HOB := Lib.hid (ownL_block O1.out)
        obtain ⟨m1, m2⟩ := HP.out w1 BQ
        clear BQ p1 p2 q1
        go_wp2_with (first
          | (at_builtin; refine wpList_append_own _ rfl (.tmp 21) (.tmp 26) 22 rfl w0.heap.size 94 i0 (.agg #[.string ⟨#[]⟩, .string ⟨#[]⟩]) 2 32 Tryz.underlying22 hi hz0 hz1 hz2 rfl (by decide) (.slice av k cv) k ((l.take k).flatMap enc2) rfl (HON1.out _) ⟨w1.heap.size, 0, none⟩ 1 1 (enc2 (y1, y2)) rfl rfl (two_new w1 (y1, y2)) (by simp [Value.oneCell', enc2]) (by unfold maxLen; omega) (by omega) (by simp; omega) ?_; intro v5 w5 hown5 hgr5 hne5
             have g1 : OwnL w5 w0.heap.size v5 (l.take k ++ [(y1, y2)]) := (by unfold OwnL; rw [List.length_append, List.flatMap_append, HKT.out]; simpa using hown5)
             have hbA : Below w1.heap.size w1 (w1.alloc (.cells #[.string y1, .string y2] 94)) := (Below.refl _ w1).alloc (Nat.le_refl _) _
             have B5 := Lib.hid ((B1.out.trans (hbA.mono hw1s)).grown hgr5 (by simp; omega) (fun j hj => HOB.out j hj))
             have O5 := Lib.hid g1
             obtain ⟨a5, c5, rfl⟩ := ownL_shape g1
             have hk5 : (l.take k ++ [(y1, y2)]).length = k + 1 := by rw [List.length_append, HKT.out]; rfl
             rw [hk5] at O5 ⊢
             clear hown5 hgr5 hne5 g1 hbA)
          | fail)
        go_roundw
        case rel => exact ⟨k + 1, by omega, by simp, Lib.hid (by rw [HT.out]; exact O5.out), B5, HE2⟩
        case measure => simp [intOf]; omega
      · rw [decide_eq_false (by omega)] at hl
        rw [decide_eq_false (fun e => by have := hs.2 e; omega)] at hq
        have HI := Lib.hid (show insL (x1, x2) l = (l.take k ++ [(x1, x2)]) ++ l.drop k by
          rw [HE.out, dk, insL, if_neg hr, List.append_assoc]; rfl)
        clear hs hy dk hr
        obtain ⟨a', hs, hn1, hn2, hld⟩ := labs_drop (some ⟨b1, o1, none⟩) n c k hk hc
        obtain ⟨ad', rfl⟩ := hn2 _ rfl
        have HLD := Lib.hid hld
        obtain ⟨m, hm⟩ : ∃ m, n - k = m := ⟨_, rfl⟩
        obtain ⟨cm, hcm⟩ : ∃ m, c - k = m := ⟨_, rfl⟩
        have HMM := Lib.hid hm
        have HDL := Lib.hid (show ((l.drop k).flatMap enc2).length = m * 2 by rw [flat2_len, List.length_drop, HN.out, hm])
        have hnk : m ≤ n := by omega
        rw [hm, hcm] at hs
        have hkc : k ≤ c := by omega
        clear hn1 hn2 hld hm hcm
        go_wp2_with fail
        go_quiet (fail)
        obtain ⟨w1, hw1⟩ : ∃ w1, wr.drewN nq = w1 := ⟨_, rfl⟩
        have BQ : Below wr.heap.size wr w1 := by rw [← hw1]; exact below_drewN (Below.refl _ _) _
        rw [hw1]
        clear hw1
        have B1 := Lib.hid (HB.out.trans (BQ.mono HB.out.size))
        have O1 := Lib.hid (HO.out.below BQ)
        have hw1s : w0.heap.size ≤ w1.heap.size := B1.out.size
        have HON1 : Hid (∀ o : Obj, (w1.alloc o).ownsRow w0.heap.size 94 2 (.slice av k cv) k ((l.take k).flatMap enc2)) := Lib.hid (fun o => by
          have h := O1.out.below ((Below.refl w1.heap.size w1).alloc (Nat.le_refl _) o)
          unfold OwnL at h
          rw [HKT.out] at h
          exact h)
        have HOB := Lib.hid (ownL_block O1.out)
        clear BQ
        obtain ⟨bx1, bx2⟩ := HX.out
        have by1 := (B1.out.cell (p := ⟨w.heap.size, 0, none⟩) (by simp; omega)).trans bx1
        have by2 := (B1.out.cell (p := ⟨w.heap.size, 1, none⟩) (by simp; omega)).trans bx2
        clear bx1 bx2
        go_wp2_with (first
          | (at_builtin; refine wpList_append_own _ rfl (.tmp 30) (.tmp 32) 22 rfl w0.heap.size 94 i0 (.agg #[.string ⟨#[]⟩, .string ⟨#[]⟩]) 2 32 Tryz.underlying22 hi hz0 hz1 hz2 rfl (by decide) (.slice av k cv) k ((l.take k).flatMap enc2) rfl (HON1.out _) ⟨w1.heap.size, 0, none⟩ 1 1 (enc2 (x1, x2)) rfl rfl (two_new w1 (x1, x2)) (by simp [Value.oneCell', enc2]) (by unfold maxLen; omega) (by omega) (by simp; omega) ?_; intro v5 w5 hown5 hgr5 hne5
             have g1 : OwnL w5 w0.heap.size v5 (l.take k ++ [(x1, x2)]) := (by unfold OwnL; rw [List.length_append, List.flatMap_append, HKT.out]; simpa using hown5)
             have hbA : Below w1.heap.size w1 (w1.alloc (.cells #[.string x1, .string x2] 94)) := (Below.refl _ w1).alloc (Nat.le_refl _) _
             have B5 := Lib.hid ((B1.out.trans (hbA.mono hw1s)).grown hgr5 (by simp; omega) (fun j hj => HOB.out j hj))
             obtain ⟨a5, c5, rfl⟩ := ownL_shape g1
             have hk5 : (l.take k ++ [(x1, x2)]).length = k + 1 := by rw [List.length_append, HKT.out]; rfl
             have HOB5 := Lib.hid (ownL_block g1)
             have HON5 : Hid (w5.ownsRow w0.heap.size 94 2 (.slice a5 (k + 1) c5) (k + 1) ((l.take k ++ [(x1, x2)]).flatMap enc2)) := Lib.hid (by have h := g1; unfold OwnL at h; rw [hk5] at h; exact h)
             have HLN := Lib.hid (labs_news (HLD.out w5 l HN.out (HL.out.below B5.out)))
             have hw5s : w0.heap.size ≤ w5.heap.size := B5.out.size
             rw [hk5] at HOB5 ⊢
             clear hown5 hgr5 hne5 g1 hbA by1 by2)
          | (at_builtin; refine wpList_append_own _ rfl (.tmp 34) (.tmp 37) 22 rfl w0.heap.size 94 i0 (.agg #[.string ⟨#[]⟩, .string ⟨#[]⟩]) 2 32 Tryz.underlying22 hi hz0 hz1 hz2 rfl (by decide) (.slice a5 (k + 1) c5) (k + 1) ((l.take k ++ [(x1, x2)]).flatMap enc2) rfl HON5.out ad' m cm ((l.drop k).flatMap enc2) rfl HDL.out HLN.out (enc2_one _) (by unfold maxLen; omega) (by omega) hw5s ?_; intro v6 w6 hown6 hgr6 hne6
             have hk6 : ((l.take k ++ [(x1, x2)]) ++ l.drop k).length = k + 1 + m := by rw [List.length_append, hk5, List.length_drop, HN.out, HMM.out]
             have g2 : OwnL w6 w0.heap.size v6 ((l.take k ++ [(x1, x2)]) ++ l.drop k) := (by unfold OwnL; rw [hk6, List.flatMap_append]; exact hown6)
             have O6 := Lib.hid g2
             have B6 := Lib.hid (B5.out.grown hgr6 hw5s (fun j hj => HOB5.out j hj))
             clear hown6 hgr6 hne6 g2)
          | fail)
        go_ret
        exact ⟨_, rfl, by rw [HI.out]; exact O6.out.lower (by omega), HA.out.trans (B6.out.mono (by omega))⟩
    · have hkn2 : k = n := by omega
      have da : decide ((k : Int) < (n : Int)) = false := decide_eq_false (by omega)
      have da2 : decide (k < n) = false := decide_eq_false hkn
      have HI := Lib.hid (show insL (x1, x2) l = (l.take k ++ [(x1, x2)]) ++ l.drop k by
        rw [HE.out, List.drop_eq_nil_of_le (by rw [HN.out]; omega), List.append_nil]; rfl)
      obtain ⟨a', hs, hn1, hn2, hld⟩ := labs_drop (some ad) n c k hk hc
      obtain ⟨ad', rfl⟩ := hn2 ad rfl
      have HLD := Lib.hid hld
      obtain ⟨m, hm⟩ : ∃ m, n - k = m := ⟨_, rfl⟩
      obtain ⟨cm, hcm⟩ : ∃ m, c - k = m := ⟨_, rfl⟩
      have HMM := Lib.hid hm
      have HDL := Lib.hid (show ((l.drop k).flatMap enc2).length = m * 2 by rw [flat2_len, List.length_drop, HN.out, hm])
      have hnk : m ≤ n := by omega
      rw [hm, hcm] at hs
      have hkc : k ≤ c := by omega
      clear hn1 hn2 hld hm hcm hkn2
      go_wp2_with fail
      go_quiet (fail)
      obtain ⟨w1, hw1⟩ : ∃ w1, wr.drewN nq = w1 := ⟨_, rfl⟩
      have BQ : Below wr.heap.size wr w1 := by rw [← hw1]; exact below_drewN (Below.refl _ _) _
      rw [hw1]
      clear hw1
      have B1 := Lib.hid (HB.out.trans (BQ.mono HB.out.size))
      have O1 := Lib.hid (HO.out.below BQ)
      have hw1s : w0.heap.size ≤ w1.heap.size := B1.out.size
      have HON1 : Hid (∀ o : Obj, (w1.alloc o).ownsRow w0.heap.size 94 2 (.slice av k cv) k ((l.take k).flatMap enc2)) := Lib.hid (fun o => by
        have h := O1.out.below ((Below.refl w1.heap.size w1).alloc (Nat.le_refl _) o)
        unfold OwnL at h
        rw [HKT.out] at h
        exact h)
      have HOB := Lib.hid (ownL_block O1.out)
      clear BQ
      obtain ⟨bx1, bx2⟩ := HX.out
      have by1 := (B1.out.cell (p := ⟨w.heap.size, 0, none⟩) (by simp; omega)).trans bx1
      have by2 := (B1.out.cell (p := ⟨w.heap.size, 1, none⟩) (by simp; omega)).trans bx2
      clear bx1 bx2
      go_wp2_with (first
        | (at_builtin; refine wpList_append_own _ rfl (.tmp 30) (.tmp 32) 22 rfl w0.heap.size 94 i0 (.agg #[.string ⟨#[]⟩, .string ⟨#[]⟩]) 2 32 Tryz.underlying22 hi hz0 hz1 hz2 rfl (by decide) (.slice av k cv) k ((l.take k).flatMap enc2) rfl (HON1.out _) ⟨w1.heap.size, 0, none⟩ 1 1 (enc2 (x1, x2)) rfl rfl (two_new w1 (x1, x2)) (by simp [Value.oneCell', enc2]) (by unfold maxLen; omega) (by omega) (by simp; omega) ?_; intro v5 w5 hown5 hgr5 hne5
           have g1 : OwnL w5 w0.heap.size v5 (l.take k ++ [(x1, x2)]) := (by unfold OwnL; rw [List.length_append, List.flatMap_append, HKT.out]; simpa using hown5)
           have hbA : Below w1.heap.size w1 (w1.alloc (.cells #[.string x1, .string x2] 94)) := (Below.refl _ w1).alloc (Nat.le_refl _) _
           have B5 := Lib.hid ((B1.out.trans (hbA.mono hw1s)).grown hgr5 (by simp; omega) (fun j hj => HOB.out j hj))
           obtain ⟨a5, c5, rfl⟩ := ownL_shape g1
           have hk5 : (l.take k ++ [(x1, x2)]).length = k + 1 := by rw [List.length_append, HKT.out]; rfl
           have HOB5 := Lib.hid (ownL_block g1)
           have HON5 : Hid (w5.ownsRow w0.heap.size 94 2 (.slice a5 (k + 1) c5) (k + 1) ((l.take k ++ [(x1, x2)]).flatMap enc2)) := Lib.hid (by have h := g1; unfold OwnL at h; rw [hk5] at h; exact h)
           have HLN := Lib.hid (labs_news (HLD.out w5 l HN.out (HL.out.below B5.out)))
           have hw5s : w0.heap.size ≤ w5.heap.size := B5.out.size
           rw [hk5] at HOB5 ⊢
           clear hown5 hgr5 hne5 g1 hbA by1 by2)
        | (at_builtin; refine wpList_append_own _ rfl (.tmp 34) (.tmp 37) 22 rfl w0.heap.size 94 i0 (.agg #[.string ⟨#[]⟩, .string ⟨#[]⟩]) 2 32 Tryz.underlying22 hi hz0 hz1 hz2 rfl (by decide) (.slice a5 (k + 1) c5) (k + 1) ((l.take k ++ [(x1, x2)]).flatMap enc2) rfl HON5.out ad' m cm ((l.drop k).flatMap enc2) rfl HDL.out HLN.out (enc2_one _) (by unfold maxLen; omega) (by omega) hw5s ?_; intro v6 w6 hown6 hgr6 hne6
           have hk6 : ((l.take k ++ [(x1, x2)]) ++ l.drop k).length = k + 1 + m := by rw [List.length_append, hk5, List.length_drop, HN.out, HMM.out]
           have g2 : OwnL w6 w0.heap.size v6 ((l.take k ++ [(x1, x2)]) ++ l.drop k) := (by unfold OwnL; rw [hk6, List.flatMap_append]; exact hown6)
           have O6 := Lib.hid g2
           have B6 := Lib.hid (B5.out.grown hgr6 hw5s (fun j hj => HOB5.out j hj))
           clear hown6 hgr6 hne6 g2)
        | fail)
      go_ret
      exact ⟨_, rfl, by rw [HI.out]; exact O6.out.lower (by omega), HA.out.trans (B6.out.mono (by omega))⟩
end Go.Proofs.YtiolghcjndoigaaGreatDoor
namespace Go.Proofs.YtiolghcjndoigaaGreatDoor
set_option linter.unusedVariables false
set_option linter.unusedSimpArgs false
open Go.RowKit Go.PlainAid Go.Shelf
set_option maxRecDepth 100000 in
set_option maxHeartbeats 2000000 in
theorem rinto_nil (x : Lm.Lb) (w : World) :
    Calls Tryz.prog 57 #[.slice none 0 0, .agg #[.string x.1, .string x.2]] w fun e w' => ∃ v, e = .returned v ∧ OwnL w' w.heap.size v [x] ∧ Below w.heap.size w w' := by
  obtain ⟨i0, hi, hz0, hz1, hz2⟩ := info_parts info94
  obtain ⟨a', hs, hn1, _, _⟩ := labs_drop none 0 0 0 (Nat.le_refl _) (Nat.le_refl _)
  rw [hn1 rfl] at hs
  have hs' : ∀ w, (Instr.slice 22 (.slice none 0 0) (some (.int .i64 0)) none none).run Tryz.prog w = .ok (.slice none 0 0) w := hs
  obtain ⟨x1, x2⟩ := x
  simp only
  have hA : Below w.heap.size w (w.alloc (.cells #[.string x1, .string x2] 94)) := (Below.refl _ w).alloc (Nat.le_refl _) _
  have HA := Lib.hid hA
  have HX := Lib.hid (show (w.alloc (.cells #[.string x1, .string x2] 94)).cell? ⟨w.heap.size, 0, none⟩ = some (.string x1) ∧ (w.alloc (.cells #[.string x1, .string x2] 94)).cell? ⟨w.heap.size, 1, none⟩ = some (.string x2) from by
    rw [cell_of_row _ _ _ _ _ _ (heap_alloc_new w _), cell_of_row _ _ _ _ _ _ (heap_alloc_new w _)]
    exact ⟨rfl, rfl⟩)
  obtain ⟨w0, hw0⟩ : ∃ w0, w.alloc (.cells #[.string x1, .string x2] 94) = w0 := ⟨_, rfl⟩
  have hsz0 : w0.heap.size = w.heap.size + 1 := by rw [← hw0]; simp
  rw [hw0] at HA HX
  clear hA hs hn1
  go_enter Tryz.func57, Tryz.ntmps57
  go_wp2
  clear hw0
  go_loopw [5, 6] (fun v i wr => v = .slice none 0 0 ∧ i = .int .i64 0 ∧ Hid (Below w0.heap.size w0 wr)) (fun _ i _ => 0)
  case atStart => exact ⟨rfl, rfl, Lib.hid (Below.refl _ _)⟩
  case round =>
    obtain ⟨rfl, rfl, HB⟩ := hrel
    go_wp2_with fail
    go_quiet (fail)
    obtain ⟨w1, hw1⟩ : ∃ w1, wr.drewN nq = w1 := ⟨_, rfl⟩
    have BQ : Below wr.heap.size wr w1 := by rw [← hw1]; exact below_drewN (Below.refl _ _) _
    rw [hw1]
    clear hw1
    have B1 := Lib.hid (HB.out.trans (BQ.mono HB.out.size))
    have hw1s : w0.heap.size ≤ w1.heap.size := B1.out.size
    clear BQ
    obtain ⟨bx1, bx2⟩ := HX.out
    have by1 := (B1.out.cell (p := ⟨w.heap.size, 0, none⟩) (by simp; omega)).trans bx1
    have by2 := (B1.out.cell (p := ⟨w.heap.size, 1, none⟩) (by simp; omega)).trans bx2
    clear bx1 bx2
    go_wp2_with (first
      | (at_builtin; refine wpList_append_own _ rfl (.tmp 30) (.tmp 32) 22 rfl w0.heap.size 94 i0 (.agg #[.string ⟨#[]⟩, .string ⟨#[]⟩]) 2 32 Tryz.underlying22 hi hz0 hz1 hz2 rfl (by decide) (.slice none 0 0) 0 [] rfl (World.ownsRow_nil _ _ _ _) ⟨w1.heap.size, 0, none⟩ 1 1 (enc2 (x1, x2)) rfl rfl (two_new w1 (x1, x2)) (by simp [Value.oneCell', enc2]) (by unfold maxLen; omega) (by omega) (by simp; omega) ?_; intro v5 w5 hown5 hgr5 hne5
         have g1 : OwnL w5 w0.heap.size v5 [(x1, x2)] := (by unfold OwnL; simpa using hown5)
         have hbA : Below w1.heap.size w1 (w1.alloc (.cells #[.string x1, .string x2] 94)) := (Below.refl _ w1).alloc (Nat.le_refl _) _
         have B5 := Lib.hid ((B1.out.trans (hbA.mono hw1s)).grown hgr5 (by simp; omega) (fun j hj => by cases hj))
         have O5 := Lib.hid g1
         obtain ⟨a5, c5, rfl⟩ := ownL_shape g1
         have HON5 : Hid (w5.ownsRow w0.heap.size 94 2 (.slice a5 1 c5) 1 (enc2 (x1, x2))) := Lib.hid (by have h := g1; unfold OwnL at h; simpa using h)
         clear hown5 hgr5 hne5 g1 hbA by1 by2)
      | (at_builtin; refine wpList_append_own_none rfl (.tmp 34) (.tmp 37) 22 rfl w0.heap.size 94 i0 2 Tryz.underlying22 hi (.slice a5 1 c5) 1 (enc2 (x1, x2)) rfl HON5.out rfl ?_)
      | fail)
    go_ret
    exact ⟨_, rfl, O5.out.lower (by omega), HA.out.trans (B5.out.mono (by omega))⟩
theorem rinto_any (a : Option Addr) (c : Nat) (l : List Lm.Lb) (x : Lm.Lb) (w : World) (base : Nat) (H : OwnL w base (.slice a l.length c) l) (hz : l.length ≤ 100000) :
    Calls Tryz.prog 57 #[.slice a l.length c, .agg #[.string x.1, .string x.2]] w fun e w' => ∃ v, e = .returned v ∧ OwnL w' w.heap.size v (insL x l) ∧ Below w.heap.size w w' := by
  obtain ⟨a', c', hv, hL, _⟩ := H.labs
  cases hv
  cases a with
  | none =>
    have hl : l = [] := by
      refine Decidable.by_contra fun hn => ?_
      obtain ⟨b, off, e, _⟩ := hL hn
      cases e
    subst hl
    have hc : c = 0 := by
      obtain ⟨_, h2⟩ := H
      rcases h2 with ⟨hv, _⟩ | ⟨g, cap, cur, hv, _⟩
      · cases hv; rfl
      · cases hv
    subst hc
    exact rinto_nil x w
  | some ad =>
    have hc : l.length ≤ c := by
      obtain ⟨_, h2⟩ := H
      rcases h2 with ⟨hv, _⟩ | ⟨g, cap, cur, hv, _, _, h3, _⟩
      · cases hv
      · cases hv; exact h3
    exact rinto_some ad c l x w hL hz hc
end Go.Proofs.YtiolghcjndoigaaGreatDoor
namespace Go.Proofs.YtiolghcjndoigaaGreatDoor
set_option linter.unusedVariables false
set_option linter.unusedSimpArgs false
open Go.RowKit Go.PlainAid Go.Shelf
theorem insL_perm (x : Lm.Lb) : ∀ s : List Lm.Lb, (insL x s).Perm (x :: s)
  | [] => List.Perm.refl _
  | y :: t => by
    unfold insL
    split
    · exact (List.Perm.cons y (insL_perm x t)).trans (List.Perm.swap x y t)
    · exact List.Perm.refl _
theorem insL_rises (x : Lm.Lb) : ∀ s : List Lm.Lb, Rises s → Rises (insL x s)
  | [], _ => List.pairwise_singleton _ _
  | y :: t, h => by
    obtain ⟨h1, h2⟩ := List.pairwise_cons.1 h
    unfold insL
    split
    · rename_i hy
      refine List.pairwise_cons.2 ⟨fun z hz => ?_, insL_rises x t h2⟩
      rcases List.mem_cons.1 ((insL_perm x t).subset hz) with rfl | hz
      · exact hy
      · exact h1 z hz
    · rename_i hy
      have hx : Lm.strC x.1 y.1 ≤ 0 := by have := Lm.strC_lin.anti x.1 y.1; omega
      refine List.pairwise_cons.2 ⟨fun z hz => ?_, h⟩
      rcases List.mem_cons.1 hz with rfl | hz
      · exact hx
      · exact Lm.strC_lin.trans _ _ _ hx (h1 z hz)
/-- the labels that have a value, each put at its place -/
def insAll (l : List Lm.Lb) : List Lm.Lb := (fullL l).foldl (fun s x => insL x s) []
theorem fold_ok : ∀ (l s : List Lm.Lb), Rises s → Rises (l.foldl (fun s x => insL x s) s) ∧ (l.foldl (fun s x => insL x s) s).Perm (l ++ s)
  | [], s, h => ⟨h, List.Perm.refl _⟩
  | x :: l, s, h => by
    obtain ⟨h1, h2⟩ := fold_ok l (insL x s) (insL_rises x s h)
    refine ⟨h1, h2.trans ?_⟩
    exact ((List.Perm.append_left l (insL_perm x s)).trans List.perm_middle)
theorem insAll_ok (l : List Lm.Lb) : Rises (insAll l) ∧ (insAll l).Perm (fullL l) := by
  have h := fold_ok (fullL l) [] List.Pairwise.nil
  rw [List.append_nil] at h
  exact h
theorem insAll_snoc (l : List Lm.Lb) (x : Lm.Lb) : insAll (l ++ [x]) = if emptyB x = true then insAll l else insL x (insAll l) := by
  unfold insAll fullL
  rw [List.filter_append, List.foldl_append]
  cases h : emptyB x with
  | true => simp [List.filter, h]
  | false => simp [List.filter, h]
/-- what the chapter says of a list that is to be a set, by definition -/
def SetN (l : List Lm.Lb) (c : Nat) (out : List Lm.Lb) : Prop :=
  if l.any badB = true then c = 70 ∧ out = [] else if twiceB l = true then c = 71 ∧ out = [] else if 64 < (insAll l).length then c = 72 ∧ out = [] else c = 0 ∧ out = insAll l
theorem setn_of {l out : List Lm.Lb} {c : Nat} (h : SetIs l c out) : SetN l c out := by
  unfold SetN
  rcases h with ⟨h1, h2⟩ | ⟨h1, l', hp, hr, h2⟩
  · rw [if_pos h1]; exact h2
  · rw [if_neg (by rw [h1]; simp)]
    rcases h2 with ⟨h3, h4⟩ | ⟨h3, h4⟩
    · have ht : twiceB l = true := by
        refine twice_yes ((twice_iff l).2 fun hd => ?_)
        have := rises_strict hd hp hr
        rw [this] at h3
        cases h3
      rw [if_pos ht]; exact h4
    · have hd : (l.map Prod.fst).Nodup := (hp.map Prod.fst).nodup_iff.1 (rises_nodup h3)
      rw [twice_no (fun ht => (twice_iff l).1 ht hd), if_neg (by simp)]
      obtain ⟨i1, i2⟩ := insAll_ok l
      have hdf : ((fullL l).map Prod.fst).Nodup := by
        unfold fullL
        exact hd.sublist ((List.filter_sublist).map _)
      have hpf : (fullL l').Perm (fullL l) := hp.filter _
      have hrf : Rises (fullL l') := List.Pairwise.filter _ hr
      have e : insAll l = fullL l' := rises_unique _ _ (i2.trans hpf.symm) (rises_strict hdf i2 i1) (rises_strict hdf hpf hrf)
      rw [e]
      rcases h4 with ⟨h5, h6⟩ | ⟨h5, h6⟩
      · rw [if_pos h5]; exact h6
      · rw [if_neg (by omega)]; exact h6
theorem setn_one {l o1 o2 : List Lm.Lb} {c1 c2 : Nat} (h : SetN l c1 o1) (k : SetN l c2 o2) : c1 = c2 ∧ o1 = o2 := by
  unfold SetN at h k
  split at h
  · rename_i hh; rw [if_pos hh] at k; exact ⟨by omega, by rw [h.2, k.2]⟩
  · rename_i hh
    rw [if_neg hh] at k
    split at h
    · rename_i hh; rw [if_pos hh] at k; exact ⟨by omega, by rw [h.2, k.2]⟩
    · rename_i hh
      rw [if_neg hh] at k
      split at h
      · rename_i hh; rw [if_pos hh] at k; exact ⟨by omega, by rw [h.2, k.2]⟩
      · rename_i hh; rw [if_neg hh] at k; exact ⟨by omega, by rw [h.2, k.2]⟩
def RSetPost (w : World) (l : List Lm.Lb) (e : Ending) (w' : World) : Prop := ∃ v c out, e = .returned (.tuple #[v, .int .u16 ((c : Nat) : Int)]) ∧ SetN l c out ∧ OwnL w' w.heap.size v out ∧ Below w.heap.size w w'
end Go.Proofs.YtiolghcjndoigaaGreatDoor
namespace Go.Proofs.YtiolghcjndoigaaGreatDoor
set_option linter.unusedVariables false
set_option linter.unusedSimpArgs false
open Go.RowKit Go.PlainAid Go.Shelf
set_option maxRecDepth 100000 in
set_option maxHeartbeats 4000000 in
theorem rset_any (a : Option Addr) (c : Nat) (l : List Lm.Lb) (w : World) (H : Labs w a l) (hz : l.length ≤ 100000) : Calls Tryz.prog 16 #[.slice a l.length c] w (RSetPost w l) := by
  have CT := Lib.hid (fun w H => rtwice_any a c l w H (by unfold maxLen; omega))
  have CN := Lib.hid rname_any
  have CI := Lib.hid rinto_any
  have HL := Lib.hid H
  obtain ⟨n, hn⟩ : ∃ n, l.length = n := ⟨_, rfl⟩
  have HN := Lib.hid hn
  rw [hn] at CT hz ⊢
  clear H hn
  go_enter Tryz.func16, Tryz.ntmps16
  go_wp2
  go_loopw [4] (fun i wr => ∃ k : Nat, k ≤ n ∧ i = .int .i64 k ∧ Hid (Below w.heap.size w wr) ∧ Hid (∀ j (h : j < l.length), j < k → badB l[j] = false)) (fun i _ => (n - (intOf i).toNat))
  case atStart => exact ⟨0, by omega, rfl, Lib.hid (Below.refl _ _), Lib.hid (fun j h hj => by omega)⟩
  case round =>
    obtain ⟨k, hk1, rfl, HB, HT⟩ := hrel
    by_cases hkn : k < n
    · have da : decide ((k : Int) < (n : Int)) = true := decide_eq_true (by omega)
      have da2 : decide (k < n) = true := decide_eq_true hkn
      have hkl : k < l.length := by rw [HN.out]; exact hkn
      obtain ⟨b1, o1, rfl, hb1, hc1⟩ := (HL.out.below HB.out) (by intro e; rw [e] at hkl; simp at hkl)
      obtain ⟨p1, p2⟩ := hc1 k hkl
      obtain ⟨⟨x, y⟩, hx⟩ : ∃ x, l[k] = x := ⟨_, rfl⟩
      rw [hx] at p1 p2
      simp only at p1 p2
      have HIN := Lib.hid (show badB (x, y) = true → SetN l 70 [] by
        intro h
        have hm : (x, y) ∈ l := by rw [← hx]; exact List.getElem_mem hkl
        unfold SetN
        rw [if_pos (List.any_eq_true.2 ⟨_, hm, h⟩)]
        exact ⟨rfl, rfl⟩)
      have HNX := Lib.hid (show badB (x, y) = false → ∀ j (h : j < l.length), j < k + 1 → badB l[j] = false by
        intro h1 j hj hjk
        by_cases e : j = k
        · subst e
          rw [hx]; exact h1
        · exact HT.out j hj (by omega))
      have EB := Lib.hid (show badB (x, y) = (!nameB x || decide (1024 < y.size)) from rfl)
      have C1 := Lib.hid (fun w => CN.out x w)
      clear hx hc1 HT hkl
      by_cases hnx : nameB x = true
      · rw [hnx] at C1
        by_cases hs : 1024 < y.size
        · have E := Lib.hid (HIN.out (by rw [EB.out, decide_eq_true hs, Bool.or_true]))
          have e1 : decide ((y.size : Int) > 1024) = true := decide_eq_true (by omega)
          have e2 : decide ((1024 : Int) < (y.size : Int)) = true := decide_eq_true (by omega)
          have e3 : decide (1024 < y.size) = true := decide_eq_true (by omega)
          clear hnx
          go_wp2_with (go_at_call 37; refine (C1.out _).mono ?_; rintro e w' ⟨rfl, rfl⟩)
          go_returns
          exact ⟨.slice none 0 0, 70, [], rfl, E.out, OwnL.nil _ _, HB.out⟩
        · have HT2 := Lib.hid (HNX.out (by rw [EB.out, hnx, decide_eq_false hs]; rfl))
          have e1 : decide ((y.size : Int) > 1024) = false := decide_eq_false (by omega)
          have e2 : decide ((1024 : Int) < (y.size : Int)) = false := decide_eq_false (by omega)
          have e3 : decide (1024 < y.size) = false := decide_eq_false (by omega)
          clear hnx
          go_wp2_with (go_at_call 37; refine (C1.out _).mono ?_; rintro e w' ⟨rfl, rfl⟩)
          go_roundw
          case rel => exact ⟨k + 1, by omega, by simp, HB, HT2⟩
          case measure => simp [intOf]; omega
      · have hnx2 : nameB x = false := by simpa using hnx
        rw [hnx2] at C1
        have E := Lib.hid (HIN.out (by rw [EB.out, hnx2]; rfl))
        clear hnx hnx2
        go_wp2_with (go_at_call 37; refine (C1.out _).mono ?_; rintro e w' ⟨rfl, rfl⟩)
        go_returns
        exact ⟨.slice none 0 0, 70, [], rfl, E.out, OwnL.nil _ _, HB.out⟩
    · have hkk : k = n := by omega
      subst hkk
      have da : decide ((k : Int) < (k : Int)) = false := decide_eq_false (by omega)
      have da2 : decide (k < k) = false := decide_eq_false (by omega)
      have dm : decide ((k : Int) > 100000) = false := decide_eq_false (by omega)
      have dm2 : decide ((100000 : Int) < (k : Int)) = false := decide_eq_false (by omega)
      have dm3 : decide (100000 < k) = false := decide_eq_false (by omega)
      have HK2 := Lib.hid (show ∀ (c : Nat) (out : List Lm.Lb), (if twiceB l = true then c = 71 ∧ out = [] else if 64 < (insAll l).length then c = 72 ∧ out = [] else c = 0 ∧ out = insAll l) → SetN l c out from fun c out h => by
        have h1 : l.any badB = false := any_of (fun x hx => by
          obtain ⟨i, hi, rfl⟩ := List.getElem_of_mem hx
          exact HT.out i hi (by have := HN.out; omega))
        unfold SetN
        rw [if_neg (by rw [h1]; simp)]
        exact h)
      clear HT
      obtain ⟨T, hT⟩ : ∃ T, twiceB l = T := ⟨_, rfl⟩
      rw [hT] at CT
      simp only [hT] at HK2
      clear hT
      go_wp2_with fail
      refine (CT.out _ (HL.out.below HB.out)).mono ?_
      rintro e w2 ⟨rfl, hb⟩
      have HB2 := Lib.hid (HB.out.trans (hb.mono HB.out.size))
      clear hb
      cases T with
      | true =>
        have E := Lib.hid (HK2.out 71 [] (by rw [if_pos rfl]; exact ⟨rfl, rfl⟩))
        go_wp2
        go_returns
        exact ⟨.slice none 0 0, 71, [], rfl, E.out, OwnL.nil _ _, HB2.out⟩
      | false =>
        have HK3 := Lib.hid (show ∀ (c : Nat) (out : List Lm.Lb), (if 64 < (insAll l).length then c = 72 ∧ out = [] else c = 0 ∧ out = insAll l) → SetN l c out from fun c out h => HK2.out c out (by rw [if_neg (by simp)]; exact h))
        clear HK2
        go_wp2
        go_loopw [7, 8] (fun v i wr => ∃ (j : Nat) (s : List Lm.Lb), j ≤ k ∧ i = .int .i64 (j : Nat) ∧ Hid (OwnL wr w.heap.size v s) ∧ Hid (s = insAll (l.take j)) ∧ Hid (s.length ≤ j) ∧ Hid (Below w.heap.size w wr)) (fun _ i _ => (k - (intOf i).toNat))
        case atStart => exact ⟨0, [], Nat.zero_le _, rfl, Lib.hid (World.ownsRow_nil _ _ _ _), Lib.hid rfl, Lib.hid (Nat.le_refl _), HB2⟩
        case round =>
          obtain ⟨j, s, hj1, rfl, HO, HE, HS, HB3⟩ := hrel
          by_cases hjk : j < k
          · have db : decide ((j : Int) < (k : Int)) = true := decide_eq_true (by omega)
            have db2 : decide (j < k) = true := decide_eq_true hjk
            have hkl : j < l.length := by rw [HN.out]; exact hjk
            obtain ⟨b1, o1, rfl, hb1, hc1⟩ := (HL.out.below HB3.out) (by intro e; rw [e] at hkl; simp at hkl)
            obtain ⟨p1, p2⟩ := hc1 j hkl
            obtain ⟨⟨x, y⟩, hx⟩ : ∃ x, l[j] = x := ⟨_, rfl⟩
            rw [hx] at p1 p2
            simp only at p1 p2
            have HI := Lib.hid (show insAll (l.take (j + 1)) = if emptyB (x, y) = true then s else insL (x, y) s by
              rw [List.take_succ_eq_append_getElem hkl, hx, insAll_snoc, ← HE.out])
            have EE := Lib.hid (show emptyB (x, y) = decide (y = ⟨#[]⟩) from rfl)
            clear hx hc1 hkl
            obtain ⟨av, cv, rfl⟩ := ownL_shape HO.out
            by_cases hy : y = ⟨#[]⟩
            · have h2 : y.toList = [] := by rw [hy, ByteArray.toList_eq]
              have h3 : y.toList.isEmpty = true := by rw [h2]; rfl
              have HI2 := Lib.hid (show s = insAll (l.take (j + 1)) by rw [HI.out, EE.out, decide_eq_true hy, if_pos rfl])
              obtain ⟨ns, hns⟩ : ∃ m, s.length = m := ⟨_, rfl⟩
              have HNS := Lib.hid hns
              rw [hns] at HO ⊢
              clear hy hns
              go_wp2
              go_roundw
              case rel => exact ⟨j + 1, s, by omega, by simp, HO, HI2, Lib.hid (by have := HS.out; omega), HB3⟩
              case measure => simp [intOf]; omega
            · have h2 : ¬ y.toList = [] := fun e => hy ((toList_iff _ _).1 (by rw [e, ByteArray.toList_eq]))
              have h3 : y.toList.isEmpty = false := by cases hh : y.toList with
                | nil => exact absurd hh h2
                | cons => rfl
              have HI2 := Lib.hid (show insL (x, y) s = insAll (l.take (j + 1)) by rw [HI.out, EE.out, decide_eq_false hy, if_neg (by simp)])
              have C2 := Lib.hid (CI.out av cv s (x, y) wr w.heap.size HO.out (by have := HS.out; omega))
              have HLN := Lib.hid (show (insL (x, y) s).length ≤ j + 1 by rw [(insL_perm (x, y) s).length_eq, List.length_cons]; have := HS.out; omega)
              simp only at C2
              obtain ⟨ns, hns⟩ : ∃ m, s.length = m := ⟨_, rfl⟩
              rw [hns] at C2 ⊢
              clear hy hns
              go_wp2_with fail
              refine C2.out.mono ?_
              rintro e w3 ⟨v3, rfl, ho, hb⟩
              have O3 := Lib.hid (ho.lower HB3.out.size)
              have B4 := Lib.hid (HB3.out.trans (hb.mono HB3.out.size))
              obtain ⟨a3, c3, rfl⟩ := ownL_shape ho
              obtain ⟨n3, hn3⟩ : ∃ m, (insL (x, y) s).length = m := ⟨_, rfl⟩
              rw [hn3] at O3 ⊢
              clear ho hb hn3
              go_wp2
              go_roundw
              case rel => exact ⟨j + 1, insL (x, y) s, by omega, by simp, O3, HI2, HLN, B4⟩
              case measure => simp [intOf]; omega
          · have hjk2 : j = k := by omega
            have HJ := Lib.hid hjk2
            have db : decide ((j : Int) < (k : Int)) = false := decide_eq_false (by omega)
            have db2 : decide (j < k) = false := decide_eq_false hjk
            have HEL := Lib.hid (show insAll l = s by
              have h : l.take j = l := by rw [HJ.out, ← HN.out]; exact List.take_length
              rw [HE.out, h])
            obtain ⟨av, cv, rfl⟩ := ownL_shape HO.out
            obtain ⟨ns, hns⟩ : ∃ m, s.length = m := ⟨_, rfl⟩
            have HNS := Lib.hid hns
            rw [hns] at HO ⊢
            clear hns hjk2
            by_cases h64 : 64 < ns
            · have E := Lib.hid (HK3.out 72 [] (by rw [HEL.out, HNS.out, if_pos h64]; exact ⟨rfl, rfl⟩))
              have d1 : decide ((ns : Int) > 64) = true := decide_eq_true (by omega)
              have d2 : decide ((64 : Int) < (ns : Int)) = true := decide_eq_true (by omega)
              have d3 : decide (64 < ns) = true := decide_eq_true (by omega)
              go_wp2
              go_returns
              exact ⟨.slice none 0 0, 72, [], rfl, E.out, OwnL.nil _ _, HB3.out⟩
            · have E := Lib.hid (HK3.out 0 s (by rw [HEL.out, HNS.out, if_neg h64]; exact ⟨rfl, rfl⟩))
              have d1 : decide ((ns : Int) > 64) = false := decide_eq_false (by omega)
              have d2 : decide ((64 : Int) < (ns : Int)) = false := decide_eq_false (by omega)
              have d3 : decide (64 < ns) = false := decide_eq_false (by omega)
              go_wp2
              go_returns
              exact ⟨.slice av ns cv, 0, s, rfl, E.out, HO.out, HB3.out⟩
end Go.Proofs.YtiolghcjndoigaaGreatDoor
