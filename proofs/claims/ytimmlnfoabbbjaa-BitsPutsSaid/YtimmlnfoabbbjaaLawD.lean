/-
  THE STATEMENT BitsPuts: both writers and the book, all their memory apart.
-/
import Derived.Test.YtimmlnfoabbbjaaPuts
import Derived.Test.YtimmlnfoabbbjaaBookE
namespace Go.Proofs.Ytimmlnfoabbbjaa
open Go.RowKit
/-- where the three stand -/
structure Seats (N p q pb : Nat) : Prop where
  np : N ≤ p
  pq : p < q
  qb : q < pb
structure Inv (w : World) (p q pb : Nat) (B : List Bool) (n d h bh : Nat) (X : Nat → Value) (C : Nat → List Nat) (wr : World) : Prop where
  tw : Twin wr p d q h B
  bk : BookAt wr pb bh n X
  lots : Lots wr (pb + 1) X C
  len : ∀ j, (C j).length ≤ 1000000
  zero : ∀ j, n ≤ j → C j = []
  rows : ∀ j g, (X j).ownBlock = some g → g ≠ d ∧ g ≠ h ∧ g ≠ bh
  bhs : bh ≠ p ∧ bh ≠ d ∧ bh ≠ q ∧ bh ≠ h
  pbs : pb ≠ d ∧ pb ≠ h
  base : w.heap.size ≤ d ∧ w.heap.size ≤ h ∧ w.heap.size ≤ bh
  below : Below w.heap.size w wr
def St (w : World) (p q pb : Nat) (B : List Bool) (n : Nat) (wr : World) : Prop := ∃ d h bh X C, Inv w p q pb B n d h bh X C wr
theorem Inv.still {w wr w' : World} {p q pb n d h bh : Nat} {B : List Bool} {X : Nat → Value} {C : Nat → List Nat} (I : Inv w p q pb B n d h bh X C wr) (hb : Below wr.heap.size wr w') : Inv w p q pb B n d h bh X C w' :=
  ⟨I.tw.below hb, I.bk.below hb, I.lots.only (Only.of_below hb []) (fun _ _ _ => by simp), I.len, I.zero, I.rows, I.bhs, I.pbs, I.base, I.below.trans (hb.mono (Below.size I.below))⟩
theorem Inv.place {w wr : World} {p q pb n d h bh : Nat} {B : List Bool} {X : Nat → Value} {C : Nat → List Nat} (I : Inv w p q pb B n d h bh X C wr) (j g : Nat) (hg : (X j).ownBlock = some g) : pb < g ∧ g < wr.heap.size := (I.lots.own j).lt g hg
theorem Inv.puts {w wr w' : World} {p q pb n d h bh : Nat} {B B1 : List Bool} {X : Nat → Value} {C : Nat → List Nat} (F : Seats w.heap.size p q pb) (I : Inv w p q pb B n d h bh X C wr) (T : TwinPost wr p d q h B1 w') : St w p q pb B1 n w' := by
  obtain ⟨d', h', t, hd, hh, ho⟩ := T
  have l1 := I.bk.lt
  obtain ⟨f1, f2, f3⟩ := F
  obtain ⟨b1, b2, b3, b4⟩ := I.bhs
  obtain ⟨c1, c2⟩ := I.pbs
  obtain ⟨e1, e2, e3⟩ := I.base
  have hs := Below.size I.below
  refine ⟨d', h', bh, X, C, t, I.bk.only ho (by simp; omega) (by simp; omega), I.lots.only ho (fun j g hg => ?_), I.len, I.zero, fun j g hg => ?_, ⟨b1, by omega, b3, by omega⟩, ⟨by omega, by omega⟩, ⟨by omega, by omega, e3⟩, I.below.trans (ho.below hs (by intro x hx; simp at hx; omega))⟩
  · have h1 := I.place j g hg
    have h2 := I.rows j g hg
    simp; omega
  · have h1 := I.place j g hg
    have h2 := I.rows j g hg
    omega
theorem row_lots {w : World} {g N : Nat} {v : Value} {ds : List Nat} (h : Row w g v ds) (hg : v.ownBlock = none ∨ N ≤ g) : w.ownsRow N 5 1 v ds.length (cellsOf ds) := by
  rcases h.value with ⟨rfl, rfl⟩ | ⟨cap, cur, rfl, h1, h2, h3, h4, h5⟩
  · exact World.ownsRow_nil w N 5 1
  · rcases hg with hg | hg
    · cases hg
    · exact ⟨by simp [cellsOf_length], .inr ⟨g, cap, cur, rfl, hg, h1, h2, h3, by simpa using h4, by simpa using h5⟩⟩
theorem row_keep {w w' : World} {g : Nat} {v : Value} {ds : List Nat} (h : Row w g v ds) {S : List Nat} (ho : Only S w w') (hg : v.ownBlock = some g → g ∉ S) : Row w' g v ds := by
  rcases h.value with ⟨rfl, rfl⟩ | ⟨cap, cur, rfl, _⟩
  · exact Row.nil _ _
  · exact h.only ho (hg rfl)
/-- one row more -/
def more (n : Nat) (x : Value) (X : Nat → Value) : Nat → Value := fun j => if j = n then x else X j
theorem more_at (n : Nat) (x : Value) (X : Nat → Value) : more n x X n = x := by simp [more]
theorem more_low (n : Nat) (x : Value) (X : Nat → Value) (j : Nat) (h : j < n) : more n x X j = X j := by simp [more, show j ≠ n by omega]
theorem Inv.row {w wr w1 w2 : World} {p q pb n d h bh g : Nat} {B : List Bool} {X : Nat → Value} {C : Nat → List Nat} {x : Value} {bs : List Nat} (F : Seats w.heap.size p q pb) (I : Inv w p q pb B n d h bh X C wr) (hR : Row w1 g x bs) (hg : x.ownBlock = none ∨ wr.heap.size ≤ g) (hb : Below wr.heap.size wr w1) (hl : bs.length ≤ 1000000)
    (hP : BookPost w1 pb bh (n + 1) (more n x X) w2) : St w p q pb B (n + 1) w2 ∧ Row w2 g x bs := by
  have J := I.still hb
  obtain ⟨bh', k, hbh, ho⟩ := hP
  have l0 := I.bk.lt
  have l1 := J.bk.lt
  have l2 := I.tw.wr.lt
  have l3 := I.tw.rf.lt
  obtain ⟨f1, f2, f3⟩ := F
  obtain ⟨b1, b2, b3, b4⟩ := I.bhs
  obtain ⟨c1, c2⟩ := I.pbs
  obtain ⟨e1, e2, e3⟩ := I.base
  have hs := Below.size I.below
  have hs1 := Below.size hb
  have hs2 := ho.size
  have hxg : ∀ g', x.ownBlock = some g' → g' = g ∧ wr.heap.size ≤ g ∧ g < w1.heap.size := by
    intro g' hg'
    rcases hR.2 with h1 | h1
    · rw [h1] at hg'; cases hg'
    · rw [h1] at hg'; cases hg'
      refine ⟨rfl, ?_, (hR.1.lt g h1).2⟩
      rcases hg with h2 | h2
      · rw [h2] at h1; cases h1
      · exact h2
  have hR2 : Row w2 g x bs := row_keep hR ho (fun e => by have := hxg g e; simp; omega)
  refine ⟨⟨d, h, bh', more n x X, fun j => if j = n then bs else C j, ⟨J.tw.wr.only ho (by simp; omega) (by simp; omega), J.tw.rf.only ho (by simp; omega) (by simp; omega), J.tw.pq, J.tw.ph, J.tw.dq, J.tw.dh⟩, k, ⟨fun j => ?_, fun i j hij => ?_⟩, fun j => ?_, fun j hj => ?_, fun j g' hg' => ?_, ⟨by omega, by omega, by omega, by omega⟩, ⟨c1, c2⟩, ⟨e1, e2, by omega⟩, (I.below.trans (hb.mono hs)).trans (ho.below (by omega) (by intro x hx; simp at hx; omega))⟩, hR2⟩
  · by_cases e : j = n
    · subst e
      simp only [if_true, more_at]
      refine row_lots hR2 ?_
      rcases hR2.2 with h1 | h1
      · exact .inl h1
      · have := hxg g h1; exact .inr (by omega)
    · simp only [if_neg e, more]
      refine owns_only (J.lots.own j) ho (fun g' hg' => ?_)
      have h1 := I.place j g' hg'
      have h2 := I.rows j g' hg'
      simp; omega
  · by_cases e : i = n
    · subst e
      have e2 : j ≠ i := fun e => hij e.symm
      simp only [more, if_true, if_neg e2]
      cases e3 : x.ownBlock with
      | none => exact .inl rfl
      | some g' =>
        refine .inr fun e4 => ?_
        have h1 := I.place j g' e4.symm
        have h2 := hxg g' e3
        omega
    · by_cases e2 : j = n
      · subst e2
        simp only [more, if_true, if_neg e]
        cases e3 : (X i).ownBlock with
        | none => exact .inl rfl
        | some g' =>
          refine .inr fun e4 => ?_
          have h1 := I.place i g' e3
          have h2 := hxg g' e4.symm
          omega
      · simp only [more, if_neg e, if_neg e2]
        exact I.lots.apart i j hij
  · by_cases e : j = n
    · simp only [if_pos e]; exact hl
    · simp only [if_neg e]; exact I.len j
  · have e : j ≠ n := by omega
    simp only [if_neg e]; exact I.zero j (by omega)
  · by_cases e : j = n
    · subst e
      rw [more_at] at hg'
      have := hxg g' hg'
      omega
    · simp only [more, if_neg e] at hg'
      have h1 := I.place j g' hg'
      have h2 := I.rows j g' hg'
      omega
theorem Inv.own {w wr : World} {p q pb n d h bh : Nat} {B : List Bool} {X : Nat → Value} {C : Nat → List Nat} (I : Inv w p q pb B n d h bh X C wr) (hp : w.heap.size ≤ pb) (hn : n ≤ 1000) :
    Calls Try.prog 15 #[.pointer (some ⟨pb, 0, none⟩)] wr fun e w' => e = .returned (.bool true) ∧ Below w.heap.size w w' := by
  refine (own_any pb bh n (pb + 1) X (fun j => (C j).length) wr I.bk (by omega) ⟨fun j g hg => ⟨(I.place j g hg).2, (I.place j g hg).1⟩, fun j g hg => (I.rows j g hg).2.2, I.bk.lt.2, I.lots.apart, I.bk.lt.1⟩ ⟨C, I.lots, fun _ => rfl⟩ hn I.len (fun j hj => by rw [I.zero j hj]; rfl)).mono ?_
  rintro e w' ⟨rfl, hb⟩
  exact ⟨rfl, I.below.trans (hb.mono (by omega))⟩
theorem inv_start {w w1 : World} {p d : Nat} (hw : Wr w1 p d []) (hb : Below w.heap.size w w1) (hd : w.heap.size ≤ d) :
    St w p w1.heap.size (w1.heap.size + 1) [] 0 ((w1.alloc (.cells #[.slice none 0 0, .int .i64 0] 29)).alloc (.cells (bk (.slice none 0 0)) 64)) := by
  have l := hw.lt
  have hs := Below.size hb
  have o1 : Only [] w1 ((w1.alloc (.cells #[.slice none 0 0, .int .i64 0] 29)).alloc (.cells (bk (.slice none 0 0)) 64)) := ((Only.refl [] w1).alloc _).alloc _
  have hq : ((w1.alloc (.cells #[.slice none 0 0, .int .i64 0] 29)).alloc (.cells (bk (.slice none 0 0)) 64)).heap[w1.heap.size]? = some (.cells #[.slice none 0 0, .int .i64 0] 29 (0, 0)) :=
    (Below.heap_alloc (w1.alloc (.cells #[.slice none 0 0, .int .i64 0] 29)) _ _ (by simp)).trans (heap_alloc_new _ _)
  refine ⟨d, w1.heap.size, w1.heap.size + 1, fun _ => .slice none 0 0, fun _ => [], ⟨hw.only o1 (by simp) (by simp), ⟨_, hq, Row.nil _ _, .inl rfl, by simp; omega⟩, by omega, by omega, by omega, by omega⟩, ⟨.slice none 0 0, ?_, World.ownsRow_nil _ 0 27 1, rfl, by simp [Value.ownBlock]⟩, ⟨fun j => World.ownsRow_nil _ _ 5 1, fun i j _ => .inl rfl⟩, fun _ => by simp, fun _ _ => rfl, (fun j g hg => by cases hg), ⟨by omega, by omega, by omega, by omega⟩, ⟨by omega, by omega⟩, ⟨hd, hs, by omega⟩, hb.trans (o1.below hs (by simp))⟩
  have h1 := heap_alloc_new (w1.alloc (.cells #[.slice none 0 0, .int .i64 0] 29)) (.cells (bk (.slice none 0 0)) 64)
  rw [show (w1.alloc (.cells #[.slice none 0 0, .int .i64 0] 29)).heap.size = w1.heap.size + 1 by simp] at h1
  exact h1
end Go.Proofs.Ytimmlnfoabbbjaa
