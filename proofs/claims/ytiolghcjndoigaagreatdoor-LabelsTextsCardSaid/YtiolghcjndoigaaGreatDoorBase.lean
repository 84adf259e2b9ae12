/-
  THE TEXT LAYER: what a call may have turned; rows of bytes of the call's own; strings as lists of numbers.
-/
import Derived.Test.YtiolghcjndoigaaGreatDoorProg
import Derived.WalkKit
import Derived.WalkSpells
import Derived.WalkLawsBesides
import Derived.Lib.Hide
import Derived.Laws.BitsAllLaws
import Derived.Laws.Rows
import Derived.Laws.AppendOwnNone
import Derived.Laws.BytesString
import Derived.Laws.BytesArg
import Derived.Deep.LoopGhost
import Derived.Deep.QuietTactic
import Derived.Deep.RegionHeld3
import Derived.BigQuiet
import Derived.StillTailTactics
import Derived.IntWalk
import Derived.PlainAid
import Derived.Shelf.Strings.Builder1
namespace Go.Proofs.YtiolghcjndoigaaGreatDoor
set_option linter.unusedVariables false
set_option linter.unusedSimpArgs false
open Go.RowKit Go.PlainAid
/-- the call gives this and turns nothing that was there -/
def Gives (w : World) (v : Value) (e : Ending) (w' : World) : Prop := e = .returned v ∧ Below w.heap.size w w'
theorem gives_of {w w' : World} {v : Value} {e : Ending} (h : e = .returned v ∧ w' = w) : Gives w v e w' := ⟨h.1, by rw [h.2]; exact Below.refl _ _⟩
/-- only these blocks, and what is new, may have turned -/
structure Only (S : List Nat) (w w' : World) : Prop where
  os : w'.os = w.os
  tape : w'.tape = w.tape
  output : w'.output = w.output
  size : w.heap.size ≤ w'.heap.size
  block : ∀ k, k < w.heap.size → k ∉ S → w'.heap[k]? = w.heap[k]?
theorem Only.refl (S : List Nat) (w : World) : Only S w w := ⟨rfl, rfl, rfl, Nat.le_refl _, fun _ _ _ => rfl⟩
theorem Only.trans {S S' : List Nat} {a b c : World} (h : Only S a b) (k : Only S' b c) (hs : ∀ x ∈ S', x ∈ S ∨ a.heap.size ≤ x) : Only S a c :=
  ⟨k.os.trans h.os, k.tape.trans h.tape, k.output.trans h.output, Nat.le_trans h.size k.size, fun i hi hn => (k.block i (Nat.lt_of_lt_of_le hi h.size) (fun hm => by
    rcases hs i hm with h1 | h1
    · exact hn h1
    · omega)).trans (h.block i hi hn)⟩
theorem Only.mono {S S' : List Nat} {a b : World} (h : Only S a b) (hs : ∀ x ∈ S, x ∈ S') : Only S' a b := ⟨h.os, h.tape, h.output, h.size, fun i hi hn => h.block i hi fun hm => hn (hs i hm)⟩
theorem Only.drew {S : List Nat} {a b : World} (h : Only S a b) : Only S a b.drew := ⟨h.os, h.tape, h.output, h.size, h.block⟩
theorem Only.drewN {S : List Nat} {a b : World} (h : Only S a b) (n : Nat) : Only S a (b.drewN n) := ⟨h.os, h.tape, h.output, h.size, h.block⟩
theorem Only.alloc {S : List Nat} {a b : World} (h : Only S a b) (o : Obj) : Only S a (b.alloc o) :=
  ⟨h.os, h.tape, h.output, Nat.le_trans h.size (by simp), fun k hk hn => (Below.heap_alloc _ _ _ (Nat.lt_of_lt_of_le hk h.size)).trans (h.block k hk hn)⟩
theorem Only.setCell {S : List Nat} {a b : World} (h : Only S a b) {p : Addr} (hp : p.block ∈ S ∨ a.heap.size ≤ p.block) (u : Value) : Only S a (b.setCell p u) :=
  ⟨h.os, h.tape, h.output, by simpa [World.setCell] using h.size, fun k hk hn => (Below.heap_setCell _ _ _ _ (by
    rintro rfl
    rcases hp with hp | hp
    · exact hn hp
    · omega)).trans (h.block k hk hn)⟩
theorem Only.grown {S : List Nat} {a b c : World} {row : Option Nat} (h : Only S a b) (hg : b.grownBy c row) (hr : ∀ k, row = some k → k ∈ S ∨ a.heap.size ≤ k) : Only S a c :=
  ⟨hg.os.trans h.os, hg.tape.trans h.tape, hg.output.trans h.output, Nat.le_trans h.size hg.size, fun k hk hn => (hg.block k (Nat.lt_of_lt_of_le hk h.size) (fun e => by
    rcases hr k e.symm with h1 | h1
    · exact hn h1
    · omega)).trans (h.block k hk hn)⟩
theorem Only.of_below {a b : World} (h : Below a.heap.size a b) (S : List Nat) : Only S a b := ⟨h.os, h.tape, h.output, h.size, fun k hk _ => h.block k hk⟩
theorem Only.below {S : List Nat} {a b : World} (h : Only S a b) {B : Nat} (hB : B ≤ a.heap.size) (hs : ∀ x ∈ S, B ≤ x) : Below B a b :=
  ⟨h.os, h.tape, h.output, h.size, fun k hk => h.block k (Nat.lt_of_lt_of_le hk hB) fun hm => by have := hs k hm; omega⟩
theorem Only.cell {S : List Nat} {a b : World} (h : Only S a b) {p : Addr} (hp : p.block < a.heap.size) (hn : p.block ∉ S) : b.cell? p = a.cell? p := World.cell?_of_block (w := a) (h.block _ hp hn)
theorem Only.lift {S : List Nat} {B : Nat} {a b c : World} (h : Below B a b) (k : Only S b c) (hB : B ≤ b.heap.size) (hs : ∀ x ∈ S, B ≤ x) : Below B a c := h.trans (k.below hB hs)
/-- numbers as cells -/
def cellsOf (bs : List Nat) : List Value := bs.map fun c => Value.int .u8 ((c : Nat) : Int)
theorem cellsOf_length (bs : List Nat) : (cellsOf bs).length = bs.length := by simp [cellsOf]
theorem cellsOf_one (bs : List Nat) : ∀ u ∈ cellsOf bs, u.oneCell' = true := by
  intro u hu
  obtain ⟨c, _, rfl⟩ := List.mem_map.1 hu
  rfl
theorem cellsOf_append (a b : List Nat) : cellsOf (a ++ b) = cellsOf a ++ cellsOf b := by simp [cellsOf]
theorem cellsOf_get (bs : List Nat) (i : Nat) (h : i < bs.length) : (cellsOf bs)[i]? = some (.int .u8 ((bs[i] : Nat) : Int)) := by
  simp [cellsOf, h]
theorem add_here (g j : Nat) : (⟨g, 0, none⟩ : Addr).add j = ⟨g, j, none⟩ := by unfold Addr.add; split <;> simp_all
theorem add_at (g o j : Nat) : (⟨g, o, none⟩ : Addr).add j = ⟨g, o + j, none⟩ := by unfold Addr.add; split <;> simp_all
theorem info5 : (Tryz.prog.info? 5).map (fun i => (i.zero, i.size, i.bytes)) = some (some (.int .u8 0), 1, 1) := by kernel_rfl
theorem info_parts {P : Program} {t : TypeId} {z : Value} {s b : Nat} (h : (P.info? t).map (fun i => (i.zero, i.size, i.bytes)) = some (some z, s, b)) : ∃ i, P.info? t = some i ∧ i.zero = some z ∧ i.size = s ∧ i.bytes = b := by
  cases hi : P.info? t with
  | none => rw [hi] at h; cases h
  | some i => rw [hi] at h; simp at h; exact ⟨i, rfl, h.1, h.2.1, h.2.2⟩
/-- a row of the call's own -/
def Own (w : World) (base : Nat) (v : Value) (ds : List Nat) : Prop := w.ownsRow base 5 1 v ds.length (cellsOf ds)
theorem Own.nil (w : World) (base : Nat) : Own w base (.slice none 0 0) [] := World.ownsRow_nil w base 5 1
theorem own_block {w : World} {base : Nat} {v : Value} {ds : List Nat} (h : Own w base v ds) : ∀ k, v.ownBlock = some k → base ≤ k := by
  intro k hk
  rcases h.2 with ⟨rfl, _⟩ | ⟨g, cap, cur, rfl, hg, _⟩
  · cases hk
  · simp only [Value.ownBlock, Option.some.injEq] at hk
    omega
theorem own_shape {w : World} {base : Nat} {v : Value} {ds : List Nat} (h : Own w base v ds) : ∃ a cap, v = .slice a ds.length cap := by
  rcases h.2 with ⟨rfl, h0⟩ | ⟨g, cap, cur, rfl, _⟩
  · exact ⟨none, 0, by rw [h0]⟩
  · exact ⟨_, _, rfl⟩
theorem Own.only {w w' : World} {base : Nat} {v : Value} {ds : List Nat} (h : Own w base v ds) {S : List Nat} (ho : Only S w w') (hS : ∀ k ∈ S, v.ownBlock ≠ some k) : Own w' base v ds := by
  obtain ⟨h1, h2⟩ := h
  refine ⟨h1, ?_⟩
  rcases h2 with h2 | ⟨g, cap, cur, hv, hg, hc, h3, h4, h5, h6⟩
  · exact .inl h2
  · refine .inr ⟨g, cap, cur, hv, hg, (ho.block g (Array.getElem?_eq_some_iff.1 hc).1 (fun hm => hS g hm (by rw [hv]; rfl))).trans hc, h3, h4, h5, h6⟩
theorem Own.below {w w' : World} {base : Nat} {v : Value} {ds : List Nat} (h : Own w base v ds) (hb : Below w.heap.size w w') : Own w' base v ds := h.only (Only.of_below hb []) (by simp)
theorem Own.lower {w : World} {base b2 : Nat} {v : Value} {ds : List Nat} (h : Own w base v ds) (hb : b2 ≤ base) : Own w b2 v ds := by
  obtain ⟨h1, h2⟩ := h
  refine ⟨h1, ?_⟩
  rcases h2 with h2 | ⟨g, cap, cur, hv, hg, hc, h3⟩
  · exact .inl h2
  · exact .inr ⟨g, cap, cur, hv, Nat.le_trans hb hg, hc, h3⟩
theorem Own.cells {w : World} {base : Nat} {v : Value} {ds : List Nat} (h : Own w base v ds) : ∃ a cap, v = .slice a ds.length cap ∧ ds.length ≤ cap ∧ ∀ i (hi : i < ds.length), ∃ b, a = some ⟨b, 0, none⟩ ∧ w.cell? ⟨b, i, none⟩ = some (.int .u8 ((ds[i] : Nat) : Int)) := by
  obtain ⟨h1, h2⟩ := h
  rcases h2 with ⟨rfl, h0⟩ | ⟨g, cap, cur, rfl, hg, hc, h3, h4, h5, h6⟩
  · have : ds = [] := List.eq_nil_of_length_eq_zero h0
    subst this
    exact ⟨none, 0, rfl, Nat.le_refl _, fun i hi => by simp at hi⟩
  · refine ⟨_, cap, rfl, h3, fun i hi => ⟨g, rfl, ?_⟩⟩
    rw [cell_of_row _ _ _ _ _ _ hc, ← Array.getElem?_toList]
    have := congrArg (fun l => l[i]?) h6
    simp only [Nat.mul_one, List.getElem?_take, if_pos hi, cellsOf_get ds i hi] at this
    exact this
theorem alloc_row (W : World) (ds : List Nat) (j : Nat) (u : Value) (hu : (cellsOf ds)[j]? = some u) : (W.alloc (.cells (cellsOf ds).toArray 5)).cell? ((⟨W.heap.size, 0, none⟩ : Addr).add j) = some u := by
  have e : (⟨W.heap.size, 0, none⟩ : Addr).add j = ⟨W.heap.size, j, none⟩ := by unfold Addr.add; split <;> simp_all
  rw [e, cell_of_row _ _ _ _ _ _ (heap_alloc_new W _), List.getElem?_toArray]
  exact hu
/-- a row that was just laid -/
theorem Own.laid (W : World) (ds : List Nat) (hl : ds.length ≤ maxLen) (base : Nat) (hb : base ≤ W.heap.size) : Own (W.alloc (.cells (cellsOf ds).toArray 5)) base (.slice (some ⟨W.heap.size, 0, none⟩) ds.length ds.length) ds :=
  ⟨by simp [cellsOf_length], .inr ⟨W.heap.size, ds.length, (cellsOf ds).toArray, rfl, hb, heap_alloc_new W _, Nat.le_refl _, hl, by simp [cellsOf_length], by rw [← cellsOf_length ds, Nat.mul_one]; simp⟩⟩
/-- behind an append -/
theorem own_grow {wr w2 : World} {base : Nat} {o v2 : Value} {ds es : List Nat} {n : Nat} {wb : World} (h : w2.ownsRow base 5 1 v2 n (cellsOf ds ++ cellsOf es)) (hn : n = ds.length + es.length) (hO : ∀ k, o.ownBlock = some k → base ≤ k) (hg : wr.grownBy w2 o.ownBlock) (hB : Below base wb wr) (hs : base ≤ wr.heap.size) :
    Own w2 base v2 (ds ++ es) ∧ Below base wb w2 := by
  refine ⟨?_, hB.grown hg hs hO⟩
  unfold Own
  rw [List.length_append, cellsOf_append, ← hn]
  exact h
/-- a string of these bytes -/
def strOf (bs : List Nat) : ByteArray := ⟨(bs.map UInt8.ofNat).toArray⟩
theorem strOf_size (bs : List Nat) : (strOf bs).size = bs.length := by simp [strOf, ByteArray.size]
def IsB (bs : List Nat) : Prop := ∀ c ∈ bs, c < 256
theorem IsB.nil : IsB [] := fun _ h => by cases h
theorem IsB.cons {c : Nat} {bs : List Nat} (h : c < 256) (k : IsB bs) : IsB (c :: bs) := fun x hx => by
  rcases List.mem_cons.1 hx with rfl | hx
  · exact h
  · exact k x hx
theorem IsB.app {ds bs : List Nat} (h : IsB ds) (k : IsB bs) : IsB (ds ++ bs) := fun x hx => (List.mem_append.1 hx).elim (h x) (k x)
theorem IsB.at {bs : List Nat} (h : IsB bs) (i : Nat) (hi : i < bs.length) : bs[i] < 256 := h _ (List.getElem_mem hi)
theorem strOf_bt (bs : List Nat) (h : IsB bs) (k : Nat) (hk : k < bs.length) : bt (strOf bs) k = ((bs[k] : Nat) : Int) := by
  have hs : k < (strOf bs).size := by rw [strOf_size]; exact hk
  rw [← get_bt (strOf bs) k hs]
  have e : (strOf bs)[k]'hs = UInt8.ofNat bs[k] := by
    have h1 : (strOf bs).data[k]? = some (UInt8.ofNat bs[k]) := by
      show ((bs.map UInt8.ofNat).toArray)[k]? = _
      rw [List.getElem?_toArray, List.getElem?_map, List.getElem?_eq_getElem hk]
      rfl
    exact (Array.getElem?_eq_some_iff.1 h1).2
  have := h.at k hk
  rw [e, UInt8.toNat_ofNat', Nat.mod_eq_of_lt this]
/-- every string is one -/
def bytesOf (s : ByteArray) : List Nat := s.data.toList.map UInt8.toNat
theorem strOf_bytesOf (s : ByteArray) : strOf (bytesOf s) = s := by
  cases s with
  | mk d =>
    unfold strOf bytesOf
    rw [List.map_map]
    have e : (UInt8.ofNat ∘ UInt8.toNat) = id := by funext x; simp
    rw [e, List.map_id]
theorem isB_bytesOf (s : ByteArray) : IsB (bytesOf s) := fun c hc => by
  obtain ⟨u, _, rfl⟩ := List.mem_map.1 hc
  exact u.toNat_lt
theorem bytesOf_length (s : ByteArray) : (bytesOf s).length = s.size := by
  unfold bytesOf
  rw [List.length_map, Array.length_toList]
  rfl
theorem bytesOf_strOf (bs : List Nat) (h : IsB bs) : bytesOf (strOf bs) = bs := by
  unfold bytesOf strOf
  rw [List.map_map]
  have : bs.map (UInt8.toNat ∘ UInt8.ofNat) = bs.map id := List.map_congr_left fun c hc => by
    have := h c hc
    show (UInt8.ofNat c).toNat = c
    rw [UInt8.toNat_ofNat', Nat.mod_eq_of_lt this]
  rw [this, List.map_id]
theorem strOf_inj {ds bs : List Nat} (h : IsB ds) (k : IsB bs) (e : strOf ds = strOf bs) : ds = bs := by rw [← bytesOf_strOf ds h, e, bytesOf_strOf bs k]
end Go.Proofs.YtiolghcjndoigaaGreatDoor
