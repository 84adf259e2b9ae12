/-
  PACKED: Base, Nam, Nmb, RxA, RxB, RxC, RxD, RxE
-/
import Derived.Test.YtphighddlfabbaaDoorProg
import Derived.WalkKit
import Derived.WalkSpells
import Derived.WalkLawsBesides
import Derived.Lib.Hide
import Derived.Laws.BitsAllLaws
import Derived.Laws.Rows
import Derived.Laws.AppendOwnNone
import Derived.Laws.BytesString
import Derived.Laws.BytesArg
import Derived.Deep.LoopGhost
import Derived.Deep.QuietTactic
import Derived.Deep.RegionHeld3
import Derived.BigQuiet
import Derived.StillTailTactics
import Derived.IntWalk
import Derived.PlainAid
import Derived.Shelf.Strings.Builder1
namespace Go.Proofs.YtphighddlfabbaaDoor
set_option linter.unusedVariables false
set_option linter.unusedSimpArgs false
open Go.RowKit Go.PlainAid
/-- the call gives this and turns nothing that was there -/
def Gives (w : World) (v : Value) (e : Ending) (w' : World) : Prop := e = .returned v ∧ Below w.heap.size w w'
theorem gives_of {w w' : World} {v : Value} {e : Ending} (h : e = .returned v ∧ w' = w) : Gives w v e w' := ⟨h.1, by rw [h.2]; exact Below.refl _ _⟩
/-- only these blocks, and what is new, may have turned -/
structure Only (S : List Nat) (w w' : World) : Prop where
  os : w'.os = w.os
  tape : w'.tape = w.tape
  output : w'.output = w.output
  size : w.heap.size ≤ w'.heap.size
  block : ∀ k, k < w.heap.size → k ∉ S → w'.heap[k]? = w.heap[k]?
theorem Only.refl (S : List Nat) (w : World) : Only S w w := ⟨rfl, rfl, rfl, Nat.le_refl _, fun _ _ _ => rfl⟩
theorem Only.trans {S S' : List Nat} {a b c : World} (h : Only S a b) (k : Only S' b c) (hs : ∀ x ∈ S', x ∈ S ∨ a.heap.size ≤ x) : Only S a c :=
  ⟨k.os.trans h.os, k.tape.trans h.tape, k.output.trans h.output, Nat.le_trans h.size k.size, fun i hi hn => (k.block i (Nat.lt_of_lt_of_le hi h.size) (fun hm => by
    rcases hs i hm with h1 | h1
    · exact hn h1
    · omega)).trans (h.block i hi hn)⟩
theorem Only.mono {S S' : List Nat} {a b : World} (h : Only S a b) (hs : ∀ x ∈ S, x ∈ S') : Only S' a b := ⟨h.os, h.tape, h.output, h.size, fun i hi hn => h.block i hi fun hm => hn (hs i hm)⟩
theorem Only.drew {S : List Nat} {a b : World} (h : Only S a b) : Only S a b.drew := ⟨h.os, h.tape, h.output, h.size, h.block⟩
theorem Only.drewN {S : List Nat} {a b : World} (h : Only S a b) (n : Nat) : Only S a (b.drewN n) := ⟨h.os, h.tape, h.output, h.size, h.block⟩
theorem Only.alloc {S : List Nat} {a b : World} (h : Only S a b) (o : Obj) : Only S a (b.alloc o) :=
  ⟨h.os, h.tape, h.output, Nat.le_trans h.size (by simp), fun k hk hn => (Below.heap_alloc _ _ _ (Nat.lt_of_lt_of_le hk h.size)).trans (h.block k hk hn)⟩
theorem Only.setCell {S : List Nat} {a b : World} (h : Only S a b) {p : Addr} (hp : p.block ∈ S ∨ a.heap.size ≤ p.block) (u : Value) : Only S a (b.setCell p u) :=
  ⟨h.os, h.tape, h.output, by simpa [World.setCell] using h.size, fun k hk hn => (Below.heap_setCell _ _ _ _ (by
    rintro rfl
    rcases hp with hp | hp
    · exact hn hp
    · omega)).trans (h.block k hk hn)⟩
theorem Only.grown {S : List Nat} {a b c : World} {row : Option Nat} (h : Only S a b) (hg : b.grownBy c row) (hr : ∀ k, row = some k → k ∈ S ∨ a.heap.size ≤ k) : Only S a c :=
  ⟨hg.os.trans h.os, hg.tape.trans h.tape, hg.output.trans h.output, Nat.le_trans h.size hg.size, fun k hk hn => (hg.block k (Nat.lt_of_lt_of_le hk h.size) (fun e => by
    rcases hr k e.symm with h1 | h1
    · exact hn h1
    · omega)).trans (h.block k hk hn)⟩
theorem Only.of_below {a b : World} (h : Below a.heap.size a b) (S : List Nat) : Only S a b := ⟨h.os, h.tape, h.output, h.size, fun k hk _ => h.block k hk⟩
theorem Only.below {S : List Nat} {a b : World} (h : Only S a b) {B : Nat} (hB : B ≤ a.heap.size) (hs : ∀ x ∈ S, B ≤ x) : Below B a b :=
  ⟨h.os, h.tape, h.output, h.size, fun k hk => h.block k (Nat.lt_of_lt_of_le hk hB) fun hm => by have := hs k hm; omega⟩
theorem Only.cell {S : List Nat} {a b : World} (h : Only S a b) {p : Addr} (hp : p.block < a.heap.size) (hn : p.block ∉ S) : b.cell? p = a.cell? p := World.cell?_of_block (w := a) (h.block _ hp hn)
theorem Only.lift {S : List Nat} {B : Nat} {a b c : World} (h : Below B a b) (k : Only S b c) (hB : B ≤ b.heap.size) (hs : ∀ x ∈ S, B ≤ x) : Below B a c := h.trans (k.below hB hs)
/-- numbers as cells -/
def cellsOf (bs : List Nat) : List Value := bs.map fun c => Value.int .u8 ((c : Nat) : Int)
theorem cellsOf_length (bs : List Nat) : (cellsOf bs).length = bs.length := by simp [cellsOf]
theorem cellsOf_one (bs : List Nat) : ∀ u ∈ cellsOf bs, u.oneCell' = true := by
  intro u hu
  obtain ⟨c, _, rfl⟩ := List.mem_map.1 hu
  rfl
theorem cellsOf_append (a b : List Nat) : cellsOf (a ++ b) = cellsOf a ++ cellsOf b := by simp [cellsOf]
theorem cellsOf_get (bs : List Nat) (i : Nat) (h : i < bs.length) : (cellsOf bs)[i]? = some (.int .u8 ((bs[i] : Nat) : Int)) := by
  simp [cellsOf, h]
theorem add_here (g j : Nat) : (⟨g, 0, none⟩ : Addr).add j = ⟨g, j, none⟩ := by unfold Addr.add; split <;> simp_all
theorem add_at (g o j : Nat) : (⟨g, o, none⟩ : Addr).add j = ⟨g, o + j, none⟩ := by unfold Addr.add; split <;> simp_all
theorem info5 : (Tryd.prog.info? 5).map (fun i => (i.zero, i.size, i.bytes)) = some (some (.int .u8 0), 1, 1) := by kernel_rfl
theorem info_parts {P : Program} {t : TypeId} {z : Value} {s b : Nat} (h : (P.info? t).map (fun i => (i.zero, i.size, i.bytes)) = some (some z, s, b)) : ∃ i, P.info? t = some i ∧ i.zero = some z ∧ i.size = s ∧ i.bytes = b := by
  cases hi : P.info? t with
  | none => rw [hi] at h; cases h
  | some i => rw [hi] at h; simp at h; exact ⟨i, rfl, h.1, h.2.1, h.2.2⟩
/-- a row of the call's own -/
def Own (w : World) (base : Nat) (v : Value) (ds : List Nat) : Prop := w.ownsRow base 5 1 v ds.length (cellsOf ds)
theorem Own.nil (w : World) (base : Nat) : Own w base (.slice none 0 0) [] := World.ownsRow_nil w base 5 1
theorem own_block {w : World} {base : Nat} {v : Value} {ds : List Nat} (h : Own w base v ds) : ∀ k, v.ownBlock = some k → base ≤ k := by
  intro k hk
  rcases h.2 with ⟨rfl, _⟩ | ⟨g, cap, cur, rfl, hg, _⟩
  · cases hk
  · simp only [Value.ownBlock, Option.some.injEq] at hk
    omega
theorem own_shape {w : World} {base : Nat} {v : Value} {ds : List Nat} (h : Own w base v ds) : ∃ a cap, v = .slice a ds.length cap := by
  rcases h.2 with ⟨rfl, h0⟩ | ⟨g, cap, cur, rfl, _⟩
  · exact ⟨none, 0, by rw [h0]⟩
  · exact ⟨_, _, rfl⟩
theorem Own.only {w w' : World} {base : Nat} {v : Value} {ds : List Nat} (h : Own w base v ds) {S : List Nat} (ho : Only S w w') (hS : ∀ k ∈ S, v.ownBlock ≠ some k) : Own w' base v ds := by
  obtain ⟨h1, h2⟩ := h
  refine ⟨h1, ?_⟩
  rcases h2 with h2 | ⟨g, cap, cur, hv, hg, hc, h3, h4, h5, h6⟩
  · exact .inl h2
  · refine .inr ⟨g, cap, cur, hv, hg, (ho.block g (Array.getElem?_eq_some_iff.1 hc).1 (fun hm => hS g hm (by rw [hv]; rfl))).trans hc, h3, h4, h5, h6⟩
theorem Own.below {w w' : World} {base : Nat} {v : Value} {ds : List Nat} (h : Own w base v ds) (hb : Below w.heap.size w w') : Own w' base v ds := h.only (Only.of_below hb []) (by simp)
theorem Own.lower {w : World} {base b2 : Nat} {v : Value} {ds : List Nat} (h : Own w base v ds) (hb : b2 ≤ base) : Own w b2 v ds := by
  obtain ⟨h1, h2⟩ := h
  refine ⟨h1, ?_⟩
  rcases h2 with h2 | ⟨g, cap, cur, hv, hg, hc, h3⟩
  · exact .inl h2
  · exact .inr ⟨g, cap, cur, hv, Nat.le_trans hb hg, hc, h3⟩
theorem Own.cells {w : World} {base : Nat} {v : Value} {ds : List Nat} (h : Own w base v ds) : ∃ a cap, v = .slice a ds.length cap ∧ ds.length ≤ cap ∧ ∀ i (hi : i < ds.length), ∃ b, a = some ⟨b, 0, none⟩ ∧ w.cell? ⟨b, i, none⟩ = some (.int .u8 ((ds[i] : Nat) : Int)) := by
  obtain ⟨h1, h2⟩ := h
  rcases h2 with ⟨rfl, h0⟩ | ⟨g, cap, cur, rfl, hg, hc, h3, h4, h5, h6⟩
  · have : ds = [] := List.eq_nil_of_length_eq_zero h0
    subst this
    exact ⟨none, 0, rfl, Nat.le_refl _, fun i hi => by simp at hi⟩
  · refine ⟨_, cap, rfl, h3, fun i hi => ⟨g, rfl, ?_⟩⟩
    rw [cell_of_row _ _ _ _ _ _ hc, ← Array.getElem?_toList]
    have := congrArg (fun l => l[i]?) h6
    simp only [Nat.mul_one, List.getElem?_take, if_pos hi, cellsOf_get ds i hi] at this
    exact this
theorem alloc_row (W : World) (ds : List Nat) (j : Nat) (u : Value) (hu : (cellsOf ds)[j]? = some u) : (W.alloc (.cells (cellsOf ds).toArray 5)).cell? ((⟨W.heap.size, 0, none⟩ : Addr).add j) = some u := by
  have e : (⟨W.heap.size, 0, none⟩ : Addr).add j = ⟨W.heap.size, j, none⟩ := by unfold Addr.add; split <;> simp_all
  rw [e, cell_of_row _ _ _ _ _ _ (heap_alloc_new W _), List.getElem?_toArray]
  exact hu
/-- a row that was just laid -/
theorem Own.laid (W : World) (ds : List Nat) (hl : ds.length ≤ maxLen) (base : Nat) (hb : base ≤ W.heap.size) : Own (W.alloc (.cells (cellsOf ds).toArray 5)) base (.slice (some ⟨W.heap.size, 0, none⟩) ds.length ds.length) ds :=
  ⟨by simp [cellsOf_length], .inr ⟨W.heap.size, ds.length, (cellsOf ds).toArray, rfl, hb, heap_alloc_new W _, Nat.le_refl _, hl, by simp [cellsOf_length], by rw [← cellsOf_length ds, Nat.mul_one]; simp⟩⟩
/-- behind an append -/
theorem own_grow {wr w2 : World} {base : Nat} {o v2 : Value} {ds es : List Nat} {n : Nat} {wb : World} (h : w2.ownsRow base 5 1 v2 n (cellsOf ds ++ cellsOf es)) (hn : n = ds.length + es.length) (hO : ∀ k, o.ownBlock = some k → base ≤ k) (hg : wr.grownBy w2 o.ownBlock) (hB : Below base wb wr) (hs : base ≤ wr.heap.size) :
    Own w2 base v2 (ds ++ es) ∧ Below base wb w2 := by
  refine ⟨?_, hB.grown hg hs hO⟩
  unfold Own
  rw [List.length_append, cellsOf_append, ← hn]
  exact h
/-- a string of these bytes -/
def strOf (bs : List Nat) : ByteArray := ⟨(bs.map UInt8.ofNat).toArray⟩
theorem strOf_size (bs : List Nat) : (strOf bs).size = bs.length := by simp [strOf, ByteArray.size]
def IsB (bs : List Nat) : Prop := ∀ c ∈ bs, c < 256
theorem IsB.nil : IsB [] := fun _ h => by cases h
theorem IsB.cons {c : Nat} {bs : List Nat} (h : c < 256) (k : IsB bs) : IsB (c :: bs) := fun x hx => by
  rcases List.mem_cons.1 hx with rfl | hx
  · exact h
  · exact k x hx
theorem IsB.app {ds bs : List Nat} (h : IsB ds) (k : IsB bs) : IsB (ds ++ bs) := fun x hx => (List.mem_append.1 hx).elim (h x) (k x)
theorem IsB.at {bs : List Nat} (h : IsB bs) (i : Nat) (hi : i < bs.length) : bs[i] < 256 := h _ (List.getElem_mem hi)
theorem strOf_bt (bs : List Nat) (h : IsB bs) (k : Nat) (hk : k < bs.length) : bt (strOf bs) k = ((bs[k] : Nat) : Int) := by
  have hs : k < (strOf bs).size := by rw [strOf_size]; exact hk
  rw [← get_bt (strOf bs) k hs]
  have e : (strOf bs)[k]'hs = UInt8.ofNat bs[k] := by
    have h1 : (strOf bs).data[k]? = some (UInt8.ofNat bs[k]) := by
      show ((bs.map UInt8.ofNat).toArray)[k]? = _
      rw [List.getElem?_toArray, List.getElem?_map, List.getElem?_eq_getElem hk]
      rfl
    exact (Array.getElem?_eq_some_iff.1 h1).2
  have := h.at k hk
  rw [e, UInt8.toNat_ofNat', Nat.mod_eq_of_lt this]
/-- every string is one -/
def bytesOf (s : ByteArray) : List Nat := s.data.toList.map UInt8.toNat
theorem strOf_bytesOf (s : ByteArray) : strOf (bytesOf s) = s := by
  cases s with
  | mk d =>
    unfold strOf bytesOf
    rw [List.map_map]
    have e : (UInt8.ofNat ∘ UInt8.toNat) = id := by funext x; simp
    rw [e, List.map_id]
theorem isB_bytesOf (s : ByteArray) : IsB (bytesOf s) := fun c hc => by
  obtain ⟨u, _, rfl⟩ := List.mem_map.1 hc
  exact u.toNat_lt
theorem bytesOf_length (s : ByteArray) : (bytesOf s).length = s.size := by
  unfold bytesOf
  rw [List.length_map, Array.length_toList]
  rfl
theorem bytesOf_strOf (bs : List Nat) (h : IsB bs) : bytesOf (strOf bs) = bs := by
  unfold bytesOf strOf
  rw [List.map_map]
  have : bs.map (UInt8.toNat ∘ UInt8.ofNat) = bs.map id := List.map_congr_left fun c hc => by
    have := h c hc
    show (UInt8.ofNat c).toNat = c
    rw [UInt8.toNat_ofNat', Nat.mod_eq_of_lt this]
  rw [this, List.map_id]
theorem strOf_inj {ds bs : List Nat} (h : IsB ds) (k : IsB bs) (e : strOf ds = strOf bs) : ds = bs := by rw [← bytesOf_strOf ds h, e, bytesOf_strOf bs k]
end Go.Proofs.YtphighddlfabbaaDoor
namespace Go.Proofs.YtphighddlfabbaaDoor
set_option linter.unusedVariables false
set_option linter.unusedSimpArgs false
open Go.RowKit Go.PlainAid
theorem toList_iff (a b : ByteArray) : a.toList = b.toList ↔ a = b := by
  rw [ByteArray.toList_eq, ByteArray.toList_eq]
  constructor
  · intro h; exact ByteArray.ext (Array.toList_inj.1 h)
  · rintro rfl; rfl
def letterB (c : Nat) : Bool := (decide (97 ≤ c) && decide (c ≤ 122)) || (decide (65 ≤ c) && decide (c ≤ 90)) || decide (c = 95)
def digB (c : Nat) : Bool := decide (48 ≤ c) && decide (c ≤ 57)
/-- may a name have this byte at this place -/
def placeB (c k : Nat) : Bool := decide (k < 1024) && (letterB c || (digB c && decide (0 < k)))

set_option maxHeartbeats 1000000 in
theorem hasplace_any (c k : Nat) (hc : c < 256) (w : World) : Calls Tryd.prog 20 #[.int .u8 (c : Int), .int .i64 (k : Int)] w fun e w' => e = .returned (.bool (placeB c k)) ∧ w' = w := by
  obtain ⟨R, hR⟩ : ∃ R, placeB c k = R := ⟨_, rfl⟩
  rw [hR]
  have HR := Lib.hid hR
  clear hR
  by_cases h0 : c ≤ 47
  · have t97 : decide ((97 : Int) ≤ (c : Int)) = false := decide_eq_false (by omega)
    have s97 : decide (97 ≤ c) = false := decide_eq_false (by omega)
    have t122 : decide ((c : Int) ≤ (122 : Int)) = true := decide_eq_true (by omega)
    have s122 : decide (c ≤ 122) = true := decide_eq_true (by omega)
    have t65 : decide ((65 : Int) ≤ (c : Int)) = false := decide_eq_false (by omega)
    have s65 : decide (65 ≤ c) = false := decide_eq_false (by omega)
    have t90 : decide ((c : Int) ≤ (90 : Int)) = true := decide_eq_true (by omega)
    have s90 : decide (c ≤ 90) = true := decide_eq_true (by omega)
    have t95 : ((c : Int) == 95) = false := by simp; omega
    have t48 : decide ((48 : Int) ≤ (c : Int)) = false := decide_eq_false (by omega)
    have s48 : decide (48 ≤ c) = false := decide_eq_false (by omega)
    have t57 : decide ((c : Int) ≤ (57 : Int)) = true := decide_eq_true (by omega)
    have s57 : decide (c ≤ 57) = true := decide_eq_true (by omega)
    have hl : letterB c = false := by unfold letterB; simp only [s97, s122, s65, s90]; simp; try omega
    have hd : digB c = false := by unfold digB; rw [s48, s57]; rfl
    have HV := Lib.hid (show R = (decide (k < 1024) && (false || (false && decide (0 < k)))) by rw [← HR.out]; unfold placeB; rw [hl, hd])
    clear hl hd HR
    go_enter Tryd.func20, Tryd.ntmps20
    go_wp2
    go_ret
    exact ⟨congrArg (fun x => Ending.returned (.bool x)) (show false = R by rw [HV.out]; simp), rfl⟩
  by_cases h1 : c ≤ 57
  · have t97 : decide ((97 : Int) ≤ (c : Int)) = false := decide_eq_false (by omega)
    have s97 : decide (97 ≤ c) = false := decide_eq_false (by omega)
    have t122 : decide ((c : Int) ≤ (122 : Int)) = true := decide_eq_true (by omega)
    have s122 : decide (c ≤ 122) = true := decide_eq_true (by omega)
    have t65 : decide ((65 : Int) ≤ (c : Int)) = false := decide_eq_false (by omega)
    have s65 : decide (65 ≤ c) = false := decide_eq_false (by omega)
    have t90 : decide ((c : Int) ≤ (90 : Int)) = true := decide_eq_true (by omega)
    have s90 : decide (c ≤ 90) = true := decide_eq_true (by omega)
    have t95 : ((c : Int) == 95) = false := by simp; omega
    have t48 : decide ((48 : Int) ≤ (c : Int)) = true := decide_eq_true (by omega)
    have s48 : decide (48 ≤ c) = true := decide_eq_true (by omega)
    have t57 : decide ((c : Int) ≤ (57 : Int)) = true := decide_eq_true (by omega)
    have s57 : decide (c ≤ 57) = true := decide_eq_true (by omega)
    have hl : letterB c = false := by unfold letterB; simp only [s97, s122, s65, s90]; simp; try omega
    have hd : digB c = true := by unfold digB; rw [s48, s57]; rfl
    have HV := Lib.hid (show R = (decide (k < 1024) && (false || (true && decide (0 < k)))) by rw [← HR.out]; unfold placeB; rw [hl, hd])
    clear hl hd HR
    by_cases hk : k < 1024
    · have k1 : decide ((k : Int) < 1024) = true := decide_eq_true (by omega)
      have k2 : decide (k < 1024) = true := decide_eq_true (by omega)
      by_cases h0 : 0 < k
      · have k3 : decide ((0 : Int) < (k : Int)) = true := decide_eq_true (by omega)
        have k4 : decide (0 < k) = true := decide_eq_true (by omega)
        go_enter Tryd.func20, Tryd.ntmps20
        go_wp2
        go_ret
        exact ⟨congrArg (fun x => Ending.returned (.bool x)) (show true = R by rw [HV.out, k2, k4]; rfl), rfl⟩
      · have k3 : decide ((0 : Int) < (k : Int)) = false := decide_eq_false (by omega)
        have k4 : decide (0 < k) = false := decide_eq_false (by omega)
        go_enter Tryd.func20, Tryd.ntmps20
        go_wp2
        go_ret
        exact ⟨congrArg (fun x => Ending.returned (.bool x)) (show false = R by rw [HV.out, k2, k4]; rfl), rfl⟩
    · have k1 : decide ((k : Int) < 1024) = false := decide_eq_false (by omega)
      have k2 : decide (k < 1024) = false := decide_eq_false (by omega)
      by_cases h0 : 0 < k
      · have k3 : decide ((0 : Int) < (k : Int)) = true := decide_eq_true (by omega)
        have k4 : decide (0 < k) = true := decide_eq_true (by omega)
        go_enter Tryd.func20, Tryd.ntmps20
        go_wp2
        go_ret
        exact ⟨congrArg (fun x => Ending.returned (.bool x)) (show false = R by rw [HV.out, k2, k4]; rfl), rfl⟩
      · have k3 : decide ((0 : Int) < (k : Int)) = false := decide_eq_false (by omega)
        have k4 : decide (0 < k) = false := decide_eq_false (by omega)
        go_enter Tryd.func20, Tryd.ntmps20
        go_wp2
        go_ret
        exact ⟨congrArg (fun x => Ending.returned (.bool x)) (show false = R by rw [HV.out, k2, k4]; rfl), rfl⟩
  by_cases h2 : c ≤ 64
  · have t97 : decide ((97 : Int) ≤ (c : Int)) = false := decide_eq_false (by omega)
    have s97 : decide (97 ≤ c) = false := decide_eq_false (by omega)
    have t122 : decide ((c : Int) ≤ (122 : Int)) = true := decide_eq_true (by omega)
    have s122 : decide (c ≤ 122) = true := decide_eq_true (by omega)
    have t65 : decide ((65 : Int) ≤ (c : Int)) = false := decide_eq_false (by omega)
    have s65 : decide (65 ≤ c) = false := decide_eq_false (by omega)
    have t90 : decide ((c : Int) ≤ (90 : Int)) = true := decide_eq_true (by omega)
    have s90 : decide (c ≤ 90) = true := decide_eq_true (by omega)
    have t95 : ((c : Int) == 95) = false := by simp; omega
    have t48 : decide ((48 : Int) ≤ (c : Int)) = true := decide_eq_true (by omega)
    have s48 : decide (48 ≤ c) = true := decide_eq_true (by omega)
    have t57 : decide ((c : Int) ≤ (57 : Int)) = false := decide_eq_false (by omega)
    have s57 : decide (c ≤ 57) = false := decide_eq_false (by omega)
    have hl : letterB c = false := by unfold letterB; simp only [s97, s122, s65, s90]; simp; try omega
    have hd : digB c = false := by unfold digB; rw [s48, s57]; rfl
    have HV := Lib.hid (show R = (decide (k < 1024) && (false || (false && decide (0 < k)))) by rw [← HR.out]; unfold placeB; rw [hl, hd])
    clear hl hd HR
    go_enter Tryd.func20, Tryd.ntmps20
    go_wp2
    go_ret
    exact ⟨congrArg (fun x => Ending.returned (.bool x)) (show false = R by rw [HV.out]; simp), rfl⟩
  by_cases h3 : c ≤ 90
  · have t97 : decide ((97 : Int) ≤ (c : Int)) = false := decide_eq_false (by omega)
    have s97 : decide (97 ≤ c) = false := decide_eq_false (by omega)
    have t122 : decide ((c : Int) ≤ (122 : Int)) = true := decide_eq_true (by omega)
    have s122 : decide (c ≤ 122) = true := decide_eq_true (by omega)
    have t65 : decide ((65 : Int) ≤ (c : Int)) = true := decide_eq_true (by omega)
    have s65 : decide (65 ≤ c) = true := decide_eq_true (by omega)
    have t90 : decide ((c : Int) ≤ (90 : Int)) = true := decide_eq_true (by omega)
    have s90 : decide (c ≤ 90) = true := decide_eq_true (by omega)
    have t95 : ((c : Int) == 95) = false := by simp; omega
    have t48 : decide ((48 : Int) ≤ (c : Int)) = true := decide_eq_true (by omega)
    have s48 : decide (48 ≤ c) = true := decide_eq_true (by omega)
    have t57 : decide ((c : Int) ≤ (57 : Int)) = false := decide_eq_false (by omega)
    have s57 : decide (c ≤ 57) = false := decide_eq_false (by omega)
    have hl : letterB c = true := by unfold letterB; simp only [s97, s122, s65, s90]; simp; try omega
    have hd : digB c = false := by unfold digB; rw [s48, s57]; rfl
    have HV := Lib.hid (show R = (decide (k < 1024) && (true || (false && decide (0 < k)))) by rw [← HR.out]; unfold placeB; rw [hl, hd])
    clear hl hd HR
    by_cases hk : k < 1024
    · have k1 : decide ((k : Int) < 1024) = true := decide_eq_true (by omega)
      have k2 : decide (k < 1024) = true := decide_eq_true (by omega)
      go_enter Tryd.func20, Tryd.ntmps20
      go_wp2
      go_ret
      exact ⟨congrArg (fun x => Ending.returned (.bool x)) (show true = R by rw [HV.out, k2]; simp), rfl⟩
    · have k1 : decide ((k : Int) < 1024) = false := decide_eq_false (by omega)
      have k2 : decide (k < 1024) = false := decide_eq_false (by omega)
      go_enter Tryd.func20, Tryd.ntmps20
      go_wp2
      go_ret
      exact ⟨congrArg (fun x => Ending.returned (.bool x)) (show false = R by rw [HV.out, k2]; simp), rfl⟩
  by_cases h4 : c ≤ 94
  · have t97 : decide ((97 : Int) ≤ (c : Int)) = false := decide_eq_false (by omega)
    have s97 : decide (97 ≤ c) = false := decide_eq_false (by omega)
    have t122 : decide ((c : Int) ≤ (122 : Int)) = true := decide_eq_true (by omega)
    have s122 : decide (c ≤ 122) = true := decide_eq_true (by omega)
    have t65 : decide ((65 : Int) ≤ (c : Int)) = true := decide_eq_true (by omega)
    have s65 : decide (65 ≤ c) = true := decide_eq_true (by omega)
    have t90 : decide ((c : Int) ≤ (90 : Int)) = false := decide_eq_false (by omega)
    have s90 : decide (c ≤ 90) = false := decide_eq_false (by omega)
    have t95 : ((c : Int) == 95) = false := by simp; omega
    have t48 : decide ((48 : Int) ≤ (c : Int)) = true := decide_eq_true (by omega)
    have s48 : decide (48 ≤ c) = true := decide_eq_true (by omega)
    have t57 : decide ((c : Int) ≤ (57 : Int)) = false := decide_eq_false (by omega)
    have s57 : decide (c ≤ 57) = false := decide_eq_false (by omega)
    have hl : letterB c = false := by unfold letterB; simp only [s97, s122, s65, s90]; simp; try omega
    have hd : digB c = false := by unfold digB; rw [s48, s57]; rfl
    have HV := Lib.hid (show R = (decide (k < 1024) && (false || (false && decide (0 < k)))) by rw [← HR.out]; unfold placeB; rw [hl, hd])
    clear hl hd HR
    go_enter Tryd.func20, Tryd.ntmps20
    go_wp2
    go_ret
    exact ⟨congrArg (fun x => Ending.returned (.bool x)) (show false = R by rw [HV.out]; simp), rfl⟩
  by_cases h5 : c ≤ 95
  · have t97 : decide ((97 : Int) ≤ (c : Int)) = false := decide_eq_false (by omega)
    have s97 : decide (97 ≤ c) = false := decide_eq_false (by omega)
    have t122 : decide ((c : Int) ≤ (122 : Int)) = true := decide_eq_true (by omega)
    have s122 : decide (c ≤ 122) = true := decide_eq_true (by omega)
    have t65 : decide ((65 : Int) ≤ (c : Int)) = true := decide_eq_true (by omega)
    have s65 : decide (65 ≤ c) = true := decide_eq_true (by omega)
    have t90 : decide ((c : Int) ≤ (90 : Int)) = false := decide_eq_false (by omega)
    have s90 : decide (c ≤ 90) = false := decide_eq_false (by omega)
    have t95 : ((c : Int) == 95) = true := by simp; omega
    have t48 : decide ((48 : Int) ≤ (c : Int)) = true := decide_eq_true (by omega)
    have s48 : decide (48 ≤ c) = true := decide_eq_true (by omega)
    have t57 : decide ((c : Int) ≤ (57 : Int)) = false := decide_eq_false (by omega)
    have s57 : decide (c ≤ 57) = false := decide_eq_false (by omega)
    have hl : letterB c = true := by unfold letterB; simp only [s97, s122, s65, s90]; simp; try omega
    have hd : digB c = false := by unfold digB; rw [s48, s57]; rfl
    have HV := Lib.hid (show R = (decide (k < 1024) && (true || (false && decide (0 < k)))) by rw [← HR.out]; unfold placeB; rw [hl, hd])
    clear hl hd HR
    by_cases hk : k < 1024
    · have k1 : decide ((k : Int) < 1024) = true := decide_eq_true (by omega)
      have k2 : decide (k < 1024) = true := decide_eq_true (by omega)
      go_enter Tryd.func20, Tryd.ntmps20
      go_wp2
      go_ret
      exact ⟨congrArg (fun x => Ending.returned (.bool x)) (show true = R by rw [HV.out, k2]; simp), rfl⟩
    · have k1 : decide ((k : Int) < 1024) = false := decide_eq_false (by omega)
      have k2 : decide (k < 1024) = false := decide_eq_false (by omega)
      go_enter Tryd.func20, Tryd.ntmps20
      go_wp2
      go_ret
      exact ⟨congrArg (fun x => Ending.returned (.bool x)) (show false = R by rw [HV.out, k2]; simp), rfl⟩
  by_cases h6 : c ≤ 96
  · have t97 : decide ((97 : Int) ≤ (c : Int)) = false := decide_eq_false (by omega)
    have s97 : decide (97 ≤ c) = false := decide_eq_false (by omega)
    have t122 : decide ((c : Int) ≤ (122 : Int)) = true := decide_eq_true (by omega)
    have s122 : decide (c ≤ 122) = true := decide_eq_true (by omega)
    have t65 : decide ((65 : Int) ≤ (c : Int)) = true := decide_eq_true (by omega)
    have s65 : decide (65 ≤ c) = true := decide_eq_true (by omega)
    have t90 : decide ((c : Int) ≤ (90 : Int)) = false := decide_eq_false (by omega)
    have s90 : decide (c ≤ 90) = false := decide_eq_false (by omega)
    have t95 : ((c : Int) == 95) = false := by simp; omega
    have t48 : decide ((48 : Int) ≤ (c : Int)) = true := decide_eq_true (by omega)
    have s48 : decide (48 ≤ c) = true := decide_eq_true (by omega)
    have t57 : decide ((c : Int) ≤ (57 : Int)) = false := decide_eq_false (by omega)
    have s57 : decide (c ≤ 57) = false := decide_eq_false (by omega)
    have hl : letterB c = false := by unfold letterB; simp only [s97, s122, s65, s90]; simp; try omega
    have hd : digB c = false := by unfold digB; rw [s48, s57]; rfl
    have HV := Lib.hid (show R = (decide (k < 1024) && (false || (false && decide (0 < k)))) by rw [← HR.out]; unfold placeB; rw [hl, hd])
    clear hl hd HR
    go_enter Tryd.func20, Tryd.ntmps20
    go_wp2
    go_ret
    exact ⟨congrArg (fun x => Ending.returned (.bool x)) (show false = R by rw [HV.out]; simp), rfl⟩
  by_cases h7 : c ≤ 122
  · have t97 : decide ((97 : Int) ≤ (c : Int)) = true := decide_eq_true (by omega)
    have s97 : decide (97 ≤ c) = true := decide_eq_true (by omega)
    have t122 : decide ((c : Int) ≤ (122 : Int)) = true := decide_eq_true (by omega)
    have s122 : decide (c ≤ 122) = true := decide_eq_true (by omega)
    have t65 : decide ((65 : Int) ≤ (c : Int)) = true := decide_eq_true (by omega)
    have s65 : decide (65 ≤ c) = true := decide_eq_true (by omega)
    have t90 : decide ((c : Int) ≤ (90 : Int)) = false := decide_eq_false (by omega)
    have s90 : decide (c ≤ 90) = false := decide_eq_false (by omega)
    have t95 : ((c : Int) == 95) = false := by simp; omega
    have t48 : decide ((48 : Int) ≤ (c : Int)) = true := decide_eq_true (by omega)
    have s48 : decide (48 ≤ c) = true := decide_eq_true (by omega)
    have t57 : decide ((c : Int) ≤ (57 : Int)) = false := decide_eq_false (by omega)
    have s57 : decide (c ≤ 57) = false := decide_eq_false (by omega)
    have hl : letterB c = true := by unfold letterB; simp only [s97, s122, s65, s90]; simp; try omega
    have hd : digB c = false := by unfold digB; rw [s48, s57]; rfl
    have HV := Lib.hid (show R = (decide (k < 1024) && (true || (false && decide (0 < k)))) by rw [← HR.out]; unfold placeB; rw [hl, hd])
    clear hl hd HR
    by_cases hk : k < 1024
    · have k1 : decide ((k : Int) < 1024) = true := decide_eq_true (by omega)
      have k2 : decide (k < 1024) = true := decide_eq_true (by omega)
      go_enter Tryd.func20, Tryd.ntmps20
      go_wp2
      go_ret
      exact ⟨congrArg (fun x => Ending.returned (.bool x)) (show true = R by rw [HV.out, k2]; simp), rfl⟩
    · have k1 : decide ((k : Int) < 1024) = false := decide_eq_false (by omega)
      have k2 : decide (k < 1024) = false := decide_eq_false (by omega)
      go_enter Tryd.func20, Tryd.ntmps20
      go_wp2
      go_ret
      exact ⟨congrArg (fun x => Ending.returned (.bool x)) (show false = R by rw [HV.out, k2]; simp), rfl⟩
  have t97 : decide ((97 : Int) ≤ (c : Int)) = true := decide_eq_true (by omega)
  have s97 : decide (97 ≤ c) = true := decide_eq_true (by omega)
  have t122 : decide ((c : Int) ≤ (122 : Int)) = false := decide_eq_false (by omega)
  have s122 : decide (c ≤ 122) = false := decide_eq_false (by omega)
  have t65 : decide ((65 : Int) ≤ (c : Int)) = true := decide_eq_true (by omega)
  have s65 : decide (65 ≤ c) = true := decide_eq_true (by omega)
  have t90 : decide ((c : Int) ≤ (90 : Int)) = false := decide_eq_false (by omega)
  have s90 : decide (c ≤ 90) = false := decide_eq_false (by omega)
  have t95 : ((c : Int) == 95) = false := by simp; omega
  have t48 : decide ((48 : Int) ≤ (c : Int)) = true := decide_eq_true (by omega)
  have s48 : decide (48 ≤ c) = true := decide_eq_true (by omega)
  have t57 : decide ((c : Int) ≤ (57 : Int)) = false := decide_eq_false (by omega)
  have s57 : decide (c ≤ 57) = false := decide_eq_false (by omega)
  have hl : letterB c = false := by unfold letterB; simp only [s97, s122, s65, s90]; simp; try omega
  have hd : digB c = false := by unfold digB; rw [s48, s57]; rfl
  have HV := Lib.hid (show R = (decide (k < 1024) && (false || (false && decide (0 < k)))) by rw [← HR.out]; unfold placeB; rw [hl, hd])
  clear hl hd HR
  go_enter Tryd.func20, Tryd.ntmps20
  go_wp2
  go_ret
  exact ⟨congrArg (fun x => Ending.returned (.bool x)) (show false = R by rw [HV.out]; simp), rfl⟩
end Go.Proofs.YtphighddlfabbaaDoor
namespace Go.Proofs.YtphighddlfabbaaDoor
set_option linter.unusedVariables false
set_option linter.unusedSimpArgs false
open Go.RowKit Go.PlainAid
theorem strOf_app (a b : List Nat) : strOf a ++ strOf b = strOf (a ++ b) := by
  apply ByteArray.ext
  rw [ByteArray.data_append]
  unfold strOf
  simp
theorem strOf_cut (bs : List Nat) (p q : Nat) (h : p ≤ q) (hq : q ≤ bs.length) : (strOf bs).extract p q = strOf ((bs.drop p).take (q - p)) := by
  apply ByteArray.ext
  rw [ByteArray.data_extract]
  unfold strOf
  apply Array.toList_inj.1
  simp only [List.extract_toArray, Array.toList_extract, List.extract_eq_take_drop, List.map_drop, List.map_take]
theorem strOf_same {ds bs : List Nat} (h : IsB ds) (k : IsB bs) : strOf ds = strOf bs ↔ ds = bs := ⟨strOf_inj h k, fun e => by rw [e]⟩
/-- how far a name goes -/
def nmA : List Nat → Nat → Nat
  | [], k => k
  | c :: cs, k => if placeB c k = true then nmA cs (k + 1) else k
theorem nmA_le : ∀ (bs : List Nat) (k : Nat), k ≤ nmA bs k ∧ nmA bs k ≤ k + bs.length
  | [], k => by simp [nmA]
  | c :: cs, k => by
    have := nmA_le cs (k + 1)
    unfold nmA
    split
    · simp only [List.length_cons]; omega
    · simp only [List.length_cons]; omega
def nmL (bs : List Nat) : Nat := nmA bs 0
theorem nmL_le (bs : List Nat) : nmL bs ≤ bs.length := by
  have := nmA_le bs 0
  unfold nmL
  omega
set_option maxHeartbeats 1000000 in
theorem nameahead_any (bs : List Nat) (hB : IsB bs) (w : World) : Calls Tryd.prog 16 #[.string (strOf bs)] w fun e w' => e = .returned (.string (strOf (bs.take (nmL bs)))) ∧ w' = w := by
  have hsz := strOf_size bs
  have hbt := get_bt (strOf bs)
  have HS := Lib.hid (strOf_bt bs hB)
  have HX := Lib.hid (fun k hk => strOf_cut bs 0 k (Nat.zero_le _) hk)
  obtain ⟨L, hL⟩ : ∃ L, bs.length = L := ⟨_, rfl⟩
  rw [hL] at hsz HX
  have HL := Lib.hid hL
  have HB := Lib.hid hB
  clear hL hB
  go_enter Tryd.func16, Tryd.ntmps16
  go_wp2
  go_loopw [3] (fun i wr => ∃ (k : Nat), k ≤ L ∧ k ≤ 1024 ∧ i = .int .i64 k ∧ wr = w ∧ Hid (nmL bs = nmA (bs.drop k) k)) (fun i _ => (L - (intOf i).toNat))
  case atStart => exact ⟨0, by omega, by omega, rfl, rfl, Lib.hid rfl⟩
  case round =>
    obtain ⟨k, hk, hk9, rfl, rfl, HN⟩ := hrel
    by_cases hkL : k < L
    · have da : decide ((k : Int) < (L : Int)) = true := decide_eq_true (by omega)
      have da2 : decide (k < L) = true := decide_eq_true hkL
      have hkb := HS.out k (by rw [HL.out]; exact hkL)
      have hc256 := HB.out.at k (by rw [HL.out]; exact hkL)
      obtain ⟨c, hc⟩ : ∃ c, bs[k]'(by rw [HL.out]; exact hkL) = c := ⟨_, rfl⟩
      have HD := Lib.hid (show bs.drop k = c :: bs.drop (k + 1) by rw [← hc]; exact List.drop_eq_getElem_cons (by rw [HL.out]; exact hkL))
      rw [hc] at hkb hc256
      clear hc
      have CP := Lib.hid (fun w => hasplace_any c k hc256 w)
      by_cases hp : placeB c k = true
      · rw [hp] at CP
        have hk3 : k < 1024 := by unfold placeB at hp; rw [Bool.and_eq_true] at hp; exact of_decide_eq_true hp.1
        have HN2 := Lib.hid (show nmL bs = nmA (bs.drop (k + 1)) (k + 1) by rw [HN.out, HD.out, nmA, if_pos hp])
        clear hp
        go_wp2_with (go_at_call 20; refine (CP.out _).mono ?_; rintro e w' ⟨rfl, rfl⟩)
        go_roundw
        case rel => exact ⟨k + 1, by omega, by omega, by simp, trivial, HN2⟩
        case measure => simp [intOf]; omega
      · have hp2 : placeB c k = false := by simpa using hp
        rw [hp2] at CP
        have HN2 := Lib.hid (show nmL bs = k by rw [HN.out, HD.out, nmA, if_neg hp])
        have HX2 := HX.out k hk
        clear hp hp2
        go_wp2_with (go_at_call 20; refine (CP.out _).mono ?_; rintro e w' ⟨rfl, rfl⟩)
        go_ret
        exact ⟨congrArg (fun x => Ending.returned (.string x)) (by rw [HN2.out]), rfl⟩
    · have hkk : k = L := by omega
      subst hkk
      have da : decide ((k : Int) < (k : Int)) = false := decide_eq_false (by omega)
      have da2 : decide (k < k) = false := decide_eq_false (by omega)
      have HN2 := Lib.hid (show nmL bs = k by rw [HN.out, List.drop_eq_nil_of_le (by rw [HL.out]; omega), nmA])
      have HX2 := HX.out k hk
      go_wp2
      go_ret
      exact ⟨congrArg (fun x => Ending.returned (.string x)) (by rw [HN2.out]), rfl⟩
/-- is it a name -/
def nameB (s : ByteArray) : Bool := decide (bytesOf s ≠ []) && decide (nmL (bytesOf s) = (bytesOf s).length)
theorem take_eq_self {α : Type} (l : List α) (k : Nat) (hk : k ≤ l.length) : l.take k = l ↔ k = l.length := by
  constructor
  · intro h
    have := congrArg List.length h
    rw [List.length_take] at this
    omega
  · rintro rfl
    exact List.take_length
set_option maxHeartbeats 1000000 in
theorem name_any (s : ByteArray) (w : World) : Calls Tryd.prog 14 #[.string s] w fun e w' => e = .returned (.bool (nameB s)) ∧ w' = w := by
  have hB := isB_bytesOf s
  have hlen := bytesOf_length s
  have C := Lib.hid (fun w => nameahead_any (bytesOf s) hB w)
  have hle := nmL_le (bytesOf s)
  rw [strOf_bytesOf] at C
  by_cases h0 : s = ⟨#[]⟩
  · have E := Lib.hid (show nameB s = false by subst h0; rfl)
    subst h0
    clear C hlen hle
    go_enter Tryd.func14, Tryd.ntmps14
    go_wp2
    go_ret
    exact ⟨congrArg (fun x => Ending.returned (.bool x)) E.out.symm, rfl⟩
  · have hne : ¬ s.toList = ByteArray.toList ⟨#[]⟩ := fun e => h0 ((toList_iff _ _).1 e)
    have hne2 : ¬ s.toList = [] := fun e => hne (by rw [e, ByteArray.toList_eq])
    have hie : s.toList.isEmpty = false := by cases h : s.toList with
      | nil => exact absurd h hne2
      | cons => rfl
    have hb0 : bytesOf s ≠ [] := fun e => h0 (by rw [← strOf_bytesOf s, e]; rfl)
    by_cases h1 : nmL (bytesOf s) = (bytesOf s).length
    · have E := Lib.hid (show nameB s = true by unfold nameB; rw [decide_eq_true hb0, decide_eq_true h1]; rfl)
      rw [h1, List.take_length, strOf_bytesOf] at C
      have hq : s.toList = s.toList := rfl
      clear hlen hle h1 hb0
      go_enter Tryd.func14, Tryd.ntmps14
      go_wp2_with (go_at_call 16; refine (C.out _).mono ?_; rintro e w' ⟨rfl, rfl⟩)
      go_ret
      exact ⟨congrArg (fun x => Ending.returned (.bool x)) E.out.symm, rfl⟩
    · have E := Lib.hid (show nameB s = false by unfold nameB; rw [decide_eq_false h1, Bool.and_false])
      obtain ⟨T, hT⟩ : ∃ T, strOf ((bytesOf s).take (nmL (bytesOf s))) = T := ⟨_, rfl⟩
      have hTs : ¬ T = s := by
        rw [← hT]
        intro e
        refine h1 ((take_eq_self _ _ hle).1 ?_)
        have e2 : strOf ((bytesOf s).take (nmL (bytesOf s))) = strOf (bytesOf s) := by rw [e, strOf_bytesOf]
        exact strOf_inj (fun c hc => hB c (List.mem_of_mem_take hc)) hB e2
      rw [hT] at C
      have hq : ¬ T.toList = s.toList := fun e => hTs ((toList_iff _ _).1 e)
      have hq2 : (T.toList == s.toList) = false := by simpa using hq
      clear hlen hle h1 hb0 hT
      go_enter Tryd.func14, Tryd.ntmps14
      go_wp2_with (go_at_call 16; refine (C.out _).mono ?_; rintro e w' ⟨rfl, rfl⟩)
      go_ret
      exact ⟨congrArg (fun x => Ending.returned (.bool x)) E.out.symm, rfl⟩
end Go.Proofs.YtphighddlfabbaaDoor
namespace Go.Proofs.YtphighddlfabbaaDoor
namespace Rx
set_option linter.unusedVariables false
/-- a set of bytes: four words -/
structure Set4 where
  a : Nat
  b : Nat
  c : Nat
  d : Nat
def Set4.word (x : Set4) (i : Nat) : Nat := if i = 0 then x.a else if i = 1 then x.b else if i = 2 then x.c else x.d
def Set4.has (x : Set4) (c : Nat) : Bool := (x.word (c / 64)).testBit (c % 64)
def Set4.none : Set4 := ⟨0, 0, 0, 0⟩
/-- a part of a pattern -/
inductive Node where
  | byte (x : Set4)
  | edge (e : Nat)
  | seq (kids : List Node)
  | alt (kids : List Node)
  | group (number : Nat) (kid : Node)
  | count (least : Nat) (most : Option Nat) (plus lazy : Bool) (kid : Node)
theorem Node.ind {P : Node → Prop} (h1 : ∀ x, P (.byte x)) (h2 : ∀ e, P (.edge e)) (h3 : ∀ ks, (∀ t ∈ ks, P t) → P (.seq ks)) (h4 : ∀ ks, (∀ t ∈ ks, P t) → P (.alt ks))
    (h5 : ∀ n t, P t → P (.group n t)) (h6 : ∀ l m p z t, P t → P (.count l m p z t)) : ∀ t, P t := fun t =>
  Node.rec (motive_1 := P) (motive_2 := fun ks => ∀ t ∈ ks, P t) h1 h2 h3 h4 (fun n t h => h5 n t h) (fun l m p z t h => h6 l m p z t h) (fun _ h => by cases h)
    (fun t ts h k u hu => by
      rcases List.mem_cons.1 hu with rfl | hu
      · exact h
      · exact k u hu) t
/-- the edges at a place of a text of that length -/
def edgesAt (L i : Nat) : Nat := (if i = 0 then 1 else 0) ||| (if i = L then 2 else 0)
def Reps (R : Nat → Nat → Prop) : Nat → Nat → Nat → Prop
  | 0, i, j => i = j
  | n + 1, i, j => ∃ k, R i k ∧ Reps R n k j
mutual
/-- a tree fits the text from here to there -/
def Fits (T : List Nat) : Node → Nat → Nat → Prop
  | .byte x, i, j => ∃ c, T[i]? = some c ∧ x.has c = true ∧ j = i + 1
  | .edge e, i, j => e &&& edgesAt T.length i ≠ 0 ∧ j = i
  | .seq ks, i, j => FitsSeq T ks i j
  | .alt ks, i, j => FitsAlt T ks i j
  | .group _ t, i, j => Fits T t i j
  | .count l m _ _ t, i, j => ∃ n, l ≤ n ∧ (∀ M, m = some M → n ≤ M) ∧ Reps (Fits T t) n i j
def FitsSeq (T : List Nat) : List Node → Nat → Nat → Prop
  | [], i, j => i = j
  | t :: ts, i, j => ∃ k, Fits T t i k ∧ FitsSeq T ts k j
def FitsAlt (T : List Nat) : List Node → Nat → Nat → Prop
  | [], _, _ => False
  | t :: ts, i, j => Fits T t i j ∨ FitsAlt T ts i j
end
theorem reps_le {R : Nat → Nat → Prop} (h : ∀ i j, R i j → i ≤ j) : ∀ n i j, Reps R n i j → i ≤ j
  | 0, i, j, k => Nat.le_of_eq k
  | n + 1, i, j, ⟨m, a, b⟩ => Nat.le_trans (h i m a) (reps_le h n m j b)
theorem fits_le (T : List Nat) : ∀ t i j, Fits T t i j → i ≤ j := by
  intro t
  induction t using Node.ind with
  | h1 x => intro i j h; unfold Fits at h; obtain ⟨c, _, _, rfl⟩ := h; omega
  | h2 e => intro i j h; unfold Fits at h; omega
  | h3 ks ih =>
    intro i j h; unfold Fits at h
    induction ks generalizing i with
    | nil => unfold FitsSeq at h; omega
    | cons t ts k =>
      unfold FitsSeq at h
      obtain ⟨m, a, b⟩ := h
      have := ih t (by simp) i m a
      have := k (fun u hu => ih u (by simp [hu])) m b
      omega
  | h4 ks ih =>
    intro i j h; unfold Fits at h
    induction ks with
    | nil => unfold FitsAlt at h; exact h.elim
    | cons t ts k =>
      unfold FitsAlt at h
      rcases h with h | h
      · exact ih t (by simp) i j h
      · exact k (fun u hu => ih u (by simp [hu])) h
  | h5 n t ih => intro i j h; unfold Fits at h; exact ih i j h
  | h6 l m p z t ih =>
    intro i j h; unfold Fits at h
    obtain ⟨n, _, _, h⟩ := h
    exact reps_le ih n i j h
/-- how a part fits the empty text at a place with these edges, in the way that is preferred; the groups that take part -/
def posMost : Option Nat → Bool
  | none => false
  | some m => decide (0 < m)
mutual
def emptyAt : Node → Nat → Bool × List Nat
  | .byte _, _ => (false, [])
  | .edge e, k => (decide (e &&& k ≠ 0), [])
  | .seq ks, k => emptySeq ks k []
  | .alt ks, k => emptyAlt ks k
  | .group n t, k => if (emptyAt t k).1 then (true, [n] ++ (emptyAt t k).2) else (false, [])
  | .count l m _ z t, k => if 0 < l ∨ ((emptyAt t k).1 = true ∧ posMost m = true ∧ z = false) then emptyAt t k else (true, [])
def emptySeq : List Node → Nat → List Nat → Bool × List Nat
  | [], _, g => (true, g)
  | t :: ts, k, g => if (emptyAt t k).1 then emptySeq ts k (g ++ (emptyAt t k).2) else (false, [])
def emptyAlt : List Node → Nat → Bool × List Nat
  | [], _ => (false, [])
  | t :: ts, k => if (emptyAt t k).1 then emptyAt t k else emptyAlt ts k
end
mutual
/-- trees that a reader makes -/
def Wf : Node → Prop
  | .byte _ => True
  | .edge _ => True
  | .seq ks => WfAll ks
  | .alt ks => ks ≠ [] ∧ WfAll ks
  | .group _ t => Wf t
  | .count l m p z t => Wf t ∧ (∀ M, m = some M → l ≤ M) ∧ (p = true → l = 1 ∧ m = none)
def WfAll : List Node → Prop
  | [] => True
  | t :: ts => Wf t ∧ WfAll ts
end
theorem wfAll_mem : ∀ ks, WfAll ks → ∀ t ∈ ks, Wf t
  | [], _, _, h => by cases h
  | t :: ts, h, u, hu => by
    unfold WfAll at h
    rcases List.mem_cons.1 hu with rfl | hu
    · exact h.1
    · exact wfAll_mem ts h.2 u hu
theorem reps_self {R : Nat → Nat → Prop} (hR : ∀ i j, R i j → i ≤ j) : ∀ n i, Reps R n i i ↔ (n = 0 ∨ R i i)
  | 0, i => by simp [Reps]
  | n + 1, i => by
    constructor
    · rintro ⟨m, a, b⟩
      have h1 := hR i m a
      have h2 := reps_le hR n m i b
      have : m = i := by omega
      subst this
      exact .inr a
    · intro h
      rcases h with h | h
      · omega
      · exact ⟨i, h, (reps_self hR n i).2 (.inr h)⟩
/-- what it says of the empty text is so -/
theorem empty_iff (T : List Nat) (i : Nat) : ∀ t, Wf t → ((emptyAt t (edgesAt T.length i)).1 = true ↔ Fits T t i i) := by
  intro t
  induction t using Node.ind with
  | h1 x => intro _; unfold emptyAt Fits; simp
  | h2 e => intro _; unfold emptyAt Fits; simp
  | h3 ks ih =>
    intro hw
    unfold emptyAt Fits
    unfold Wf at hw
    generalize hg : ([] : List Nat) = g
    clear hg
    induction ks generalizing g with
    | nil => unfold emptySeq FitsSeq; simp
    | cons t ts k =>
      unfold WfAll at hw
      unfold emptySeq FitsSeq
      have h1 := ih t (by simp) hw.1
      have h2 := k (fun u hu => ih u (by simp [hu])) hw.2
      split
      · rename_i h
        refine (h2 _).trans ?_
        constructor
        · intro q; exact ⟨i, h1.1 h, q⟩
        · rintro ⟨m, a, b⟩
          have e1 := fits_le T t i m a
          have e2 := fits_le T (.seq ts) m i (by unfold Fits; exact b)
          have : m = i := by omega
          subst this
          exact b
      · rename_i h
        constructor
        · intro q; cases q
        · rintro ⟨m, a, b⟩
          have e1 := fits_le T t i m a
          have e2 := fits_le T (.seq ts) m i (by unfold Fits; exact b)
          have : m = i := by omega
          subst this
          exact absurd (h1.2 a) h
  | h4 ks ih =>
    intro hw
    unfold emptyAt Fits
    unfold Wf at hw
    replace hw := hw.2
    induction ks with
    | nil => unfold emptyAlt FitsAlt; simp
    | cons t ts k =>
      unfold WfAll at hw
      unfold emptyAlt FitsAlt
      have h1 := ih t (by simp) hw.1
      have h2 := k (fun u hu => ih u (by simp [hu])) hw.2
      split
      · rename_i h
        constructor
        · intro _; exact .inl (h1.1 h)
        · intro _; exact h
      · rename_i h
        constructor
        · intro q; exact .inr (h2.1 q)
        · rintro (q | q)
          · exact absurd (h1.2 q) h
          · exact h2.2 q
  | h5 n t ih =>
    intro hw
    unfold Wf at hw
    unfold emptyAt Fits
    rw [← ih hw]
    split <;> simp_all
  | h6 l m p z t ih =>
    intro hw
    unfold Wf at hw
    obtain ⟨hw, hm, _⟩ := hw
    have h1 := ih hw
    unfold emptyAt Fits
    split
    · rename_i h
      rw [h1]
      constructor
      · intro q
        refine ⟨l, Nat.le_refl _, fun M e => hm M e, ?_⟩
        exact (reps_self (fits_le T t) l i).2 (.inr q)
      · rintro ⟨n, a, b, c⟩
        rcases (reps_self (fits_le T t) n i).1 c with c | c
        · rcases h with h | h
          · omega
          · exact h1.1 h.1
        · exact c
    · rename_i h
      refine ⟨fun _ => ⟨0, by omega, fun M _ => Nat.zero_le _, rfl⟩, fun _ => rfl⟩
end Rx
end Go.Proofs.YtphighddlfabbaaDoor
namespace Go.Proofs.YtphighddlfabbaaDoor
namespace Rx
set_option linter.unusedVariables false
set_option linter.unusedSimpArgs false
def statesOf (l : Nat) (m : Option Nat) (p : Bool) (x : Nat) : Nat :=
  if p then x + 1 else match m with
    | none => l * x + x + 2
    | some m => l * x + (m - l) * (x + 1)
mutual
/-- states, at most 1001 -/
def states : Node → Nat
  | .byte _ => 1
  | .edge _ => 1
  | .seq ks => min (statesAll ks 0) 1001
  | .alt ks => min (statesAll ks (2 * (ks.length - 1))) 1001
  | .group _ t => min (2 + states t) 1001
  | .count l m p _ t => min (statesOf l m p (states t)) 1001
def statesAll : List Node → Nat → Nat
  | [], n => n
  | t :: ts, n => statesAll ts (n + states t)
end
mutual
/-- how many instructions -/
def size : Node → Nat
  | .byte _ => 1
  | .edge _ => 1
  | .seq ks => sizeAll ks
  | .alt ks => sizeAll ks + 2 * (ks.length - 1)
  | .group _ t => size t + 2
  | .count l m p _ t => if p then size t + 2 else (if states t = 0 then 0 else l * size t) + match m with
    | none => size t + 2
    | some m => (m - l) * (size t + 1)
def sizeAll : List Node → Nat
  | [] => 0
  | t :: ts => size t + sizeAll ts
end
/-- a step of a program; the kinds: 0 fit, 1 fitted, 2 edge, 3 save, 4 jump, 5 choice, 6 first, 7 loop, 8 again -/
structure Instr where
  kind : Nat
  bytes : Set4
  edge : Nat
  slot : Nat
  lazy : Bool
  next : Nat
  other : Nat
  empty : List (Bool × List Nat)
def iFit (x : Set4) (b : Nat) : Instr := ⟨0, x, 0, 0, false, b + 1, 0, []⟩
def iFitted (b : Nat) : Instr := ⟨1, Set4.none, 0, 0, false, b + 1, 0, []⟩
def iEdge (e b : Nat) : Instr := ⟨2, Set4.none, e, 0, false, b + 1, 0, []⟩
def iSave (s b : Nat) : Instr := ⟨3, Set4.none, 0, s, false, b + 1, 0, []⟩
def iJump (n : Nat) : Instr := ⟨4, Set4.none, 0, 0, false, n, 0, []⟩
def iChoice (n o : Nat) : Instr := ⟨5, Set4.none, 0, 0, false, n, o, []⟩
def iFirst (z : Bool) (n o : Nat) (e : List (Bool × List Nat)) : Instr := ⟨6, Set4.none, 0, 0, z, n, o, e⟩
def iLoop (z : Bool) (n o : Nat) : Instr := ⟨7, Set4.none, 0, 0, z, n, o, []⟩
def iAgain (z : Bool) (n o : Nat) : Instr := ⟨8, Set4.none, 0, 0, z, n, o, []⟩
def emptiesOf (t : Node) : List (Bool × List Nat) := [emptyAt t 0, emptyAt t 1, emptyAt t 2, emptyAt t 3]
/-- so many times, one behind the other -/
def repCode (f : Nat → List Instr) (s : Nat) : Nat → Nat → List Instr
  | 0, _ => []
  | n + 1, b => f b ++ repCode f s n (b + s)
/-- so many times, each of which may be the first that is left out -/
def optCode (f : Nat → List Instr) (s : Nat) (z : Bool) (E : Nat) : Nat → Nat → List Instr
  | 0, _ => []
  | n + 1, b => (if z then iChoice E (b + 1) else iChoice (b + 1) E) :: (f (b + 1) ++ optCode f s z E n (b + 1 + s))
mutual
/-- a tree's instructions, where they begin there -/
def code : Node → Nat → List Instr
  | .byte x, b => [iFit x b]
  | .edge e, b => [iEdge e b]
  | .seq ks, b => codeSeq ks b
  | .alt ks, b => codeAlt ks b (b + (sizeAll ks + 2 * (ks.length - 1)))
  | .group n t, b => iSave (2 * n) b :: (code t (b + 1) ++ [iSave (2 * n + 1) (b + 1 + size t)])
  | .count l m p z t, b =>
    if p then iFirst z (b + size t + 2) (b + 1) (emptiesOf t) :: (code t (b + 1) ++ [iAgain z (b + size t + 2) (b + 1)])
    else
      let h := if states t = 0 then 0 else l
      let d := b + h * size t
      repCode (code t) (size t) h b ++ match m with
        | none => iLoop z (d + size t + 2) (d + 1) :: (code t (d + 1) ++ [iAgain z (d + size t + 2) (d + 1)])
        | some m => optCode (code t) (size t) z (d + (m - l) * (size t + 1)) (m - l) d
def codeSeq : List Node → Nat → List Instr
  | [], _ => []
  | t :: ts, b => code t b ++ codeSeq ts (b + size t)
def codeAlt : List Node → Nat → Nat → List Instr
  | [], _, _ => []
  | [t], b, _ => code t b
  | t :: (u :: ts), b, E => iChoice (b + 1) (b + 1 + size t + 1) :: (code t (b + 1) ++ (iJump E :: codeAlt (u :: ts) (b + 1 + size t + 1) E))
end
theorem repCode_length (f : Nat → List Instr) (s : Nat) (hf : ∀ b, (f b).length = s) : ∀ n b, (repCode f s n b).length = n * s
  | 0, b => by simp [repCode]
  | n + 1, b => by rw [repCode, List.length_append, hf, repCode_length f s hf n, Nat.succ_mul]; omega
theorem optCode_length (f : Nat → List Instr) (s : Nat) (z : Bool) (E : Nat) (hf : ∀ b, (f b).length = s) : ∀ n b, (optCode f s z E n b).length = n * (s + 1)
  | 0, b => by simp [optCode]
  | n + 1, b => by rw [optCode, List.length_cons, List.length_append, hf, optCode_length f s z E hf n, Nat.succ_mul]; omega
theorem code_length : ∀ t, Wf t → ∀ b, (code t b).length = size t := by
  intro t
  induction t using Node.ind with
  | h1 x => intro _ b; unfold code size; rfl
  | h2 e => intro _ b; unfold code size; rfl
  | h3 ks ih =>
    intro hw b
    unfold code size
    unfold Wf at hw
    induction ks generalizing b with
    | nil => unfold codeSeq sizeAll; rfl
    | cons t ts k =>
      unfold WfAll at hw
      unfold codeSeq sizeAll
      rw [List.length_append, ih t (by simp) hw.1, k (fun u hu => ih u (by simp [hu])) _ hw.2]
  | h4 ks ih =>
    intro hw b
    unfold code size
    unfold Wf at hw
    replace hw := hw.2
    generalize b + (sizeAll ks + 2 * (ks.length - 1)) = E
    induction ks generalizing b with
    | nil => unfold codeAlt sizeAll; rfl
    | cons t ts k =>
      unfold WfAll at hw
      cases ts with
      | nil => unfold codeAlt sizeAll sizeAll; rw [ih t (by simp) hw.1]; simp
      | cons u us =>
        unfold codeAlt sizeAll
        have := k (fun u hu => ih u (by simp [hu])) (b + 1 + size t + 1) hw.2
        rw [List.length_cons, List.length_append, List.length_cons, ih t (by simp) hw.1, this]
        simp only [List.length_cons]
        omega
  | h5 n t ih =>
    intro hw b
    unfold Wf at hw
    unfold code size
    rw [List.length_cons, List.length_append, ih hw]
    simp
  | h6 l m p z t ih =>
    intro hw b
    unfold Wf at hw
    have h := ih hw.1
    simp only [code, size]
    cases p
    · simp only [Bool.false_eq_true, if_false, List.length_append]
      rw [repCode_length _ _ h]
      cases m with
      | none =>
        simp only [List.length_cons, List.length_append, h, List.length_nil]
        split <;> omega
      | some m =>
        simp only
        rw [optCode_length _ _ _ _ h]
        split <;> omega
    · simp [h]
/-- the program has these instructions from there on -/
def At (P : List Instr) (b : Nat) (c : List Instr) : Prop := ∀ k, k < c.length → P[b + k]? = c[k]?
theorem At.app {P : List Instr} {b : Nat} {c d : List Instr} (h : At P b (c ++ d)) : At P b c ∧ At P (b + c.length) d := by
  refine ⟨fun k hk => ?_, fun k hk => ?_⟩
  · rw [h k (by simp; omega), List.getElem?_append_left hk]
  · have := h (c.length + k) (by simp; omega)
    rw [← Nat.add_assoc] at this
    rw [this, List.getElem?_append_right (by omega)]
    congr 1
    omega
theorem At.cons {P : List Instr} {b : Nat} {x : Instr} {d : List Instr} (h : At P b (x :: d)) : P[b]? = some x ∧ At P (b + 1) d := by
  have := At.app (c := [x]) (d := d) (P := P) (b := b) h
  refine ⟨?_, this.2⟩
  have h0 := this.1 0 (by simp)
  simpa using h0
theorem At.one {P : List Instr} {b : Nat} {x : Instr} (h : At P b [x]) : P[b]? = some x := h.cons.1
/-- where the machine stands: an instruction, a way (0 free, 1 inside, 2 ahead), a place -/
structure Cf where
  s : Nat
  w : Nat
  i : Nat
/-- one step; on the way that is followed in full -/
inductive Step (P : List Instr) (T : List Nat) : Cf → Cf → Prop where
  | fit (s w i : Nat) (x : Instr) (c : Nat) : P[s]? = some x → x.kind = 0 → T[i]? = some c → x.bytes.has c = true → Step P T ⟨s, w, i⟩ ⟨x.next, 0, i + 1⟩
  | edge (s w i : Nat) (x : Instr) : P[s]? = some x → x.kind = 2 → x.edge &&& edgesAt T.length i ≠ 0 → Step P T ⟨s, w, i⟩ ⟨x.next, w, i⟩
  | goto (s w i : Nat) (x : Instr) : P[s]? = some x → (x.kind = 3 ∨ x.kind = 4 ∨ x.kind = 5 ∨ x.kind = 7) → Step P T ⟨s, w, i⟩ ⟨x.next, w, i⟩
  | other (s w i : Nat) (x : Instr) : P[s]? = some x → x.kind = 5 → Step P T ⟨s, w, i⟩ ⟨x.other, w, i⟩
  | body (s w i : Nat) (x : Instr) : P[s]? = some x → (x.kind = 6 ∨ x.kind = 7) → Step P T ⟨s, w, i⟩ ⟨x.other, 1, i⟩
  | pass (s w i : Nat) (x : Instr) : P[s]? = some x → x.kind = 6 → (x.empty.getD (edgesAt T.length i) (false, [])).1 = true → Step P T ⟨s, w, i⟩ ⟨x.next, w, i⟩
  | leave (s i : Nat) (x : Instr) : P[s]? = some x → x.kind = 8 → Step P T ⟨s, 0, i⟩ ⟨x.next, 0, i⟩
  | more (s i : Nat) (x : Instr) : P[s]? = some x → x.kind = 8 → Step P T ⟨s, 0, i⟩ ⟨x.other, 1, i⟩
inductive Star (P : List Instr) (T : List Nat) : Cf → Cf → Prop where
  | refl (a : Cf) : Star P T a a
  | head {a b c : Cf} : Step P T a b → Star P T b c → Star P T a c
theorem Star.trans {P : List Instr} {T : List Nat} {a b c : Cf} (h : Star P T a b) (k : Star P T b c) : Star P T a c := by
  induction h with
  | refl => exact k
  | head s _ ih => exact .head s (ih k)
theorem Star.one {P : List Instr} {T : List Nat} {a b : Cf} (h : Step P T a b) : Star P T a b := .head h (.refl _)
/-- the way behind a part: free, if a byte was taken -/
def wayTo (w i j : Nat) : Nat := if i = j then w else 0
theorem wayTo_self (w i : Nat) : wayTo w i i = w := by simp [wayTo]
theorem wayTo_trans (w i j k : Nat) (h : i ≤ j) (g : j ≤ k) : wayTo (wayTo w i j) j k = wayTo w i k := by
  unfold wayTo
  by_cases h1 : i = j
  · subst h1
    by_cases h2 : i = k
    · simp [h2]
    · simp [h2]
  · by_cases h2 : j = k
    · subst h2; simp [h1]
    · have : ¬ i = k := by omega
      simp [h1, h2, this]
theorem edges_lt (L i : Nat) : edgesAt L i < 4 := by unfold edgesAt; split <;> split <;> decide
theorem empties_get (t : Node) (k : Nat) (h : k < 4) : (emptiesOf t).getD k (false, []) = emptyAt t k := by
  unfold emptiesOf
  rcases (by omega : k = 0 ∨ k = 1 ∨ k = 2 ∨ k = 3) with rfl | rfl | rfl | rfl <;> rfl
/-- repetitions without those that take nothing -/
theorem reps_strip {R : Nat → Nat → Prop} (hR : ∀ i j, R i j → i ≤ j) : ∀ n i j, Reps R n i j → ∃ m, Reps (fun a b => R a b ∧ a < b) m i j
  | 0, i, j, h => ⟨0, h⟩
  | n + 1, i, j, ⟨k, a, b⟩ => by
    obtain ⟨m, hm⟩ := reps_strip hR n k j b
    have := hR i k a
    by_cases e : i = k
    · subst e; exact ⟨m, hm⟩
    · exact ⟨m + 1, k, ⟨a, by omega⟩, hm⟩
theorem zero_states (T : List Nat) : ∀ t, Wf t → states t = 0 → ∀ i j, Fits T t i j ↔ i = j := by
  intro t
  induction t using Node.ind with
  | h1 x => intro _ h; unfold states at h; omega
  | h2 e => intro _ h; unfold states at h; omega
  | h3 ks ih =>
    intro hw h i j
    unfold states at h
    unfold Wf at hw
    unfold Fits
    have h0 : statesAll ks 0 = 0 := by omega
    clear h
    have hge : ∀ (ks : List Node) n, n ≤ statesAll ks n := by
      intro ks
      induction ks with
      | nil => intro n; unfold statesAll; omega
      | cons t ts k => intro n; unfold statesAll; have := k (n + states t); omega
    induction ks generalizing i with
    | nil => unfold FitsSeq; exact Iff.rfl
    | cons t ts k =>
      unfold WfAll at hw
      unfold statesAll at h0
      have h1 := hge ts (0 + states t)
      have ht : states t = 0 := by omega
      rw [ht] at h0
      have e1 := ih t (by simp) hw.1 ht
      have e2 := fun i => k (fun u hu => ih u (by simp [hu])) i hw.2 h0
      unfold FitsSeq
      constructor
      · rintro ⟨m, a, b⟩; exact ((e1 i m).1 a).trans ((e2 m).1 b)
      · rintro rfl; exact ⟨i, (e1 i i).2 rfl, (e2 i).2 rfl⟩
  | h4 ks ih =>
    intro hw h i j
    unfold states at h
    unfold Wf at hw
    have h0 : statesAll ks (2 * (ks.length - 1)) = 0 := by omega
    have hge : ∀ (ks : List Node) n, n ≤ statesAll ks n := by
      intro ks
      induction ks with
      | nil => intro n; unfold statesAll; omega
      | cons t ts k => intro n; unfold statesAll; have := k (n + states t); omega
    cases ks with
    | nil => exact absurd rfl hw.1
    | cons t ts =>
      cases ts with
      | cons u us => have := hge (t :: u :: us) (2 * ((t :: u :: us).length - 1)); simp only [List.length_cons] at this h0; omega
      | nil =>
        have hw2 := hw.2
        unfold WfAll at hw2
        simp only [List.length_cons, List.length_nil] at h0
        unfold statesAll statesAll at h0
        unfold Fits FitsAlt FitsAlt
        rw [or_false]
        exact ih t (by simp) hw2.1 (by omega) i j
  | h5 n t ih => intro _ h; unfold states at h; omega
  | h6 l m p z t ih =>
    intro hw h i j
    unfold Wf at hw
    unfold states statesOf at h
    unfold Fits
    cases p
    · cases m with
      | none => simp only [Bool.false_eq_true, if_false] at h; omega
      | some m =>
        simp only [Bool.false_eq_true, if_false] at h
        have hl := hw.2.1 m rfl
        have h1 : l * states t = 0 := by omega
        have h2 : (m - l) * (states t + 1) = 0 := by omega
        have h3 : m - l = 0 := by
          rcases Nat.mul_eq_zero.1 h2 with h | h <;> omega
        have hm : m = l := by omega
        subst hm
        have hr : ∀ n, (n = 0 ∨ states t = 0) → ∀ i j, Reps (Fits T t) n i j ↔ i = j := by
          intro n
          induction n with
          | zero => intro _ i j; exact Iff.rfl
          | succ n k =>
            intro hn i j
            have ht : states t = 0 := by omega
            have e1 := ih hw.1 ht
            constructor
            · rintro ⟨q, a, b⟩; exact ((e1 i q).1 a).trans ((k (.inr ht) q j).1 b)
            · rintro rfl; exact ⟨i, (e1 i i).2 rfl, (k (.inr ht) i i).2 rfl⟩
        constructor
        · rintro ⟨n, a, b, c⟩
          have : n = m := by have := b m rfl; omega
          subst this
          exact (hr n (Nat.mul_eq_zero.1 h1) i j).1 c
        · intro e
          exact ⟨m, Nat.le_refl _, fun M e => by cases e; exact Nat.le_refl _, (hr m (Nat.mul_eq_zero.1 h1) i j).2 e⟩
    · simp only [if_true] at h; omega
end Rx
end Go.Proofs.YtphighddlfabbaaDoor
namespace Go.Proofs.YtphighddlfabbaaDoor
namespace Rx
set_option linter.unusedVariables false
set_option linter.unusedSimpArgs false
theorem reps_lt {R : Nat → Nat → Prop} : ∀ n i j, Reps (fun a b => R a b ∧ a < b) (n + 1) i j → i < j
  | 0, i, j, ⟨k, a, b⟩ => by have : k = j := b; subst this; exact a.2
  | n + 1, i, j, ⟨k, a, b⟩ => Nat.lt_trans a.2 (reps_lt n k j b)
theorem reps_split {R : Nat → Nat → Prop} : ∀ l n i j, Reps R (l + n) i j → ∃ k, Reps R l i k ∧ Reps R n k j
  | 0, n, i, j, h => ⟨i, rfl, by rw [Nat.zero_add] at h; exact h⟩
  | l + 1, n, i, j, h => by
    rw [show l + 1 + n = l + n + 1 by omega] at h
    obtain ⟨q, a, b⟩ := h
    obtain ⟨k, c, d⟩ := reps_split l n q j b
    exact ⟨k, ⟨q, a, c⟩, d⟩
theorem reps_append {R : Nat → Nat → Prop} : ∀ l n i k j, Reps R l i k → Reps R n k j → Reps R (l + n) i j
  | 0, n, i, k, j, h, g => by have : i = k := h; subst this; rw [Nat.zero_add]; exact g
  | l + 1, n, i, k, j, ⟨q, a, b⟩, g => by
    rw [show l + 1 + n = l + n + 1 by omega]
    exact ⟨q, a, reps_append l n q k j b g⟩
theorem size_count (l : Nat) (m : Option Nat) (p z : Bool) (t : Node) : size (.count l m p z t) = if p then size t + 2 else (if states t = 0 then 0 else l * size t) + match m with
    | none => size t + 2
    | some m => (m - l) * (size t + 1) := by cases m <;> rfl
/-- a part that is followed in full -/
def Does (P : List Instr) (T : List Nat) (R : Nat → Nat → Prop) (b e : Nat) : Prop := ∀ i j w, w ≠ 2 → R i j → Star P T ⟨b, w, i⟩ ⟨e, wayTo w i j, j⟩
theorem wayTo_ne {w i j : Nat} (h : w ≠ 2) : wayTo w i j ≠ 2 := by unfold wayTo; split <;> omega
theorem loop_body {P : List Instr} {T : List Nat} {R : Nat → Nat → Prop} {bd a : Nat} {x : Instr} (hx : P[a]? = some x) (hk : x.kind = 8) (ho : x.other = bd) (hB : Does P T R bd a) :
    ∀ n i j, Reps (fun a b => R a b ∧ a < b) (n + 1) i j → Star P T ⟨bd, 1, i⟩ ⟨x.next, 0, j⟩
  | 0, i, j, ⟨k, p, q⟩ => by
    have : k = j := q
    subst this
    have := hB i k 1 (by decide) p.1
    rw [show wayTo 1 i k = 0 by unfold wayTo; rw [if_neg]; omega] at this
    exact this.trans (Star.one (Step.leave _ _ x hx hk))
  | n + 1, i, j, ⟨k, p, q⟩ => by
    have := hB i k 1 (by decide) p.1
    rw [show wayTo 1 i k = 0 by unfold wayTo; rw [if_neg]; omega] at this
    have s := Step.more (T := T) a k x hx hk
    rw [ho] at s
    exact this.trans (Star.head s (loop_body hx hk ho hB n k j q))
theorem rep_does {P : List Instr} {T : List Nat} {R : Nat → Nat → Prop} {f : Nat → List Instr} {s : Nat} (hf : ∀ b, (f b).length = s) (hD : ∀ b, At P b (f b) → Does P T R b (b + s)) (hR : ∀ i j, R i j → i ≤ j) :
    ∀ n b, At P b (repCode f s n b) → Does P T (Reps R n) b (b + n * s)
  | 0, b, h => fun i j w hw hr => by
    have : i = j := hr
    subst this
    rw [wayTo_self, Nat.zero_mul]
    exact .refl _
  | n + 1, b, h => fun i j w hw ⟨k, p, q⟩ => by
    have h2 := At.app h
    rw [hf] at h2
    have d1 := hD b h2.1 i k w hw p
    have d2 := rep_does hf hD hR n (b + s) h2.2 k j (wayTo w i k) (wayTo_ne hw) q
    rw [wayTo_trans w i k j (hR _ _ p) (reps_le hR n k j q)] at d2
    rw [show b + (n + 1) * s = b + s + n * s by rw [Nat.succ_mul]; omega]
    exact d1.trans d2
theorem opt_does {P : List Instr} {T : List Nat} {R : Nat → Nat → Prop} {f : Nat → List Instr} {s : Nat} {z : Bool} {E : Nat} (hf : ∀ b, (f b).length = s) (hD : ∀ b, At P b (f b) → Does P T R b (b + s)) (hR : ∀ i j, R i j → i ≤ j) :
    ∀ n b, At P b (optCode f s z E n b) → E = b + n * (s + 1) → ∀ q, q ≤ n → Does P T (Reps R q) b E
  | 0, b, h, hE, q, hq => fun i j w hw hr => by
    have : q = 0 := by omega
    subst this
    have : i = j := hr
    subst this
    rw [wayTo_self, hE, Nat.zero_mul]
    exact .refl _
  | n + 1, b, h, hE, q, hq => fun i j w hw hr => by
    have h2 := At.cons h
    have h3 := At.app h2.2
    rw [hf] at h3
    cases q with
    | zero =>
      have : i = j := hr
      subst this
      rw [wayTo_self]
      cases z
      · exact Star.one (Step.other (T := T) b w i _ h2.1 rfl)
      · exact Star.one (Step.goto (T := T) b w i _ h2.1 (.inr (.inr (.inl rfl))))
    | succ q =>
      obtain ⟨k, p, r⟩ := hr
      have s1 : Star P T ⟨b, w, i⟩ ⟨b + 1, w, i⟩ := by
        cases z
        · exact Star.one (Step.goto (T := T) b w i _ h2.1 (.inr (.inr (.inl rfl))))
        · exact Star.one (Step.other (T := T) b w i _ h2.1 rfl)
      have d1 := hD (b + 1) h3.1 i k w hw p
      have d2 := opt_does (z := z) (E := E) hf hD hR n (b + 1 + s) h3.2 (by rw [hE, Nat.succ_mul]; omega) q (by omega) k j (wayTo w i k) (wayTo_ne hw) r
      rw [wayTo_trans w i k j (hR _ _ p) (reps_le hR q k j r)] at d2
      exact s1.trans (d1.trans d2)
/-- whatever fits has a way through the program -/
theorem complete (P : List Instr) (T : List Nat) : ∀ t, Wf t → ∀ b, At P b (code t b) → Does P T (Fits T t) b (b + size t) := by
  intro t
  induction t using Node.ind with
  | h1 x =>
    intro _ b h i j w hw hF
    unfold Fits at hF
    unfold code at h
    unfold size
    obtain ⟨c, h1, h2, rfl⟩ := hF
    rw [show wayTo w i (i + 1) = 0 by unfold wayTo; rw [if_neg]; omega]
    exact Star.one (Step.fit (T := T) b w i _ c h.one rfl h1 h2)
  | h2 e =>
    intro _ b h i j w hw hF
    unfold Fits at hF
    unfold code at h
    unfold size
    obtain ⟨h1, rfl⟩ := hF
    rw [wayTo_self]
    exact Star.one (Step.edge (T := T) b w j _ h.one rfl h1)
  | h3 ks ih =>
    intro hw b h
    unfold Wf at hw
    unfold code at h
    unfold size
    have e : Fits T (.seq ks) = FitsSeq T ks := by funext i j; unfold Fits; rfl
    rw [e]
    induction ks generalizing b with
    | nil =>
      intro i j w _ hF
      unfold FitsSeq at hF
      subst hF
      rw [wayTo_self]
      unfold sizeAll
      exact .refl _
    | cons t ts k =>
      unfold WfAll at hw
      unfold codeSeq at h
      have h2 := At.app h
      rw [code_length t hw.1] at h2
      intro i j w hww hF
      unfold FitsSeq at hF
      obtain ⟨m, a, c⟩ := hF
      have d1 := ih t (by simp) hw.1 b h2.1 i m w hww a
      have d2 := k (fun u hu => ih u (by simp [hu])) (b + size t) hw.2 h2.2 (by funext i j; unfold Fits; rfl) m j (wayTo w i m) (wayTo_ne hww) c
      rw [wayTo_trans w i m j (fits_le T t i m a) (fits_le T (.seq ts) m j (by unfold Fits; exact c))] at d2
      unfold sizeAll
      rw [← Nat.add_assoc]
      exact d1.trans d2
  | h4 ks ih =>
    intro hw b h
    unfold Wf at hw
    unfold code at h
    unfold size
    have e : Fits T (.alt ks) = FitsAlt T ks := by funext i j; unfold Fits; rfl
    rw [e]
    replace hw := hw.2
    generalize hE : b + (sizeAll ks + 2 * (ks.length - 1)) = E
    rw [hE] at h
    clear e
    induction ks generalizing b with
    | nil => intro i j w _ hF; unfold FitsAlt at hF; exact hF.elim
    | cons t ts k =>
      unfold WfAll at hw
      cases ts with
      | nil =>
        unfold codeAlt at h
        unfold sizeAll sizeAll at hE
        simp only [List.length_cons, List.length_nil] at hE
        have : E = b + size t := by omega
        subst this
        intro i j w hww hF
        unfold FitsAlt FitsAlt at hF
        rw [or_false] at hF
        exact ih t (by simp) hw.1 b h i j w hww hF
      | cons u us =>
        unfold codeAlt at h
        have h2 := At.cons h
        have h3 := At.app h2.2
        rw [code_length t hw.1] at h3
        have h4 := At.cons h3.2
        intro i j w hww hF
        unfold FitsAlt at hF
        rcases hF with hF | hF
        · have s1 : Star P T ⟨b, w, i⟩ ⟨b + 1, w, i⟩ := Star.one (Step.goto (T := T) b w i _ h2.1 (.inr (.inr (.inl rfl))))
          have d1 := ih t (by simp) hw.1 (b + 1) h3.1 i j w hww hF
          exact s1.trans (d1.trans (Star.one (Step.goto (T := T) _ _ j _ h4.1 (.inr (.inl rfl)))))
        · have s1 : Star P T ⟨b, w, i⟩ ⟨b + 1 + size t + 1, w, i⟩ := Star.one (Step.other (T := T) b w i _ h2.1 rfl)
          refine s1.trans (k (fun u hu => ih u (by simp [hu])) (b + 1 + size t + 1) hw.2 h4.2 ?_ i j w hww hF)
          rw [sizeAll] at hE
          simp only [List.length_cons] at hE ⊢
          omega
  | h5 n t ih =>
    intro hw b h i j w hww hF
    unfold Wf at hw
    unfold Fits at hF
    rw [code] at h
    rw [size]
    have h2 := At.cons h
    have h3 := At.app h2.2
    rw [code_length t hw] at h3
    have s1 : Star P T ⟨b, w, i⟩ ⟨b + 1, w, i⟩ := Star.one (Step.goto (T := T) b w i _ h2.1 (.inl rfl))
    have d1 := ih hw (b + 1) h3.1 i j w hww hF
    have s2 : Star P T ⟨b + 1 + size t, wayTo w i j, j⟩ ⟨b + 1 + size t + 1, wayTo w i j, j⟩ := Star.one (Step.goto (T := T) _ _ j _ h3.2.one (.inl rfl))
    rw [show b + (size t + 2) = b + 1 + size t + 1 by omega]
    exact s1.trans (d1.trans s2)
  | h6 l m p z t ih =>
    intro hw b h i j w hww hF
    rw [Wf] at hw
    rw [Fits] at hF
    rw [code] at h
    rw [size_count]
    obtain ⟨n, hn1, hn2, hr⟩ := hF
    have hle := fits_le T t
    have hl := code_length t hw.1
    cases p
    · simp only [Bool.false_eq_true, if_false] at h ⊢
      obtain ⟨k, r1, r2⟩ := reps_split l (n - l) i j (by rw [show l + (n - l) = n by omega]; exact hr)
      have h2 := At.app h
      rw [repCode_length _ _ hl] at h2
      -- the copies
      have d1 : Star P T ⟨b, w, i⟩ ⟨b + (if states t = 0 then 0 else l) * size t, wayTo w i k, k⟩ := by
        by_cases hz : states t = 0
        · have : i = k := by
            have e := zero_states T t hw.1 hz
            clear hr r2 h2 h hn1 hn2 hww
            induction l generalizing i with
            | zero => exact r1
            | succ l q => obtain ⟨v, c, d⟩ := r1; exact ((e i v).1 c).trans (q v ⟨hw.1, by intro M hM; have := hw.2.1 M hM; omega, by intro x; cases x⟩ d)
          subst this
          rw [if_pos hz, Nat.zero_mul, wayTo_self]
          exact .refl _
        · rw [if_neg hz] at h2 ⊢
          exact rep_does hl (fun b hb => ih hw.1 b hb) hle l b h2.1 i k w hww r1
      have hik : i ≤ k := reps_le hle l i k r1
      have hkj : k ≤ j := reps_le hle (n - l) k j r2
      generalize hd : b + (if states t = 0 then 0 else l) * size t = d at h2 d1
      have hsz : (if states t = 0 then 0 else l * size t) = (if states t = 0 then 0 else l) * size t := by split <;> simp
      rw [hsz, ← Nat.add_assoc, hd]
      cases m with
      | none =>
        simp only at h2 ⊢
        have h3 := At.cons h2.2
        have h4 := At.app h3.2
        rw [hl] at h4
        have hB := ih hw.1 (d + 1) h4.1
        obtain ⟨q, hq⟩ := reps_strip hle (n - l) k j r2
        cases q with
        | zero =>
          have : k = j := hq
          subst this
          have s := Step.goto (T := T) d (wayTo w i k) k _ h3.1 (.inr (.inr (.inr rfl)))
          exact d1.trans (Star.one s)
        | succ q =>
          have hlt := reps_lt q k j hq
          have s := Step.body (T := T) d (wayTo w i k) k _ h3.1 (.inr rfl)
          have e : wayTo w i j = 0 := by unfold wayTo; rw [if_neg]; omega
          rw [e]
          exact d1.trans (.head s (loop_body h4.2.one rfl rfl hB q k j hq))
      | some M =>
        simp only at h2 ⊢
        have d2 := opt_does hl (fun b hb => ih hw.1 b hb) hle (M - l) d h2.2 rfl (n - l) (by have := hn2 M rfl; omega) k j (wayTo w i k) (wayTo_ne hww) r2
        rw [wayTo_trans w i k j hik hkj] at d2
        exact d1.trans d2
    · simp only [if_true] at h ⊢
      obtain ⟨rfl, rfl⟩ := hw.2.2 rfl
      have h3 := At.cons h
      have h4 := At.app h3.2
      rw [hl] at h4
      have hB := ih hw.1 (b + 1) h4.1
      obtain ⟨q, hq⟩ := reps_strip hle n i j hr
      rw [← Nat.add_assoc]
      cases q with
      | zero =>
        have : i = j := hq
        subst this
        rw [wayTo_self]
        have hf : Fits T t i i := by
          rcases (reps_self hle n i).1 hr with h | h
          · omega
          · exact h
        have s := Step.pass (T := T) b w i _ h3.1 rfl (by
          show ((emptiesOf t).getD (edgesAt T.length i) (false, [])).1 = true
          rw [empties_get t _ (edges_lt _ _)]
          exact (empty_iff T i t hw.1).2 hf)
        exact Star.one s
      | succ q =>
        have hlt := reps_lt q i j hq
        have s := Step.body (T := T) b w i _ h3.1 (.inl rfl)
        have e : wayTo w i j = 0 := by unfold wayTo; rw [if_neg]; omega
        rw [e]
        exact .head s (loop_body h4.2.one rfl rfl hB q i j hq)
end Rx
end Go.Proofs.YtphighddlfabbaaDoor
namespace Go.Proofs.YtphighddlfabbaaDoor
namespace Rx
set_option linter.unusedVariables false
set_option linter.unusedSimpArgs false
/-- a step, whatever the way -/
inductive NStep (P : List Instr) (T : List Nat) : Nat → Nat → Nat → Nat → Prop where
  | fit (s i : Nat) (x : Instr) (c : Nat) : P[s]? = some x → x.kind = 0 → T[i]? = some c → x.bytes.has c = true → NStep P T s i x.next (i + 1)
  | edge (s i : Nat) (x : Instr) : P[s]? = some x → x.kind = 2 → x.edge &&& edgesAt T.length i ≠ 0 → NStep P T s i x.next i
  | goto (s i : Nat) (x : Instr) : P[s]? = some x → (x.kind = 3 ∨ x.kind = 4 ∨ x.kind = 5 ∨ x.kind = 7 ∨ x.kind = 8) → NStep P T s i x.next i
  | other (s i : Nat) (x : Instr) : P[s]? = some x → (x.kind = 5 ∨ x.kind = 6 ∨ x.kind = 7 ∨ x.kind = 8) → NStep P T s i x.other i
  | pass (s i : Nat) (x : Instr) : P[s]? = some x → x.kind = 6 → (x.empty.getD (edgesAt T.length i) (false, [])).1 = true → NStep P T s i x.next i
inductive Run (P : List Instr) (T : List Nat) : Nat → Nat → Nat → Nat → Nat → Prop where
  | nil (s i : Nat) : Run P T 0 s i s i
  | cons {n s i s' i' F j : Nat} : NStep P T s i s' i' → Run P T n s' i' F j → Run P T (n + 1) s i F j
theorem run_head {P : List Instr} {T : List Nat} {n s i F j : Nat} (h : Run P T n s i F j) (hF : F ≠ s) : ∃ m s' i', n = m + 1 ∧ NStep P T s i s' i' ∧ Run P T m s' i' F j := by
  cases h with
  | nil => exact absurd rfl hF
  | cons a b => exact ⟨_, _, _, rfl, a, b⟩
theorem run_snoc {P : List Instr} {T : List Nat} {n s i F j F' j' : Nat} (h : Run P T n s i F j) (k : NStep P T F j F' j') : Run P T (n + 1) s i F' j' := by
  induction h with
  | nil => exact .cons k (.nil _ _)
  | cons a _ ih => exact .cons a (ih k)
theorem step_inv {P : List Instr} {T : List Nat} {s i s' i' : Nat} {x : Instr} (hx : P[s]? = some x) (h : NStep P T s i s' i') :
    (x.kind = 0 ∧ (∃ c, T[i]? = some c ∧ x.bytes.has c = true) ∧ s' = x.next ∧ i' = i + 1) ∨ (x.kind = 2 ∧ x.edge &&& edgesAt T.length i ≠ 0 ∧ s' = x.next ∧ i' = i)
      ∨ ((x.kind = 3 ∨ x.kind = 4 ∨ x.kind = 5 ∨ x.kind = 7 ∨ x.kind = 8) ∧ s' = x.next ∧ i' = i) ∨ ((x.kind = 5 ∨ x.kind = 6 ∨ x.kind = 7 ∨ x.kind = 8) ∧ s' = x.other ∧ i' = i)
      ∨ (x.kind = 6 ∧ (x.empty.getD (edgesAt T.length i) (false, [])).1 = true ∧ s' = x.next ∧ i' = i) := by
  cases h with
  | fit y c h1 h2 h3 h4 => rw [hx] at h1; cases h1; exact .inl ⟨h2, ⟨c, h3, h4⟩, rfl, rfl⟩
  | edge y h1 h2 h3 => rw [hx] at h1; cases h1; exact .inr (.inl ⟨h2, h3, rfl, rfl⟩)
  | goto y h1 h2 => rw [hx] at h1; cases h1; exact .inr (.inr (.inl ⟨h2, rfl, rfl⟩))
  | other y h1 h2 => rw [hx] at h1; cases h1; exact .inr (.inr (.inr (.inl ⟨h2, rfl, rfl⟩)))
  | pass y h1 h2 h3 => rw [hx] at h1; cases h1; exact .inr (.inr (.inr (.inr ⟨h2, h3, rfl, rfl⟩)))
theorem inv_fit {P : List Instr} {T : List Nat} {s i s' i' b : Nat} {x : Set4} (hx : P[s]? = some (iFit x b)) (h : NStep P T s i s' i') : (∃ c, T[i]? = some c ∧ x.has c = true) ∧ s' = b + 1 ∧ i' = i + 1 := by
  rcases step_inv hx h with h | h | h | h | h
  · exact ⟨h.2.1, h.2.2⟩
  all_goals (have := h.1; simp [iFit] at this)
theorem inv_edge {P : List Instr} {T : List Nat} {s i s' i' e b : Nat} (hx : P[s]? = some (iEdge e b)) (h : NStep P T s i s' i') : e &&& edgesAt T.length i ≠ 0 ∧ s' = b + 1 ∧ i' = i := by
  rcases step_inv hx h with h | h | h | h | h
  · have := h.1; simp [iEdge] at this
  · exact h.2
  all_goals (have := h.1; simp [iEdge] at this)
theorem inv_save {P : List Instr} {T : List Nat} {s i s' i' e b : Nat} (hx : P[s]? = some (iSave e b)) (h : NStep P T s i s' i') : s' = b + 1 ∧ i' = i := by
  rcases step_inv hx h with h | h | h | h | h
  · have := h.1; simp [iSave] at this
  · have := h.1; simp [iSave] at this
  · exact h.2
  all_goals (have := h.1; simp [iSave] at this)
theorem inv_jump {P : List Instr} {T : List Nat} {s i s' i' b : Nat} (hx : P[s]? = some (iJump b)) (h : NStep P T s i s' i') : s' = b ∧ i' = i := by
  rcases step_inv hx h with h | h | h | h | h
  · have := h.1; simp [iJump] at this
  · have := h.1; simp [iJump] at this
  · exact h.2
  all_goals (have := h.1; simp [iJump] at this)
theorem inv_choice {P : List Instr} {T : List Nat} {s i s' i' n o : Nat} (hx : P[s]? = some (iChoice n o)) (h : NStep P T s i s' i') : (s' = n ∨ s' = o) ∧ i' = i := by
  rcases step_inv hx h with h | h | h | h | h
  · have := h.1; simp [iChoice] at this
  · have := h.1; simp [iChoice] at this
  · exact ⟨.inl h.2.1, h.2.2⟩
  · exact ⟨.inr h.2.1, h.2.2⟩
  · have := h.1; simp [iChoice] at this
theorem inv_loop {P : List Instr} {T : List Nat} {s i s' i' n o : Nat} {z : Bool} (hx : P[s]? = some (iLoop z n o)) (h : NStep P T s i s' i') : (s' = n ∨ s' = o) ∧ i' = i := by
  rcases step_inv hx h with h | h | h | h | h
  · have := h.1; simp [iLoop] at this
  · have := h.1; simp [iLoop] at this
  · exact ⟨.inl h.2.1, h.2.2⟩
  · exact ⟨.inr h.2.1, h.2.2⟩
  · have := h.1; simp [iLoop] at this
theorem inv_again {P : List Instr} {T : List Nat} {s i s' i' n o : Nat} {z : Bool} (hx : P[s]? = some (iAgain z n o)) (h : NStep P T s i s' i') : (s' = n ∨ s' = o) ∧ i' = i := by
  rcases step_inv hx h with h | h | h | h | h
  · have := h.1; simp [iAgain] at this
  · have := h.1; simp [iAgain] at this
  · exact ⟨.inl h.2.1, h.2.2⟩
  · exact ⟨.inr h.2.1, h.2.2⟩
  · have := h.1; simp [iAgain] at this
theorem inv_first {P : List Instr} {T : List Nat} {s i s' i' n o : Nat} {z : Bool} {e : List (Bool × List Nat)} (hx : P[s]? = some (iFirst z n o e)) (h : NStep P T s i s' i') :
    (((e.getD (edgesAt T.length i) (false, [])).1 = true ∧ s' = n) ∨ s' = o) ∧ i' = i := by
  rcases step_inv hx h with h | h | h | h | h
  · have := h.1; simp [iFirst] at this
  · have := h.1; simp [iFirst] at this
  · have := h.1; simp [iFirst] at this
  · exact ⟨.inr h.2.1, h.2.2⟩
  · exact ⟨.inl ⟨h.2.1, h.2.2.1⟩, h.2.2.2⟩
/-- a part that is left at its end alone, by what fits -/
def Sound (P : List Instr) (T : List Nat) (R : Nat → Nat → Prop) (b e : Nat) : Prop :=
  ∀ n i F J, Run P T n b i F J → (F < b ∨ e ≤ F) → ∃ j m, m ≤ n ∧ R i j ∧ Run P T m e j F J
theorem loop_sound {P : List Instr} {T : List Nat} {R : Nat → Nat → Prop} {bd a nx : Nat} {z : Bool} (hx : P[a]? = some (iAgain z nx bd)) (hba : bd ≤ a) (hB : Sound P T R bd a) :
    ∀ N n i F J, n ≤ N → Run P T n bd i F J → (F < bd ∨ a + 1 ≤ F) → ∃ q j m, m ≤ n ∧ 1 ≤ q ∧ Reps R q i j ∧ Run P T m nx j F J
  | N, n, i, F, J, hN, hr, hF => by
    obtain ⟨k, m, hm, hR, h2⟩ := hB n i F J hr (by omega)
    obtain ⟨m', s', i', rfl, st, h3⟩ := run_head h2 (by omega)
    obtain ⟨hs, rfl⟩ := inv_again hx st
    rcases hs with rfl | rfl
    · exact ⟨1, i', m', by omega, Nat.le_refl _, ⟨i', hR, rfl⟩, h3⟩
    · cases N with
      | zero => omega
      | succ N =>
        obtain ⟨q, j, m2, h4, h5, h6, h7⟩ := loop_sound hx hba hB N m' i' F J (by omega) h3 hF
        exact ⟨q + 1, j, m2, by omega, by omega, ⟨i', hR, h6⟩, h7⟩
theorem rep_sound {P : List Instr} {T : List Nat} {R : Nat → Nat → Prop} {f : Nat → List Instr} {s : Nat} (hf : ∀ b, (f b).length = s) (hD : ∀ b, At P b (f b) → Sound P T R b (b + s)) :
    ∀ n b, At P b (repCode f s n b) → Sound P T (Reps R n) b (b + n * s)
  | 0, b, h => fun n i F J hr hF => ⟨i, n, Nat.le_refl _, rfl, by rw [Nat.zero_mul]; exact hr⟩
  | c + 1, b, h => fun n i F J hr hF => by
    have h2 := At.app h
    rw [hf] at h2
    rw [Nat.succ_mul] at hF ⊢
    obtain ⟨k, m, hm, hR, hr2⟩ := hD b h2.1 n i F J hr (by omega)
    obtain ⟨j, m2, hm2, hR2, hr3⟩ := rep_sound hf hD c (b + s) h2.2 m k F J hr2 (by omega)
    rw [show b + (c * s + s) = b + s + c * s by omega]
    exact ⟨j, m2, by omega, ⟨k, hR, hR2⟩, hr3⟩
theorem opt_sound {P : List Instr} {T : List Nat} {R : Nat → Nat → Prop} {f : Nat → List Instr} {s : Nat} {z : Bool} {E : Nat} (hf : ∀ b, (f b).length = s) (hD : ∀ b, At P b (f b) → Sound P T R b (b + s)) :
    ∀ n b, At P b (optCode f s z E n b) → E = b + n * (s + 1) → Sound P T (fun i j => ∃ q, q ≤ n ∧ Reps R q i j) b E
  | 0, b, h, hE => fun n i F J hr hF => ⟨i, n, Nat.le_refl _, ⟨0, Nat.le_refl _, rfl⟩, by rw [hE, Nat.zero_mul]; exact hr⟩
  | c + 1, b, h, hE => fun n i F J hr hF => by
    have h2 := At.cons h
    have h3 := At.app h2.2
    rw [hf] at h3
    rw [Nat.succ_mul] at hE
    obtain ⟨m', s', i', rfl, st, hr2⟩ := run_head hr (by omega)
    have hi : (s' = b + 1 ∨ s' = E) ∧ i' = i := by
      cases z
      · exact inv_choice h2.1 st
      · have := inv_choice h2.1 st; exact ⟨this.1.symm, this.2⟩
    obtain ⟨hs, rfl⟩ := hi
    rcases hs with rfl | rfl
    · obtain ⟨k, m, hm, hR, hr3⟩ := hD (b + 1) h3.1 m' i' F J hr2 (by omega)
      obtain ⟨j, m2, hm2, ⟨q, hq, hR2⟩, hr4⟩ := opt_sound (z := z) (E := E) hf hD c (b + 1 + s) h3.2 (by omega) m k F J hr3 (by omega)
      exact ⟨j, m2, by omega, ⟨q + 1, by omega, ⟨k, hR, hR2⟩⟩, hr4⟩
    · exact ⟨i', m', by omega, ⟨0, by omega, rfl⟩, hr2⟩
theorem sound (P : List Instr) (T : List Nat) : ∀ t, Wf t → ∀ b, At P b (code t b) → Sound P T (Fits T t) b (b + size t) := by
  intro t
  induction t using Node.ind with
  | h1 x =>
    intro _ b h n i F J hr hF
    unfold code at h
    unfold size at hF ⊢
    obtain ⟨m, s', i', rfl, st, hr2⟩ := run_head hr (by omega)
    obtain ⟨⟨c, h1, h2⟩, rfl, rfl⟩ := inv_fit h.one st
    exact ⟨i + 1, m, by omega, by unfold Fits; exact ⟨c, h1, h2, rfl⟩, hr2⟩
  | h2 e =>
    intro _ b h n i F J hr hF
    unfold code at h
    unfold size at hF ⊢
    obtain ⟨m, s', i', rfl, st, hr2⟩ := run_head hr (by omega)
    obtain ⟨h1, rfl, rfl⟩ := inv_edge h.one st
    exact ⟨i', m, by omega, by unfold Fits; exact ⟨h1, rfl⟩, hr2⟩
  | h3 ks ih =>
    intro hw b h
    unfold Wf at hw
    unfold code at h
    unfold size
    have e : Fits T (.seq ks) = FitsSeq T ks := by funext i j; unfold Fits; rfl
    rw [e]
    clear e
    induction ks generalizing b with
    | nil => intro n i F J hr hF; unfold sizeAll FitsSeq; exact ⟨i, n, Nat.le_refl _, rfl, hr⟩
    | cons t ts k =>
      intro n i F J hr hF
      unfold WfAll at hw
      unfold codeSeq at h
      have h2 := At.app h
      rw [code_length t hw.1] at h2
      rw [sizeAll] at hF ⊢
      obtain ⟨v, m, hm, hR, hr2⟩ := ih t (by simp) hw.1 b h2.1 n i F J hr (by omega)
      obtain ⟨j, m2, hm2, hR2, hr3⟩ := k (fun u hu => ih u (by simp [hu])) (b + size t) hw.2 h2.2 m v F J hr2 (by omega)
      rw [← Nat.add_assoc]
      exact ⟨j, m2, by omega, by unfold FitsSeq; exact ⟨v, hR, hR2⟩, hr3⟩
  | h4 ks ih =>
    intro hw b h
    unfold Wf at hw
    unfold code at h
    unfold size
    have e : Fits T (.alt ks) = FitsAlt T ks := by funext i j; unfold Fits; rfl
    rw [e]
    clear e
    have hne := hw.1
    replace hw := hw.2
    generalize hE : b + (sizeAll ks + 2 * (ks.length - 1)) = E
    rw [hE] at h
    induction ks generalizing b with
    | nil => exact absurd rfl hne
    | cons t ts k =>
      unfold WfAll at hw
      cases ts with
      | nil =>
        unfold codeAlt at h
        rw [sizeAll, sizeAll] at hE
        simp only [List.length_cons, List.length_nil] at hE
        have : E = b + size t := by omega
        subst this
        intro n i F J hr hF
        obtain ⟨j, m, hm, hR, hr2⟩ := ih t (by simp) hw.1 b h n i F J hr hF
        exact ⟨j, m, hm, by unfold FitsAlt; exact .inl hR, hr2⟩
      | cons u us =>
        intro n i F J hr hF
        unfold codeAlt at h
        have h2 := At.cons h
        have h3 := At.app h2.2
        rw [code_length t hw.1] at h3
        have h4 := At.cons h3.2
        rw [sizeAll] at hE
        simp only [List.length_cons] at hE
        obtain ⟨m, s', i', rfl, st, hr2⟩ := run_head hr (by omega)
        obtain ⟨hs, rfl⟩ := inv_choice h2.1 st
        rcases hs with rfl | rfl
        · obtain ⟨j, m2, hm2, hR, hr3⟩ := ih t (by simp) hw.1 (b + 1) h3.1 m i' F J hr2 (by omega)
          obtain ⟨m3, s', j', rfl, st, hr4⟩ := run_head hr3 (by omega)
          obtain ⟨rfl, rfl⟩ := inv_jump h4.1 st
          exact ⟨j', m3, by omega, by unfold FitsAlt; exact .inl hR, hr4⟩
        · obtain ⟨j, m2, hm2, hR, hr3⟩ := k (fun u hu => ih u (by simp [hu])) (b + 1 + size t + 1) (by simp) hw.2 h4.2 (by simp only [List.length_cons]; omega) m i' F J hr2 (by omega)
          exact ⟨j, m2, by omega, by rw [FitsAlt]; exact .inr hR, hr3⟩
  | h5 q t ih =>
    intro hw b h n i F J hr hF
    unfold Wf at hw
    rw [code] at h
    rw [size] at hF ⊢
    have h2 := At.cons h
    have h3 := At.app h2.2
    rw [code_length t hw] at h3
    obtain ⟨m, s', i', rfl, st, hr2⟩ := run_head hr (by omega)
    obtain ⟨rfl, rfl⟩ := inv_save h2.1 st
    obtain ⟨j, m2, hm2, hR, hr3⟩ := ih hw (b + 1) h3.1 m i' F J hr2 (by omega)
    obtain ⟨m3, s', j', rfl, st, hr4⟩ := run_head hr3 (by omega)
    obtain ⟨rfl, rfl⟩ := inv_save h3.2.one st
    exact ⟨j', m3, by omega, by unfold Fits; exact hR, by rw [show b + (size t + 2) = b + 1 + size t + 1 by omega]; exact hr4⟩
  | h6 l M p z t ih =>
    intro hw b h n i F J hr hF
    rw [Wf] at hw
    rw [code] at h
    rw [size_count] at hF ⊢
    have hl := code_length t hw.1
    cases p
    · simp only [Bool.false_eq_true, if_false] at h hF ⊢
      have h2 := At.app h
      rw [repCode_length _ _ hl] at h2
      have hsz : (if states t = 0 then 0 else l * size t) = (if states t = 0 then 0 else l) * size t := by split <;> simp
      rw [hsz] at hF ⊢
      obtain ⟨k, m, hm, hR, hr2⟩ := rep_sound hl (fun b hb => ih hw.1 b hb) _ b h2.1 n i F J hr (by omega)
      have hR' : Reps (Fits T t) l i k := by
        by_cases hz : states t = 0
        · rw [if_pos hz] at hR
          have : i = k := hR
          subst this
          refine (reps_self (fits_le T t) l i).2 (.inr ((zero_states T t hw.1 hz i i).2 rfl))
        · rw [if_neg hz] at hR; exact hR
      rw [← Nat.add_assoc] at hF ⊢
      have hbd : b ≤ b + (if states t = 0 then 0 else l) * size t := Nat.le_add_right _ _
      generalize b + (if states t = 0 then 0 else l) * size t = d at h2 hr2 hF hbd ⊢
      cases M with
      | none =>
        simp only at h2 hF ⊢
        have h3 := At.cons h2.2
        have h4 := At.app h3.2
        rw [hl] at h4
        obtain ⟨m1, s', i', rfl, st, hr3⟩ := run_head hr2 (by omega)
        obtain ⟨hs, rfl⟩ := inv_loop h3.1 st
        rcases hs with rfl | rfl
        · exact ⟨i', m1, by omega, by rw [Fits]; exact ⟨l, Nat.le_refl _, fun M e => by (cases e), hR'⟩, by rw [← Nat.add_assoc]; exact hr3⟩
        · obtain ⟨q, j, m2, hm2, hq, hRq, hr4⟩ := loop_sound h4.2.one (by omega) (ih hw.1 (d + 1) h4.1) m1 m1 i' F J (Nat.le_refl _) hr3 (by omega)
          exact ⟨j, m2, by omega, by rw [Fits]; exact ⟨l + q, by omega, fun M e => by (cases e), reps_append l q i i' j hR' hRq⟩, by rw [← Nat.add_assoc]; exact hr4⟩
      | some M =>
        simp only at h2 hF ⊢
        obtain ⟨j, m2, hm2, ⟨q, hq, hRq⟩, hr3⟩ := opt_sound hl (fun b hb => ih hw.1 b hb) (M - l) d h2.2 rfl m k F J hr2 (by omega)
        have := hw.2.1 M rfl
        exact ⟨j, m2, by omega, by rw [Fits]; exact ⟨l + q, by omega, fun M' e => by (cases e; omega), reps_append l q i k j hR' hRq⟩, hr3⟩
    · simp only [if_true] at h hF ⊢
      obtain ⟨rfl, rfl⟩ := hw.2.2 rfl
      have h3 := At.cons h
      have h4 := At.app h3.2
      rw [hl] at h4
      obtain ⟨m1, s', i', rfl, st, hr3⟩ := run_head hr (by omega)
      obtain ⟨hs, rfl⟩ := inv_first h3.1 st
      rw [← Nat.add_assoc]
      rcases hs with ⟨he, rfl⟩ | rfl
      · rw [empties_get t _ (edges_lt _ _)] at he
        have hf := (empty_iff T i' t hw.1).1 he
        exact ⟨i', m1, by omega, by rw [Fits]; exact ⟨1, Nat.le_refl _, fun M e => by (cases e), ⟨i', hf, rfl⟩⟩, hr3⟩
      · obtain ⟨q, j, m2, hm2, hq, hRq, hr4⟩ := loop_sound h4.2.one (by omega) (ih hw.1 (b + 1) h4.1) m1 m1 i' F J (Nat.le_refl _) hr3 (by omega)
        exact ⟨j, m2, by omega, by rw [Fits]; exact ⟨q, hq, fun M e => by (cases e), hRq⟩, hr4⟩
end Rx
end Go.Proofs.YtphighddlfabbaaDoor
namespace Go.Proofs.YtphighddlfabbaaDoor
namespace Rx
set_option linter.unusedVariables false
set_option linter.unusedSimpArgs false
/-- what is met on the way: an edge of a group, or groups that take nothing -/
inductive Rec where
  | mark (slot at' : Nat)
  | void (groups : List Nat) (at' : Nat)
structure MS where
  seen : Nat → Nat → Nat
  next : List (Nat × List Rec)
  fits : Bool
  path : List Rec
def note (keeps : Bool) (r : Rec) (p : List Rec) : List Rec := if keeps then r :: p else []
def MS.mark (st : MS) (w s v : Nat) : MS := { st with seen := fun a c => if a = w ∧ c = s then v else st.seen a c }
abbrev Fol := MS → Nat → Nat → List Rec → MS × Bool
def rpt (f : Fol) (x : Instr) (st : MS) (w : Nat) (p : List Rec) : MS × Bool :=
  if x.lazy then (if (f st x.next w p).2 then ((f st x.next w p).1, true) else ((f (f st x.next w p).1 x.other 1 p).1, false)) else f (f st x.other 1 p).1 x.next w p
def voidOf (x : Instr) (L i : Nat) : Bool × List Nat := x.empty.getD (edgesAt L i) (false, [])
def voidPath (keeps : Bool) (g : List Nat) (i : Nat) (p : List Rec) : List Rec := if g.length = 0 then p else note keeps (.void g i) p
def bgn (L : Nat) (keeps : Bool) (i : Nat) (f : Fol) (x : Instr) (st : MS) (w : Nat) (p : List Rec) : MS × Bool :=
  if (voidOf x L i).1 then rpt f x (f st x.other 2 p).1 w (voidPath keeps (voidOf x L i).2 i p) else f st x.other 1 p
/-- what an instruction that is new does -/
def act (L : Nat) (keeps : Bool) (i : Nat) (f : Fol) (x : Instr) (st : MS) (s w : Nat) (p : List Rec) : MS × Bool :=
  if x.kind = 0 then ({ st with next := st.next ++ [(s, p)] }, false)
  else if x.kind = 1 then (if i = L then { st with fits := true, path := p } else st, false)
  else if x.kind = 2 then (if x.edge &&& edgesAt L i = 0 then (st, false) else f st x.next w p)
  else if x.kind = 3 then f st x.next w (note keeps (.mark x.slot i) p)
  else if x.kind = 4 then f st x.next w p
  else if x.kind = 5 then (if (f st x.next w p).2 then ((f st x.next w p).1, true) else f (f st x.next w p).1 x.other w p)
  else if x.kind = 6 then bgn L keeps i f x st w p
  else if x.kind = 8 ∧ w ≠ 0 then (st, decide (w = 2))
  else rpt f x st w p
def follow (P : List Instr) (L : Nat) (keeps : Bool) (i : Nat) : Nat → Fol
  | 0, st, _, _, _ => (st, false)
  | n + 1, st, s, w, p => if st.seen w s = i + 1 then (st, false) else match P[s]? with
    | none => (st, false)
    | some x => act L keeps i (follow P L keeps i n) x (st.mark w s (i + 1)) s w p
/-- how many are not marked -/
def cnt (f : Nat → Nat) (v : Nat) : Nat → Nat
  | 0 => 0
  | n + 1 => (if f n = v then 0 else 1) + cnt f v n
theorem cnt_mono (f g : Nat → Nat) (v : Nat) (h : ∀ c, f c = v → g c = v) : ∀ n, cnt g v n ≤ cnt f v n
  | 0 => Nat.le_refl _
  | n + 1 => by
    have := cnt_mono f g v h n
    have h1 := h n
    unfold cnt
    by_cases a : f n = v
    · rw [if_pos a, if_pos (h1 a)]; omega
    · rw [if_neg a]; split <;> omega
theorem cnt_lt (f g : Nat → Nat) (v : Nat) (h : ∀ c, f c = v → g c = v) (s : Nat) (h1 : f s ≠ v) (h2 : g s = v) : ∀ n, s < n → cnt g v n < cnt f v n
  | 0, hn => by omega
  | n + 1, hn => by
    unfold cnt
    by_cases e : s = n
    · subst e
      have := cnt_mono f g v h s
      rw [if_neg h1, if_pos h2]; omega
    · have := cnt_lt f g v h s h1 h2 n (by omega)
      have h3 := h n
      by_cases a : f n = v
      · rw [if_pos a, if_pos (h3 a)]; omega
      · rw [if_neg a]; split <;> omega
theorem cnt_le (f : Nat → Nat) (v : Nat) : ∀ n, cnt f v n ≤ n
  | 0 => Nat.le_refl _
  | n + 1 => by unfold cnt; have := cnt_le f v n; split <;> omega
def unm (f : Nat → Nat → Nat) (v L : Nat) : Nat := cnt (f 0) v L + cnt (f 1) v L + cnt (f 2) v L
theorem unm_le (f : Nat → Nat → Nat) (v L : Nat) : unm f v L ≤ 3 * L := by
  unfold unm
  have := cnt_le (f 0) v L
  have := cnt_le (f 1) v L
  have := cnt_le (f 2) v L
  omega
theorem unm_mono (f g : Nat → Nat → Nat) (v L : Nat) (h : ∀ a c, f a c = v → g a c = v) : unm g v L ≤ unm f v L := by
  unfold unm
  have := cnt_mono (f 0) (g 0) v (h 0) L
  have := cnt_mono (f 1) (g 1) v (h 1) L
  have := cnt_mono (f 2) (g 2) v (h 2) L
  omega
theorem unm_mark (st : MS) (w s v L : Nat) (hw : w < 3) (hs : s < L) (h : st.seen w s ≠ v) : unm (st.mark w s v).seen v L < unm st.seen v L := by
  have h0 : ∀ a c, st.seen a c = v → (st.mark w s v).seen a c = v := by
    intro a c h; unfold MS.mark; simp only; split
    · rfl
    · exact h
  have h1 : (st.mark w s v).seen w s = v := by unfold MS.mark; simp
  unfold unm
  have m0 := cnt_mono (st.seen 0) ((st.mark w s v).seen 0) v (h0 0) L
  have m1 := cnt_mono (st.seen 1) ((st.mark w s v).seen 1) v (h0 1) L
  have m2 := cnt_mono (st.seen 2) ((st.mark w s v).seen 2) v (h0 2) L
  have hc := cnt_lt (st.seen w) ((st.mark w s v).seen w) v (h0 w) s h h1 L hs
  rcases (by omega : w = 0 ∨ w = 1 ∨ w = 2) with rfl | rfl | rfl <;> omega
/-- programs whose ways stay within them -/
structure Good (P : List Instr) : Prop where
  next : ∀ (s : Nat) (x : Instr), P[s]? = some x → x.kind ≠ 1 → x.next < P.length
  other : ∀ (s : Nat) (x : Instr), P[s]? = some x → 5 ≤ x.kind → x.other < P.length
  kind : ∀ (s : Nat) (x : Instr), P[s]? = some x → x.kind ≤ 8
/-- what following does -/
structure Ext (P : List Instr) (T : List Nat) (i : Nat) (Q : Nat → Prop) (st st' : MS) : Prop where
  keep : ∀ a c, st.seen a c = i + 1 → st'.seen a c = i + 1
  old : ∀ a c, st'.seen a c = st.seen a c ∨ st'.seen a c = i + 1
  shut : ∀ a c, a ≠ 2 → st'.seen a c = i + 1 → st.seen a c ≠ i + 1 → ∀ c' a', Step P T ⟨c, a, i⟩ ⟨c', a', i⟩ → st'.seen a' c' = i + 1
  good : ∀ a c, st'.seen a c = i + 1 → st.seen a c ≠ i + 1 → Q c ∧ c < P.length
  next : ∃ l, st'.next = st.next ++ l ∧ ∀ x ∈ l, Q x.1 ∧ ∃ y, P[x.1]? = some y ∧ y.kind = 0
  list : ∀ a c x, st'.seen a c = i + 1 → st.seen a c ≠ i + 1 → P[c]? = some x → x.kind = 0 → ∃ p, (c, p) ∈ st'.next
  fits1 : st.fits = true → st'.fits = true
  fits2 : ∀ a c x, st'.seen a c = i + 1 → st.seen a c ≠ i + 1 → P[c]? = some x → x.kind = 1 → i = T.length → st'.fits = true
  fits3 : st'.fits = true → st.fits = true ∨ (i = T.length ∧ ∃ c x, Q c ∧ P[c]? = some x ∧ x.kind = 1)
theorem Ext.refl {P : List Instr} {T : List Nat} {i : Nat} {Q : Nat → Prop} (st : MS) : Ext P T i Q st st :=
  ⟨fun _ _ h => h, fun _ _ => .inl rfl, fun _ _ _ h k => absurd h k, fun _ _ h k => absurd h k, ⟨[], by simp, fun x h => by cases h⟩, fun _ _ _ h k => absurd h k, fun h => h, fun _ _ _ h k => absurd h k, .inl⟩
theorem Ext.trans {P : List Instr} {T : List Nat} {i : Nat} {Q : Nat → Prop} {a b c : MS} (h : Ext P T i Q a b) (k : Ext P T i Q b c) : Ext P T i Q a c := by
  refine ⟨fun x y e => k.keep x y (h.keep x y e), fun x y => ?_, fun x y hx e n c' a' s => ?_, fun x y e n => ?_, ?_, fun x y z e n p q => ?_, fun e => k.fits1 (h.fits1 e), fun x y z e n p q r => ?_, fun e => ?_⟩
  · rcases k.old x y with e | e
    · rw [e]; exact h.old x y
    · exact .inr e
  · by_cases m : b.seen x y = i + 1
    · exact k.keep _ _ (h.shut x y hx m n c' a' s)
    · exact k.shut x y hx e m c' a' s
  · by_cases m : b.seen x y = i + 1
    · exact h.good x y m n
    · exact k.good x y e m
  · obtain ⟨l, e1, e2⟩ := h.next
    obtain ⟨l', e3, e4⟩ := k.next
    refine ⟨l ++ l', by rw [e3, e1, List.append_assoc], fun x hx => ?_⟩
    rcases List.mem_append.1 hx with hx | hx
    · exact e2 x hx
    · exact e4 x hx
  · by_cases m : b.seen x y = i + 1
    · obtain ⟨pp, hp⟩ := h.list x y z m n p q
      obtain ⟨l', e3, _⟩ := k.next
      exact ⟨pp, by rw [e3]; exact List.mem_append_left _ hp⟩
    · exact k.list x y z e m p q
  · by_cases m : b.seen x y = i + 1
    · exact k.fits1 (h.fits2 x y z m n p q r)
    · exact k.fits2 x y z e m p q r
  · rcases k.fits3 e with e | e
    · exact h.fits3 e
    · exact .inr e
/-- an instruction is marked, then followed -/
theorem Ext.close {P : List Instr} {T : List Nat} {i : Nat} {Q : Nat → Prop} {st st' : MS} {w s : Nat} {x : Instr} (hx : P[s]? = some x) (hQ : Q s) (hn : st.seen w s ≠ i + 1) (h : Ext P T i Q (st.mark w s (i + 1)) st')
    (hs : w ≠ 2 → ∀ c' a', Step P T ⟨s, w, i⟩ ⟨c', a', i⟩ → st'.seen a' c' = i + 1) (h0 : x.kind = 0 → ∃ p, (s, p) ∈ st'.next) (h1 : x.kind = 1 → i = T.length → st'.fits = true) : Ext P T i Q st st' := by
  have hm : ∀ a c, (st.mark w s (i + 1)).seen a c = if a = w ∧ c = s then i + 1 else st.seen a c := fun _ _ => rfl
  have hlt : s < P.length := (List.getElem?_eq_some_iff.1 hx).1
  refine ⟨fun a c e => h.keep a c (by rw [hm, e, ite_self]), fun a c => ?_, fun a c ha e n c' a' st2 => ?_, fun a c e n => ?_, h.next, fun a c y e n p q => ?_, fun e => h.fits1 e, fun a c y e n p q r => ?_, fun e => h.fits3 e⟩
  · rcases h.old a c with e | e
    · rw [hm] at e
      by_cases m : a = w ∧ c = s
      · rw [if_pos m] at e; exact .inr e
      · rw [if_neg m] at e; exact .inl e
    · exact .inr e
  · by_cases m : a = w ∧ c = s
    · obtain ⟨rfl, rfl⟩ := m; exact hs ha c' a' st2
    · exact h.shut a c ha e (by rw [hm, if_neg m]; exact n) c' a' st2
  · by_cases m : a = w ∧ c = s
    · obtain ⟨rfl, rfl⟩ := m; exact ⟨hQ, hlt⟩
    · exact h.good a c e (by rw [hm, if_neg m]; exact n)
  · by_cases m : a = w ∧ c = s
    · obtain ⟨rfl, rfl⟩ := m
      rw [hx] at p
      cases p
      exact h0 q
    · exact h.list a c y e (by rw [hm, if_neg m]; exact n) p q
  · by_cases m : a = w ∧ c = s
    · obtain ⟨rfl, rfl⟩ := m
      rw [hx] at p
      cases p
      exact h1 q r
    · exact h.fits2 a c y e (by rw [hm, if_neg m]; exact n) p q r
/-- the steps of one instruction without a byte -/
theorem eps_inv {P : List Instr} {T : List Nat} {s w i c a : Nat} {x : Instr} (hx : P[s]? = some x) (h : Step P T ⟨s, w, i⟩ ⟨c, a, i⟩) :
    (x.kind = 2 ∧ x.edge &&& edgesAt T.length i ≠ 0 ∧ c = x.next ∧ a = w) ∨ ((x.kind = 3 ∨ x.kind = 4 ∨ x.kind = 5 ∨ x.kind = 7) ∧ c = x.next ∧ a = w) ∨ (x.kind = 5 ∧ c = x.other ∧ a = w)
      ∨ ((x.kind = 6 ∨ x.kind = 7) ∧ c = x.other ∧ a = 1) ∨ (x.kind = 6 ∧ (voidOf x T.length i).1 = true ∧ c = x.next ∧ a = w) ∨ (x.kind = 8 ∧ w = 0 ∧ c = x.next ∧ a = 0) ∨ (x.kind = 8 ∧ w = 0 ∧ c = x.other ∧ a = 1) := by
  generalize hc : (⟨c, a, i⟩ : Cf) = d at h
  cases h with
  | fit _ _ _ y b h1 h2 h3 h4 => simp only [Cf.mk.injEq] at hc; omega
  | edge _ _ _ y h1 h2 h3 => rw [hx] at h1; cases h1; cases hc; exact .inl ⟨h2, h3, rfl, rfl⟩
  | goto _ _ _ y h1 h2 => rw [hx] at h1; cases h1; cases hc; exact .inr (.inl ⟨h2, rfl, rfl⟩)
  | other _ _ _ y h1 h2 => rw [hx] at h1; cases h1; cases hc; exact .inr (.inr (.inl ⟨h2, rfl, rfl⟩))
  | body _ _ _ y h1 h2 => rw [hx] at h1; cases h1; cases hc; exact .inr (.inr (.inr (.inl ⟨h2, rfl, rfl⟩)))
  | pass _ _ _ y h1 h2 h3 => rw [hx] at h1; cases h1; cases hc; exact .inr (.inr (.inr (.inr (.inl ⟨h2, h3, rfl, rfl⟩))))
  | leave _ _ y h1 h2 => rw [hx] at h1; cases h1; cases hc; exact .inr (.inr (.inr (.inr (.inr (.inl ⟨h2, rfl, rfl, rfl⟩)))))
  | more _ _ y h1 h2 => rw [hx] at h1; cases h1; cases hc; exact .inr (.inr (.inr (.inr (.inr (.inr ⟨h2, rfl, rfl, rfl⟩)))))
/-- what a function that follows owes -/
def Fine (P : List Instr) (T : List Nat) (i : Nat) (Q : Nat → Prop) (n : Nat) (f : Fol) : Prop :=
  ∀ st s w p, s < P.length → w < 3 → unm st.seen (i + 1) P.length < n → Q s → Ext P T i Q st (f st s w p).1 ∧ (f st s w p).1.seen w s = i + 1 ∧ ((f st s w p).2 = true → w = 2)
theorem Ext.unm {P : List Instr} {T : List Nat} {i : Nat} {Q : Nat → Prop} {st st' : MS} (h : Ext P T i Q st st') (L : Nat) : Rx.unm st'.seen (i + 1) L ≤ Rx.unm st.seen (i + 1) L := unm_mono _ _ _ _ h.keep
theorem rpt_fine {P : List Instr} {T : List Nat} {i : Nat} {Q : Nat → Prop} {n : Nat} {f : Fol} (hf : Fine P T i Q n f) (x : Instr) (hn : x.next < P.length) (ho : x.other < P.length) (qn : Q x.next) (qo : Q x.other)
    (st : MS) (w : Nat) (p : List Rec) (hw : w < 3) (hu : unm st.seen (i + 1) P.length < n) :
    Ext P T i Q st (rpt f x st w p).1 ∧ (w ≠ 2 → (rpt f x st w p).1.seen w x.next = i + 1 ∧ (rpt f x st w p).1.seen 1 x.other = i + 1) ∧ ((rpt f x st w p).2 = true → w = 2) := by
  unfold rpt
  split
  · obtain ⟨a1, a2, a3⟩ := hf st x.next w p hn hw hu qn
    split
    · rename_i h
      exact ⟨a1, fun h2 => absurd (a3 h) h2, fun _ => a3 h⟩
    · obtain ⟨b1, b2, b3⟩ := hf (f st x.next w p).1 x.other 1 p ho (by omega) (by have := a1.unm P.length; omega) qo
      exact ⟨a1.trans b1, fun _ => ⟨b1.keep _ _ a2, b2⟩, fun h => by cases h⟩
  · obtain ⟨a1, a2, a3⟩ := hf st x.other 1 p ho (by omega) hu qo
    obtain ⟨b1, b2, b3⟩ := hf (f st x.other 1 p).1 x.next w p hn hw (by have := a1.unm P.length; omega) qn
    exact ⟨a1.trans b1, fun _ => ⟨b2, b1.keep _ _ a2⟩, b3⟩
theorem act_fine {P : List Instr} {T : List Nat} {i : Nat} {Q : Nat → Prop} {n : Nat} {f : Fol} (hG : Good P) (hQ : ∀ c c', Q c → NStep P T c i c' i → Q c') (hf : Fine P T i Q n f) (keeps : Bool)
    (x : Instr) (st : MS) (s w : Nat) (p : List Rec) (hx : P[s]? = some x) (qs : Q s) (hw : w < 3) (hn : st.seen w s ≠ i + 1) (hu : unm (st.mark w s (i + 1)).seen (i + 1) P.length < n) :
    Ext P T i Q st (act T.length keeps i f x (st.mark w s (i + 1)) s w p).1 ∧ (act T.length keeps i f x (st.mark w s (i + 1)) s w p).1.seen w s = i + 1 ∧ ((act T.length keeps i f x (st.mark w s (i + 1)) s w p).2 = true → w = 2) := by
  have hm : (st.mark w s (i + 1)).seen w s = i + 1 := by unfold MS.mark; simp
  unfold act
  split
  · rename_i hk
    refine ⟨Ext.close hx qs hn ⟨fun _ _ h => h, fun _ _ => .inl rfl, fun _ _ _ h k => absurd h k, fun _ _ h k => absurd h k, ⟨[(s, p)], rfl, fun y hy => ?_⟩, fun _ _ _ h k => absurd h k, fun h => h, fun _ _ _ h k => absurd h k, .inl⟩
      (fun _ c' a' hs => ?_) (fun _ => ⟨p, by simp⟩) (fun e => by omega), hm, fun h => by cases h⟩
    · rw [List.mem_singleton.1 hy]; exact ⟨qs, x, hx, hk⟩
    · rcases eps_inv hx hs with h | h | h | h | h | h | h <;> omega
  split
  · rename_i h0 hk
    by_cases hi : i = T.length
    · rw [if_pos hi]
      refine ⟨Ext.close hx qs hn ⟨fun _ _ h => h, fun _ _ => .inl rfl, fun _ _ _ h k => absurd h k, fun _ _ h k => absurd h k, ⟨[], by simp, fun y hy => by cases hy⟩, fun _ _ _ h k => absurd h k, fun h => rfl, fun _ _ _ h k => absurd h k, fun _ => .inr ⟨hi, s, x, qs, hx, hk⟩⟩
        (fun _ c' a' hs => ?_) (fun e => by omega) (fun _ _ => rfl), hm, fun h => by cases h⟩
      rcases eps_inv hx hs with h | h | h | h | h | h | h <;> omega
    · rw [if_neg hi]
      refine ⟨Ext.close hx qs hn (Ext.refl _) (fun _ c' a' hs => ?_) (fun e => by omega) (fun _ e => absurd e hi), hm, fun h => by cases h⟩
      rcases eps_inv hx hs with h | h | h | h | h | h | h <;> omega
  split
  · rename_i h0 h1 hk
    split
    · rename_i he
      refine ⟨Ext.close hx qs hn (Ext.refl _) (fun _ c' a' hs => ?_) (fun e => by omega) (fun e => by omega), hm, fun h => by cases h⟩
      rcases eps_inv hx hs with h | h | h | h | h | h | h
      · exact absurd he h.2.1
      all_goals omega
    · rename_i he
      obtain ⟨a1, a2, a3⟩ := hf (st.mark w s (i + 1)) x.next w p (hG.next s x hx (by omega)) hw hu (hQ s _ qs (.edge s i x hx hk he))
      refine ⟨Ext.close hx qs hn a1 (fun _ c' a' hs => ?_) (fun e => by omega) (fun e => by omega), a1.keep _ _ hm, a3⟩
      rcases eps_inv hx hs with h | h | h | h | h | h | h
      · rw [h.2.2.1, h.2.2.2]; exact a2
      all_goals omega
  split
  · rename_i h0 h1 h2 hk
    obtain ⟨a1, a2, a3⟩ := hf (st.mark w s (i + 1)) x.next w (note keeps (.mark x.slot i) p) (hG.next s x hx (by omega)) hw hu (hQ s _ qs (.goto s i x hx (.inl hk)))
    refine ⟨Ext.close hx qs hn a1 (fun _ c' a' hs => ?_) (fun e => by omega) (fun e => by omega), a1.keep _ _ hm, a3⟩
    rcases eps_inv hx hs with h | h | h | h | h | h | h
    · omega
    · rw [h.2.1, h.2.2]; exact a2
    all_goals omega
  split
  · rename_i h0 h1 h2 h3 hk
    obtain ⟨a1, a2, a3⟩ := hf (st.mark w s (i + 1)) x.next w p (hG.next s x hx (by omega)) hw hu (hQ s _ qs (.goto s i x hx (.inr (.inl hk))))
    refine ⟨Ext.close hx qs hn a1 (fun _ c' a' hs => ?_) (fun e => by omega) (fun e => by omega), a1.keep _ _ hm, a3⟩
    rcases eps_inv hx hs with h | h | h | h | h | h | h
    · omega
    · rw [h.2.1, h.2.2]; exact a2
    all_goals omega
  split
  · rename_i h0 h1 h2 h3 h4 hk
    obtain ⟨a1, a2, a3⟩ := hf (st.mark w s (i + 1)) x.next w p (hG.next s x hx (by omega)) hw hu (hQ s _ qs (.goto s i x hx (.inr (.inr (.inl hk)))))
    split
    · rename_i hb
      exact ⟨Ext.close hx qs hn a1 (fun h2 => absurd (a3 hb) h2) (fun e => by omega) (fun e => by omega), a1.keep _ _ hm, fun _ => a3 hb⟩
    · obtain ⟨b1, b2, b3⟩ := hf (f (st.mark w s (i + 1)) x.next w p).1 x.other w p (hG.other s x hx (by omega)) hw (by have := a1.unm P.length; omega) (hQ s _ qs (.other s i x hx (.inl hk)))
      refine ⟨Ext.close hx qs hn (a1.trans b1) (fun _ c' a' hs => ?_) (fun e => by omega) (fun e => by omega), b1.keep _ _ (a1.keep _ _ hm), b3⟩
      rcases eps_inv hx hs with h | h | h | h | h | h | h
      · omega
      · rw [h.2.1, h.2.2]; exact b1.keep _ _ a2
      · rw [h.2.1, h.2.2]; exact b2
      all_goals omega
  split
  · rename_i h0 h1 h2 h3 h4 h5 hk
    have qo := hQ s _ qs (.other s i x hx (.inr (.inl hk)))
    have ho := hG.other s x hx (by omega)
    have hnx := hG.next s x hx (by omega)
    unfold bgn
    split
    · rename_i hv
      have qn := hQ s _ qs (.pass s i x hx hk hv)
      obtain ⟨a1, a2, a3⟩ := hf (st.mark w s (i + 1)) x.other 2 p ho (by omega) hu qo
      obtain ⟨b1, b2, b3⟩ := rpt_fine hf x hnx ho qn qo (f (st.mark w s (i + 1)) x.other 2 p).1 w (voidPath keeps (voidOf x T.length i).2 i p) hw (by have := a1.unm P.length; omega)
      refine ⟨Ext.close hx qs hn (a1.trans b1) (fun h2 c' a' hs => ?_) (fun e => by omega) (fun e => by omega), b1.keep _ _ (a1.keep _ _ hm), b3⟩
      rcases eps_inv hx hs with h | h | h | h | h | h | h
      · omega
      · omega
      · omega
      · rw [h.2.1, h.2.2]; exact (b2 h2).2
      · rw [h.2.2.1, h.2.2.2]; exact (b2 h2).1
      all_goals omega
    · rename_i hv
      obtain ⟨a1, a2, a3⟩ := hf (st.mark w s (i + 1)) x.other 1 p ho (by omega) hu qo
      refine ⟨Ext.close hx qs hn a1 (fun h2 c' a' hs => ?_) (fun e => by omega) (fun e => by omega), a1.keep _ _ hm, fun e => by have := a3 e; omega⟩
      rcases eps_inv hx hs with h | h | h | h | h | h | h
      · omega
      · omega
      · omega
      · rw [h.2.1, h.2.2]; exact a2
      · exact absurd h.2.1 hv
      all_goals omega
  have hk8 := hG.kind s x hx
  split
  · rename_i h0 h1 h2 h3 h4 h5 h6 hk
    refine ⟨Ext.close hx qs hn (Ext.refl _) (fun h2 c' a' hs => ?_) (fun e => by omega) (fun e => by omega), hm, fun h => by simpa using h⟩
    rcases eps_inv hx hs with h | h | h | h | h | h | h <;> omega
  · rename_i h0 h1 h2 h3 h4 h5 h6 hk
    have ho := hG.other s x hx (by omega)
    have hnx := hG.next s x hx (by omega)
    have qo := hQ s _ qs (.other s i x hx (by omega))
    have qn := hQ s _ qs (.goto s i x hx (by omega))
    obtain ⟨b1, b2, b3⟩ := rpt_fine hf x hnx ho qn qo (st.mark w s (i + 1)) w p hw hu
    refine ⟨Ext.close hx qs hn b1 (fun h2 c' a' hs => ?_) (fun e => by omega) (fun e => by omega), b1.keep _ _ hm, b3⟩
    rcases eps_inv hx hs with h | h | h | h | h | h | h
    · omega
    · rw [h.2.1, h.2.2]; exact (b2 h2).1
    · omega
    · rw [h.2.1, h.2.2]; exact (b2 h2).2
    · omega
    · rw [h.2.2.1, h.2.2.2, ← h.2.1]; exact (b2 h2).1
    · rw [h.2.2.1, h.2.2.2]; exact (b2 h2).2
theorem follow_fine {P : List Instr} {T : List Nat} {i : Nat} {Q : Nat → Prop} (hG : Good P) (hQ : ∀ c c', Q c → NStep P T c i c' i → Q c') (keeps : Bool) : ∀ n, Fine P T i Q n (follow P T.length keeps i n)
  | 0 => fun st s w p _ _ hu _ => by omega
  | n + 1 => fun st s w p hs hw hu qs => by
    unfold follow
    split
    · rename_i h; exact ⟨Ext.refl _, h, fun e => by cases e⟩
    · rename_i h
      rw [List.getElem?_eq_getElem hs]
      simp only
      refine act_fine hG hQ (follow_fine hG hQ keeps n) keeps _ st s w p (List.getElem?_eq_getElem hs) qs hw h ?_
      have := unm_mark st w s (i + 1) P.length hw hs h
      omega
end Rx
end Go.Proofs.YtphighddlfabbaaDoor
