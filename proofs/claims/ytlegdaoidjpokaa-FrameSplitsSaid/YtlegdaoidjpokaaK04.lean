/-
  PACKED: FrK, B2BookA, FrL, B2BookB, B2BookC, B2BookD, FrM, FrN, FrO, FrP
-/
import Derived.Test.YtlegdaoidjpokaaK03
import Derived.Test.YtlegdaoidjpokaaK01
import Derived.Maps.AppendAt
import Derived.Handy
import Derived.Lib.SlBytesConst
namespace Go.Proofs.Ytlegdaoidjpokaa
set_option linter.unusedVariables false
set_option linter.unusedSimpArgs false
open Go.RowKit
open B2 (Only Row)
theorem read_any (a : Option Addr) (n cap seg i : Nat) (bs : List Nat) (hn : bs.length = n) (hcap : n ≤ cap) (hs : seg < 4294967296) (w : World) (H : Bys w a bs) :
    Calls Try.prog 69 #[.slice a n cap, .int .u32 seg, .int .i64 i] w (ReadPost a bs (Fr.readS seg i bs) w) := by
  subst hn
  by_cases h1 : bs.length ≠ 256 ∨ 65535 < i
  · have e : Fr.readS seg i bs = none := by unfold Fr.readS; rw [if_neg (by omega)]
    rw [e]
    exact read_len a bs.length cap seg i h1 w
  · have hl : bs.length = 256 := by omega
    have hi : i ≤ 65535 := by omega
    obtain ⟨b, off, rfl, hb, hc⟩ := H.2.2 (by intro h; rw [h] at hl; simp at hl)
    have g2 : bs[2]? = some bs[2] := List.getElem?_eq_getElem (by omega)
    have g10 : bs[10]? = some bs[10] := List.getElem?_eq_getElem (by omega)
    have g11 : bs[11]? = some bs[11] := List.getElem?_eq_getElem (by omega)
    generalize bs[2] = x2 at g2
    generalize bs[10] = x10 at g10
    generalize bs[11] = x11 at g11
    rw [hl]
    by_cases hbig : 240 < x10 + 256 * x11
    · have e : Fr.readS seg i bs = none := by
        unfold Fr.readS
        have e10 : bs.getD 10 0 = x10 := by rw [List.getD, g10]; rfl
        have e11 : bs.getD 11 0 = x11 := by rw [List.getD, g11]; rfl
        rw [if_neg (by rw [e10, e11]; omega)]
      rw [e]
      exact read_end b off cap seg i bs hl hi x10 x11 g10 g11 hbig w H
    · have hcap' : 256 ≤ cap := by omega
      by_cases h0 : x10 + 256 * x11 = 0
      · by_cases k1 : x2 = 1
        · exact read_a0 b off cap seg i bs hl hcap' hi hs x2 x10 x11 _ g2 g10 g11 rfl (by omega) w H k1 h0
        · by_cases k4 : x2 = 4
          · exact read_c0 b off cap seg i bs hl hcap' hi hs x2 x10 x11 _ g2 g10 g11 rfl (by omega) w H k4 h0
          · by_cases k2 : x2 = 2
            · exact read_d0 b off cap seg i bs hl hcap' hi hs x2 x10 x11 _ g2 g10 g11 rfl (by omega) w H k2 h0
            · exact read_e0 b off cap seg i bs hl hcap' hi hs x2 x10 x11 _ g2 g10 g11 rfl (by omega) w H ⟨k1, k2, k4⟩ h0
      · by_cases k1 : x2 = 1
        · exact read_a1 b off cap seg i bs hl hcap' hi hs x2 x10 x11 _ g2 g10 g11 rfl (by omega) w H k1 (by omega)
        · by_cases k4 : x2 = 4
          · exact read_c1 b off cap seg i bs hl hcap' hi hs x2 x10 x11 _ g2 g10 g11 rfl (by omega) w H k4 (by omega)
          · by_cases k2 : x2 = 2
            · exact read_d1 b off cap seg i bs hl hcap' hi hs x2 x10 x11 _ g2 g10 g11 rfl (by omega) w H k2 (by omega)
            · exact read_e1 b off cap seg i bs hl hcap' hi hs x2 x10 x11 _ g2 g10 g11 rfl (by omega) w H ⟨k1, k2, k4⟩ (by omega)
end Go.Proofs.Ytlegdaoidjpokaa
namespace Go.Proofs.Ytlegdaoidjpokaa.B2
open Go.RowKit
section
variable {P : Program}
/-- where an append of at least one element goes: in place, with the same room; or to new memory, and then nothing that was there has turned -/
def Goes (w w' : World) (v v' : Value) (n m : Nat) : Prop :=
  (∃ g cap, v = .slice (some ⟨g, 0, none⟩) n cap ∧ v' = .slice (some ⟨g, 0, none⟩) (n + m) cap ∧ w.grownBy w' (some g)) ∨
  (∃ g cap, v' = .slice (some ⟨g, 0, none⟩) (n + m) cap ∧ w.heap.size ≤ g ∧ w.grownBy w' none)
theorem run_append_goes (w : World) (t ty e : TypeId) (i : TypeInfo) (z : Value) (size bytes : Nat) (ht : P.underlying t = some (.slice e)) (hi : P.info? e = some i) (hz : i.zero = some z)
    (hsize : i.size = size) (hby : i.bytes = bytes) (hzs : z.cells.size = size) (hsz : 0 < size)
    (v : Value) (n : Nat) (xs : List Value) (hown : w.ownsRow 0 e size v n xs)
    (a : Addr) (m c : Nat) (news : List Value) (hl : news.length = m * size) (hnews : ∀ j u, news[j]? = some u → w.cell? (a.add j) = some u) (h1 : ∀ u ∈ news, u.oneCell' = true)
    (h63 : n + m ≤ maxLen) (hbytes : (n + m) * bytes ≤ 140737488355328) (hm : 0 < m) :
    ∃ v' w', (Builtin.append_ #[t, t] ty #[v, .slice (some a) m c]).run P w = .ok v' w' ∧ w'.ownsRow 0 e size v' (n + m) (xs ++ news) ∧ Goes w w' v v' n m := by
  obtain ⟨v', w', hr, h2, h3, h4⟩ := run_append_own (P := P) w 0 t ty e i z size bytes ht hi hz hsize hby hzs hsz v n xs hown a m c news hl hnews h1 h63 hbytes (Nat.zero_le _)
  refine ⟨v', w', hr, h2, ?_⟩
  rcases hown.2 with ⟨rfl, rfl⟩ | ⟨g, cap, cur, rfl, hbg, hg, hnc, hcm, hcs, htake⟩
  · have hx : xs = [] := List.eq_nil_of_length_eq_zero (by simpa using hown.1)
    subst hx
    obtain ⟨v2, w2, hr2, k2, k3, k4⟩ := run_append_own (P := P) w w.heap.size t ty e i z size bytes ht hi hz hsize hby hzs hsz _ 0 [] (World.ownsRow_nil w _ e size) a m c news hl hnews h1 h63 hbytes (Nat.le_refl _)
    rw [hr] at hr2
    cases hr2
    rcases k2.2 with ⟨_, h0⟩ | ⟨g, cap, cur, hv, hg, _⟩
    · omega
    · exact .inr ⟨g, cap, hv, hg, h3⟩
  · by_cases hroom : n + m ≤ cap
    · have hfit : n * i.size + news.length ≤ cur.size := by rw [hl, hcs, hsize, ← Nat.add_mul]; exact Nat.mul_le_mul_right _ hroom
      have hr2 := run_append_room (P := P) w t ty e i ht hi g n cap cur hg a m c news (by rw [hsize]; exact hl) hnews h1 hroom hfit
      rw [hr] at hr2
      cases hr2
      exact .inl ⟨g, cap, rfl, rfl, h3⟩
    · have holds := hown.cells (g := g) rfl
      have hr2 := run_append_grow (P := P) w t ty e i z ht hi hz ⟨g, 0, none⟩ n cap xs (by rw [hsize]; exact hown.1) holds a m c news (by rw [hsize]; exact hl) hnews (by omega) (by simp only [maxLen] at h63; omega) (growslice_fits (by omega) (by rw [hby]; exact hbytes))
      rw [hr] at hr2
      cases hr2
      exact .inr ⟨_, _, rfl, Nat.le_refl _, ⟨rfl, rfl, rfl, by simp, fun k hk _ => Below.heap_alloc w.drew _ k hk⟩⟩
theorem wpList_append_goes (w : World) {ops : Array Oper} {rest : List Oper} {o : Oper} {a : Act} {Q : Exit → Act → World → Prop} (hgd : o.guard = none) (s x : Operand) (t : TypeId)
    (ho : o.op = .call { callee := .builtin .append, args := #[s, x], argTypes := #[t, t] })
    (e : TypeId) (i : TypeInfo) (z : Value) (size bytes : Nat) (ht : P.underlying t = some (.slice e)) (hi : P.info? e = some i) (hz : i.zero = some z)
    (hsize : i.size = size) (hby : i.bytes = bytes) (hzs : z.cells.size = size) (hsz : 0 < size)
    (v : Value) (n : Nat) (xs : List Value) (hs : a.eval s = v) (hown : w.ownsRow 0 e size v n xs)
    (ad : Addr) (m c : Nat) (news : List Value) (hx : a.eval x = .slice (some ad) m c) (hl : news.length = m * size) (hnews : ∀ j u, news[j]? = some u → w.cell? (ad.add j) = some u) (h1 : ∀ u ∈ news, u.oneCell' = true)
    (h63 : n + m ≤ maxLen) (hbytes : (n + m) * bytes ≤ 140737488355328) (hm : 0 < m)
    (h : ∀ v' w', w'.ownsRow 0 e size v' (n + m) (xs ++ news) → Goes w w' v v' n m → wpList P ops Q rest (a.put o.dst v') w') : wpList P ops Q (o :: rest) a w := by
  refine wpList_plain hgd fun K hK => ?_
  obtain ⟨v', w', hr, h2, h3⟩ := run_append_goes (P := P) w t o.type e i z size bytes ht hi hz hsize hby hzs hsz v n xs hown ad m c news hl hnews h1 h63 hbytes hm
  unfold Oper.wp execOp
  simp only [ho, resolve, invoke, builtin, Sem.run_bind, Sem.run_pure, Result.andThen_ok, List.map_toArray, List.map_cons, List.map_nil, hs, hx, hr]
  exact hK _ _ (h v' w' h2 h3)
end
/-- rows of bytes, each in a block of its own or nil -/
structure Lots (w : World) (N : Nat) (X : Nat → Value) (C : Nat → List Nat) : Prop where
  own : ∀ i, w.ownsRow N 5 1 (X i) (C i).length (cellsOf (C i))
  apart : ∀ i j, i ≠ j → (X i).ownBlock = none ∨ (X i).ownBlock ≠ (X j).ownBlock
theorem Lots.shape {w : World} {N : Nat} {X : Nat → Value} {C : Nat → List Nat} (h : Lots w N X C) (i : Nat) : (X i = .slice none 0 0 ∧ C i = []) ∨ ∃ g cap cur, X i = .slice (some ⟨g, 0, none⟩) (C i).length cap ∧ N ≤ g ∧ w.heap[g]? = some (.cells cur 5 (0, 0)) ∧ (C i).length ≤ cap ∧ cap ≤ maxLen ∧ cur.size = cap ∧ cur.toList.take (C i).length = cellsOf (C i) := by
  rcases (h.own i).2 with ⟨hv, hn⟩ | ⟨g, cap, cur, hv, hg, hh, hc, hm, hs, ht⟩
  · exact .inl ⟨hv, List.eq_nil_of_length_eq_zero hn⟩
  · exact .inr ⟨g, cap, cur, hv, hg, hh, hc, hm, by simpa using hs, by simpa using ht⟩
theorem Lots.cell {w : World} {N : Nat} {X : Nat → Value} {C : Nat → List Nat} (h : Lots w N X C) (i k : Nat) (hk : k < (C i).length) :
    ∃ g cap, X i = .slice (some ⟨g, 0, none⟩) (C i).length cap ∧ N ≤ g ∧ g < w.heap.size ∧ w.cell? ⟨g, k, none⟩ = some (.int .u8 (((C i)[k] : Nat) : Int)) ∧ w.frozen? ⟨g, k, none⟩ = false := by
  rcases h.shape i with ⟨_, h0⟩ | ⟨g, cap, cur, hv, hg, hh, hc, hm, hs, ht⟩
  · rw [h0] at hk; simp at hk
  · refine ⟨g, cap, hv, hg, (Array.getElem?_eq_some_iff.1 hh).1, ?_, frozen_of_row _ _ _ _ _ hh⟩
    rw [cell_of_row _ _ _ _ _ _ hh, ← Array.getElem?_toList]
    have := congrArg (fun l => l[k]?) ht
    simp only [List.getElem?_take, if_pos hk, cellsOf_get _ k hk] at this
    exact this
/-- a row that is not written, or not there, stays -/
theorem owns_only {w w' : World} {N e size n : Nat} {v : Value} {xs : List Value} (h : w.ownsRow N e size v n xs) {S : List Nat} (ho : Only S w w') (hn : ∀ g, v.ownBlock = some g → g ∉ S) : w'.ownsRow N e size v n xs := by
  refine ⟨h.1, ?_⟩
  rcases h.2 with h2 | ⟨g, cap, cur, hv, hg, hh, r⟩
  · exact .inl h2
  · exact .inr ⟨g, cap, cur, hv, hg, (ho.block g (Array.getElem?_eq_some_iff.1 hh).1 (hn g (by rw [hv]; rfl))).trans hh, r⟩
theorem Lots.only {w w' : World} {N : Nat} {X : Nat → Value} {C : Nat → List Nat} (h : Lots w N X C) {S : List Nat} (ho : Only S w w') (hn : ∀ i g, (X i).ownBlock = some g → g ∉ S) : Lots w' N X C :=
  ⟨fun i => owns_only (h.own i) ho (hn i), h.apart⟩
/-- one byte of one row is written -/
theorem Lots.set {w : World} {N i k g cap c : Nat} {X : Nat → Value} {C : Nat → List Nat} (h : Lots w N X C) (hX : X i = .slice (some ⟨g, 0, none⟩) (C i).length cap) (hk : k < (C i).length) :
    Lots (w.setCell ⟨g, k, none⟩ (.int .u8 ((c : Nat) : Int))) N X (fun j => if j = i then (C i).set k c else C j) := by
  refine ⟨fun j => ?_, h.apart⟩
  have ho : Only [g] w (w.setCell ⟨g, k, none⟩ (.int .u8 ((c : Nat) : Int))) := (Only.refl _ _).setCell (p := ⟨g, k, none⟩) (.inl (by simp)) _
  by_cases hj : j = i
  · subst hj
    rw [if_pos rfl]
    rcases h.shape j with ⟨hv, _⟩ | ⟨g2, cap2, cur, hv, hg, hh, hc, hm, hs, ht⟩
    · rw [hX] at hv; cases hv
    · rw [hX] at hv
      cases hv
      refine ⟨by simp [cellsOf_length], .inr ⟨g, cap, cur.setIfInBounds k (.int .u8 ((c : Nat) : Int)), by rw [hX]; simp, hg, heap_setCell_same _ _ _ _ _ _ hh, by simpa using hc, hm, by simpa using hs, ?_⟩⟩
      rw [Array.toList_setIfInBounds, List.length_set, Nat.mul_one, List.take_set, ht]
      simp [cellsOf, List.map_set]
  · rw [if_neg hj]
    refine owns_only (h.own j) ho (fun g' hg' => ?_)
    rcases h.apart j i hj with h1 | h1
    · rw [h1] at hg'; cases hg'
    · rw [hg', hX] at h1
      simp only [Value.ownBlock] at h1
      intro hm
      simp only [List.mem_singleton] at hm
      exact h1 (by rw [hm])
/-- the slice of slices itself -/
def Outer (w : World) (a : Option Addr) (h n : Nat) (X : Nat → Value) : Prop := 0 < n → a = some ⟨h, 0, none⟩ ∧ h < w.heap.size ∧ ∀ i, i < n → w.cell? ⟨h, i, none⟩ = some (X i)
theorem Outer.only {w w' : World} {a : Option Addr} {h n : Nat} {X : Nat → Value} (H : Outer w a h n X) {S : List Nat} (ho : Only S w w') (hn : h ∉ S) : Outer w' a h n X := fun h0 => by
  obtain ⟨e, hl, hc⟩ := H h0
  exact ⟨e, Nat.lt_of_lt_of_le hl ho.size, fun i hi => (ho.cell (p := ⟨h, i, none⟩) hl hn).trans (hc i hi)⟩
/-- the marks -/
def mark1 (i k : Nat) : Nat := (i * 97 + k * 13) % 256
def mark2 (i k : Nat) : Nat := ((((-1 : Int) - (i : Int)) * 97 + (k : Int) * 13) % 256).toNat
theorem mark1_spell (i k : Nat) : ((i : Int) * 97 + (k : Int) * 13) % 256 = ((mark1 i k : Nat) : Int) := by unfold mark1; omega
theorem mark2_spell (i k : Nat) : (((-1 : Int) - (i : Int)) * 97 + (k : Int) * 13) % 256 = ((mark2 i k : Nat) : Int) := by unfold mark2; omega
end Go.Proofs.Ytlegdaoidjpokaa.B2
namespace Go.Proofs.Ytlegdaoidjpokaa
set_option linter.unusedVariables false
set_option linter.unusedSimpArgs false
open Go.RowKit
open B2 (Only Row)
/-- rows of bytes that lie in memory -/
def Rws (w : World) (a : Option Addr) (Ls : List (List Nat)) : Prop :=
  Ls.length ≤ maxLen ∧ (Ls ≠ [] → ∃ h off, a = some ⟨h, off, none⟩ ∧ h < w.heap.size ∧ ∀ i (hi : i < Ls.length), ∃ ai ci, w.cell? ⟨h, off + i, none⟩ = some (.slice ai Ls[i].length ci) ∧ Ls[i].length ≤ ci ∧ Bys w ai Ls[i])
theorem Rws.below {w w' : World} {a : Option Addr} {Ls : List (List Nat)} (h : Rws w a Ls) (hb : Below w.heap.size w w') : Rws w' a Ls := by
  obtain ⟨h1, h2⟩ := h
  refine ⟨h1, fun hn => ?_⟩
  obtain ⟨b, off, ha, hlt, hc⟩ := h2 hn
  refine ⟨b, off, ha, Nat.lt_of_lt_of_le hlt hb.size, fun i hi => ?_⟩
  obtain ⟨ai, ci, k1, k2, k3⟩ := hc i hi
  exact ⟨ai, ci, (hb.cell (p := ⟨b, off + i, none⟩) hlt).trans k1, k2, k3.below hb⟩
/-- bytes of the call's own -/
def OwnB (w : World) (N : Nat) (v : Value) (ds : List Nat) : Prop := w.ownsRow N 5 1 v ds.length (cellsOf ds)
theorem OwnB.nil (w : World) (N : Nat) : OwnB w N (.slice none 0 0) [] := World.ownsRow_nil w N 5 1
theorem OwnB.below {w w' : World} {N : Nat} {v : Value} {ds : List Nat} (h : OwnB w N v ds) (hb : Below w.heap.size w w') : OwnB w' N v ds := B2.owns_only h (Only.of_below hb []) (fun _ _ => by simp)
theorem OwnB.shape {w : World} {N : Nat} {v : Value} {ds : List Nat} (h : OwnB w N v ds) : ∃ a c, v = .slice a ds.length c := by
  rcases h.2 with ⟨hv, h0⟩ | ⟨g, c, _, hv, _⟩
  · exact ⟨none, 0, by rw [hv, h0]⟩
  · exact ⟨_, c, hv⟩
/-- what recordAt comes to -/
def RecPost (o : Option (List Nat × Nat)) (w : World) (e : Ending) (w' : World) : Prop :=
  Below w.heap.size w w' ∧ match o with
  | none => e = .returned (.tuple #[.slice none 0 0, .int .i64 0])
  | some (r, n) => ∃ v, e = .returned (.tuple #[v, .int .i64 n]) ∧ OwnB w' w.heap.size v r
theorem recS_step (seg : Nat) (Ls : List (List Nat)) (i : Nat) (first : Bool) (acc : List Nat) (hi : i < Ls.length) : Fr.recS seg (Ls.drop i) i first acc = match Fr.readS seg i Ls[i] with
    | none => none
    | some (k, pc) => if (decide (k = 1 ∨ k = 2)) ≠ first ∨ 7680 < acc.length + pc.length then none
      else if k = 1 ∨ k = 4 then some (acc ++ pc, 1) else (Fr.recS seg (Ls.drop (i + 1)) (i + 1) false (acc ++ pc)).map fun x => (x.1, x.2 + 1) := by
  rw [List.drop_eq_getElem_cons hi]
  rfl
theorem own_more {w W3 w4 : World} {v v' : Value} {acc pc : List Nat} {al pl : Nat} (hb : Below w.heap.size w W3) (hown : W3.ownsRow w.heap.size 5 1 v al (cellsOf acc)) (ha : acc.length = al) (hp : pc.length = pl) (h : w4.ownsRow w.heap.size 5 1 v' (al + pl) (cellsOf acc ++ cellsOf pc)) (hg : W3.grownBy w4 v.ownBlock) : OwnB w4 w.heap.size v' (acc ++ pc) ∧ Below w.heap.size w w4 := by
  subst ha hp
  refine ⟨?_, hb.grown hg hb.size (fun k hk => (hown.lt k hk).1)⟩
  unfold OwnB
  rw [List.length_append, show cellsOf (acc ++ pc) = cellsOf acc ++ cellsOf pc by simp [cellsOf]]
  exact h
theorem own_keep {W3 w4 : World} {v x : Value} {pb i : Nat} (hg : W3.grownBy w4 v.ownBlock) (hlt : ∀ k, v.ownBlock = some k → k < pb) (hc : W3.cell? ⟨pb, i, none⟩ = some x) : w4.cell? ⟨pb, i, none⟩ = some x := by
  have ho : Only v.ownBlock.toList W3 w4 := (Only.refl _ W3).grown hg (fun k hk => .inl (by simp [hk]))
  refine Only_cell ho hc (fun hm => ?_)
  have h1 : v.ownBlock = some pb := by simpa using hm
  exact absurd (hlt pb h1) (by omega)
/-- is this the record's first sector -/
def frst (j t : Nat) : Bool := decide (j = t)
set_option maxHeartbeats 8000000 in
set_option maxRecDepth 100000 in
theorem record_any (a : Option Addr) (Ls : List (List Nat)) (n cap seg t : Nat) (hn : Ls.length = n) (hn9 : n ≤ 1000000000) (ht : t ≤ n) (hs : seg < 4294967296) (w : World) (H : Rws w a Ls) :
    Calls Try.prog 62 #[.int .u32 seg, .slice a n cap, .int .i64 t] w (RecPost (Fr.recS seg (Ls.drop t) t true []) w) := by
  obtain ⟨i0, hi, hz0, hz1, hz2⟩ := info_parts info5
  have HI := Lib.hid (And.intro hi (And.intro hz0 (And.intro hz1 hz2)))
  have HR := Lib.hid H
  have HN := Lib.hid hn
  obtain ⟨R, hR⟩ : ∃ R, Fr.recS seg (Ls.drop t) t true [] = R := ⟨_, rfl⟩
  have HST : Hid (R = (Fr.recS seg (Ls.drop t) t (frst t t) []).map fun x => (x.1, x.2 + (t - t))) := Lib.hid (by
    rw [← hR, show frst t t = true from decide_eq_true rfl, Nat.sub_self]
    cases Fr.recS seg (Ls.drop t) t true [] with
    | none => rfl
    | some y => rfl)
  rw [hR]
  clear H hn hR hi hz0 hz1 hz2
  go_enter Try.func62, Try.ntmps62
  go_wp2_with fail
  go_loopw [8, 9] (fun rv i wr => ∃ (j : Nat) (acc : List Nat), t ≤ j ∧ j ≤ n ∧ acc.length ≤ 7680 ∧ i = .int .i64 j ∧ Hid (R = (Fr.recS seg (Ls.drop j) j (frst j t) acc).map fun x => (x.1, x.2 + (j - t))) ∧ Hid (OwnB wr w.heap.size rv acc ∧ Below w.heap.size w wr)) (fun _ i _ => n - (intOf i).toNat)
  case atStart => exact ⟨t, [], Nat.le_refl _, ht, by simp, rfl, HST, Lib.hid ⟨OwnB.nil _ _, Below.refl _ _⟩⟩
  case round =>
    clear HST
    obtain ⟨j, acc, htj, hjn, hacc, rfl, HE, HO⟩ := hrel
    by_cases hlt : j < n
    · have hd : decide ((j : Int) < (n : Int)) = true := by simp; omega
      have hd2 : decide (j < n) = true := by simp; omega
      have hjl : j < Ls.length := by have := HN.out; omega
      obtain ⟨h, off, rfl, hh, hcs⟩ := HR.out.2 (by intro h; rw [h] at hjl; simp at hjl)
      obtain ⟨ai, ci, k1w, k2, k3⟩ := hcs j hjl
      have k1 : wr.cell? ⟨h, off + j, none⟩ = some (.slice ai Ls[j].length ci) := (HO.out.2.cell (p := ⟨h, off + j, none⟩) hh).trans k1w
      have k3r := k3.below HO.out.2
      have hstep := recS_step seg Ls j (frst j t) acc hjl
      obtain ⟨S, hS⟩ : ∃ S, Ls[j] = S := ⟨_, rfl⟩
      rw [hS] at k1 k2 k3r hstep
      have HE2 := HE.out
      rw [hstep] at HE2
      obtain ⟨m, hm⟩ : ∃ m, S.length = m := ⟨_, rfl⟩
      have CR := Lib.hid (read_any ai m ci seg j S hm (by omega) hs wr k3r)
      rw [hm] at k1
      have HK3 := Lib.hid k3r
      clear hcs k1w k2 k3 k3r hstep hS hm hjl hh HE
      cases hrs : Fr.readS seg j S with
      | none =>
        rw [hrs] at CR HE2
        have hRn : R = none := HE2
        have HRN := Lib.hid hRn
        clear hrs hRn HE2
        go_wp2_with fail
        go_at_call 69
        refine CR.out.mono ?_
        rintro e w2 ⟨hb2, rfl⟩
        have HB2 := Lib.hid (HO.out.2.trans (hb2.mono HO.out.2.size))
        clear hb2 CR HK3
        go_wp2_with fail
        go_returns
        rw [HRN.out]
        exact ⟨HB2.out.trans ((Below.refl _ _).alloc (Nat.le_refl _) _ |>.mono HB2.out.size), rfl⟩
      | some kp =>
        obtain ⟨k, pc⟩ := kp
        rw [hrs] at CR HE2
        have hpc : pc.length ≤ 240 := (Fr.readS_some hrs).2.1
        have hpc8 := (Fr.readS_some hrs).1
        simp only at HE2
        obtain ⟨pl, hpl⟩ : ∃ pl, pc.length = pl := ⟨_, rfl⟩
        have HPL := Lib.hid hpl
        have hkb : kb k = decide (k = 1 ∨ k = 2) := rfl
        have hke : ke k = decide (k = 1 ∨ k = 4) := rfl
        obtain ⟨KB, hKB⟩ : ∃ x, kb k = x := ⟨_, rfl⟩
        obtain ⟨KE, hKE⟩ : ∃ x, ke k = x := ⟨_, rfl⟩
        have hfr : ((j : Int) == (t : Int)) = frst j t := by
          unfold frst
          rw [Bool.eq_iff_iff, beq_iff_eq, decide_eq_true_eq]; omega
        obtain ⟨FS, hFS⟩ : ∃ x, frst j t = x := ⟨_, rfl⟩
        rw [← hkb, hKB, hFS] at HE2
        rw [hFS] at hfr
        obtain ⟨al, hal⟩ : ∃ al, acc.length = al := ⟨_, rfl⟩
        have HAL := Lib.hid hal
        rw [hal, hpl] at HE2
        rw [hal] at hacc
        rw [hpl] at hpc
        obtain ⟨ra, rc, hrv⟩ := HO.out.1.shape
        rw [hal] at hrv
        subst hrv
        have HKE := Lib.hid (And.intro hke hKE)
        have HKK := Lib.hid (And.intro hKB hKE)
        clear hkb hke hrs hpl hal hpc8 hKB hKE
        unfold frst at hFS
        have hsum : (al : Int) + (pl : Int) = ((al + pl : Nat) : Int) := by omega
        obtain ⟨sm, hsm⟩ : ∃ sm, al + pl = sm := ⟨_, rfl⟩
        rw [hsm] at hsum HE2
        have HSM := Lib.hid hsm
        have HFS := Lib.hid hFS
        clear hFS hsm
        cases KB <;> cases FS
        case some.false.false =>
          by_cases c2 : 7680 < sm
          · have hRn : R = none := by rw [HE2, if_pos (.inr c2)]; rfl
            have HRN := Lib.hid hRn
            have hbig : decide ((7680 : Int) < (sm : Int)) = true := by simp; omega
            clear hRn HE2
            go_wp2_with fail
            go_at_call 69
            refine CR.out.mono ?_
            rintro e w2 ⟨hb2, a', c', rfl, hc', ⟨x', rfl⟩, hA', hAb⟩
            rw [HKK.out.1, HKK.out.2, HPL.out]
            have HB2 := Lib.hid (HO.out.2.trans (hb2.mono HO.out.2.size))
            clear hb2 CR HK3 hA' hAb
            go_wp2_with fail
            go_returns
            rw [HRN.out]
            exact ⟨HB2.out.trans ((Below.refl _ _).alloc (Nat.le_refl _) _ |>.mono HB2.out.size), rfl⟩
          · have hbig : decide ((7680 : Int) < (sm : Int)) = false := by simp; omega
            rw [if_neg (by intro h; rcases h with h | h; exact absurd rfl h; exact c2 h)] at HE2
            have HEH := Lib.hid HE2
            clear HE2
            have hsm9 : sm ≤ 7680 := by omega
            clear c2
            cases KE
            · have HKF := Lib.hid (show ¬ (k = 1 ∨ k = 4) from of_decide_eq_false (by rw [← HKE.out.1]; exact HKK.out.2))
              go_wp2_with fail
              go_at_call 69
              refine CR.out.mono ?_
              rintro e w2 ⟨hb2, a', c', rfl, hc', ⟨x', rfl⟩, hA', hAb⟩
              rw [HKK.out.1, HKK.out.2, HPL.out]
              have hb2' := hb2.trans ((Below.refl w2.heap.size w2).alloc (Nat.le_refl _) (.cells #[.bool false, .bool false, .slice (some x') pl c'] 84) |>.mono hb2.size)
              have HO3 := Lib.hid (And.intro (HO.out.1.below hb2') (HO.out.2.trans (hb2'.mono HO.out.2.size)))
              have HSRC := Lib.hid (cellsOf_at (hA' _ (HK3.out.below hb2')))
              have HLN := Lib.hid (show (cellsOf pc).length = pl * 1 from by rw [cellsOf_length, HPL.out, Nat.mul_one])
              have HOW := Lib.hid (show (w2.alloc (.cells #[.bool false, .bool false, .slice (some x') pl c'] 84)).ownsRow w.heap.size 5 1 (.slice ra al rc) al (cellsOf acc) from by have h := HO3.out.1; unfold OwnB at h; rw [HAL.out] at h; exact h)
              have HMX := Lib.hid (show al + pl ≤ maxLen ∧ (al + pl) * 1 ≤ 140737488355328 from ⟨by unfold maxLen; omega, by omega⟩)
              have HVL := Lib.hid (fun k hk => Nat.lt_of_lt_of_le (HO.out.1.lt k hk).2 hb2.size)
              clear hb2 hb2' CR HK3 hA' hAb HO
              have HBS := Lib.hid HO3.out.2.size
              have hrw := heap_alloc_new w2 (.cells #[.bool false, .bool false, .slice (some x') pl c'] 84)
              have q1 : (w2.alloc (.cells #[.bool false, .bool false, .slice (some x') pl c'] 84)).cell? ⟨w2.heap.size, 1, none⟩ = some (.bool false) := (cell_of_row _ _ 1 _ _ _ hrw).trans rfl
              have q2 : (w2.alloc (.cells #[.bool false, .bool false, .slice (some x') pl c'] 84)).cell? ⟨w2.heap.size, 2, none⟩ = some (.slice (some x') pl c') := (cell_of_row _ _ 2 _ _ _ hrw).trans rfl
              have HQ1 := Lib.hid q1
              clear hrw q1
              go_upto_region 8 with (fail)
              generalize w2.alloc (.cells #[.bool false, .bool false, .slice (some x') pl c'] 84) = W3 at *
              go_wp2_with (at_builtin; refine wpList_append_own_at _ rfl (.tmp 48) (.tmp 50) 23 rfl w.heap.size 5 i0 (.int .u8 0) 1 1 Try.underlying23 HI.out.1 HI.out.2.1 HI.out.2.2.1 HI.out.2.2.2 rfl (by decide) (.slice ra al rc) al (cellsOf acc) rfl HOW.out x' pl c' (cellsOf pc) rfl HLN.out HSRC.out (cellsOf_one _) HMX.out.1 HMX.out.2 HBS.out ?_; intro v' w4 hown hgr _ _; have HO4 : Hid (OwnB w4 w.heap.size v' (acc ++ pc) ∧ Below w.heap.size w w4) := Lib.hid (own_more HO3.out.2 HOW.out HAL.out HPL.out hown hgr); have q1 := own_keep hgr HVL.out HQ1.out; clear hown hgr)
              have HNX : Hid (R = (Fr.recS seg (Ls.drop (j + 1)) (j + 1) (frst (j + 1) t) (acc ++ pc)).map fun x => (x.1, x.2 + (j + 1 - t))) := Lib.hid (by
                rw [HEH.out, if_neg HKF.out, show frst (j + 1) t = false from decide_eq_false (by omega)]
                cases Fr.recS seg (Ls.drop (j + 1)) (j + 1) false (acc ++ pc) with
                | none => rfl
                | some y => simp only [Option.map_some]; congr 2; omega)
              have hln : (acc ++ pc).length ≤ 7680 := by rw [List.length_append, HAL.out, HPL.out, HSM.out]; exact hsm9
              go_wp2_with fail
              go_roundw
              case rel => exact ⟨j + 1, acc ++ pc, by omega, by omega, hln, by go_num, HNX, HO4⟩
              case measure => simp [intOf]; omega
            · have HKF := Lib.hid (show k = 1 ∨ k = 4 from of_decide_eq_true (by rw [← HKE.out.1]; exact HKK.out.2))
              obtain ⟨dj, hdj⟩ : ∃ dj, j - t = dj := ⟨_, rfl⟩
              have hdj2 : (j : Int) - (t : Int) = (dj : Int) := by omega
              obtain ⟨dk, hdk⟩ : ∃ dk, dj + 1 = dk := ⟨_, rfl⟩
              have hdj3 : (dj : Int) + 1 = (dk : Int) := by omega
              have HDJ := Lib.hid (And.intro hdj hdk)
              have hdj9 : dj ≤ 1000000000 := by omega
              clear hdj hdk
              go_wp2_with fail
              go_at_call 69
              refine CR.out.mono ?_
              rintro e w2 ⟨hb2, a', c', rfl, hc', ⟨x', rfl⟩, hA', hAb⟩
              rw [HKK.out.1, HKK.out.2, HPL.out]
              have hb2' := hb2.trans ((Below.refl w2.heap.size w2).alloc (Nat.le_refl _) (.cells #[.bool false, .bool true, .slice (some x') pl c'] 84) |>.mono hb2.size)
              have HO3 := Lib.hid (And.intro (HO.out.1.below hb2') (HO.out.2.trans (hb2'.mono HO.out.2.size)))
              have HSRC := Lib.hid (cellsOf_at (hA' _ (HK3.out.below hb2')))
              have HLN := Lib.hid (show (cellsOf pc).length = pl * 1 from by rw [cellsOf_length, HPL.out, Nat.mul_one])
              have HOW := Lib.hid (show (w2.alloc (.cells #[.bool false, .bool true, .slice (some x') pl c'] 84)).ownsRow w.heap.size 5 1 (.slice ra al rc) al (cellsOf acc) from by have h := HO3.out.1; unfold OwnB at h; rw [HAL.out] at h; exact h)
              have HMX := Lib.hid (show al + pl ≤ maxLen ∧ (al + pl) * 1 ≤ 140737488355328 from ⟨by unfold maxLen; omega, by omega⟩)
              have HVL := Lib.hid (fun k hk => Nat.lt_of_lt_of_le (HO.out.1.lt k hk).2 hb2.size)
              clear hb2 hb2' CR HK3 hA' hAb HO
              have HBS := Lib.hid HO3.out.2.size
              have hrw := heap_alloc_new w2 (.cells #[.bool false, .bool true, .slice (some x') pl c'] 84)
              have q1 : (w2.alloc (.cells #[.bool false, .bool true, .slice (some x') pl c'] 84)).cell? ⟨w2.heap.size, 1, none⟩ = some (.bool true) := (cell_of_row _ _ 1 _ _ _ hrw).trans rfl
              have q2 : (w2.alloc (.cells #[.bool false, .bool true, .slice (some x') pl c'] 84)).cell? ⟨w2.heap.size, 2, none⟩ = some (.slice (some x') pl c') := (cell_of_row _ _ 2 _ _ _ hrw).trans rfl
              have HQ1 := Lib.hid q1
              clear hrw q1
              go_upto_region 8 with (fail)
              generalize w2.alloc (.cells #[.bool false, .bool true, .slice (some x') pl c'] 84) = W3 at *
              go_wp2_with (at_builtin; refine wpList_append_own_at _ rfl (.tmp 48) (.tmp 50) 23 rfl w.heap.size 5 i0 (.int .u8 0) 1 1 Try.underlying23 HI.out.1 HI.out.2.1 HI.out.2.2.1 HI.out.2.2.2 rfl (by decide) (.slice ra al rc) al (cellsOf acc) rfl HOW.out x' pl c' (cellsOf pc) rfl HLN.out HSRC.out (cellsOf_one _) HMX.out.1 HMX.out.2 HBS.out ?_; intro v' w4 hown hgr _ _; have HO4 : Hid (OwnB w4 w.heap.size v' (acc ++ pc) ∧ Below w.heap.size w w4) := Lib.hid (own_more HO3.out.2 HOW.out HAL.out HPL.out hown hgr); have q1 := own_keep hgr HVL.out HQ1.out; clear hown hgr)
              go_wp2_with fail
              go_returns
              rw [HEH.out, if_pos HKF.out]
              refine ⟨HO4.out.2, v', ?_, HO4.out.1⟩
              rw [HDJ.out.1, show 1 + dj = dk by have := HDJ.out.2; omega]
              rfl
        case some.false.true =>
          have hRn : R = none := by rw [HE2, if_pos (.inl (by decide))]; rfl
          have HRN := Lib.hid hRn
          clear hRn HE2
          go_wp2_with fail
          go_at_call 69
          refine CR.out.mono ?_
          rintro e w2 ⟨hb2, a', c', rfl, hc', ⟨x', rfl⟩, hA', hAb⟩
          rw [HKK.out.1, HKK.out.2, HPL.out]
          have HB2 := Lib.hid (HO.out.2.trans (hb2.mono HO.out.2.size))
          clear hb2 CR HK3 hA' hAb
          go_wp2_with fail
          go_returns
          rw [HRN.out]
          exact ⟨HB2.out.trans ((Below.refl _ _).alloc (Nat.le_refl _) _ |>.mono HB2.out.size), rfl⟩
        case some.true.false =>
          have hRn : R = none := by rw [HE2, if_pos (.inl (by decide))]; rfl
          have HRN := Lib.hid hRn
          clear hRn HE2
          go_wp2_with fail
          go_at_call 69
          refine CR.out.mono ?_
          rintro e w2 ⟨hb2, a', c', rfl, hc', ⟨x', rfl⟩, hA', hAb⟩
          rw [HKK.out.1, HKK.out.2, HPL.out]
          have HB2 := Lib.hid (HO.out.2.trans (hb2.mono HO.out.2.size))
          clear hb2 CR HK3 hA' hAb
          go_wp2_with fail
          go_returns
          rw [HRN.out]
          exact ⟨HB2.out.trans ((Below.refl _ _).alloc (Nat.le_refl _) _ |>.mono HB2.out.size), rfl⟩
        case some.true.true =>
          by_cases c2 : 7680 < sm
          · have hRn : R = none := by rw [HE2, if_pos (.inr c2)]; rfl
            have HRN := Lib.hid hRn
            have hbig : decide ((7680 : Int) < (sm : Int)) = true := by simp; omega
            clear hRn HE2
            go_wp2_with fail
            go_at_call 69
            refine CR.out.mono ?_
            rintro e w2 ⟨hb2, a', c', rfl, hc', ⟨x', rfl⟩, hA', hAb⟩
            rw [HKK.out.1, HKK.out.2, HPL.out]
            have HB2 := Lib.hid (HO.out.2.trans (hb2.mono HO.out.2.size))
            clear hb2 CR HK3 hA' hAb
            go_wp2_with fail
            go_returns
            rw [HRN.out]
            exact ⟨HB2.out.trans ((Below.refl _ _).alloc (Nat.le_refl _) _ |>.mono HB2.out.size), rfl⟩
          · have hbig : decide ((7680 : Int) < (sm : Int)) = false := by simp; omega
            rw [if_neg (by intro h; rcases h with h | h; exact absurd rfl h; exact c2 h)] at HE2
            have HEH := Lib.hid HE2
            clear HE2
            have hsm9 : sm ≤ 7680 := by omega
            clear c2
            cases KE
            · have HKF := Lib.hid (show ¬ (k = 1 ∨ k = 4) from of_decide_eq_false (by rw [← HKE.out.1]; exact HKK.out.2))
              go_wp2_with fail
              go_at_call 69
              refine CR.out.mono ?_
              rintro e w2 ⟨hb2, a', c', rfl, hc', ⟨x', rfl⟩, hA', hAb⟩
              rw [HKK.out.1, HKK.out.2, HPL.out]
              have hb2' := hb2.trans ((Below.refl w2.heap.size w2).alloc (Nat.le_refl _) (.cells #[.bool true, .bool false, .slice (some x') pl c'] 84) |>.mono hb2.size)
              have HO3 := Lib.hid (And.intro (HO.out.1.below hb2') (HO.out.2.trans (hb2'.mono HO.out.2.size)))
              have HSRC := Lib.hid (cellsOf_at (hA' _ (HK3.out.below hb2')))
              have HLN := Lib.hid (show (cellsOf pc).length = pl * 1 from by rw [cellsOf_length, HPL.out, Nat.mul_one])
              have HOW := Lib.hid (show (w2.alloc (.cells #[.bool true, .bool false, .slice (some x') pl c'] 84)).ownsRow w.heap.size 5 1 (.slice ra al rc) al (cellsOf acc) from by have h := HO3.out.1; unfold OwnB at h; rw [HAL.out] at h; exact h)
              have HMX := Lib.hid (show al + pl ≤ maxLen ∧ (al + pl) * 1 ≤ 140737488355328 from ⟨by unfold maxLen; omega, by omega⟩)
              have HVL := Lib.hid (fun k hk => Nat.lt_of_lt_of_le (HO.out.1.lt k hk).2 hb2.size)
              clear hb2 hb2' CR HK3 hA' hAb HO
              have HBS := Lib.hid HO3.out.2.size
              have hrw := heap_alloc_new w2 (.cells #[.bool true, .bool false, .slice (some x') pl c'] 84)
              have q1 : (w2.alloc (.cells #[.bool true, .bool false, .slice (some x') pl c'] 84)).cell? ⟨w2.heap.size, 1, none⟩ = some (.bool false) := (cell_of_row _ _ 1 _ _ _ hrw).trans rfl
              have q2 : (w2.alloc (.cells #[.bool true, .bool false, .slice (some x') pl c'] 84)).cell? ⟨w2.heap.size, 2, none⟩ = some (.slice (some x') pl c') := (cell_of_row _ _ 2 _ _ _ hrw).trans rfl
              have HQ1 := Lib.hid q1
              clear hrw q1
              go_upto_region 8 with (fail)
              generalize w2.alloc (.cells #[.bool true, .bool false, .slice (some x') pl c'] 84) = W3 at *
              go_wp2_with (at_builtin; refine wpList_append_own_at _ rfl (.tmp 48) (.tmp 50) 23 rfl w.heap.size 5 i0 (.int .u8 0) 1 1 Try.underlying23 HI.out.1 HI.out.2.1 HI.out.2.2.1 HI.out.2.2.2 rfl (by decide) (.slice ra al rc) al (cellsOf acc) rfl HOW.out x' pl c' (cellsOf pc) rfl HLN.out HSRC.out (cellsOf_one _) HMX.out.1 HMX.out.2 HBS.out ?_; intro v' w4 hown hgr _ _; have HO4 : Hid (OwnB w4 w.heap.size v' (acc ++ pc) ∧ Below w.heap.size w w4) := Lib.hid (own_more HO3.out.2 HOW.out HAL.out HPL.out hown hgr); have q1 := own_keep hgr HVL.out HQ1.out; clear hown hgr)
              have HNX : Hid (R = (Fr.recS seg (Ls.drop (j + 1)) (j + 1) (frst (j + 1) t) (acc ++ pc)).map fun x => (x.1, x.2 + (j + 1 - t))) := Lib.hid (by
                rw [HEH.out, if_neg HKF.out, show frst (j + 1) t = false from decide_eq_false (by omega)]
                cases Fr.recS seg (Ls.drop (j + 1)) (j + 1) false (acc ++ pc) with
                | none => rfl
                | some y => simp only [Option.map_some]; congr 2; omega)
              have hln : (acc ++ pc).length ≤ 7680 := by rw [List.length_append, HAL.out, HPL.out, HSM.out]; exact hsm9
              go_wp2_with fail
              go_roundw
              case rel => exact ⟨j + 1, acc ++ pc, by omega, by omega, hln, by go_num, HNX, HO4⟩
              case measure => simp [intOf]; omega
            · have HKF := Lib.hid (show k = 1 ∨ k = 4 from of_decide_eq_true (by rw [← HKE.out.1]; exact HKK.out.2))
              obtain ⟨dj, hdj⟩ : ∃ dj, j - t = dj := ⟨_, rfl⟩
              have hdj2 : (j : Int) - (t : Int) = (dj : Int) := by omega
              obtain ⟨dk, hdk⟩ : ∃ dk, dj + 1 = dk := ⟨_, rfl⟩
              have hdj3 : (dj : Int) + 1 = (dk : Int) := by omega
              have HDJ := Lib.hid (And.intro hdj hdk)
              have hdj9 : dj ≤ 1000000000 := by omega
              clear hdj hdk
              go_wp2_with fail
              go_at_call 69
              refine CR.out.mono ?_
              rintro e w2 ⟨hb2, a', c', rfl, hc', ⟨x', rfl⟩, hA', hAb⟩
              rw [HKK.out.1, HKK.out.2, HPL.out]
              have hb2' := hb2.trans ((Below.refl w2.heap.size w2).alloc (Nat.le_refl _) (.cells #[.bool true, .bool true, .slice (some x') pl c'] 84) |>.mono hb2.size)
              have HO3 := Lib.hid (And.intro (HO.out.1.below hb2') (HO.out.2.trans (hb2'.mono HO.out.2.size)))
              have HSRC := Lib.hid (cellsOf_at (hA' _ (HK3.out.below hb2')))
              have HLN := Lib.hid (show (cellsOf pc).length = pl * 1 from by rw [cellsOf_length, HPL.out, Nat.mul_one])
              have HOW := Lib.hid (show (w2.alloc (.cells #[.bool true, .bool true, .slice (some x') pl c'] 84)).ownsRow w.heap.size 5 1 (.slice ra al rc) al (cellsOf acc) from by have h := HO3.out.1; unfold OwnB at h; rw [HAL.out] at h; exact h)
              have HMX := Lib.hid (show al + pl ≤ maxLen ∧ (al + pl) * 1 ≤ 140737488355328 from ⟨by unfold maxLen; omega, by omega⟩)
              have HVL := Lib.hid (fun k hk => Nat.lt_of_lt_of_le (HO.out.1.lt k hk).2 hb2.size)
              clear hb2 hb2' CR HK3 hA' hAb HO
              have HBS := Lib.hid HO3.out.2.size
              have hrw := heap_alloc_new w2 (.cells #[.bool true, .bool true, .slice (some x') pl c'] 84)
              have q1 : (w2.alloc (.cells #[.bool true, .bool true, .slice (some x') pl c'] 84)).cell? ⟨w2.heap.size, 1, none⟩ = some (.bool true) := (cell_of_row _ _ 1 _ _ _ hrw).trans rfl
              have q2 : (w2.alloc (.cells #[.bool true, .bool true, .slice (some x') pl c'] 84)).cell? ⟨w2.heap.size, 2, none⟩ = some (.slice (some x') pl c') := (cell_of_row _ _ 2 _ _ _ hrw).trans rfl
              have HQ1 := Lib.hid q1
              clear hrw q1
              go_upto_region 8 with (fail)
              generalize w2.alloc (.cells #[.bool true, .bool true, .slice (some x') pl c'] 84) = W3 at *
              go_wp2_with (at_builtin; refine wpList_append_own_at _ rfl (.tmp 48) (.tmp 50) 23 rfl w.heap.size 5 i0 (.int .u8 0) 1 1 Try.underlying23 HI.out.1 HI.out.2.1 HI.out.2.2.1 HI.out.2.2.2 rfl (by decide) (.slice ra al rc) al (cellsOf acc) rfl HOW.out x' pl c' (cellsOf pc) rfl HLN.out HSRC.out (cellsOf_one _) HMX.out.1 HMX.out.2 HBS.out ?_; intro v' w4 hown hgr _ _; have HO4 : Hid (OwnB w4 w.heap.size v' (acc ++ pc) ∧ Below w.heap.size w w4) := Lib.hid (own_more HO3.out.2 HOW.out HAL.out HPL.out hown hgr); have q1 := own_keep hgr HVL.out HQ1.out; clear hown hgr)
              go_wp2_with fail
              go_returns
              rw [HEH.out, if_pos HKF.out]
              refine ⟨HO4.out.2, v', ?_, HO4.out.1⟩
              rw [HDJ.out.1, show 1 + dj = dk by have := HDJ.out.2; omega]
              rfl
    · obtain rfl : j = n := by omega
      have hd : decide ((j : Int) < (j : Int)) = false := by simp
      have hRn : R = none := by
        rw [HE.out, List.drop_of_length_le (by have := HN.out; omega)]; rfl
      have HRN := Lib.hid hRn
      clear hRn HE
      go_wp2_with fail
      go_returns
      rw [HRN.out]
      exact ⟨HO.out.2, rfl⟩
end Go.Proofs.Ytlegdaoidjpokaa
namespace Go.Proofs.Ytlegdaoidjpokaa.B2
open Go.RowKit
/-- the first rows have their marks, the row i those ahead of k -/
structure Marked (w : World) (N : Nat) (X : Nat → Value) (L : Nat → Nat) (a : Option Addr) (h n i k : Nat) (wr : World) : Prop where
  rows : ∃ C, Lots wr N X C ∧ (∀ j, (C j).length = L j) ∧ ∀ j k', (j < i ∨ (j = i ∧ k' < k)) → k' < L j → (C j)[k']? = some (mark1 j k')
  outer : Outer wr a h n X
  below : Below N w wr
theorem Marked.shape {w wr : World} {N h n i k : Nat} {X : Nat → Value} {L : Nat → Nat} {a : Option Addr} (H : Marked w N X L a h n i k wr) (j : Nat) : ∃ a' cap', X j = .slice a' (L j) cap' := by
  obtain ⟨C, hL, hlen, _⟩ := H.rows
  rcases hL.shape j with ⟨hv, h0⟩ | ⟨g, cap, _, hv, _⟩
  · have : L j = 0 := by rw [← hlen, h0]; rfl
    rw [hv, this]; exact ⟨_, _, rfl⟩
  · rw [hv, hlen]; exact ⟨_, _, rfl⟩
theorem Marked.cell {w wr : World} {N h n i k : Nat} {X : Nat → Value} {L : Nat → Nat} {a : Option Addr} (H : Marked w N X L a h n i k wr) (hk : k < L i) (hh : ∀ j g, (X j).ownBlock = some g → g ≠ h) :
    ∃ g cap u, X i = .slice (some ⟨g, 0, none⟩) (L i) cap ∧ wr.cell? ⟨g, k, none⟩ = some u ∧ wr.frozen? ⟨g, k, none⟩ = false ∧ Marked w N X L a h n i (k + 1) (wr.setCell ⟨g, k, none⟩ (.int .u8 ((mark1 i k : Nat) : Int))) := by
  obtain ⟨C, hL, hlen, hm⟩ := H.rows
  obtain ⟨g, cap, hX, hNg, hgl, hc, hf⟩ := hL.cell i k (by rw [hlen]; exact hk)
  refine ⟨g, cap, _, by rw [hX, hlen], hc, hf, ⟨⟨_, hL.set (c := mark1 i k) hX (by rw [hlen]; exact hk), fun j => ?_, fun j k' hj hk' => ?_⟩, ?_, ?_⟩⟩
  · by_cases e : j = i
    · subst e; simp [hlen]
    · simp [e, hlen]
  · by_cases e : j = i
    · subst e
      simp only [if_true]
      rw [List.getElem?_set]
      by_cases e2 : k = k'
      · subst e2; rw [if_pos rfl, if_pos (by rw [hlen]; exact hk)]
      · rw [if_neg e2]; exact hm j k' (by omega) hk'
    · simp only [e, if_false]
      exact hm j k' (by omega) hk'
  · exact H.outer.only ((Only.refl [g] _).setCell (p := ⟨g, k, none⟩) (.inl (by simp)) _) (by
      have := hh i g (by rw [hX]; rfl)
      simpa using this.symm)
  · exact H.below.setCell (p := ⟨g, k, none⟩) hNg _
theorem Marked.next {w wr : World} {N h n i k : Nat} {X : Nat → Value} {L : Nat → Nat} {a : Option Addr} (H : Marked w N X L a h n i k wr) (hk : L i ≤ k) : Marked w N X L a h n (i + 1) 0 wr := by
  obtain ⟨C, hL, hlen, hm⟩ := H.rows
  exact ⟨⟨C, hL, hlen, fun j k' hj hk' => hm j k' (by
    by_cases e : j = i
    · subst e; exact .inr ⟨rfl, by omega⟩
    · exact .inl (by omega)) hk'⟩, H.outer, H.below⟩
/-- a row with all its marks -/
def Cm (L : Nat → Nat) (j : Nat) : List Nat := (List.range (L j)).map (mark1 j)
def Dm (L : Nat → Nat) (j k : Nat) : List Nat := Cm L j ++ (List.range k).map (mark2 j)
theorem Cm_length (L : Nat → Nat) (j : Nat) : (Cm L j).length = L j := by simp [Cm]
theorem Dm_length (L : Nat → Nat) (j k : Nat) : (Dm L j k).length = L j + k := by simp [Dm, Cm]
theorem Dm_succ (L : Nat → Nat) (j k : Nat) : Dm L j (k + 1) = Dm L j k ++ [mark2 j k] := by simp [Dm, List.range_succ]
theorem Marked.all {w wr : World} {N h n : Nat} {X : Nat → Value} {L : Nat → Nat} {a : Option Addr} (H : Marked w N X L a h n n 0 wr) (hz : ∀ j, n ≤ j → L j = 0) : Lots wr N X (Cm L) := by
  obtain ⟨C, hL, hlen, hm⟩ := H.rows
  have e : C = Cm L := by
    funext j
    apply List.ext_getElem?
    intro k
    by_cases hk : k < L j
    · have hj : j < n := Nat.lt_of_not_le fun h => by have := hz j h; omega
      rw [hm j k (.inl hj) hk]
      simp [Cm, hk]
    · rw [List.getElem?_eq_none (by rw [hlen]; omega), List.getElem?_eq_none (by rw [Cm_length]; omega)]
  rw [← e]; exact hL
/-- one row, k marks longer -/
structure Ext (w0 : World) (N : Nat) (X : Nat → Value) (L : Nat → Nat) (i k : Nat) (xv : Value) (wr : World) : Prop where
  own : wr.ownsRow 0 5 1 xv (L i + k) (cellsOf (Dm L i k))
  pos : (∃ g cap, X i = .slice (some ⟨g, 0, none⟩) (L i) cap ∧ xv = .slice (some ⟨g, 0, none⟩) (L i + k) cap) ∨ (k = 0 ∧ xv = X i) ∨ (∃ g cap, xv = .slice (some ⟨g, 0, none⟩) (L i + k) cap ∧ w0.heap.size ≤ g)
  xi : wr.ownsRow N 5 1 (X i) (L i) (cellsOf (Cm L i))
  only : Only (X i).ownBlock.toList w0 wr
theorem Ext.shape {w0 wr : World} {N i k : Nat} {X : Nat → Value} {L : Nat → Nat} {xv : Value} (H : Ext w0 N X L i k xv wr) : ∃ a' cap', xv = .slice a' (L i + k) cap' := by
  rcases H.own.2 with ⟨hv, h0⟩ | ⟨g, cap, _, hv, _⟩
  · rw [hv, h0]; exact ⟨_, _, rfl⟩
  · exact ⟨_, _, hv⟩
theorem owns_in_place {w' : World} {N g n m cap : Nat} {xs news : List Value} {v : Value} (h : w'.ownsRow 0 5 1 v (n + m) (xs ++ news)) (hv : v = .slice (some ⟨g, 0, none⟩) (n + m) cap) (hl : xs.length = n) (hN : N ≤ g) (hc : n ≤ cap) : w'.ownsRow N 5 1 (.slice (some ⟨g, 0, none⟩) n cap) n xs := by
  rcases h.2 with ⟨h1, _⟩ | ⟨g2, cap2, cur, h1, _, hh, h2, h3, h4, h5⟩
  · rw [hv] at h1; cases h1
  · rw [hv] at h1
    cases h1
    refine ⟨by rw [Nat.mul_one]; exact hl, .inr ⟨g, cap, cur, rfl, hN, hh, hc, h3, h4, ?_⟩⟩
    have := congrArg (List.take n) h5
    rw [List.take_take, Nat.min_eq_left (by omega), List.take_left' hl] at this
    rw [Nat.mul_one]; exact this
theorem Ext.step {w0 wr w' : World} {N i k : Nat} {X : Nat → Value} {L : Nat → Nat} {xv v' : Value} {o : Obj} (H : Ext w0 N X L i k xv wr) (hown : w'.ownsRow 0 5 1 v' (L i + k + 1) (cellsOf (Dm L i k) ++ cellsOf [mark2 i k])) (hg : Goes (wr.alloc o) w' xv v' (L i + k) 1) (hXl : ∀ g, (X i).ownBlock = some g → g < w0.heap.size ∧ N ≤ g) :
    Ext w0 N X L i (k + 1) v' w' := by
  have hs := H.only.size
  have hown2 : w'.ownsRow 0 5 1 v' (L i + (k + 1)) (cellsOf (Dm L i (k + 1))) := by rw [Dm_succ, cellsOf_append]; exact hown
  have hxi := owns_only H.xi ((Only.refl [] wr).alloc o) (fun _ _ => by simp)
  rcases hg with ⟨g, cap, hv, hv', hgr⟩ | ⟨g, cap, hv', hgl, hgr⟩
  · have hpos : (X i = .slice (some ⟨g, 0, none⟩) (L i) cap) ∨ w0.heap.size ≤ g := by
      rcases H.pos with ⟨g2, c2, e1, e2⟩ | ⟨e1, e2⟩ | ⟨g2, c2, e2, e3⟩
      · rw [hv] at e2; cases e2; exact .inl e1
      · subst e1; rw [hv] at e2; exact .inl e2.symm
      · rw [hv] at e2; cases e2; exact .inr e3
    rcases hpos with hp | hp
    · refine ⟨hown2, .inl ⟨g, cap, hp, hv'⟩, ?_, ?_⟩
      · rw [hp]
        have hc : L i ≤ cap := by
          rcases hxi.2 with ⟨h1, _⟩ | ⟨g2, c2, _, h1, _, _, h2, _⟩
          · rw [hp] at h1; cases h1
          · rw [hp] at h1; cases h1; exact h2
        have hown3 : w'.ownsRow 0 5 1 v' (L i + (k + 1)) (cellsOf (Cm L i) ++ cellsOf ((List.range (k + 1)).map (mark2 i))) := by rw [← cellsOf_append]; exact hown2
        exact owns_in_place hown3 hv' (by rw [cellsOf_length, Cm_length]) (hXl g (by rw [hp]; rfl)).2 hc
      · exact (H.only.alloc o).grown hgr (fun k hk => by cases hk; exact .inl (by rw [hp]; simp [Value.ownBlock]))
    · refine ⟨hown2, .inr (.inr ⟨g, cap, hv', hp⟩), ?_, ?_⟩
      · refine owns_only hxi ((Only.refl [g] _).grown hgr (fun k hk => by cases hk; exact .inl (by simp))) (fun g2 hg2 => ?_)
        have := (hXl g2 hg2).1
        simp; omega
      · exact (H.only.alloc o).grown hgr (fun k hk => by cases hk; exact .inr hp)
  · refine ⟨hown2, .inr (.inr ⟨g, cap, hv', by simp at hgl; omega⟩), ?_, ?_⟩
    · exact owns_only hxi ((Only.refl [] _).grown hgr (fun k hk => by cases hk)) (fun _ _ => by simp)
    · exact (H.only.alloc o).grown hgr (fun k hk => by cases hk)
/-- the longer rows, i of them -/
structure Long (w : World) (N : Nat) (X : Nat → Value) (L : Nat → Nat) (a : Option Addr) (h n M i : Nat) (vl : Value) (Y : Nat → Value) (wr : World) : Prop where
  rows : Lots wr N X (Cm L)
  outer : Outer wr a h n X
  below : Below N w wr
  own : wr.ownsRow 0 23 1 vl i ((List.range i).map Y)
  each : ∀ j, j < i → ∃ g cap, Y j = .slice (some ⟨g, 0, none⟩) (L j + 16) cap ∧ wr.ownsRow 0 5 1 (Y j) (L j + 16) (cellsOf (Dm L j 16)) ∧ ((X j).ownBlock = some g ∨ M ≤ g) ∧ vl.ownBlock ≠ some g ∧ g < wr.heap.size
  pos : ∀ g, vl.ownBlock = some g → M ≤ g ∧ g < wr.heap.size
  size : M ≤ wr.heap.size
/-- what holds of the rows' places all the while -/
structure Places (N M h : Nat) (X : Nat → Value) : Prop where
  lt : ∀ j g, (X j).ownBlock = some g → g < M ∧ N ≤ g
  ne : ∀ j g, (X j).ownBlock = some g → g ≠ h
  h : h < M
  apart : ∀ i j, i ≠ j → (X i).ownBlock = none ∨ (X i).ownBlock ≠ (X j).ownBlock
  nm : N ≤ M
theorem Long.shape {w wr : World} {N h n M i : Nat} {X : Nat → Value} {L : Nat → Nat} {a : Option Addr} {vl : Value} {Y : Nat → Value} (H : Long w N X L a h n M i vl Y wr) : ∃ a' cap', vl = .slice a' i cap' := by
  rcases H.own.2 with ⟨hv, h0⟩ | ⟨g, cap, _, hv, _⟩
  · rw [hv, h0]; exact ⟨_, _, rfl⟩
  · exact ⟨_, _, hv⟩
theorem Long.step {w w0 wr w2 : World} {N h n M i : Nat} {X : Nat → Value} {L : Nat → Nat} {a : Option Addr} {vl v' xv : Value} {Y : Nat → Value} {o : Obj} (P : Places N M h X) (H : Long w N X L a h n M i vl Y w0) (E : Ext w0 N X L i 16 xv wr)
    (hown : w2.ownsRow 0 23 1 v' (i + 1) ((List.range i).map Y ++ [xv])) (hg : Goes (wr.alloc o) w2 vl v' i 1) : Long w N X L a h n M (i + 1) v' (fun j => if j = i then xv else Y j) w2 := by
  have s0 := H.size
  have s1 := E.only.size
  -- what the last append may have turned
  obtain ⟨T, hT, hTv⟩ : ∃ T : List Nat, Only T (wr.alloc o) w2 ∧ ∀ x ∈ T, vl.ownBlock = some x := by
    rcases hg with ⟨g, cap, hv, hv', hgr⟩ | ⟨g, cap, hv', hgl, hgr⟩
    · exact ⟨[g], (Only.refl [g] _).grown hgr (fun k hk => by cases hk; exact .inl (by simp)), fun x hx => by simp at hx; subst hx; rw [hv]; rfl⟩
    · exact ⟨[], (Only.refl [] _).grown hgr (fun k hk => by cases hk), fun x hx => by simp at hx⟩
  have hT2 : Only T wr w2 := ((Only.refl T wr).alloc o).trans hT (fun x hx => .inl hx)
  have s2 := hT2.size
  have hS : ∀ x ∈ (X i).ownBlock.toList, (X i).ownBlock = some x := fun x hx => by simpa using hx
  have hX : ∀ j g, j ≠ i → (X j).ownBlock = some g → g ∉ (X i).ownBlock.toList := fun j g hj hg hm => by
    have := hS g hm
    rcases P.apart j i hj with h1 | h1
    · rw [h1] at hg; cases hg
    · exact h1 (by rw [hg, this])
  have hXT : ∀ j g, (X j).ownBlock = some g → g ∉ T := fun j g hg hm => by
    have h1 := (H.pos g (hTv g hm)).1
    have h2 := (P.lt j g hg).1
    omega
  -- the new value's place
  have hv'pos : (v'.ownBlock = vl.ownBlock) ∨ (∃ g, v'.ownBlock = some g ∧ wr.heap.size ≤ g ∧ g < w2.heap.size) := by
    rcases hg with ⟨g, cap, hv, hv', hgr⟩ | ⟨g, cap, hv', hgl, hgr⟩
    · exact .inl (by rw [hv, hv']; rfl)
    · refine .inr ⟨g, by rw [hv']; rfl, by simp at hgl; omega, ?_⟩
      exact (hown.lt g (by rw [hv']; rfl)).2
  have hxv : ∃ g cap, xv = .slice (some ⟨g, 0, none⟩) (L i + 16) cap ∧ ((X i).ownBlock = some g ∨ w0.heap.size ≤ g) := by
    rcases E.pos with ⟨g2, c2, e1, e2⟩ | ⟨e1, e2⟩ | ⟨g2, c2, e2, e3⟩
    · exact ⟨g2, c2, e2, .inl (by rw [e1]; rfl)⟩
    · omega
    · exact ⟨g2, c2, e2, .inr e3⟩
  obtain ⟨gx, cx, hxe, hxp⟩ := hxv
  have hgxl : gx < wr.heap.size := (E.own.lt gx (by rw [hxe]; rfl)).2
  have hgxv : vl.ownBlock ≠ some gx := fun e => by
    have h1 := H.pos gx e
    rcases hxp with h2 | h2
    · have := (P.lt i gx h2).1; omega
    · omega
  have hgxT : gx ∉ T := fun hm => hgxv (hTv gx hm)
  refine ⟨⟨fun j => ?_, P.apart⟩, ?_, ?_, ?_, fun j hj => ?_, fun g hg2 => ?_, by omega⟩
  · by_cases hj : j = i
    · subst hj; rw [Cm_length]; exact owns_only E.xi hT2 (hXT j)
    · exact owns_only (owns_only (H.rows.own j) E.only (fun g hg => hX j g hj hg)) hT2 (hXT j)
  · refine (H.outer.only E.only (fun hm => ?_)).only hT2 (fun hm => ?_)
    · exact P.ne i h (hS h hm) rfl
    · have := (H.pos h (hTv h hm)).1; have := P.h; omega
  · refine (H.below.trans (E.only.below (Nat.le_trans P.nm s0) (fun x hx => (P.lt i x (hS x hx)).2))).trans (hT2.below (by have := P.nm; omega) (fun x hx => ?_))
    have := (H.pos x (hTv x hx)).1; have := P.nm; omega
  · have e : (List.range (i + 1)).map (fun j => if j = i then xv else Y j) = (List.range i).map Y ++ [xv] := by
      rw [List.range_succ, List.map_append]
      congr 1
      · apply List.map_congr_left
        intro j hj
        have : j ≠ i := by have := List.mem_range.1 hj; omega
        simp [this]
      · simp
    rw [e]; exact hown
  · by_cases hji : j = i
    · subst hji
      simp only [if_true]
      refine ⟨gx, cx, hxe, owns_only E.own hT2 (fun g hg => by rw [hxe] at hg; cases hg; exact hgxT), ?_, ?_, by omega⟩
      · rcases hxp with h2 | h2
        · exact .inl h2
        · exact .inr (by omega)
      · rcases hv'pos with h1 | ⟨g, h1, h2, _⟩
        · rw [h1]; exact hgxv
        · rw [h1]; intro e; injection e with e; omega
    · obtain ⟨g, cap, e1, e2, e3, e4, e5⟩ := H.each j (by omega)
      simp only [hji, if_false]
      have hgS : g ∉ (X i).ownBlock.toList := fun hm => by
        rcases e3 with h1 | h1
        · exact hX j g hji h1 hm
        · have := (P.lt i g (hS g hm)).1; omega
      have hgT : g ∉ T := fun hm => e4 (hTv g hm)
      refine ⟨g, cap, e1, owns_only (owns_only e2 E.only (fun g' hg' => by rw [e1] at hg'; cases hg'; exact hgS)) hT2 (fun g' hg' => by rw [e1] at hg'; cases hg'; exact hgT), e3, ?_, by omega⟩
      rcases hv'pos with h1 | ⟨g', h1, h2, _⟩
      · rw [h1]; exact e4
      · rw [h1]; intro e; injection e with e; omega
  · rcases hv'pos with h1 | ⟨g', h1, h2, h3⟩
    · rw [h1] at hg2
      have := H.pos g hg2; omega
    · rw [h1] at hg2; injection hg2 with hg2; omega
theorem Dm_low (L : Nat → Nat) (t k : Nat) (hk : k < L t) : (Dm L t 16)[k]? = some (mark1 t k) := by
  unfold Dm
  rw [List.getElem?_append_left (by rw [Cm_length]; exact hk)]
  simp [Cm, hk]
theorem Dm_high (L : Nat → Nat) (t k : Nat) (hk : k < 16) : (Dm L t 16)[L t + k]? = some (mark2 t k) := by
  unfold Dm
  rw [List.getElem?_append_right (by rw [Cm_length]; omega), Cm_length, show L t + k - L t = k by omega]
  simp [hk]
/-- what the last look meets -/
theorem Long.look {w wr : World} {N h n M i : Nat} {X : Nat → Value} {L : Nat → Nat} {a : Option Addr} {vl : Value} {Y : Nat → Value} (H : Long w N X L a h n M i vl Y wr) (t : Nat) (ht : t < i) :
    ∃ gl cl gy cy, vl = .slice (some ⟨gl, 0, none⟩) i cl ∧ wr.cell? ⟨gl, t, none⟩ = some (.slice (some ⟨gy, 0, none⟩) (L t + 16) cy) ∧ (∀ k, k < L t → wr.cell? ⟨gy, k, none⟩ = some (.int .u8 ((mark1 t k : Nat) : Int))) ∧ (∀ k, k < 16 → wr.cell? ⟨gy, L t + k, none⟩ = some (.int .u8 ((mark2 t k : Nat) : Int))) ∧
      (∀ k, k < L t → ∃ g cap, X t = .slice (some ⟨g, 0, none⟩) (L t) cap ∧ wr.cell? ⟨g, k, none⟩ = some (.int .u8 ((mark1 t k : Nat) : Int))) := by
  obtain ⟨gy, cy, e1, e2, _⟩ := H.each t ht
  have hvl : ∃ gl cl, vl = .slice (some ⟨gl, 0, none⟩) i cl := by
    rcases H.own.2 with ⟨_, h0⟩ | ⟨g, cap, _, hv, _⟩
    · omega
    · exact ⟨g, cap, hv⟩
  obtain ⟨gl, cl, hvl⟩ := hvl
  refine ⟨gl, cl, gy, cy, hvl, ?_, fun k hk => ?_, fun k hk => ?_, fun k hk => ?_⟩
  · have := H.own.cells (g := gl) (by rw [hvl]; rfl) t (Y t) (by simp [ht])
    rw [add_here] at this
    rw [this, e1]
  · have := e2.cells (g := gy) (by rw [e1]; rfl) k (.int .u8 ((mark1 t k : Nat) : Int)) (by unfold cellsOf; rw [List.getElem?_map, Dm_low L t k hk]; rfl)
    rw [add_here] at this
    exact this
  · have := e2.cells (g := gy) (by rw [e1]; rfl) (L t + k) (.int .u8 ((mark2 t k : Nat) : Int)) (by unfold cellsOf; rw [List.getElem?_map, Dm_high L t k hk]; rfl)
    rw [add_here] at this
    exact this
  · obtain ⟨g, cap, hX, _, _, hc, _⟩ := H.rows.cell t k (by rw [Cm_length]; exact hk)
    rw [Cm_length] at hX
    refine ⟨g, cap, hX, ?_⟩
    rw [hc]
    simp [Cm]
end Go.Proofs.Ytlegdaoidjpokaa.B2
namespace Go.Proofs.Ytlegdaoidjpokaa.B2
open Go.RowKit
theorem info27 : (Try.prog.info? 23).map (fun i => (i.zero, i.size, i.bytes)) = some (some (.slice none 0 0), 1, 24) := by kernel_rfl
theorem one_any (W : World) (u : Value) (t : TypeId) : ∀ (j : Nat) (x : Value), [u][j]? = some x → (W.alloc (.cells #[u] t)).cell? ((⟨W.heap.size, 0, none⟩ : Addr).add j) = some x := by
  intro j x hx
  rw [add_here, cell_of_row _ _ _ _ _ _ (heap_alloc_new W _)]
  rw [show (#[u] : Array Value) = [u].toArray from rfl, List.getElem?_toArray]
  exact hx
set_option maxRecDepth 100000 in
set_option maxHeartbeats 2000000 in
theorem ownbytes_any (a : Option Addr) (h n cap N : Nat) (X : Nat → Value) (L : Nat → Nat) (w : World) (P : Places N w.heap.size h X) (hO : Outer w a h n X) (hR : ∃ C, Lots w N X C ∧ ∀ j, (C j).length = L j) (hn : n ≤ 1000) (hL : ∀ j, L j ≤ 1000000) (hz : ∀ j, n ≤ j → L j = 0) :
    Calls Try.prog 30 #[.slice a n cap] w fun e w' => e = .returned (.bool true) ∧ Below N w w' := by
  obtain ⟨i0, hi0, hz0, hz1, hz2⟩ := info_parts info5
  obtain ⟨i1, hi1, hy0, hy1, hy2⟩ := info_parts info27
  obtain ⟨C, hC, hlen⟩ := hR
  have M0 := Lib.hid (show Marked w N X L a h n 0 0 w from ⟨⟨C, hC, hlen, fun j k' hj => by omega⟩, hO, Below.refl _ _⟩)
  have HH := Lib.hid P.ne
  have HP := Lib.hid P
  have HL := Lib.hid hL
  have HZ := Lib.hid hz
  clear hO hC hlen hL P hz
  go_enter Try.func30, Try.ntmps30
  go_wp2
  go_loopw [3] (fun ii wr => ∃ i : Nat, i ≤ n ∧ ii = .int .i64 (i : Nat) ∧ Hid (Marked w N X L a h n i 0 wr)) (fun ii _ => n - (intOf ii).toNat)
  case atStart => exact ⟨0, Nat.zero_le _, rfl, M0⟩
  case round =>
    obtain ⟨i, hi, rfl, HM⟩ := hrel
    by_cases hlt : i < n
    · have hd : decide (i < n) = true := by simpa using hlt
      have hix : (i : Int) < (n : Int) := by omega
      go_wp2
      go_loopw [4] (fun kk wr2 => ∃ k : Nat, k ≤ L i ∧ kk = .int .i64 (k : Nat) ∧ Hid (Marked w N X L a h n i k wr2)) (fun kk _ => L i - (intOf kk).toNat)
      case atStart => exact ⟨0, Nat.zero_le _, rfl, HM⟩
      case round =>
        obtain ⟨k, hk, rfl, HM2⟩ := hrel
        have hLi := HL.out i
        obtain ⟨rfl, hhl, hcs⟩ := HM2.out.outer (by omega)
        have hci := hcs i hlt
        by_cases hlt2 : k < L i
        · obtain ⟨g, cp, u, hX, hc, hf, hst⟩ := HM2.out.cell hlt2 HH.out
          rw [hX] at hci
          have HST := Lib.hid hst
          obtain ⟨Li, hLe⟩ : ∃ Li, L i = Li := ⟨_, rfl⟩
          rw [hLe] at hci hlt2 hLi hk ⊢
          have hd2 : decide (k < Li) = true := by simpa using hlt2
          have hkx : (k : Int) < (Li : Int) := by omega
          have HMS := Lib.hid (mark1_spell i k)
          clear hst hX hLe hcs
          go_wp2
          rw [HMS.out]
          go_roundw
          case rel => exact ⟨k + 1, by omega, by go_num, HST⟩
          case measure => simp [intOf]; omega
        · obtain ⟨a', cp, hX⟩ := HM2.out.shape i
          rw [hX] at hci
          have HN := Lib.hid (HM2.out.next (by omega))
          obtain ⟨Li, hLe⟩ : ∃ Li, L i = Li := ⟨_, rfl⟩
          rw [hLe] at hci hlt2 hLi hk ⊢
          have hd2 : decide (k < Li) = false := by simpa using hlt2
          clear hX hLe hcs
          go_wp2
          go_roundw
          case rel => exact ⟨i + 1, by omega, by go_num, HN⟩
          case measure => simp [intOf]; omega
    · obtain rfl : i = n := by omega
      have hd : decide (i < i) = false := by simp
      have G0 := Lib.hid (show Long w N X L a h i w.heap.size 0 (.slice none 0 0) (fun _ => .slice none 0 0) wr from ⟨HM.out.all HZ.out, HM.out.outer, HM.out.below, World.ownsRow_nil _ _ _ _, fun j hj => by omega, fun g hg => (by cases hg), HM.out.below.size⟩)
      obtain ⟨M, hM⟩ : ∃ M, w.heap.size = M := ⟨_, rfl⟩
      rw [hM] at G0 HP
      clear hM hlt
      go_wp2
      go_loopw [5, 6] (fun vl ii wr => ∃ (j : Nat) (Y : Nat → Value), j ≤ i ∧ ii = .int .i64 (j : Nat) ∧ Hid (Long w N X L a h i M j vl Y wr)) (fun _ ii _ => i - (intOf ii).toNat)
      case atStart => exact ⟨0, _, Nat.zero_le _, rfl, G0⟩
      case round =>
        obtain ⟨j, Y, hj, rfl, HG⟩ := hrel
        by_cases hlt : j < i
        · have hd2 : decide (j < i) = true := by simpa using hlt
          have hjx : (j : Int) < (i : Int) := by omega
          obtain ⟨rfl, hhl, hcs⟩ := HG.out.outer (by omega)
          have hcj := hcs j hlt
          have hXs : ∃ a' cap', X j = .slice a' (L j) cap' := by
            rcases (HG.out.rows.own j).2 with ⟨hv, h0⟩ | ⟨g, cp, _, hv, _⟩
            · rw [Cm_length] at h0; rw [hv, h0]; exact ⟨_, _, rfl⟩
            · rw [Cm_length] at hv; exact ⟨_, _, hv⟩
          obtain ⟨aj, cj, hXj⟩ := hXs
          have hLj := HL.out j
          have E0 := Lib.hid (show Ext wr N X L j 0 (X j) wr from ⟨by
            have h1 := HG.out.rows.own j
            have h2 : wr.ownsRow 0 5 1 (X j) (L j) (cellsOf (Cm L j)) := by
              rw [Cm_length] at h1
              refine ⟨h1.1, ?_⟩
              rcases h1.2 with h3 | ⟨g, c2, cur, e1, _, r⟩
              · exact .inl h3
              · exact .inr ⟨g, c2, cur, e1, Nat.zero_le _, r⟩
            simpa [Dm] using h2, .inr (.inl ⟨rfl, rfl⟩), by have h1 := HG.out.rows.own j; rw [Cm_length] at h1; exact h1, Only.refl _ _⟩)
          rw [hXj] at hcj E0
          obtain ⟨av, cv, rfl⟩ := HG.out.shape
          clear hcs hXj
          obtain ⟨wo, hwo⟩ : ∃ wo, wo = wr := ⟨_, rfl⟩
          subst hwo
          go_wp2
          go_loopw [7, 8] (fun xv kk wr2 => ∃ k : Nat, k ≤ 16 ∧ kk = .int .i64 (k : Nat) ∧ Hid (Ext wo N X L j k xv wr2)) (fun _ kk _ => 16 - (intOf kk).toNat)
          case atStart => exact ⟨0, Nat.zero_le _, rfl, E0⟩
          case round =>
            obtain ⟨k, hk, rfl, HE⟩ := hrel
            by_cases hlt2 : k < 16
            · have hd3 : decide ((k : Int) < 16) = true := by simp; omega
              obtain ⟨ax, cx, rfl⟩ := HE.out.shape
              have HSP := Lib.hid (mark2_spell j k)
              have HXL := Lib.hid (show ∀ g, (X j).ownBlock = some g → g < wo.heap.size ∧ N ≤ g from fun g hg => ⟨by have h1 := (HP.out.lt j g hg).1; have h2 := HG.out.size; omega, (HP.out.lt j g hg).2⟩)
              go_wp2_with (at_builtin; refine wpList_append_goes _ rfl (.tmp 54) (.tmp 62) 23 rfl 5 i0 (.int .u8 0) 1 1 Try.underlying23 hi0 hz0 hz1 hz2 rfl (by decide) (.slice ax (L j + k) cx) (L j + k) (cellsOf (Dm L j k)) rfl (HE.out.own.alloc _) ⟨wr.heap.size, 0, none⟩ 1 1 [Value.int .u8 (((-1 - (j : Int)) * 97 + (k : Int) * 13) % 256)] rfl rfl (one_any wr _ 5) (by simp [Value.oneCell']) (by unfold maxLen; omega) (by omega) (by decide) ?_)
              intro v2 w2 hown2 hgo2
              rw [HSP.out] at hown2
              have HN := Lib.hid (HE.out.step hown2 hgo2 HXL.out)
              obtain ⟨a2, c2, rfl⟩ := HN.out.shape
              clear hown2 hgo2
              go_wp2
              go_roundw
              case rel => exact ⟨k + 1, by omega, by go_num, HN⟩
              case measure => simp [intOf]; omega
            · obtain rfl : k = 16 := by omega
              obtain ⟨ax, cx, rfl⟩ := HE.out.shape
              have HOW := Lib.hid (show wr.ownsRow 0 23 1 (.slice av j cv) j ((List.range j).map Y) from owns_only HG.out.own HE.out.only (fun g hg hm => by
                have h1 := (HG.out.pos g hg).1
                have h2 := (HP.out.lt j g (by simpa using hm)).1
                omega))
              go_wp2_with (at_builtin; refine wpList_append_goes _ rfl (.tmp 64) (.tmp 66) 25 rfl 23 i1 (.slice none 0 0) 1 24 Try.underlying25 hi1 hy0 hy1 hy2 rfl (by decide) (.slice av j cv) j ((List.range j).map Y) rfl (HOW.out.alloc _) ⟨wr.heap.size, 0, none⟩ 1 1 [Value.slice ax (L j + 16) cx] rfl rfl (one_any wr _ 23) (by simp [Value.oneCell']) (by unfold maxLen; omega) (by omega) (by decide) ?_)
              intro v2 w2 hown2 hgo2
              have HN := Lib.hid (HG.out.step HP.out HE.out hown2 hgo2)
              obtain ⟨a2, c2, rfl⟩ := HN.out.shape
              clear hown2 hgo2
              go_wp2
              go_roundw
              case rel => exact ⟨j + 1, _, by omega, by go_num, HN⟩
              case measure => simp [intOf]; omega
        · obtain rfl : j = i := by omega
          have hd2 : decide (j < j) = false := by simp
          obtain ⟨av, cv, rfl⟩ := HG.out.shape
          clear G0 hlt
          go_wp2
          go_loop [9] (fun ii => ∃ t : Nat, t ≤ j ∧ ii = .int .i64 (t : Nat)) (fun ii => j - (intOf ii).toNat)
          case atStart => exact ⟨0, Nat.zero_le _, rfl⟩
          case round =>
            obtain ⟨t, ht, rfl⟩ := hrel
            by_cases hlt3 : t < j
            · have hd4 : decide (t < j) = true := by simpa using hlt3
              have htx : (t : Int) < (j : Int) := by omega
              obtain ⟨rfl, hhl, hcs⟩ := HG.out.outer (by omega)
              have hct := hcs t hlt3
              obtain ⟨gl, cl, gy, cy, hvl, hlc, hy1, hy2, hx1⟩ := HG.out.look t hlt3
              have hXs : ∃ a' cap', X t = .slice a' (L t) cap' := by
                rcases (HG.out.rows.own t).2 with ⟨hv, h0⟩ | ⟨g, cp, _, hv, _⟩
                · rw [Cm_length] at h0; rw [hv, h0]; exact ⟨_, _, rfl⟩
                · rw [Cm_length] at hv; exact ⟨_, _, hv⟩
              obtain ⟨aj, cj, hXj⟩ := hXs
              have hLt := HL.out t
              rw [hXj] at hct hx1
              cases hvl
              have HY1 := Lib.hid hy1
              have HY2 := Lib.hid hy2
              have HX1 := Lib.hid hx1
              obtain ⟨Lt, hLe⟩ : ∃ Lt, L t = Lt := ⟨_, rfl⟩
              rw [hLe] at hct hlc HY1 HY2 HX1 hLt
              clear hXj hcs hy1 hy2 hx1 hLe
              go_wp2
              go_loop [11] (fun kk => ∃ k : Nat, k ≤ Lt ∧ kk = .int .i64 (k : Nat)) (fun kk => Lt - (intOf kk).toNat)
              case atStart => exact ⟨0, Nat.zero_le _, rfl⟩
              case round =>
                obtain ⟨k, hk, rfl⟩ := hrel
                by_cases hlt4 : k < Lt
                · have hd5 : decide (k < Lt) = true := by simpa using hlt4
                  have hkx : (k : Int) < (Lt : Int) := by omega
                  have hkx2 : (k : Int) < (Lt : Int) + 16 := by omega
                  obtain ⟨g, cp, hXe, hc1⟩ := HX1.out k hlt4
                  cases hXe
                  have hc2 := HY1.out k hlt4
                  have hms := mark1_spell t k
                  go_wp2
                  go_round
                  case rel => exact ⟨k + 1, by omega, by go_num⟩
                  case measure => simp [intOf]; omega
                · obtain rfl : k = Lt := by omega
                  have hd5 : decide (k < k) = false := by simp
                  go_wp2
                  go_loop [12] (fun kk => ∃ q : Nat, q ≤ 16 ∧ kk = .int .i64 (q : Nat)) (fun kk => 16 - (intOf kk).toNat)
                  case atStart => exact ⟨0, by omega, rfl⟩
                  case round =>
                    obtain ⟨q, hq, rfl⟩ := hrel
                    by_cases hlt5 : q < 16
                    · have hd6 : decide ((q : Int) < 16) = true := by simp; omega
                      have hqx : (k : Int) + (q : Int) < (k : Int) + 16 := by omega
                      have hqx0 : (0 : Int) ≤ (k : Int) + (q : Int) := by omega
                      have hqx2 : (q : Int) < 16 := by omega
                      have hc3 := HY2.out q hlt5
                      have hms2 := mark2_spell t q
                      go_wp2
                      go_round
                      case rel => exact ⟨q + 1, by omega, by go_num⟩
                      case measure => simp [intOf]; omega
                    · obtain rfl : q = 16 := by omega
                      go_wp2
                      go_round
                      case rel => exact ⟨t + 1, by omega, by go_num⟩
                      case measure => simp [intOf]; omega
            · obtain rfl : t = j := by omega
              have hd4 : decide (t < t) = false := by simp
              go_wp2
              go_ret
              exact ⟨rfl, HG.out.below⟩
end Go.Proofs.Ytlegdaoidjpokaa.B2
namespace Go.Proofs.Ytlegdaoidjpokaa.B2
open Go.RowKit
theorem info191 : (Try.prog.info? 181).map (fun i => (i.zero, i.size, i.bytes)) = some (some (.slice none 0 0), 1, 24) := by kernel_rfl
set_option maxRecDepth 100000 in
set_option maxHeartbeats 1000000 in
theorem own68 (w : World) : Calls Try.prog 59 #[.slice none 0 0] w fun e w' => e = .returned (.bool true) ∧ Below w.heap.size w w' := by
  obtain ⟨i0, hi, hz0, hz1, hz2⟩ := info_parts info191
  go_enter Try.func59, Try.ntmps59
  go_wp2_with (at_make; refine wpList_make_own _ rfl _ _ 61 rfl w.heap.size 181 i0 (.slice none 0 0) 1 Try.underlying61 hi hz0 hz1 .i64 .i64 _ 0 rfl rfl (by rfl) (by omega) (by unfold maxLen; omega) (Nat.le_refl _) ?_; intro w1 hown1 hgr1)
  have HB := Lib.hid ((Below.refl _ w).grown hgr1 (Nat.le_refl _) (fun k hk => by cases hk))
  clear hown1 hgr1
  go_loop [4] (fun i => i = .int .i64 0) (fun _ => 0)
  case atStart => rfl
  case round =>
    obtain rfl := hrel
    go_wp2
    go_ret
    exact ⟨rfl, HB.out⟩
/-- the book's cells: the rows of bytes, and nothing else -/
def bk (v : Value) : Array Value := (v :: List.replicate 31 (.slice none 0 0)).toArray
theorem bk_first (v : Value) : (bk v)[0]? = some v := rfl
theorem bk_rest (v : Value) (k : Nat) (h : k < 31) : (bk v)[k + 1]? = some (.slice none 0 0) := by
  unfold bk
  rw [List.getElem?_toArray, List.getElem?_cons_succ, List.getElem?_replicate, if_pos h]
/-- the book at pb has these rows; h is where they lie -/
def BookAt (w : World) (pb h n : Nat) (X : Nat → Value) : Prop :=
  ∃ v, w.heap[pb]? = some (.cells (bk v) 65 (0, 0)) ∧ w.ownsRow 0 23 1 v n ((List.range n).map X) ∧ h = v.ownBlock.getD pb ∧ v.ownBlock ≠ some pb
theorem BookAt.lt {w : World} {pb h n : Nat} {X : Nat → Value} (H : BookAt w pb h n X) : pb < w.heap.size ∧ h < w.heap.size := by
  obtain ⟨v, h1, h2, rfl, _⟩ := H
  have hp := (Array.getElem?_eq_some_iff.1 h1).1
  refine ⟨hp, ?_⟩
  cases e : v.ownBlock with
  | none => exact hp
  | some g => exact (h2.lt g e).2
theorem BookAt.only {w w' : World} {pb h n : Nat} {X : Nat → Value} (H : BookAt w pb h n X) {S : List Nat} (ho : Only S w w') (hp : pb ∉ S) (hh : h ∉ S) : BookAt w' pb h n X := by
  obtain ⟨v, h1, h2, rfl, h4⟩ := H
  refine ⟨v, (ho.block pb (Array.getElem?_eq_some_iff.1 h1).1 hp).trans h1, owns_only h2 ho (fun g hg => ?_), rfl, h4⟩
  rw [hg] at hh
  exact hh
theorem BookAt.below {w w' : World} {pb h n : Nat} {X : Nat → Value} (H : BookAt w pb h n X) (hb : Below w.heap.size w w') : BookAt w' pb h n X := H.only (Only.of_below hb []) (by simp) (by simp)
/-- behind a row more -/
def BookPost (w : World) (pb h n : Nat) (X : Nat → Value) (w' : World) : Prop := ∃ h', BookAt w' pb h' n X ∧ (h' = h ∨ w.heap.size ≤ h') ∧ Only [pb, h] w w'
theorem BookAt.congr {w : World} {pb h n : Nat} {X Y : Nat → Value} (H : BookAt w pb h n X) (he : ∀ j, j < n → Y j = X j) : BookAt w pb h n Y := by
  obtain ⟨v, h1, h2, h3, h4⟩ := H
  refine ⟨v, h1, ?_, h3, h4⟩
  have : (List.range n).map Y = (List.range n).map X := List.map_congr_left fun j hj => he j (List.mem_range.1 hj)
  rw [this]; exact h2
set_option maxRecDepth 100000 in
set_option maxHeartbeats 1000000 in
theorem bookbytes_any (pb h n m cap : Nat) (a : Option Addr) (X : Nat → Value) (hX : X n = .slice a m cap) (w : World) (H : BookAt w pb h n X) (hn : n ≤ 1000) :
    Calls Try.prog 29 #[.pointer (some ⟨pb, 0, none⟩), .slice a m cap] w fun e w' => e = .returned (.tuple #[]) ∧ BookPost w pb h (n + 1) X w' := by
  obtain ⟨i0, hi, hz0, hz1, hz2⟩ := info_parts info27
  obtain ⟨v, h1, h2, rfl, h4⟩ := H
  have hvs : ∃ av cv, v = .slice av n cv := by
    rcases h2.2 with ⟨hv, h0⟩ | ⟨g, c2, _, hv, _⟩
    · exact ⟨none, 0, by rw [hv, h0]⟩
    · exact ⟨_, _, hv⟩
  obtain ⟨av, cv, rfl⟩ := hvs
  have c0 : w.cell? ⟨pb, 0, none⟩ = some (.slice av n cv) := by rw [cell_of_row _ _ _ _ _ _ h1]; rfl
  have f0 : w.frozen? ⟨pb, 0, none⟩ = false := frozen_of_row _ _ _ _ _ h1
  have hpl := (Array.getElem?_eq_some_iff.1 h1).1
  have H1 := Lib.hid h1
  have H2 := Lib.hid h2
  have H4 := Lib.hid h4
  have HX := Lib.hid hX
  clear h1 h2 h4 hX
  go_enter Try.func29, Try.ntmps29
  go_wp2_with (at_builtin; refine wpList_append_place _ rfl (.tmp 8) (.tmp 10) 25 rfl 23 i0 (.slice none 0 0) 1 24 Try.underlying25 hi hz0 hz1 hz2 rfl (by decide) (.slice av n cv) n ((List.range n).map X) rfl (H2.out.alloc _) ⟨w.heap.size, 0, none⟩ 1 1 [Value.slice a m cap] rfl rfl (one_any w _ 23) (by simp [Value.oneCell']) (by unfold maxLen; omega) (by omega) ?_)
  intro v2 w2 hown2 hgr2 hpl2
  have hvs2 : ∃ a2 c3, v2 = .slice a2 (n + 1) c3 := by
    rcases hown2.2 with ⟨_, h0⟩ | ⟨g, c4, _, hv, _⟩
    · omega
    · exact ⟨_, _, hv⟩
  obtain ⟨a2, c3, rfl⟩ := hvs2
  have hne : some pb ≠ (Value.slice av n cv).ownBlock := fun e => H4.out e.symm
  have hb2 : w2.heap[pb]? = some (.cells (bk (.slice av n cv)) 65 (0, 0)) := (hgr2.block pb (by simp; omega) hne).trans ((Below.heap_alloc w _ pb hpl).trans H1.out)
  have c2 : w2.cell? ⟨pb, 0, none⟩ = some (.slice av n cv) := by rw [cell_of_row _ _ _ _ _ _ hb2]; rfl
  have f2 : w2.frozen? ⟨pb, 0, none⟩ = false := frozen_of_row _ _ _ _ _ hb2
  have hnb : (Value.slice a2 (n + 1) c3).ownBlock ≠ some pb := by
    rcases hpl2 with e | ⟨g, e, hg⟩
    · rw [e]; exact H4.out
    · rw [e]; simp at hg ⊢; omega
  have hsome : ∃ g, (Value.slice a2 (n + 1) c3).ownBlock = some g ∧ (g = (Value.slice av n cv).ownBlock.getD pb ∨ w.heap.size ≤ g) := by
    rcases hown2.2 with ⟨_, h0⟩ | ⟨g, _, _, hv, _⟩
    · omega
    · refine ⟨g, by rw [hv]; rfl, ?_⟩
      rcases hpl2 with e | ⟨g', e, hg⟩
      · left; rw [← e, hv]; rfl
      · right; rw [hv] at e; simp [Value.ownBlock] at e; omega
  have ho2 : Only [pb, (Value.slice av n cv).ownBlock.getD pb] w w2 := ((Only.refl _ w).alloc _).grown hgr2 (fun k hk => .inl (by simp [hk]))
  have HN := Lib.hid (show BookPost w pb ((Value.slice av n cv).ownBlock.getD pb) (n + 1) X (w2.setCell ⟨pb, 0, none⟩ (.slice a2 (n + 1) c3)) from by
    obtain ⟨g, hg1, hg2⟩ := hsome
    refine ⟨g, ⟨_, ?_, ?_, by rw [hg1]; rfl, hnb⟩, hg2, ho2.setCell (p := ⟨pb, 0, none⟩) (.inl (by simp)) _⟩
    · rw [heap_setCell_same _ _ _ _ _ _ hb2]; rfl
    · have e : (List.range (n + 1)).map X = (List.range n).map X ++ [Value.slice a m cap] := by rw [List.range_succ, List.map_append, List.map_singleton, HX.out]
      rw [e]
      exact owns_only hown2 ((Only.refl [pb] _).setCell (p := ⟨pb, 0, none⟩) (.inl (by simp)) _) (fun g' hg' hm => by
        simp at hm; subst hm; exact hnb hg'))
  clear hown2 hgr2 hpl2 hb2 hsome ho2
  go_wp2
  go_end0
  exact ⟨rfl, HN.out⟩
end Go.Proofs.Ytlegdaoidjpokaa.B2
namespace Go.Proofs.Ytlegdaoidjpokaa
set_option linter.unusedVariables false
set_option linter.unusedSimpArgs false
open Go.RowKit
open B2 (Only Row Lots owns_only)
/-- rows of bytes that came out, all of them the call's own -/
structure OutR (w : World) (N : Nat) (v : Value) (rs : List (List Nat)) (X : Nat → Value) : Prop where
  row : w.ownsRow N 23 1 v rs.length ((List.range rs.length).map X)
  lots : Lots w N X (fun j => rs.getD j [])
  off : ∀ j k, (X j).ownBlock = some k → v.ownBlock ≠ some k
theorem OutR.nil (w : World) (N : Nat) : OutR w N (.slice none 0 0) [] (fun _ => .slice none 0 0) :=
  ⟨World.ownsRow_nil w N 23 1, ⟨fun j => World.ownsRow_nil w N 5 1, fun i j _ => .inl rfl⟩, fun j k h => by cases h⟩
theorem OutR.below {w w' : World} {N : Nat} {v : Value} {rs : List (List Nat)} {X : Nat → Value} (h : OutR w N v rs X) (hb : Below w.heap.size w w') : OutR w' N v rs X :=
  ⟨owns_only h.row (Only.of_below hb []) (fun _ _ => by simp), h.lots.only (Only.of_below hb []) (fun _ _ _ => by simp), h.off⟩
def more (n : Nat) (x : Value) (X : Nat → Value) : Nat → Value := fun j => if j = n then x else X j
theorem more_at (n : Nat) (x : Value) (X : Nat → Value) : more n x X n = x := by simp [more]
theorem more_low (n : Nat) (x : Value) (X : Nat → Value) (j : Nat) (h : j < n) : more n x X j = X j := by simp [more, show j ≠ n by omega]
theorem more_map (n : Nat) (x : Value) (X : Nat → Value) : (List.range (n + 1)).map (more n x X) = (List.range n).map X ++ [x] := by
  rw [List.range_succ, List.map_append, List.map_singleton, more_at]
  congr 1
  exact List.map_congr_left fun j hj => more_low n x X j (List.mem_range.1 hj)
/-- one row more: x of what is new behind the world W0 -/
theorem OutR.more' {W0 W3 w4 : World} {N : Nat} {v v' x : Value} {rs : List (List Nat)} {r : List Nat} {X : Nat → Value} (h : OutR W0 N v rs X) (hb : Below W0.heap.size W0 W3) (hN : N ≤ W0.heap.size) (hx : OwnB W3 W0.heap.size x r)
    (hown : w4.ownsRow N 23 1 v' (rs.length + 1) ((List.range rs.length).map X ++ [x])) (hg : W3.grownBy w4 v.ownBlock) (hv : v'.ownBlock = v.ownBlock ∨ v'.ownBlock = some W3.heap.size) : OutR w4 N v' (rs ++ [r]) (more rs.length x X) := by
  have h3 := h.below hb
  have ho : Only v.ownBlock.toList W3 w4 := (Only.refl _ W3).grown hg (fun k hk => .inl (by simp [hk]))
  have hX : ∀ j k, (X j).ownBlock = some k → N ≤ k ∧ k < W0.heap.size := fun j k hk => (h.lots.own j).lt k hk
  have hxb : ∀ k, x.ownBlock = some k → W0.heap.size ≤ k ∧ k < W3.heap.size := fun k hk => hx.lt k hk
  have hvb : ∀ k, v.ownBlock = some k → N ≤ k ∧ k < W0.heap.size := fun k hk => h.row.lt k hk
  refine ⟨?_, ⟨fun j => ?_, fun i j hij => ?_⟩, fun j k hk => ?_⟩
  · rw [List.length_append, List.length_singleton, more_map]
    exact hown
  · by_cases e : j = rs.length
    · subst e
      rw [more_at]
      have e2 : (rs ++ [r]).getD rs.length [] = r := by simp [List.getD]
      rw [e2]
      have hx2 : W3.ownsRow N 5 1 x r.length (B2.cellsOf r) := by
        refine ⟨hx.1, ?_⟩
        rcases hx.2 with h1 | ⟨g, c, cur, k1, k2, k3⟩
        · exact .inl h1
        · exact .inr ⟨g, c, cur, k1, by omega, k3⟩
      refine owns_only hx2 ho (fun k hk hm => ?_)
      have h1 : v.ownBlock = some k := by simpa using hm
      have := hxb k hk
      have := hvb k h1
      omega
    · have e2 : (rs ++ [r]).getD j [] = rs.getD j [] := by
        by_cases hj : j < rs.length
        · simp [List.getD, List.getElem?_append_left hj]
        · simp only [List.getD]
          rw [List.getElem?_eq_none (by simp; omega), List.getElem?_eq_none (by omega)]
      have e3 : more rs.length x X j = X j := by simp [more, e]
      rw [e2, e3]
      refine owns_only (h3.lots.own j) ho (fun k hk hm => ?_)
      have h1 : v.ownBlock = some k := by simpa using hm
      exact h.off j k hk h1
  · by_cases e : i = rs.length
    · subst e
      have e2 : j ≠ rs.length := fun e => hij e.symm
      simp only [more, if_true, if_neg e2]
      cases e3 : x.ownBlock with
      | none => exact .inl rfl
      | some k =>
        refine .inr fun e4 => ?_
        have h1 := hX j k e4.symm
        have h2 := hxb k e3
        omega
    · by_cases e2 : j = rs.length
      · subst e2
        simp only [more, if_true, if_neg e]
        cases e3 : (X i).ownBlock with
        | none => exact .inl rfl
        | some k =>
          refine .inr fun e4 => ?_
          have h1 := hX i k e3
          have h2 := hxb k e4.symm
          omega
      · simp only [more, if_neg e, if_neg e2]
        exact h.lots.apart i j hij
  · by_cases e : j = rs.length
    · subst e
      rw [more_at] at hk
      have h1 := hxb k hk
      rcases hv with h2 | h2
      · rw [h2]
        intro h3
        have := hvb k h3
        omega
      · rw [h2]
        intro h3
        injection h3 with h3
        omega
    · simp only [more, if_neg e] at hk
      have h1 := hX j k hk
      rcases hv with h2 | h2
      · rw [h2]; exact h.off j k hk
      · rw [h2]
        intro h3
        injection h3 with h3
        have := hb.size
        omega
/-- where a scan stands -/
def ScanAt (seg n : Nat) (Ls : List (List Nat)) (j : Nat) (rs : List (List Nat)) : Prop :=
  Fr.scan seg Ls = (rs ++ (Fr.scanS seg (n + 1 - j) (Ls.drop j) j).1, j + (Fr.scanS seg (n + 1 - j) (Ls.drop j) j).2)
theorem ScanAt.start (seg : Nat) (Ls : List (List Nat)) : ScanAt seg Ls.length Ls 0 [] := by
  unfold ScanAt Fr.scan
  simp
theorem ScanAt.stop {seg n j : Nat} {Ls rs : List (List Nat)} (h : ScanAt seg n Ls j rs) (hj : j ≤ n) (hr : Fr.recS seg (Ls.drop j) j true [] = none) : Fr.scan seg Ls = (rs, j) := by
  unfold ScanAt at h
  rw [h, show n + 1 - j = (n - j) + 1 by omega]
  unfold Fr.scanS
  rw [hr]
  simp
theorem ScanAt.next {seg n j m : Nat} {Ls rs : List (List Nat)} {r : List Nat} (h : ScanAt seg n Ls j rs) (hn : Ls.length = n) (hj : j ≤ n) (hr : Fr.recS seg (Ls.drop j) j true [] = some (r, m)) : ScanAt seg n Ls (j + m) (rs ++ [r]) ∧ j + m ≤ n ∧ 0 < m := by
  have hp := Fr.recS_pos hr
  rw [List.length_drop] at hp
  refine ⟨?_, by omega, hp.1⟩
  unfold ScanAt at h ⊢
  have e : Fr.scanS seg (n + 1 - j) (Ls.drop j) j = (r :: (Fr.scanS seg (n + 1 - (j + m)) (Ls.drop (j + m)) (j + m)).1, m + (Fr.scanS seg (n + 1 - (j + m)) (Ls.drop (j + m)) (j + m)).2) := by
    rw [show n + 1 - j = (n - j) + 1 by omega]
    conv => lhs; unfold Fr.scanS
    rw [hr]
    simp only
    rw [List.drop_drop, Fr.scanS_fuel seg (n - j) (n + 1 - (j + m)) (Ls.drop (j + m)) (j + m) (by rw [List.length_drop]; omega) (by rw [List.length_drop]; omega)]
  rw [h, e]
  simp only [List.append_assoc, List.singleton_append]
  congr 1
  omega
end Go.Proofs.Ytlegdaoidjpokaa
namespace Go.Proofs.Ytlegdaoidjpokaa
set_option linter.unusedVariables false
set_option linter.unusedSimpArgs false
open Go.RowKit
open B2 (Only Row Lots owns_only)
def ScanPost (o : List (List Nat) × Nat) (w : World) (e : Ending) (w' : World) : Prop :=
  Below w.heap.size w w' ∧ ∃ v X, e = .returned (.tuple #[v, .int .i64 ((o.2 : Nat) : Int)]) ∧ OutR w' w.heap.size v o.1 X
theorem scan_more {w wr W3 w4 : World} {v v' x : Value} {rs : List (List Nat)} {r : List Nat} {X : Nat → Value} {rl : Nat} (h : OutR wr w.heap.size v rs X ∧ Below w.heap.size w wr) (hb : Below wr.heap.size wr W3) (hx : W3.ownsRow wr.heap.size 5 1 x r.length (cellsOf r)) (hrl : rs.length = rl)
    (hown : w4.ownsRow w.heap.size 23 1 v' (rl + 1) ((List.range rl).map X ++ [x])) (hg : W3.grownBy w4 v.ownBlock) (hv : v'.ownBlock = v.ownBlock ∨ v'.ownBlock = some W3.heap.size) : OutR w4 w.heap.size v' (rs ++ [r]) (more rs.length x X) ∧ Below w.heap.size w w4 := by
  subst hrl
  have hb2 := h.2.trans (hb.mono h.2.size)
  exact ⟨h.1.more' hb h.2.size hx hown hg hv, hb2.grown hg hb2.size (fun k hk => (h.1.row.lt k hk).1)⟩
set_option maxHeartbeats 8000000 in
set_option maxRecDepth 100000 in
theorem scan_any (a : Option Addr) (Ls : List (List Nat)) (n cap seg : Nat) (hn : Ls.length = n) (hn9 : n ≤ 1000000000) (hs : seg < 4294967296) (w : World) (H : Rws w a Ls) :
    Calls Try.prog 19 #[.int .u32 seg, .slice a n cap] w (ScanPost (Fr.scan seg Ls) w) := by
  obtain ⟨i1, hi1, hy0, hy1, hy2⟩ := info_parts B2.info27
  have HI := Lib.hid (And.intro hi1 (And.intro hy0 (And.intro hy1 hy2)))
  have HR := Lib.hid H
  have HN := Lib.hid hn
  have HST : Hid (ScanAt seg n Ls 0 []) := Lib.hid (by rw [← hn]; exact ScanAt.start seg Ls)
  obtain ⟨R, hR⟩ : ∃ R, Fr.scan seg Ls = R := ⟨_, rfl⟩
  have HRR := Lib.hid hR
  rw [hR]
  clear H hn hR hi1 hy0 hy1 hy2
  go_enter Try.func19, Try.ntmps19
  go_wp2_with fail
  go_loopw [6, 7] (fun v i wr => ∃ (j : Nat) (rs : List (List Nat)) (X : Nat → Value), j ≤ n ∧ rs.length ≤ j ∧ i = .int .i64 j ∧ Hid (ScanAt seg n Ls j rs) ∧ Hid (OutR wr w.heap.size v rs X ∧ Below w.heap.size w wr)) (fun _ i _ => n - (intOf i).toNat)
  case atStart => exact ⟨0, [], fun _ => .slice none 0 0, Nat.zero_le _, Nat.le_refl _, rfl, HST, Lib.hid ⟨OutR.nil _ _, Below.refl _ _⟩⟩
  case round =>
    clear HST
    obtain ⟨j, rs, X, hjn, hrl, rfl, HE, HO⟩ := hrel
    have CR := Lib.hid (record_any a Ls n cap seg j HN.out hn9 hjn hs wr (HR.out.below HO.out.2))
    cases hrec : Fr.recS seg (Ls.drop j) j true [] with
    | none =>
      rw [hrec] at CR
      have HST := Lib.hid (HE.out.stop hjn hrec)
      rw [HRR.out] at HST
      clear hrec HE
      go_wp2_with fail
      go_at_call 62
      refine CR.out.mono ?_
      rintro e w2 ⟨hb2, rfl⟩
      have HB2 := Lib.hid (HO.out.2.trans (hb2.mono HO.out.2.size))
      have HO2 := Lib.hid (HO.out.1.below hb2)
      clear hb2 CR
      go_wp2_with fail
      go_returns
      rw [HST.out]
      exact ⟨HB2.out, _, X, rfl, HO2.out⟩
    | some y =>
      obtain ⟨r, m⟩ := y
      rw [hrec] at CR
      obtain ⟨hsn, hjm, hm0⟩ := HE.out.next HN.out hjn hrec
      have HSN := Lib.hid hsn
      have hme : ((m : Int) == 0) = false := by simp; omega
      have hm1 : ¬ m = 0 := by omega
      obtain ⟨jm, hjm2⟩ : ∃ jm, j + m = jm := ⟨_, rfl⟩
      have hje : (j : Int) + (m : Int) = (jm : Int) := by omega
      rw [hjm2] at HSN hjm
      have hjj : j < jm := by omega
      obtain ⟨va, vc, hv⟩ : ∃ va vc, u6 = Value.slice va rs.length vc := by
        rcases HO.out.1.row.2 with ⟨hv, h0⟩ | ⟨g, c, _, hv, _⟩
        · exact ⟨none, 0, by rw [hv, h0]⟩
        · exact ⟨_, c, hv⟩
      obtain ⟨rl, hrl2⟩ : ∃ rl, rs.length = rl := ⟨_, rfl⟩
      have HRL := Lib.hid hrl2
      rw [hrl2] at hv hrl
      subst hv
      clear hrec HE hsn hjm2 hrl2 hm0
      go_wp2_with fail
      go_at_call 62
      refine CR.out.mono ?_
      rintro e w2 ⟨hb2, x, rfl, hx⟩
      obtain ⟨xa, xc, hxs⟩ := hx.shape
      subst hxs
      obtain ⟨rlen, hrlen⟩ : ∃ rlen, r.length = rlen := ⟨_, rfl⟩
      rw [hrlen] at hx ⊢
      have hA := (Below.refl w2.heap.size w2).alloc (Nat.le_refl _) (.cells #[.slice xa rlen xc] 23)
      have hb3 := hb2.trans (hA.mono hb2.size)
      have HB3 := Lib.hid (And.intro hb3 (HO.out.2.trans (hb3.mono HO.out.2.size)))
      have HX := Lib.hid (hx.below hA)
      have HOW := Lib.hid (show (w2.alloc (.cells #[.slice xa rlen xc] 23)).ownsRow w.heap.size 23 1 (.slice va rl vc) rl ((List.range rl).map X) from by have h := (HO.out.1.below hb3).row; rw [HRL.out] at h; exact h)
      have HMX := Lib.hid (show rl + 1 ≤ maxLen ∧ (rl + 1) * 24 ≤ 140737488355328 from ⟨by unfold maxLen; omega, by omega⟩)
      have HSRC := Lib.hid (B2.one_any w2 (.slice xa rlen xc) 23)
      have HONE := Lib.hid (show ∀ u ∈ ([.slice xa rlen xc] : List Value), u.oneCell' = true by simp [Value.oneCell'])
      clear hb2 hb3 hA CR hx hrlen
      go_wp2_with (at_builtin; refine wpList_append_own_at _ rfl (.tmp 21) (.tmp 23) 25 rfl w.heap.size 23 i1 (.slice none 0 0) 1 24 Try.underlying25 HI.out.1 HI.out.2.1 HI.out.2.2.1 HI.out.2.2.2 rfl (by decide) (.slice va rl vc) rl ((List.range rl).map X) rfl HOW.out ⟨w2.heap.size, 0, none⟩ 1 1 [.slice xa rlen xc] rfl rfl HSRC.out HONE.out HMX.out.1 HMX.out.2 HB3.out.2.size ?_; intro v' w4 hown hgr _ hpl; have HO4 := Lib.hid (scan_more HO.out HB3.out.1 HX.out HRL.out hown hgr hpl); clear hown hgr hpl)
      go_roundw
      case rel => exact ⟨jm, rs ++ [r], _, hjm, by rw [List.length_append, HRL.out, List.length_singleton]; omega, rfl, HSN, HO4⟩
      case measure => simp [intOf]; omega
end Go.Proofs.Ytlegdaoidjpokaa
namespace Go.Proofs.Ytlegdaoidjpokaa
set_option linter.unusedVariables false
set_option linter.unusedSimpArgs false
open Go.RowKit
open B2 (Only Row Lots owns_only)
theorem flat_get (S : List (List Nat)) (hS : ∀ s ∈ S, s.length = 256) (i j : Nat) (hi : i < S.length) (hj : j < S[i].length) : S.flatten[i * 256 + j]? = some S[i][j] := by
  induction S generalizing i with
  | nil => simp at hi
  | cons s S ih =>
    have hs : s.length = 256 := hS s List.mem_cons_self
    rw [List.flatten_cons]
    cases i with
    | zero =>
      have hj' : j < s.length := by simpa using hj
      rw [Nat.zero_mul, Nat.zero_add, List.getElem?_append_left hj']
      simp
    | succ i =>
      rw [List.getElem?_append_right (by omega), show (i + 1) * 256 + j - s.length = i * 256 + j by omega]
      have := ih (fun x hx => hS x (List.mem_cons_of_mem _ hx)) i (by simpa using hi) (by simpa using hj)
      simpa using this
theorem cut_bytes (seg t : Nat) (bs : List Nat) (h8 : ∀ c ∈ bs, c < 256) : (∀ s ∈ Fr.cutS seg t bs, s.length = 256) ∧ ∀ s ∈ Fr.cutS seg t bs, ∀ c ∈ s, c < 256 := by
  refine ⟨fun s hm => ?_, fun s hm => ?_⟩
  · unfold Fr.cutS at hm
    obtain ⟨i, _, rfl⟩ := List.mem_map.1 hm
    exact Fr.sec_len _ _ _ _ (by rw [Fr.part_len]; omega)
  · unfold Fr.cutS at hm
    obtain ⟨i, _, rfl⟩ := List.mem_map.1 hm
    refine Fr.sec_lt _ _ _ _ (by rcases Fr.kindOf_is i (Fr.need bs.length) with h | h | h | h <;> omega) (fun c hc => h8 c ?_)
    unfold Fr.part at hc
    exact List.mem_of_mem_drop (List.mem_of_mem_take hc)
/-- what Split gives -/
structure Spt (w : World) (N h m : Nat) (S : List (List Nat)) : Prop where
  row : w.heap[h]? = some (.cells (secs m S.length S.length).toArray 23 (0, 0))
  mem : Mem w m 5 S.flatten
  len : ∀ s ∈ S, s.length = 256
  byt : ∀ s ∈ S, ∀ c ∈ s, c < 256
  low : N ≤ h ∧ N ≤ m ∧ S.length ≤ 1000
theorem Spt.below {w w' : World} {N h m : Nat} {S : List (List Nat)} (H : Spt w N h m S) (hb : Below w.heap.size w w') : Spt w' N h m S :=
  ⟨(hb.block _ (Array.getElem?_eq_some_iff.1 H.row).1).trans H.row, H.mem.below hb, H.len, H.byt, H.low⟩
theorem Spt.bys {w : World} {N h m : Nat} {S : List (List Nat)} (H : Spt w N h m S) (i : Nat) (hi : i < S.length) : Bys w (some ⟨m, i * 256, none⟩) S[i] :=
  H.mem.bys (i * 256) S[i] (fun j hj => flat_get S H.len i j hi hj) (H.byt _ (List.getElem_mem hi)) (by rw [H.len _ (List.getElem_mem hi)]; decide)
theorem Spt.cell {w : World} {N h m : Nat} {S : List (List Nat)} (H : Spt w N h m S) (i : Nat) (hi : i < S.length) : w.cell? ⟨h, i, none⟩ = some (.slice (some ⟨m, i * 256, none⟩) 256 256) := by
  rw [cell_of_row _ _ _ _ _ _ H.row, List.getElem?_toArray, secs_get _ _ _ _ hi, if_pos hi]
theorem Spt.rws {w : World} {N h m : Nat} {S : List (List Nat)} (H : Spt w N h m S) : Rws w (some ⟨h, 0, none⟩) S := by
  refine ⟨by have := H.low.2.2; unfold maxLen; omega, fun _ => ⟨h, 0, rfl, (Array.getElem?_eq_some_iff.1 H.row).1, fun i hi => ⟨some ⟨m, i * 256, none⟩, 256, ?_, ?_, H.bys i hi⟩⟩⟩
  · rw [Nat.zero_add, H.cell i hi, H.len _ (List.getElem_mem hi)]
  · rw [H.len _ (List.getElem_mem hi)]; exact Nat.le_refl _
theorem Spt.own {w : World} {N h m : Nat} {S : List (List Nat)} (H : Spt w N h m S) : w.ownsRow N 23 1 (.slice (some ⟨h, 0, none⟩) S.length S.length) S.length (secs m S.length S.length) := by
  refine ⟨by rw [secs_len, Nat.mul_one], .inr ⟨h, S.length, _, rfl, H.low.1, H.row, Nat.le_refl _, by have := H.low.2.2; unfold maxLen; omega, by simp [secs_len], ?_⟩⟩
  rw [Nat.mul_one, List.take_of_length_le (by simp [secs_len])]
theorem spl_ok (a : Option Addr) (bs : List Nat) (n cap seg t : Nat) (hn : bs.length = n) (hc : n ≤ cap) (hc0 : a = none → cap = 0) (hl : n ≤ 7680) (hs : seg < 4294967296) (ht : t + Fr.need n ≤ 32) (w : World) (H : Bys w a bs) (hold : ∀ x, a = some x → x.block < w.heap.size ∨ bs = []) :
    Calls Try.prog 9 #[.int .u32 seg, .int .i64 t, .slice a n cap] w fun e w' => ∃ h m, e = .returned (.tuple #[.slice (some ⟨h, 0, none⟩) (Fr.need n) (Fr.need n), .int .u16 0]) ∧ Spt w' w.heap.size h m (Fr.cutS seg t bs) ∧ Below w.heap.size w w' := by
  subst hn
  refine (split_ok a bs cap seg t hc hc0 hl hs ht w H hold).mono ?_
  rintro e w' ⟨h1, h2, h3, h4⟩
  obtain ⟨k1, k2⟩ := cut_bytes seg t bs H.2.1
  refine ⟨w.heap.size + 1, w.heap.size, ?_, ⟨h2, h3, k1, k2, by omega, Nat.le_refl _, ?_⟩, h4⟩
  · rw [h1, Fr.cutS_len]
  · rw [Fr.cutS_len]; omega
/-- a row of the call's own, cell by cell -/
theorem own_cells {w : World} {N n : Nat} {v : Value} {vals : List Value} (h : w.ownsRow N 23 1 v n vals) (h0 : 0 < n) : ∃ g c, v = .slice (some ⟨g, 0, none⟩) n c ∧ g < w.heap.size ∧ n ≤ c ∧ ∀ i (hi : i < vals.length), w.cell? ⟨g, i, none⟩ = some vals[i] := by
  rcases h.2 with ⟨_, h1⟩ | ⟨g, c, cur, hv, _, hh, hc, _, hs, ht⟩
  · omega
  · refine ⟨g, c, hv, (Array.getElem?_eq_some_iff.1 hh).1, hc, fun i hi => ?_⟩
    have hl := h.1
    have h2 := congrArg (fun l => l[i]?) ht
    simp only [List.getElem?_take] at h2
    rw [if_pos (by omega), List.getElem?_eq_getElem hi] at h2
    rw [cell_of_row _ _ _ _ _ _ hh, ← Array.getElem?_toList]
    exact h2
theorem OwnB.bys {w : World} {N : Nat} {v : Value} {ds : List Nat} (h : OwnB w N v ds) (h8 : ∀ c ∈ ds, c < 256) : ∃ a c, v = .slice a ds.length c ∧ Bys w a ds ∧ ds.length ≤ c := by
  rcases h.2 with ⟨hv, h0⟩ | ⟨g, c, cur, hv, _, hh, hc, hm, hs, ht⟩
  · refine ⟨none, 0, by rw [hv, h0], ?_, by omega⟩
    rw [List.eq_nil_of_length_eq_zero h0]
    exact nil_bytes _ _
  · refine ⟨_, c, hv, ⟨by omega, h8, fun _ => ⟨g, 0, rfl, (Array.getElem?_eq_some_iff.1 hh).1, fun i hi => ?_⟩⟩, hc⟩
    have h2 := congrArg (fun l => l[i]?) ht
    simp only [List.getElem?_take] at h2
    rw [if_pos (by omega)] at h2
    rw [Nat.zero_add, cell_of_row _ _ _ _ _ _ hh, ← Array.getElem?_toList, h2]
    simp [cellsOf, hi]
namespace Fr
theorem scan_more' (seg : Nat) (r z : List Nat) (hr : r.length ≤ 7680) (hz : ∀ k, readS seg k z = none) : scan seg (cutS seg 0 r ++ [z]) = ([r], need r.length) := by
  have hn : need r.length ≤ 32 := by unfold need; omega
  unfold scan
  rw [List.length_append, cutS_len, List.length_singleton]
  unfold scanS
  rw [recS_split seg 0 r hr [z] (by omega)]
  simp only
  rw [show (cutS seg 0 r ++ [z]).drop (need r.length) = [z] by rw [← cutS_len seg 0 r, List.drop_left]]
  unfold scanS recS
  rw [hz]
  simp
end Fr
end Go.Proofs.Ytlegdaoidjpokaa
namespace Go.Proofs.Ytlegdaoidjpokaa
set_option linter.unusedVariables false
set_option linter.unusedSimpArgs false
open Go.RowKit
open B2 (Only Row Lots owns_only)
def z241 : List Nat := List.replicate 241 0
theorem need2 : Fr.need 2 = 1 := by decide
theorem need241 : Fr.need 241 = 2 := by decide
theorem ab_sec : (Fr.cutS 7 3 [97, 98])[0]? = some (Fr.sec 1 7 3 [97, 98]) := by rfl
theorem ab_head : (Fr.sec 1 7 3 [97, 98]).take 14 = [66, 76, 1, 0, 7, 0, 0, 0, 3, 0, 2, 0, 97, 98] := by decide +kernel
theorem z_lt : ∀ c ∈ z241, c < 256 := fun c hc => by rw [List.eq_of_mem_replicate hc]; decide
theorem z_len : z241.length = 241 := List.length_replicate
theorem made_bys (n : Nat) (hn : n ≤ 1000000) (W : World) : Bys (W.alloc (.cells (cellsOf (List.replicate n 0)).toArray 5)) (some ⟨W.heap.size, 0, none⟩) (List.replicate n 0) :=
  lit_bytes (0, 0) W (List.replicate n 0) (fun c hc => by rw [List.eq_of_mem_replicate hc]; decide) (by rw [List.length_replicate]; unfold maxLen; omega)
theorem make241 (W : World) : (Instr.makeSlice 23 (.int .i64 241) (.int .i64 241)).run Try.prog W = .ok (.slice (some ⟨W.heap.size, 0, none⟩) 241 241) (W.alloc (.cells (cellsOf z241).toArray 5)) := make_bytes 241 (by decide) W
theorem make256 (W : World) : (Instr.makeSlice 23 (.int .i64 256) (.int .i64 256)).run Try.prog W = .ok (.slice (some ⟨W.heap.size, 0, none⟩) 256 256) (W.alloc (.cells (cellsOf (List.replicate 256 0)).toArray 5)) := make_bytes 256 (by decide) W
theorem Bys.take' {w : World} {a : Option Addr} {bs : List Nat} (h : Bys w a bs) (n : Nat) : Bys w a (bs.take n) := by
  obtain ⟨h1, h2, h3⟩ := h
  refine ⟨by rw [List.length_take]; omega, fun c hc => h2 c (List.mem_of_mem_take hc), fun hn => ?_⟩
  obtain ⟨b, off, ha, hb, hc⟩ := h3 (by rintro rfl; simp at hn)
  refine ⟨b, off, ha, hb, fun i hi => ?_⟩
  rw [List.length_take] at hi
  rw [hc i (by omega), List.getElem_take]
/-- behind an append to a row without room nothing that was there has turned -/
theorem app_new {W w' : World} {v' : Value} {h n m : Nat} {xs : List Value} (hown : w'.ownsRow 0 23 1 v' (n + m) xs) (hgo : B2.Goes W w' (.slice (some ⟨h, 0, none⟩) n n) v' n m) (hm : 0 < m) : Below W.heap.size W w' := by
  rcases hgo with ⟨g, cap, hv, hv', _⟩ | ⟨g, cap, hv', _, hg⟩
  · exfalso
    injection hv with _ _ hcap
    rcases hown.2 with ⟨h1, _⟩ | ⟨g2, c2, _, hv2, _, _, hc, _⟩
    · rw [hv'] at h1; cases h1
    · rw [hv'] at hv2
      injection hv2 with _ _ hcc
      omega
  · exact (Below.refl W.heap.size W).grown hg (Nat.le_refl _) (fun k hk => by cases hk)
theorem OutR.shape {w : World} {N : Nat} {v : Value} {rs : List (List Nat)} {X : Nat → Value} (h : OutR w N v rs X) : ∃ a c, v = .slice a rs.length c := by
  rcases h.row.2 with ⟨hv, h0⟩ | ⟨g, c, _, hv, _⟩
  · exact ⟨none, 0, by rw [hv, h0]⟩
  · exact ⟨_, c, hv⟩
theorem OutR.cell {w : World} {N : Nat} {v : Value} {rs : List (List Nat)} {X : Nat → Value} (h : OutR w N v rs X) (i : Nat) (hi : i < rs.length) : ∃ g c xa xc, v = .slice (some ⟨g, 0, none⟩) rs.length c ∧ w.cell? ⟨g, i, none⟩ = some (.slice xa (rs[i]).length xc) ∧ X i = .slice xa (rs[i]).length xc := by
  obtain ⟨g, c, hv, hg, _, hc⟩ := own_cells h.row (by omega)
  have h1 := hc i (by simpa using hi)
  have h2 := h.lots.own i
  have e : rs.getD i [] = rs[i] := by simp [List.getD, List.getElem?_eq_getElem hi]
  simp only [e] at h2
  obtain ⟨xa, xc, hx⟩ := OwnB.shape (v := X i) (ds := rs[i]) h2
  refine ⟨g, c, xa, xc, hv, ?_, hx⟩
  rw [h1]
  simp [hx]
theorem Spt.rws_more {w : World} {N h m zb g zc : Nat} {S : List (List Nat)} {z : List Nat} (H : Spt w N h m S) (hz : Bys w (some ⟨zb, 0, none⟩) z) (hzc : z.length ≤ zc) (hg : g < w.heap.size) (hc : ∀ i (hi : i < (secs m S.length S.length ++ [Value.slice (some ⟨zb, 0, none⟩) z.length zc]).length), w.cell? ⟨g, i, none⟩ = some (secs m S.length S.length ++ [Value.slice (some ⟨zb, 0, none⟩) z.length zc])[i]) : Rws w (some ⟨g, 0, none⟩) (S ++ [z]) := by
  have hl := H.low.2.2
  refine ⟨by rw [List.length_append]; unfold maxLen; simp; omega, fun _ => ⟨g, 0, rfl, hg, fun i hi => ?_⟩⟩
  rw [Nat.zero_add]
  by_cases hi2 : i < S.length
  · refine ⟨some ⟨m, i * 256, none⟩, 256, ?_, ?_, ?_⟩
    · rw [hc i (by rw [List.length_append, secs_len]; simp; omega), List.getElem_append_left (by rw [secs_len]; exact hi2), List.getElem_append_left hi2, H.len _ (List.getElem_mem hi2)]
      have := secs_get m S.length S.length i hi2
      rw [if_pos hi2, List.getElem?_eq_getElem (by rw [secs_len]; exact hi2)] at this
      exact this
    · rw [List.getElem_append_left hi2, H.len _ (List.getElem_mem hi2)]; exact Nat.le_refl _
    · rw [List.getElem_append_left hi2]; exact H.bys i hi2
  · have hi3 : i = S.length := by simp at hi; omega
    subst hi3
    have e : (S ++ [z])[S.length] = z := by simp
    rw [e]
    refine ⟨some ⟨zb, 0, none⟩, zc, ?_, hzc, hz⟩
    rw [hc S.length (by rw [List.length_append, secs_len]; simp), List.getElem_append_right (by rw [secs_len]; exact Nat.le_refl _)]
    simp [secs_len]
theorem scan_known1 : Fr.scan 1 (Fr.cutS 1 0 z241 ++ [List.replicate 256 0]) = ([z241], 2) := by
  have h := Fr.scan_more' 1 z241 (List.replicate 256 0) (by rw [z_len]; decide) (fun k => Fr.readS_zeros 1 k)
  rw [z_len, need241] at h
  exact h
theorem scan_known2 : Fr.scan 2 (Fr.cutS 1 0 z241) = ([], 0) := Fr.scan_other 2 1 0 z241 (by decide) (by decide) (by decide) (by decide)
set_option maxHeartbeats 8000000 in
set_option maxRecDepth 100000 in
theorem known_any (w : World) : Calls Try.prog 14 #[] w fun e w' => e = .returned (.bool true) ∧ Below w.heap.size w w' := by
  have kc := fun (W : World) (n c : Nat) => Lib.run_convert_bytes_const (P := Try.prog) W 23 5 #[.int .u8 97, .int .u8 98] n c Try.underlying23 Try.underlying5
  have hA := (Below.refl w.heap.size w).alloc (Nat.le_refl _) (.cells #[.int .u8 97, .int .u8 98] 5 (2, 3))
  have hB : Bys (w.alloc (.cells #[.int .u8 97, .int .u8 98] 5 (2, 3))) (some ⟨w.heap.size, 0, none⟩) [97, 98] := lit_bytes (2, 3) w [97, 98] (by decide) (by decide)
  have C1 := spl_ok (some ⟨w.heap.size, 0, none⟩) [97, 98] 2 2 7 3 rfl (by decide) (fun h => by cases h) (by decide) (by decide) (by rw [need2]; decide) _ hB (fun x hx => by injection hx with hx; subst hx; exact .inl (by simp))
  rw [need2] at C1
  simp only [Int.cast_ofNat_Int] at C1
  have C1 := Lib.hid C1
  have HA := Lib.hid hA
  have hmk := make241
  clear hA hB
  go_enter Try.func14, Try.ntmps14
  go_wp2_with fail
  go_at_call 9
  refine C1.out.mono ?_
  rintro e w1 ⟨h1, m1, rfl, hS1, hb1⟩
  have H1 := Lib.hid (And.intro hS1 (HA.out.trans (hb1.mono HA.out.size)))
  clear hS1 hb1 C1
  go_wp2_with fail
  have hA2 := (Below.refl w1.heap.size w1).alloc (Nat.le_refl _) (.cells (cellsOf z241).toArray 5)
  have C2 := spl_ok (some ⟨w1.heap.size, 0, none⟩) z241 241 241 1 0 z_len (by decide) (fun h => by cases h) (by decide) (by decide) (by rw [need241]; decide) (w1.alloc (.cells (cellsOf z241).toArray 5)) (made_bys 241 (by decide) w1) (fun x hx => by injection hx with hx; subst hx; exact .inl (by simp))
  rw [need241] at C2
  simp only [Int.cast_ofNat_Int] at C2
  have H2 := Lib.hid (And.intro (H1.out.1.below hA2) (H1.out.2.trans (hA2.mono H1.out.2.size)))
  clear H1 hA2
  generalize w1.alloc (.cells (cellsOf z241).toArray 5) = W1 at *
  go_at_call 9
  refine C2.mono ?_
  rintro e w2 ⟨h2, m2, rfl, hS2, hb2⟩
  have H3 := Lib.hid (And.intro (H2.out.1.below hb2) (And.intro hS2 (H2.out.2.trans (hb2.mono H2.out.2.size))))
  clear hS2 hb2 C2 H2
  go_wp2_with fail
  have hA3 := (Below.refl w2.heap.size w2).alloc (Nat.le_refl _) (.cells (cellsOf z241).toArray 5)
  have C3 := split_arg (some ⟨w2.heap.size, 0, none⟩) 241 241 1 31 (by decide) (.inr (by rw [need241]; decide)) (by decide) (w2.alloc (.cells (cellsOf z241).toArray 5))
  simp only [Int.cast_ofNat_Int] at C3
  have H4 := Lib.hid (And.intro (H3.out.1.below hA3) (And.intro (H3.out.2.1.below hA3) (H3.out.2.2.trans (hA3.mono H3.out.2.2.size))))
  clear H3 hA3
  generalize w2.alloc (.cells (cellsOf z241).toArray 5) = W2 at *
  go_at_call 9
  refine C3.mono ?_
  rintro e w3 ⟨rfl, hw3⟩
  obtain rfl : W2 = w3 := hw3.symm
  clear C3
  have hc1 := H4.out.1.cell 0 (by decide)
  have hb1 := H4.out.1.bys 0 (by decide)
  have hcv := conv_bys W2 (some ⟨m1, 0, none⟩) [66, 76, 1, 0, 7, 0, 0, 0, 3, 0, 2, 0, 97, 98] 14 256 rfl (by decide) (by
    have h := Bys.take' hb1 14
    have e : ((Fr.cutS 7 3 [97, 98])[0]'(by decide)) = Fr.sec 1 7 3 [97, 98] := rfl
    rw [e, ab_head, Nat.zero_mul] at h
    exact h)
  simp only [Nat.zero_mul] at hc1
  have hst : strB [66, 76, 1, 0, 7, 0, 0, 0, 3, 0, 2, 0, 97, 98] = ⟨#[66, 76, 1, 0, 7, 0, 0, 0, 3, 0, 2, 0, 97, 98]⟩ := by decide
  rw [hst] at hcv
  clear hb1 hst
  have hmk2 := make256
  have hA5 := (Below.refl W2.heap.size W2).alloc (Nat.le_refl _) (.cells (cellsOf (List.replicate 256 0)).toArray 5)
  have hA6 := hA5.alloc hA5.size (.cells #[.slice (some ⟨W2.heap.size, 0, none⟩) 256 256] 23)
  have HZ := Lib.hid ((made_bys 256 (by decide) W2).below ((Below.refl _ _).alloc (Nat.le_refl _) (.cells #[.slice (some ⟨W2.heap.size, 0, none⟩) 256 256] 23)))
  have H6 := Lib.hid (And.intro (H4.out.2.1.below hA6) (H4.out.2.2.trans (hA6.mono H4.out.2.2.size)))
  obtain ⟨i1, hi1, hy0, hy1, hy2⟩ := info_parts B2.info27
  have HI := Lib.hid (And.intro hi1 (And.intro hy0 (And.intro hy1 hy2)))
  have hS2l : (Fr.cutS 1 0 z241).length = 2 := by rw [Fr.cutS_len, z_len, need241]
  have HOW := Lib.hid (show ((W2.alloc (.cells (cellsOf (List.replicate 256 0)).toArray 5)).alloc (.cells #[.slice (some ⟨W2.heap.size, 0, none⟩) 256 256] 23)).ownsRow 0 23 1 (.slice (some ⟨h2, 0, none⟩) 2 2) 2 (secs m2 2 2) from by
    have h := H6.out.1.own
    rw [hS2l] at h
    refine ⟨h.1, ?_⟩
    rcases h.2 with h5 | ⟨g, c, cur, k1, k2, k3⟩
    · exact .inl h5
    · exact .inr ⟨g, c, cur, k1, Nat.zero_le _, k3⟩)
  have hsrc := B2.one_any (W2.alloc (.cells (cellsOf (List.replicate 256 0)).toArray 5)) (.slice (some ⟨W2.heap.size, 0, none⟩) 256 256) 23
  rw [show (W2.alloc (.cells (cellsOf (List.replicate 256 0)).toArray 5)).heap.size = W2.heap.size + 1 by simp] at hsrc
  have HSRC := Lib.hid hsrc
  clear hsrc
  have HONE := Lib.hid (show ∀ u ∈ ([.slice (some ⟨W2.heap.size, 0, none⟩) 256 256] : List Value), u.oneCell' = true by simp [Value.oneCell'])
  clear hi1 hy0 hy1 hy2 hA5 hA6 H4
  go_wp2_with (at_builtin; refine B2.wpList_append_goes _ rfl (.tmp 63) (.tmp 65) 25 rfl 23 i1 (.slice none 0 0) 1 24 Try.underlying25 HI.out.1 HI.out.2.1 HI.out.2.2.1 HI.out.2.2.2 rfl (by decide) (.slice (some ⟨h2, 0, none⟩) 2 2) 2 (secs m2 2 2) rfl HOW.out ⟨W2.heap.size + 1, 0, none⟩ 1 1 [.slice (some ⟨W2.heap.size, 0, none⟩) 256 256] rfl rfl HSRC.out HONE.out (by decide) (by decide) (by decide) ?_; intro v' w4 hown hgo; have hb4 := app_new hown hgo (by decide); have H7 := Lib.hid (And.intro (H6.out.1.below hb4) (And.intro (HZ.out.below hb4) (H6.out.2.trans (hb4.mono H6.out.2.size)))); obtain ⟨g4, c4, rfl, hg4, hc4, hcell4⟩ := own_cells hown (by decide))
  have hR4 : Rws w4 (some ⟨g4, 0, none⟩) (Fr.cutS 1 0 z241 ++ [List.replicate 256 0]) := by
    refine H7.out.1.rws_more (zc := 256) (zb := W2.heap.size) H7.out.2.1 (by rw [List.length_replicate]; exact Nat.le_refl _) hg4 (fun i hi => ?_)
    simp only [hS2l, List.length_replicate] at hi ⊢
    exact hcell4 i hi
  have C4 := scan_any (some ⟨g4, 0, none⟩) (Fr.cutS 1 0 z241 ++ [List.replicate 256 0]) 3 c4 1 (by rw [List.length_append, hS2l]; rfl) (by decide) (by decide) w4 hR4
  rw [scan_known1] at C4
  simp only [Int.cast_ofNat_Int] at C4
  have H8 := Lib.hid (And.intro H7.out.1 H7.out.2.2)
  clear hR4 hcell4 hc4 hg4 hown hgo hb4 H7 HOW HSRC HONE HI H6 HZ
  go_at_call 19
  refine C4.mono ?_
  rintro e w5 ⟨hb5, v5, X5, rfl, hO5⟩
  obtain ⟨g5, c5, xa, xc, rfl, hcell5, _⟩ := hO5.cell 0 (by decide)
  have hlen1 : ([z241] : List (List Nat)).length = 1 := rfl
  have hlen2 : (([z241] : List (List Nat))[0]).length = 241 := z_len
  rw [hlen2] at hcell5
  rw [hlen1]
  simp only [Int.cast_ofNat_Int]
  have C5 := scan_any (some ⟨h2, 0, none⟩) (Fr.cutS 1 0 z241) 2 2 2 hS2l (by decide) (by decide) w5 (H8.out.1.below hb5).rws
  rw [scan_known2] at C5
  have H9 := Lib.hid (H8.out.2.trans (hb5.mono H8.out.2.size))
  have HC5 := Lib.hid hcell5
  clear hb5 hO5 hcell5 hlen1 hlen2 H8 C4
  go_wp2_with fail
  go_at_call 19
  refine C5.mono ?_
  rintro e w6 ⟨hb6, v6, X6, rfl, hO6⟩
  obtain ⟨a6, c6, rfl⟩ := hO6.shape
  have hc6 := cell_below HC5.out hb6
  have H10 := Lib.hid (H9.out.trans (hb6.mono H9.out.size))
  have hl0 : ([] : List (List Nat)).length = 0 := rfl
  rw [hl0]
  simp only [Int.cast_ofNat_Int]
  clear hb6 hO6 C5 H9 HC5 hl0
  go_wp2_with fail
  go_ret
  exact ⟨rfl, H10.out⟩
end Go.Proofs.Ytlegdaoidjpokaa
