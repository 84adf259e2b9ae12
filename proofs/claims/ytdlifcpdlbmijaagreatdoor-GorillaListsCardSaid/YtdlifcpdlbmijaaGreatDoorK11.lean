/-
  PACKED: BkA, LsK, BkB, LsL, LsM
-/
import Derived.Test.YtdlifcpdlbmijaaGreatDoorK01
import Derived.Test.YtdlifcpdlbmijaaGreatDoorK03
import Derived.Test.YtdlifcpdlbmijaaGreatDoorK10
import Derived.WalkKit
import Derived.WalkLawsBesides
import Derived.Lib.Hide
import Derived.Laws.BitsAllLaws
import Derived.Laws.Rows
import Derived.Laws.AppendOwnNone
import Derived.Laws.BytesString
import Derived.PlainAid
import Derived.Laws.OwnMore
import Derived.OwnWalk
import Derived.Deep.DeepAppendRoom
import Derived.Deep.AppendLies
set_option linter.unusedVariables false
set_option linter.unusedSimpArgs false
namespace Go.Proofs.YtdlifcpdlbmijaaGreatDoor.Bk
set_option linter.unusedVariables false
set_option linter.unusedSimpArgs false
open Go.RowKit Go.PlainAid
open B2 (Only)
section
variable {P : Program}
/-- where an append of at least one element goes: in place, with the same room; or to new memory, and then nothing that was there has turned -/
def Goes (w w' : World) (v v' : Value) (n m : Nat) : Prop :=
  (∃ g cap, v = .slice (some ⟨g, 0, none⟩) n cap ∧ v' = .slice (some ⟨g, 0, none⟩) (n + m) cap ∧ w.grownBy w' (some g)) ∨
  (∃ g cap, v' = .slice (some ⟨g, 0, none⟩) (n + m) cap ∧ w.heap.size ≤ g ∧ w.grownBy w' none)
theorem run_append_goes (w : World) (t ty e : TypeId) (i : TypeInfo) (z : Value) (size bytes : Nat) (ht : P.underlying t = some (.slice e)) (hi : P.info? e = some i) (hz : i.zero = some z)
    (hsize : i.size = size) (hby : i.bytes = bytes) (hzs : z.cells.size = size) (hsz : 0 < size)
    (v : Value) (n : Nat) (xs : List Value) (hown : w.ownsRow 0 e size v n xs)
    (a : Addr) (m c : Nat) (news : List Value) (hl : news.length = m * size) (hnews : ∀ j u, news[j]? = some u → w.cell? (a.add j) = some u) (h1 : ∀ u ∈ news, u.oneCell' = true)
    (h63 : n + m ≤ maxLen) (hbytes : (n + m) * bytes ≤ 140737488355328) (hm : 0 < m) :
    ∃ v' w', (Builtin.append_ #[t, t] ty #[v, .slice (some a) m c]).run P w = .ok v' w' ∧ w'.ownsRow 0 e size v' (n + m) (xs ++ news) ∧ Goes w w' v v' n m := by
  obtain ⟨v', w', hr, h2, h3, h4⟩ := run_append_own (P := P) w 0 t ty e i z size bytes ht hi hz hsize hby hzs hsz v n xs hown a m c news hl hnews h1 h63 hbytes (Nat.zero_le _)
  refine ⟨v', w', hr, h2, ?_⟩
  rcases hown.2 with ⟨rfl, rfl⟩ | ⟨g, cap, cur, rfl, hbg, hg, hnc, hcm, hcs, htake⟩
  · have hx : xs = [] := List.eq_nil_of_length_eq_zero (by simpa using hown.1)
    subst hx
    obtain ⟨v2, w2, hr2, k2, k3, k4⟩ := run_append_own (P := P) w w.heap.size t ty e i z size bytes ht hi hz hsize hby hzs hsz _ 0 [] (World.ownsRow_nil w _ e size) a m c news hl hnews h1 h63 hbytes (Nat.le_refl _)
    rw [hr] at hr2
    cases hr2
    rcases k2.2 with ⟨_, h0⟩ | ⟨g, cap, cur, hv, hg, _⟩
    · omega
    · exact .inr ⟨g, cap, hv, hg, h3⟩
  · by_cases hroom : n + m ≤ cap
    · have hfit : n * i.size + news.length ≤ cur.size := by rw [hl, hcs, hsize, ← Nat.add_mul]; exact Nat.mul_le_mul_right _ hroom
      have hr2 := run_append_room (P := P) w t ty e i ht hi g n cap cur hg a m c news (by rw [hsize]; exact hl) hnews h1 hroom hfit
      rw [hr] at hr2
      cases hr2
      exact .inl ⟨g, cap, rfl, rfl, h3⟩
    · have holds := hown.cells (g := g) rfl
      have hr2 := run_append_grow (P := P) w t ty e i z ht hi hz ⟨g, 0, none⟩ n cap xs (by rw [hsize]; exact hown.1) holds a m c news (by rw [hsize]; exact hl) hnews (by omega) (by simp only [maxLen] at h63; omega) (growslice_fits (by omega) (by rw [hby]; exact hbytes))
      rw [hr] at hr2
      cases hr2
      exact .inr ⟨_, _, rfl, Nat.le_refl _, ⟨rfl, rfl, rfl, by simp, fun k hk _ => Below.heap_alloc w.drew _ k hk⟩⟩
theorem wpList_append_goes (w : World) {ops : Array Oper} {rest : List Oper} {o : Oper} {a : Act} {Q : Exit → Act → World → Prop} (hgd : o.guard = none) (s x : Operand) (t : TypeId)
    (ho : o.op = .call { callee := .builtin .append, args := #[s, x], argTypes := #[t, t] })
    (e : TypeId) (i : TypeInfo) (z : Value) (size bytes : Nat) (ht : P.underlying t = some (.slice e)) (hi : P.info? e = some i) (hz : i.zero = some z)
    (hsize : i.size = size) (hby : i.bytes = bytes) (hzs : z.cells.size = size) (hsz : 0 < size)
    (v : Value) (n : Nat) (xs : List Value) (hs : a.eval s = v) (hown : w.ownsRow 0 e size v n xs)
    (ad : Addr) (m c : Nat) (news : List Value) (hx : a.eval x = .slice (some ad) m c) (hl : news.length = m * size) (hnews : ∀ j u, news[j]? = some u → w.cell? (ad.add j) = some u) (h1 : ∀ u ∈ news, u.oneCell' = true)
    (h63 : n + m ≤ maxLen) (hbytes : (n + m) * bytes ≤ 140737488355328) (hm : 0 < m)
    (h : ∀ v' w', w'.ownsRow 0 e size v' (n + m) (xs ++ news) → Goes w w' v v' n m → wpList P ops Q rest (a.put o.dst v') w') : wpList P ops Q (o :: rest) a w := by
  refine wpList_plain hgd fun K hK => ?_
  obtain ⟨v', w', hr, h2, h3⟩ := run_append_goes (P := P) w t o.type e i z size bytes ht hi hz hsize hby hzs hsz v n xs hown ad m c news hl hnews h1 h63 hbytes hm
  unfold Oper.wp execOp
  simp only [ho, resolve, invoke, builtin, Sem.run_bind, Sem.run_pure, Result.andThen_ok, List.map_toArray, List.map_cons, List.map_nil, hs, hx, hr]
  exact hK _ _ (h v' w' h2 h3)
end

theorem add_here (g j : Nat) : (⟨g, 0, none⟩ : Addr).add j = ⟨g, j, none⟩ := by unfold Addr.add; split <;> simp_all
theorem owns_only {w w' : World} {N e size n : Nat} {v : Value} {xs : List Value} (h : w.ownsRow N e size v n xs) {S : List Nat} (ho : Only S w w') (hn : ∀ g, v.ownBlock = some g → g ∉ S) : w'.ownsRow N e size v n xs := by
  refine ⟨h.1, ?_⟩
  rcases h.2 with h2 | ⟨g, cap, cur, hv, hg, hh, r⟩
  · exact .inl h2
  · exact .inr ⟨g, cap, cur, hv, hg, (ho.block g (Array.getElem?_eq_some_iff.1 hh).1 (hn g (by rw [hv]; rfl))).trans hh, r⟩
theorem owns_shape {w : World} {N e size n : Nat} {v : Value} {xs : List Value} (h : w.ownsRow N e size v n xs) : ∃ a c, v = .slice a n c := by
  rcases h.2 with ⟨hv, h0⟩ | ⟨g, cap, _, hv, _⟩
  · rw [hv, h0]; exact ⟨_, _, rfl⟩
  · exact ⟨_, _, hv⟩
theorem owns_lower {w : World} {N M e size n : Nat} {v : Value} {xs : List Value} (h : w.ownsRow N e size v n xs) (hM : M ≤ N) : w.ownsRow M e size v n xs := by
  refine ⟨h.1, ?_⟩
  rcases h.2 with h2 | ⟨g, cap, cur, hv, hg, r⟩
  · exact .inl h2
  · exact .inr ⟨g, cap, cur, hv, Nat.le_trans hM hg, r⟩
theorem owns_raise {w w' : World} {N M e size n : Nat} {v : Value} {xs : List Value} (h : w.ownsRow N e size v n xs) (hM : ∀ g, v.ownBlock = some g → M ≤ g) : w.ownsRow M e size v n xs := by
  refine ⟨h.1, ?_⟩
  rcases h.2 with h2 | ⟨g, cap, cur, hv, hg, r⟩
  · exact .inl h2
  · exact .inr ⟨g, cap, cur, hv, hM g (by rw [hv]; rfl), r⟩
/-- cells written one behind the other -/
def put (w : World) (g : Nat) : Nat → List Value → World
  | _, [] => w
  | off, u :: us => put (w.setCell ⟨g, off, none⟩ u) g (off + 1) us
theorem put_owns {N e sz n cap g : Nat} : ∀ (us : List Value) (w : World) (A B D : List Value), B.length = us.length → w.ownsRow N e sz (.slice (some ⟨g, 0, none⟩) n cap) n (A ++ B ++ D) →
    (put w g A.length us).ownsRow N e sz (.slice (some ⟨g, 0, none⟩) n cap) n (A ++ us ++ D) ∧ Only [g] w (put w g A.length us)
  | [], w, A, B, D, hl, h => by
    have : B = [] := List.eq_nil_of_length_eq_zero hl
    subst this
    exact ⟨h, Only.refl _ _⟩
  | u :: us, w, A, b :: B, D, hl, h => by
    obtain ⟨h1, _⟩ := h.stored A.length u
    have e : (A ++ (b :: B) ++ D).set A.length u = (A ++ [u]) ++ B ++ D := by simp
    rw [e] at h1
    obtain ⟨h2, h3⟩ := put_owns us (w.setCell ⟨g, A.length, none⟩ u) (A ++ [u]) B D (by simpa using hl) h1
    rw [List.length_append, List.length_singleton] at h2 h3
    refine ⟨by simpa [put] using h2, ?_⟩
    exact ((Only.refl [g] w).setCell (p := ⟨g, A.length, none⟩) (.inl (by simp)) u).trans h3 (fun x hx => .inl hx)
  | u :: us, w, A, [], D, hl, h => by simp at hl
section
variable (e sz : Nat) (m1 m2 : Nat → Nat → List Value)
/-- the marks of a row -/
def Cm (m1 : Nat → Nat → List Value) (j k : Nat) : List Value := (List.range k).flatMap (m1 j)
theorem Cm_succ (j k : Nat) : Cm m1 j (k + 1) = Cm m1 j k ++ m1 j k := by simp [Cm, List.range_succ]
theorem Cm_length (h1 : ∀ i k, (m1 i k).length = sz) (j k : Nat) : (Cm m1 j k).length = k * sz := by
  induction k with
  | zero => simp [Cm]
  | succ k ih => rw [Cm_succ, List.length_append, ih, h1, Nat.succ_mul]
theorem Cm_get (h1 : ∀ i k, (m1 i k).length = sz) (j : Nat) : ∀ (n k t : Nat), k < n → t < sz → (Cm m1 j n)[k * sz + t]? = (m1 j k)[t]?
  | 0, k, t, hk, ht => by omega
  | n + 1, k, t, hk, ht => by
    have hl := Cm_length sz m1 h1 j n
    rw [Cm_succ]
    by_cases hkn : k = n
    · subst hkn
      rw [List.getElem?_append_right (by omega), hl, show k * sz + t - k * sz = t by omega]
    · have h2 : (k + 1) * sz ≤ n * sz := Nat.mul_le_mul_right _ (by omega)
      rw [Nat.succ_mul] at h2
      rw [List.getElem?_append_left (by omega)]
      exact Cm_get h1 j n k t (by omega) ht
/-- rows, each in a block of its own or nil -/
structure Lots (w : World) (N : Nat) (X : Nat → Value) (L : Nat → Nat) (C : Nat → List Value) : Prop where
  own : ∀ i, w.ownsRow N e sz (X i) (L i) (C i)
  apart : ∀ i j, i ≠ j → (X i).ownBlock = none ∨ (X i).ownBlock ≠ (X j).ownBlock
theorem Lots.only {e sz : Nat} {w w' : World} {N : Nat} {X : Nat → Value} {L : Nat → Nat} {C : Nat → List Value} (h : Lots e sz w N X L C) {S : List Nat} (ho : Only S w w') (hn : ∀ i g, (X i).ownBlock = some g → g ∉ S) : Lots e sz w' N X L C :=
  ⟨fun i => owns_only (h.own i) ho (hn i), h.apart⟩
/-- the slice of slices itself -/
def Outer (w : World) (a : Option Addr) (h n : Nat) (X : Nat → Value) : Prop := 0 < n → a = some ⟨h, 0, none⟩ ∧ h < w.heap.size ∧ ∀ i, i < n → w.cell? ⟨h, i, none⟩ = some (X i)
theorem Outer.only {w w' : World} {a : Option Addr} {h n : Nat} {X : Nat → Value} (H : Outer w a h n X) {S : List Nat} (ho : Only S w w') (hn : h ∉ S) : Outer w' a h n X := fun h0 => by
  obtain ⟨e, hl, hc⟩ := H h0
  exact ⟨e, Nat.lt_of_lt_of_le hl ho.size, fun i hi => (ho.cell (p := ⟨h, i, none⟩) hl hn).trans (hc i hi)⟩
/-- the first rows have their marks, the row i those ahead of k -/
structure Marked (S : List Nat) (w : World) (N : Nat) (X : Nat → Value) (L : Nat → Nat) (a : Option Addr) (h n i k : Nat) (wr : World) : Prop where
  rows : ∃ C, Lots e sz wr N X L C ∧ (∀ j, j < i → C j = Cm m1 j (L j)) ∧ (C i).take (k * sz) = Cm m1 i k
  outer : Outer wr a h n X
  only : Only S w wr
variable {e sz m1 m2} {S : List Nat}
theorem Marked.stay {w wr w' : World} {N h n i k : Nat} {X : Nat → Value} {L : Nat → Nat} {a : Option Addr} (H : Marked e sz m1 S w N X L a h n i k wr) (hb : Below wr.heap.size wr w') : Marked e sz m1 S w N X L a h n i k w' := by
  obtain ⟨C, hL, h1, h2⟩ := H.rows
  exact ⟨⟨C, hL.only (Only.of_below hb []) (fun _ _ _ => by simp), h1, h2⟩, H.outer.only (Only.of_below hb []) (by simp), H.only.trans (Only.of_below hb []) (by simp)⟩
theorem Marked.shape {w wr : World} {N h n i k : Nat} {X : Nat → Value} {L : Nat → Nat} {a : Option Addr} (H : Marked e sz m1 S w N X L a h n i k wr) (j : Nat) : ∃ a' cap', X j = .slice a' (L j) cap' := by
  obtain ⟨C, hL, _⟩ := H.rows
  exact owns_shape (hL.own j)
theorem Marked.zero {w : World} {N h n : Nat} {X : Nat → Value} {L : Nat → Nat} {a : Option Addr} {C : Nat → List Value} (hL : Lots e sz w N X L C) (hO : Outer w a h n X) : Marked e sz m1 S w N X L a h n 0 0 w :=
  ⟨⟨C, hL, fun j hj => by omega, by simp [Cm]⟩, hO, Only.refl _ _⟩
/-- the element k of the row i is written -/
theorem Marked.cell {w wr : World} {N h n i k : Nat} {X : Nat → Value} {L : Nat → Nat} {a : Option Addr} (h1 : ∀ i k, (m1 i k).length = sz) (hsz : 0 < sz) (H : Marked e sz m1 S w N X L a h n i k wr) (hk : k < L i) (hh : ∀ j g, (X j).ownBlock = some g → g ≠ h) (hS : ∀ j g, (X j).ownBlock = some g → g ∈ S) :
    ∃ g cap xs, X i = .slice (some ⟨g, 0, none⟩) (L i) cap ∧ N ≤ g ∧ g < wr.heap.size ∧ k * sz + sz ≤ L i * sz ∧ wr.ownsRow N e sz (.slice (some ⟨g, 0, none⟩) (L i) cap) (L i) xs ∧ Marked e sz m1 S w N X L a h n i (k + 1) (put wr g (k * sz) (m1 i k)) := by
  obtain ⟨C, hL, hC, hCi⟩ := H.rows
  have hb : k * sz + sz ≤ L i * sz := by rw [← Nat.succ_mul]; exact Nat.mul_le_mul_right _ hk
  obtain ⟨hlen, hr⟩ := hL.own i
  rcases hr with ⟨_, h0⟩ | ⟨g, cap, cur, hX, hg, hhp, hr⟩
  · omega
  · have hown := hL.own i
    rw [hX] at hown
    have hA : ((C i).take (k * sz)).length = k * sz := by rw [List.length_take, hlen]; omega
    have e3 : C i = (C i).take (k * sz) ++ ((C i).drop (k * sz)).take sz ++ (C i).drop (k * sz + sz) := by
      rw [List.append_assoc, ← List.drop_drop, List.take_append_drop, List.take_append_drop]
    have hB : (((C i).drop (k * sz)).take sz).length = (m1 i k).length := by rw [h1, List.length_take, List.length_drop, hlen]; omega
    have hown2 := hown
    rw [e3] at hown2
    obtain ⟨p1, p2⟩ := put_owns (m1 i k) wr _ _ _ hB hown2
    rw [hA] at p1 p2
    refine ⟨g, cap, C i, hX, hg, (Array.getElem?_eq_some_iff.1 hhp).1, hb, hown, ⟨⟨fun j => if j = i then (C i).take (k * sz) ++ m1 i k ++ (C i).drop (k * sz + sz) else C j, ⟨fun j => ?_, hL.apart⟩, fun j hj => ?_, ?_⟩, ?_, ?_⟩⟩
    · by_cases hj : j = i
      · subst hj
        rw [if_pos rfl, hX]
        exact p1
      · rw [if_neg hj]
        refine owns_only (hL.own j) p2 (fun g' hg' => ?_)
        rcases hL.apart j i hj with h2 | h2
        · rw [h2] at hg'; cases hg'
        · rw [hg', hX] at h2
          simp only [Value.ownBlock] at h2
          intro hm
          simp only [List.mem_singleton] at hm
          exact h2 (by rw [hm])
    · show (if j = i then _ else C j) = _
      rw [if_neg (by omega)]
      exact hC j hj
    · show (if i = i then _ else C i).take _ = _
      rw [if_pos rfl, Cm_succ, hCi, List.take_append_of_le_length (by rw [List.length_append, Cm_length sz m1 h1, h1, Nat.succ_mul]; exact Nat.le_refl _)]
      exact List.take_of_length_le (by rw [List.length_append, Cm_length sz m1 h1, h1, Nat.succ_mul]; exact Nat.le_refl _)
    · exact H.outer.only p2 (by
        have := hh i g (by rw [hX]; rfl)
        simpa using this.symm)
    · exact H.only.trans p2 (fun x hx => by simp at hx; subst hx; exact .inl (hS i x (by rw [hX]; rfl)))
theorem Marked.next {w wr : World} {N h n i k : Nat} {X : Nat → Value} {L : Nat → Nat} {a : Option Addr} (H : Marked e sz m1 S w N X L a h n i k wr) (hk : k = L i) : Marked e sz m1 S w N X L a h n (i + 1) 0 wr := by
  obtain ⟨C, hL, hC, hCi⟩ := H.rows
  refine ⟨⟨C, hL, fun j hj => ?_, by simp [Cm]⟩, H.outer, H.only⟩
  by_cases hji : j = i
  · subst hji
    rw [List.take_of_length_le (by rw [(hL.own j).1, hk]; exact Nat.le_refl _)] at hCi
    rw [← hk]; exact hCi
  · exact hC j (by omega)
theorem Marked.all {w wr : World} {N h n : Nat} {X : Nat → Value} {L : Nat → Nat} {a : Option Addr} (H : Marked e sz m1 S w N X L a h n n 0 wr) (hz : ∀ j, n ≤ j → L j = 0) : Lots e sz wr N X L (fun j => Cm m1 j (L j)) := by
  obtain ⟨C, hL, hC, _⟩ := H.rows
  have e1 : C = fun j => Cm m1 j (L j) := by
    funext j
    by_cases hj : j < n
    · exact hC j hj
    · have h0 := hz j (by omega)
      have hlen := (hL.own j).1
      rw [h0, Nat.zero_mul] at hlen
      rw [h0, List.eq_nil_of_length_eq_zero hlen]
      rfl
  rw [← e1]; exact hL
/-- a row with all its marks, and k of the others behind them -/
def Dm (m1 m2 : Nat → Nat → List Value) (L : Nat → Nat) (j k : Nat) : List Value := Cm m1 j (L j) ++ Cm m2 j k
theorem Dm_succ (L : Nat → Nat) (j k : Nat) : Dm m1 m2 L j (k + 1) = Dm m1 m2 L j k ++ m2 j k := by unfold Dm; rw [Cm_succ, List.append_assoc]
theorem Dm_zero (L : Nat → Nat) (j : Nat) : Dm m1 m2 L j 0 = Cm m1 j (L j) := by simp [Dm, Cm]
/-- one row, k marks longer -/
structure Ext (e sz : Nat) (m1 m2 : Nat → Nat → List Value) (w0 : World) (N : Nat) (X : Nat → Value) (L : Nat → Nat) (i k : Nat) (xv : Value) (wr : World) : Prop where
  own : wr.ownsRow 0 e sz xv (L i + k) (Dm m1 m2 L i k)
  pos : (∃ g cap, X i = .slice (some ⟨g, 0, none⟩) (L i) cap ∧ xv = .slice (some ⟨g, 0, none⟩) (L i + k) cap) ∨ (k = 0 ∧ xv = X i) ∨ (∃ g cap, xv = .slice (some ⟨g, 0, none⟩) (L i + k) cap ∧ w0.heap.size ≤ g)
  xi : wr.ownsRow N e sz (X i) (L i) (Cm m1 i (L i))
  only : Only (X i).ownBlock.toList w0 wr
theorem Ext.shape {w0 wr : World} {N i k : Nat} {X : Nat → Value} {L : Nat → Nat} {xv : Value} (H : Ext e sz m1 m2 w0 N X L i k xv wr) : ∃ a' cap', xv = .slice a' (L i + k) cap' := owns_shape H.own
theorem Ext.zero {w0 : World} {N i : Nat} {X : Nat → Value} {L : Nat → Nat} (h : w0.ownsRow N e sz (X i) (L i) (Cm m1 i (L i))) : Ext e sz m1 m2 w0 N X L i 0 (X i) w0 :=
  ⟨by rw [Dm_zero]; exact owns_lower h (Nat.zero_le _), .inr (.inl ⟨rfl, rfl⟩), h, Only.refl _ _⟩
theorem Ext.stay {w0 wr w' : World} {N i k : Nat} {X : Nat → Value} {L : Nat → Nat} {xv : Value} (H : Ext e sz m1 m2 w0 N X L i k xv wr) (hb : Below wr.heap.size wr w') : Ext e sz m1 m2 w0 N X L i k xv w' :=
  ⟨owns_only H.own (Only.of_below hb []) (fun _ _ => by simp), H.pos, owns_only H.xi (Only.of_below hb []) (fun _ _ => by simp), H.only.trans (Only.of_below hb []) (by simp)⟩
theorem owns_in_place {w' : World} {N g n m cap : Nat} {xs news : List Value} {v : Value} (h : w'.ownsRow 0 e sz v (n + m) (xs ++ news)) (hv : v = .slice (some ⟨g, 0, none⟩) (n + m) cap) (hl : xs.length = n * sz) (hN : N ≤ g) (hc : n ≤ cap) : w'.ownsRow N e sz (.slice (some ⟨g, 0, none⟩) n cap) n xs := by
  rcases h.2 with ⟨h1, _⟩ | ⟨g2, cap2, cur, h1, _, hh, h2, h3, h4, h5⟩
  · rw [hv] at h1; cases h1
  · rw [hv] at h1
    cases h1
    refine ⟨hl, .inr ⟨g, cap, cur, rfl, hN, hh, hc, h3, h4, ?_⟩⟩
    have := congrArg (List.take (n * sz)) h5
    rw [List.take_take, Nat.min_eq_left (by rw [Nat.add_mul]; omega), List.take_left' hl] at this
    exact this
theorem Ext.step {w0 wr w' : World} {N i k : Nat} {X : Nat → Value} {L : Nat → Nat} {xv v' : Value} {o : Obj} (h1 : ∀ i k, (m1 i k).length = sz) (H : Ext e sz m1 m2 w0 N X L i k xv wr) (hown : w'.ownsRow 0 e sz v' (L i + k + 1) (Dm m1 m2 L i k ++ m2 i k)) (hg : Goes (wr.alloc o) w' xv v' (L i + k) 1) (hXl : ∀ g, (X i).ownBlock = some g → g < w0.heap.size ∧ N ≤ g) :
    Ext e sz m1 m2 w0 N X L i (k + 1) v' w' := by
  have hs := H.only.size
  have hown2 : w'.ownsRow 0 e sz v' (L i + (k + 1)) (Dm m1 m2 L i (k + 1)) := by rw [Dm_succ]; exact hown
  have hxi := owns_only H.xi ((Only.refl [] wr).alloc o) (fun _ _ => by simp)
  rcases hg with ⟨g, cap, hv, hv', hgr⟩ | ⟨g, cap, hv', hgl, hgr⟩
  · have hpos : (X i = .slice (some ⟨g, 0, none⟩) (L i) cap) ∨ w0.heap.size ≤ g := by
      rcases H.pos with ⟨g2, c2, e1, e2⟩ | ⟨e1, e2⟩ | ⟨g2, c2, e2, e3⟩
      · rw [hv] at e2; cases e2; exact .inl e1
      · subst e1; rw [hv] at e2; exact .inl e2.symm
      · rw [hv] at e2; cases e2; exact .inr e3
    rcases hpos with hp | hp
    · refine ⟨hown2, .inl ⟨g, cap, hp, hv'⟩, ?_, ?_⟩
      · rw [hp]
        have hc : L i ≤ cap := by
          rcases hxi.2 with ⟨h1, _⟩ | ⟨g2, c2, _, h1, _, _, h2, _⟩
          · rw [hp] at h1; cases h1
          · rw [hp] at h1; cases h1; exact h2
        exact owns_in_place hown2 hv' (Cm_length sz m1 h1 i (L i)) (hXl g (by rw [hp]; rfl)).2 hc
      · exact (H.only.alloc o).grown hgr (fun k hk => by cases hk; exact .inl (by rw [hp]; simp [Value.ownBlock]))
    · refine ⟨hown2, .inr (.inr ⟨g, cap, hv', hp⟩), ?_, ?_⟩
      · refine owns_only hxi ((Only.refl [g] _).grown hgr (fun k hk => by cases hk; exact .inl (by simp))) (fun g2 hg2 => ?_)
        have := (hXl g2 hg2).1
        simp; omega
      · exact (H.only.alloc o).grown hgr (fun k hk => by cases hk; exact .inr hp)
  · refine ⟨hown2, .inr (.inr ⟨g, cap, hv', by simp at hgl; omega⟩), ?_, ?_⟩
    · exact owns_only hxi ((Only.refl [] _).grown hgr (fun k hk => by cases hk)) (fun _ _ => by simp)
    · exact (H.only.alloc o).grown hgr (fun k hk => by cases hk)
/-- the longer rows, i of them; te: the type of a row -/
structure Long (te e sz : Nat) (m1 m2 : Nat → Nat → List Value) (S : List Nat) (w : World) (N : Nat) (X : Nat → Value) (L : Nat → Nat) (a : Option Addr) (h n M i : Nat) (vl : Value) (Y : Nat → Value) (wr : World) : Prop where
  rows : Lots e sz wr N X L (fun j => Cm m1 j (L j))
  outer : Outer wr a h n X
  only : Only S w wr
  own : wr.ownsRow 0 te 1 vl i ((List.range i).map Y)
  each : ∀ j, j < i → ∃ g cap, Y j = .slice (some ⟨g, 0, none⟩) (L j + 16) cap ∧ wr.ownsRow 0 e sz (Y j) (L j + 16) (Dm m1 m2 L j 16) ∧ ((X j).ownBlock = some g ∨ M ≤ g) ∧ vl.ownBlock ≠ some g ∧ g < wr.heap.size
  pos : ∀ g, vl.ownBlock = some g → M ≤ g ∧ g < wr.heap.size
  size : M ≤ wr.heap.size
/-- what holds of the rows' places all the while -/
structure Places (N M h : Nat) (X : Nat → Value) : Prop where
  lt : ∀ j g, (X j).ownBlock = some g → g < M ∧ N ≤ g
  ne : ∀ j g, (X j).ownBlock = some g → g ≠ h
  h : h < M
  apart : ∀ i j, i ≠ j → (X i).ownBlock = none ∨ (X i).ownBlock ≠ (X j).ownBlock
  nm : N ≤ M
theorem Long.shape {te : Nat} {w wr : World} {N h n M i : Nat} {X : Nat → Value} {L : Nat → Nat} {a : Option Addr} {vl : Value} {Y : Nat → Value} (H : Long te e sz m1 m2 S w N X L a h n M i vl Y wr) : ∃ a' cap', vl = .slice a' i cap' := owns_shape H.own
theorem Long.stay {te : Nat} {w wr w' : World} {N h n M i : Nat} {X : Nat → Value} {L : Nat → Nat} {a : Option Addr} {vl : Value} {Y : Nat → Value} (H : Long te e sz m1 m2 S w N X L a h n M i vl Y wr) (hb : Below wr.heap.size wr w') : Long te e sz m1 m2 S w N X L a h n M i vl Y w' := by
  have ho := Only.of_below hb []
  have hs := H.size
  refine ⟨H.rows.only ho (fun _ _ _ => by simp), H.outer.only ho (by simp), H.only.trans ho (by simp), owns_only H.own ho (fun _ _ => by simp), fun j hj => ?_, fun g hg => ?_, Nat.le_trans H.size hb.size⟩
  · obtain ⟨g, cap, e1, e2, e3, e4, e5⟩ := H.each j hj
    exact ⟨g, cap, e1, owns_only e2 ho (fun _ _ => by simp), e3, e4, Nat.lt_of_lt_of_le e5 hb.size⟩
  · have h1 := H.pos g hg
    exact ⟨h1.1, Nat.lt_of_lt_of_le h1.2 hb.size⟩
theorem Long.step {te : Nat} {w w0 wr w2 : World} {N h n M i : Nat} {X : Nat → Value} {L : Nat → Nat} {a : Option Addr} {vl v' xv : Value} {Y : Nat → Value} {o : Obj} (P : Places N M h X) (H : Long te e sz m1 m2 S w N X L a h n M i vl Y w0) (E : Ext e sz m1 m2 w0 N X L i 16 xv wr)
    (hown : w2.ownsRow 0 te 1 v' (i + 1) ((List.range i).map Y ++ [xv])) (hg : Goes (wr.alloc o) w2 vl v' i 1) (hSS : ∀ j g, (X j).ownBlock = some g → g ∈ S) (hMw : w.heap.size ≤ M) : Long te e sz m1 m2 S w N X L a h n M (i + 1) v' (fun j => if j = i then xv else Y j) w2 := by
  have s0 := H.size
  have s1 := E.only.size
  -- what the last append may have turned
  obtain ⟨T, hT, hTv⟩ : ∃ T : List Nat, Only T (wr.alloc o) w2 ∧ ∀ x ∈ T, vl.ownBlock = some x := by
    rcases hg with ⟨g, cap, hv, hv', hgr⟩ | ⟨g, cap, hv', hgl, hgr⟩
    · exact ⟨[g], (Only.refl [g] _).grown hgr (fun k hk => by cases hk; exact .inl (by simp)), fun x hx => by simp at hx; subst hx; rw [hv]; rfl⟩
    · exact ⟨[], (Only.refl [] _).grown hgr (fun k hk => by cases hk), fun x hx => by simp at hx⟩
  have hT2 : Only T wr w2 := ((Only.refl T wr).alloc o).trans hT (fun x hx => .inl hx)
  have s2 := hT2.size
  have hS : ∀ x ∈ (X i).ownBlock.toList, (X i).ownBlock = some x := fun x hx => by simpa using hx
  have hX : ∀ j g, j ≠ i → (X j).ownBlock = some g → g ∉ (X i).ownBlock.toList := fun j g hj hg hm => by
    have := hS g hm
    rcases P.apart j i hj with h1 | h1
    · rw [h1] at hg; cases hg
    · exact h1 (by rw [hg, this])
  have hXT : ∀ j g, (X j).ownBlock = some g → g ∉ T := fun j g hg hm => by
    have h1 := (H.pos g (hTv g hm)).1
    have h2 := (P.lt j g hg).1
    omega
  -- the new value's place
  have hv'pos : (v'.ownBlock = vl.ownBlock) ∨ (∃ g, v'.ownBlock = some g ∧ wr.heap.size ≤ g ∧ g < w2.heap.size) := by
    rcases hg with ⟨g, cap, hv, hv', hgr⟩ | ⟨g, cap, hv', hgl, hgr⟩
    · exact .inl (by rw [hv, hv']; rfl)
    · refine .inr ⟨g, by rw [hv']; rfl, by simp at hgl; omega, ?_⟩
      exact (hown.lt g (by rw [hv']; rfl)).2
  have hxv : ∃ g cap, xv = .slice (some ⟨g, 0, none⟩) (L i + 16) cap ∧ ((X i).ownBlock = some g ∨ w0.heap.size ≤ g) := by
    rcases E.pos with ⟨g2, c2, e1, e2⟩ | ⟨e1, e2⟩ | ⟨g2, c2, e2, e3⟩
    · exact ⟨g2, c2, e2, .inl (by rw [e1]; rfl)⟩
    · omega
    · exact ⟨g2, c2, e2, .inr e3⟩
  obtain ⟨gx, cx, hxe, hxp⟩ := hxv
  have hgxl : gx < wr.heap.size := (E.own.lt gx (by rw [hxe]; rfl)).2
  have hgxv : vl.ownBlock ≠ some gx := fun e => by
    have h1 := H.pos gx e
    rcases hxp with h2 | h2
    · have := (P.lt i gx h2).1; omega
    · omega
  have hgxT : gx ∉ T := fun hm => hgxv (hTv gx hm)
  refine ⟨⟨fun j => ?_, P.apart⟩, ?_, ?_, ?_, fun j hj => ?_, fun g hg2 => ?_, by omega⟩
  · by_cases hj : j = i
    · subst hj; exact owns_only E.xi hT2 (hXT j)
    · exact owns_only (owns_only (H.rows.own j) E.only (fun g hg => hX j g hj hg)) hT2 (hXT j)
  · refine (H.outer.only E.only (fun hm => ?_)).only hT2 (fun hm => ?_)
    · exact P.ne i h (hS h hm) rfl
    · have := (H.pos h (hTv h hm)).1; have := P.h; omega
  · refine (H.only.trans E.only (fun x hx => .inl (hSS i x (hS x hx)))).trans hT2 (fun x hx => .inr ?_)
    have := (H.pos x (hTv x hx)).1; omega
  · have e : (List.range (i + 1)).map (fun j => if j = i then xv else Y j) = (List.range i).map Y ++ [xv] := by
      rw [List.range_succ, List.map_append]
      congr 1
      · apply List.map_congr_left
        intro j hj
        have : j ≠ i := by have := List.mem_range.1 hj; omega
        simp [this]
      · simp
    rw [e]; exact hown
  · by_cases hji : j = i
    · subst hji
      simp only [if_true]
      refine ⟨gx, cx, hxe, owns_only E.own hT2 (fun g hg => by rw [hxe] at hg; cases hg; exact hgxT), ?_, ?_, by omega⟩
      · rcases hxp with h2 | h2
        · exact .inl h2
        · exact .inr (by omega)
      · rcases hv'pos with h1 | ⟨g, h1, h2, _⟩
        · rw [h1]; exact hgxv
        · rw [h1]; intro e; injection e with e; omega
    · obtain ⟨g, cap, e1, e2, e3, e4, e5⟩ := H.each j (by omega)
      simp only [hji, if_false]
      have hgS : g ∉ (X i).ownBlock.toList := fun hm => by
        rcases e3 with h1 | h1
        · exact hX j g hji h1 hm
        · have := (P.lt i g (hS g hm)).1; omega
      have hgT : g ∉ T := fun hm => e4 (hTv g hm)
      refine ⟨g, cap, e1, owns_only (owns_only e2 E.only (fun g' hg' => by rw [e1] at hg'; cases hg'; exact hgS)) hT2 (fun g' hg' => by rw [e1] at hg'; cases hg'; exact hgT), e3, ?_, by omega⟩
      rcases hv'pos with h1 | ⟨g', h1, h2, _⟩
      · rw [h1]; exact e4
      · rw [h1]; intro e; injection e with e; omega
  · rcases hv'pos with h1 | ⟨g', h1, h2, h3⟩
    · rw [h1] at hg2
      have := H.pos g hg2; omega
    · rw [h1] at hg2; injection hg2 with hg2; omega
theorem Dm_low (h1 : ∀ i k, (m1 i k).length = sz) (L : Nat → Nat) (i k t : Nat) (hk : k < L i) (ht : t < sz) : (Dm m1 m2 L i 16)[k * sz + t]? = (m1 i k)[t]? := by
  have h2 : (k + 1) * sz ≤ L i * sz := Nat.mul_le_mul_right _ (by omega)
  rw [Nat.succ_mul] at h2
  unfold Dm
  rw [List.getElem?_append_left (by rw [Cm_length sz m1 h1]; omega)]
  exact Cm_get sz m1 h1 i (L i) k t hk ht
theorem Dm_high (h1 : ∀ i k, (m1 i k).length = sz) (h2 : ∀ i k, (m2 i k).length = sz) (L : Nat → Nat) (i k t : Nat) (hk : k < 16) (ht : t < sz) : (Dm m1 m2 L i 16)[(L i + k) * sz + t]? = (m2 i k)[t]? := by
  unfold Dm
  rw [List.getElem?_append_right (by rw [Cm_length sz m1 h1, Nat.add_mul]; omega), Cm_length sz m1 h1, Nat.add_mul, show L i * sz + k * sz + t - L i * sz = k * sz + t by omega]
  exact Cm_get sz m2 h2 i 16 k t hk ht
/-- what the last look meets -/
theorem Long.look {te : Nat} {w wr : World} {N h n M i : Nat} {X : Nat → Value} {L : Nat → Nat} {a : Option Addr} {vl : Value} {Y : Nat → Value} (h1 : ∀ i k, (m1 i k).length = sz) (h2 : ∀ i k, (m2 i k).length = sz) (H : Long te e sz m1 m2 S w N X L a h n M i vl Y wr) (t : Nat) (ht : t < i) :
    ∃ gl cl gy cy, vl = .slice (some ⟨gl, 0, none⟩) i cl ∧ wr.cell? ⟨gl, t, none⟩ = some (.slice (some ⟨gy, 0, none⟩) (L t + 16) cy) ∧ (∀ k j u, k < L t → j < sz → (m1 t k)[j]? = some u → wr.cell? ⟨gy, k * sz + j, none⟩ = some u) ∧ (∀ k j u, k < 16 → j < sz → (m2 t k)[j]? = some u → wr.cell? ⟨gy, (L t + k) * sz + j, none⟩ = some u) ∧
      (∀ k j u, k < L t → j < sz → (m1 t k)[j]? = some u → ∃ g cap, X t = .slice (some ⟨g, 0, none⟩) (L t) cap ∧ wr.cell? ⟨g, k * sz + j, none⟩ = some u) := by
  obtain ⟨gy, cy, e1, e2, _⟩ := H.each t ht
  have hvl : ∃ gl cl, vl = .slice (some ⟨gl, 0, none⟩) i cl := by
    rcases H.own.2 with ⟨_, h0⟩ | ⟨g, cap, _, hv, _⟩
    · omega
    · exact ⟨g, cap, hv⟩
  obtain ⟨gl, cl, hvl⟩ := hvl
  refine ⟨gl, cl, gy, cy, hvl, ?_, fun k j u hk hj hu => ?_, fun k j u hk hj hu => ?_, fun k j u hk hj hu => ?_⟩
  · have := H.own.cells (g := gl) (by rw [hvl]; rfl) t (Y t) (by simp [ht])
    rw [add_here] at this
    rw [this, e1]
  · have := e2.cells (g := gy) (by rw [e1]; rfl) (k * sz + j) u (by rw [Dm_low h1 L t k j hk hj]; exact hu)
    rw [add_here] at this
    exact this
  · have := e2.cells (g := gy) (by rw [e1]; rfl) ((L t + k) * sz + j) u (by rw [Dm_high h1 h2 L t k j hk hj]; exact hu)
    rw [add_here] at this
    exact this
  · have hb : (k + 1) * sz ≤ L t * sz := Nat.mul_le_mul_right _ (by omega)
    have ho := H.rows.own t
    rcases ho.2 with ⟨_, h0⟩ | ⟨g, cap, _, hv, _⟩
    · omega
    · refine ⟨g, cap, hv, ?_⟩
      have := ho.cells (g := g) (by rw [hv]; rfl) (k * sz + j) u (by rw [Cm_get sz m1 h1 t (L t) k j hk hj]; exact hu)
      rw [add_here] at this
      exact this
end
end Go.Proofs.YtdlifcpdlbmijaaGreatDoor.Bk
namespace Go.Proofs.YtdlifcpdlbmijaaGreatDoor
set_option linter.unusedVariables false
set_option linter.unusedSimpArgs false
open Go.RowKit Go.PlainAid
open B2 (Only)
def osm1 (i k : Nat) : List Value := [(.int .i64 ((i : Int) * 1000 + (k : Int))), (.int .u64 0)]
def osm2 (i k : Nat) : List Value := [(.int .i64 ((-1 - (i : Int)) * 1000 + (k : Int))), (.int .u64 0)]
theorem osm1_len (i k : Nat) : (osm1 i k).length = 2 := rfl
theorem osm2_len (i k : Nat) : (osm2 i k).length = 2 := rfl
theorem osm_info : (Tryz.prog.info? 79).map (fun i => (i.zero, i.size, i.bytes)) = some (some (.agg #[.int .i64 0, .int .u64 0]), 2, 16) := by kernel_rfl
theorem osm_row : (Tryz.prog.info? 22).map (fun i => (i.zero, i.size, i.bytes)) = some (some (.slice none 0 0), 1, 24) := by kernel_rfl
theorem osm_new (W : World) (Z : Int) : ∀ (j : Nat) (x : Value), ([(.int .i64 Z), (.int .u64 0)] : List Value)[j]? = some x → (W.alloc (.cells #[(.int .i64 Z), (.int .u64 0)] 79)).cell? ((⟨W.heap.size, 0, none⟩ : Addr).add j) = some x := World.news_of_block (heap_alloc_new W _)
theorem osm_one (W : World) (u : Value) (t : TypeId) : ∀ (j : Nat) (x : Value), [u][j]? = some x → (W.alloc (.cells #[u] t)).cell? ((⟨W.heap.size, 0, none⟩ : Addr).add j) = some x := World.news_of_block (heap_alloc_new W _)
theorem neq79 (Z : Int) (W : World) : (binOp .neq 79 (.agg #[.int .i64 Z, .int .u64 0]) (.agg #[.int .i64 Z, .int .u64 0])).run Tryz.prog W = .ok (.bool false) W := by
  have h := neq70 ⟨Z, 0⟩ ⟨Z, 0⟩ W
  simpa using h
theorem osm_put {S : List Nat} {w wr : World} {N h n i k : Nat} {X : Nat → Value} {L : Nat → Nat} {a : Option Addr} (H : Bk.Marked 79 2 osm1 S w N X L a h n i k wr) (hk : k < L i) (hh : ∀ j g, (X j).ownBlock = some g → g ≠ h) (hS : ∀ j g, (X j).ownBlock = some g → g ∈ S) (Z : Int) (hZ : (i : Int) * 1000 + (k : Int) = Z) :
    ∃ g cap u0 u1, X i = .slice (some ⟨g, 0, none⟩) (L i) cap ∧ (wr.cell? ⟨g, k * 2, none⟩ = some u0 ∧ wr.frozen? ⟨g, k * 2, none⟩ = false ∧ (wr.setCell ⟨g, k * 2, none⟩ (.int .i64 Z)).cell? ⟨g, k * 2 + 1, none⟩ = some u1 ∧ (wr.setCell ⟨g, k * 2, none⟩ (.int .i64 Z)).frozen? ⟨g, k * 2 + 1, none⟩ = false) ∧
      Bk.Marked 79 2 osm1 S w N X L a h n i (k + 1) ((wr.setCell ⟨g, k * 2, none⟩ (.int .i64 Z)).setCell ⟨g, k * 2 + 1, none⟩ (.int .u64 0)) := by
  obtain ⟨g, cap, xs, hX, hg, hgl, hb, hown, hM⟩ := H.cell osm1_len (by decide) hk hh hS
  have hlen := hown.1
  have c0 := hown.cellAt (k * 2 + 0) (by first | omega | (simp only [List.length_set]; omega))
  have f0 := hown.frozenAt (k * 2 + 0)
  have s0 := (hown.stored (k * 2 + 0) (.int .i64 Z)).1
  have c1 := s0.cellAt (k * 2 + 1) (by first | omega | (simp only [List.length_set]; omega))
  have f1 := s0.frozenAt (k * 2 + 1)
  rw [List.getElem?_eq_getElem (by omega)] at c0
  rw [List.getElem?_set_ne (by omega), List.getElem?_eq_getElem (by omega)] at c1
  unfold osm1 at hM
  rw [hZ] at hM
  exact ⟨g, cap, xs[k * 2 + 0]'(by omega), xs[k * 2 + 1]'(by omega), hX, ⟨c0, f0, c1, f1⟩, hM⟩
theorem osm_w64 {x : Int} (h1 : -9223372036854775808 ≤ x) (h2 : x ≤ 9223372036854775807) : wrap64 x = x := by unfold wrap64; omega
theorem osm_pos (i k : Nat) (h1 : i ≤ 1000) (h2 : k ≤ 100000000) : ∃ A Z : Int, (i : Int) * 1000 = A ∧ A + (k : Int) = Z ∧ (i : Int) * 1000 + (k : Int) = Z ∧ wrap64 A = A ∧ IntKind.i64.wrap A = A ∧ wrap64 Z = Z ∧ IntKind.i64.wrap Z = Z := ⟨_, _, rfl, rfl, rfl, osm_w64 (by omega) (by omega), by rw [IntKind.wrap_i64]; omega, osm_w64 (by omega) (by omega), by rw [IntKind.wrap_i64]; omega⟩
theorem osm_neg (i k : Nat) (h1 : i ≤ 1000) (h2 : k ≤ 100000000) : ∃ B A Z : Int, -1 - (i : Int) = B ∧ B * 1000 = A ∧ A + (k : Int) = Z ∧ (-1 - (i : Int)) * 1000 + (k : Int) = Z ∧ wrap64 B = B ∧ IntKind.i64.wrap B = B ∧ wrap64 A = A ∧ IntKind.i64.wrap A = A ∧ wrap64 Z = Z ∧ IntKind.i64.wrap Z = Z := ⟨_, _, _, rfl, rfl, rfl, rfl, osm_w64 (by omega) (by omega), by rw [IntKind.wrap_i64]; omega, osm_w64 (by omega) (by omega), by rw [IntKind.wrap_i64]; omega, osm_w64 (by omega) (by omega), by rw [IntKind.wrap_i64]; omega⟩
theorem osm_sum (k q : Nat) (h1 : k ≤ 100000000) (h2 : q ≤ 16) : ∃ m : Nat, k + q = m ∧ wrap64 ((k : Int) + (q : Int)) = (m : Int) ∧ IntKind.i64.wrap ((k : Int) + (q : Int)) = (m : Int) := ⟨_, rfl, by rw [osm_w64 (by omega) (by omega)]; omega, by rw [IntKind.wrap_i64]; omega⟩
theorem osm_lt {k q m : Nat} (h : k + q = m) (h2 : q < 16) : (m : Int) < (k : Int) + 16 ∧ (0 : Int) ≤ (m : Int) ∧ m < k + 16 := by omega
set_option maxRecDepth 100000 in
set_option maxHeartbeats 8000000 in
theorem osm_any (S : List Nat) (a : Option Addr) (h n cap N : Nat) (X : Nat → Value) (L : Nat → Nat) (w : World) (P : Bk.Places N w.heap.size h X) (hO : Bk.Outer w a h n X) (hR : ∃ C, Bk.Lots 79 2 w N X L C) (hn : n ≤ 1000) (hL : ∀ j, L j ≤ 100000000) (hz : ∀ j, n ≤ j → L j = 0) (hS : ∀ j g, (X j).ownBlock = some g → g ∈ S) :
    Calls Tryz.prog 51 #[.slice a n cap] w fun e w' => e = .returned (.bool true) ∧ Only S w w' := by
  obtain ⟨i0, hi0, hz0, hz1, hz2⟩ := info_parts osm_info
  obtain ⟨i1, hi1, hy0, hy1, hy2⟩ := info_parts osm_row
  obtain ⟨C, hC⟩ := hR
  have HSS := Lib.hid hS
  have M0 := Lib.hid (Bk.Marked.zero (m1 := osm1) (S := S) hC hO)
  have HH := Lib.hid P.ne
  have HP := Lib.hid P
  have HL := Lib.hid hL
  have HZ := Lib.hid hz
  clear hO hC hL P hz hS
  go_enter Tryz.func51, Tryz.ntmps51
  go_wp2
  go_loopw [3] (fun ii wr => ∃ i : Nat, i ≤ n ∧ ii = .int .i64 (i : Nat) ∧ Hid (Bk.Marked 79 2 osm1 S w N X L a h n i 0 wr) ∧ Hid (w.heap.size ≤ wr.heap.size)) (fun ii _ => n - (intOf ii).toNat)
  case atStart => exact ⟨0, Nat.zero_le _, rfl, M0, Lib.hid (Nat.le_refl _)⟩
  case round =>
    obtain ⟨i, hi, rfl, HM, HS⟩ := hrel
    by_cases hlt : i < n
    · have hd : decide (i < n) = true := by simpa using hlt
      have hix : (i : Int) < (n : Int) := by omega
      go_wp2
      go_loopw [4] (fun kk wr2 => ∃ k : Nat, k ≤ L i ∧ kk = .int .i64 (k : Nat) ∧ Hid (Bk.Marked 79 2 osm1 S w N X L a h n i k wr2) ∧ Hid (w.heap.size ≤ wr2.heap.size)) (fun kk _ => L i - (intOf kk).toNat)
      case atStart => exact ⟨0, Nat.zero_le _, rfl, HM, HS⟩
      case round =>
        obtain ⟨k, hk, rfl, HM2, HS2⟩ := hrel
        have hLi := HL.out i
        obtain ⟨rfl, hhl, hcs⟩ := HM2.out.outer (by omega)
        have hci := hcs i hlt
        by_cases hlt2 : k < L i
        · obtain ⟨A, Z, e1, e2, e3, z1, z2, z3, z4⟩ := osm_pos i k (by omega) (by omega)
          obtain ⟨g, cp, u0, u1, hX, ⟨q0a, q0b, q1a, q1b⟩, hst⟩ := osm_put HM2.out hlt2 HH.out HSS.out Z e3
          rw [hX] at hci
          have HN := Lib.hid hst
          have HN2 := Lib.hid (show w.heap.size ≤ ((wr.setCell ⟨g, k * 2, none⟩ (.int .i64 Z)).setCell ⟨g, k * 2 + 1, none⟩ (.int .u64 0)).heap.size by have h2 := HS2.out; simp; omega)
          obtain ⟨Li, hLe⟩ : ∃ Li, L i = Li := ⟨_, rfl⟩
          rw [hLe] at hci hlt2 hLi hk ⊢
          have hd2 : decide (k < Li) = true := by simpa using hlt2
          have hkx : (k : Int) < (Li : Int) := by omega
          clear hst hX hLe hcs e3
          go_wp2
          clear q0a q0b q1a q1b
          go_roundw
          case rel => exact ⟨k + 1, by omega, by go_num, HN, HN2⟩
          case measure => simp [intOf]; omega
        · obtain ⟨a', cp, hX⟩ := HM2.out.shape i
          rw [hX] at hci
          have HN := Lib.hid (HM2.out.next (by omega))
          obtain ⟨Li, hLe⟩ : ∃ Li, L i = Li := ⟨_, rfl⟩
          rw [hLe] at hci hlt2 hLi hk ⊢
          have hd2 : decide (k < Li) = false := by simpa using hlt2
          clear hX hLe hcs
          go_wp2
          go_roundw
          case rel => exact ⟨i + 1, by omega, by go_num, HN, HS2⟩
          case measure => simp [intOf]; omega
    · obtain rfl : i = n := by omega
      have hd : decide (i < i) = false := by simp
      have G0 := Lib.hid (show Bk.Long 22 79 2 osm1 osm2 S w N X L a h i w.heap.size 0 (.slice none 0 0) (fun _ => .slice none 0 0) wr from ⟨HM.out.all HZ.out, HM.out.outer, HM.out.only, World.ownsRow_nil _ _ _ _, fun j hj => by omega, fun g hg => (by cases hg), HS.out⟩)
      obtain ⟨M, hM⟩ : ∃ M, w.heap.size = M := ⟨_, rfl⟩
      have HMW := Lib.hid (show w.heap.size ≤ M by omega)
      rw [hM] at G0 HP
      clear hM hlt
      go_wp2
      go_loopw [5, 6] (fun vl ii wr => ∃ (j : Nat) (Y : Nat → Value), j ≤ i ∧ ii = .int .i64 (j : Nat) ∧ Hid (Bk.Long 22 79 2 osm1 osm2 S w N X L a h i M j vl Y wr)) (fun _ ii _ => i - (intOf ii).toNat)
      case atStart => exact ⟨0, _, Nat.zero_le _, rfl, G0⟩
      case round =>
        obtain ⟨j, Y, hj, rfl, HG⟩ := hrel
        by_cases hlt : j < i
        · have hd2 : decide (j < i) = true := by simpa using hlt
          have hjx : (j : Int) < (i : Int) := by omega
          obtain ⟨rfl, hhl, hcs⟩ := HG.out.outer (by omega)
          have hcj := hcs j hlt
          have E0 := Lib.hid (Bk.Ext.zero (m2 := osm2) (HG.out.rows.own j))
          obtain ⟨aj, cj, hXj⟩ := Bk.owns_shape (HG.out.rows.own j)
          have hLj := HL.out j
          rw [hXj] at hcj E0
          obtain ⟨av, cv, rfl⟩ := HG.out.shape
          have HXL := Lib.hid (show ∀ g, (X j).ownBlock = some g → g < wr.heap.size ∧ N ≤ g from fun g hg => ⟨by have h1 := (HP.out.lt j g hg).1; have h2 := HG.out.size; omega, (HP.out.lt j g hg).2⟩)
          clear hcs hXj
          obtain ⟨wo, hwo⟩ : ∃ wo, wo = wr := ⟨_, rfl⟩
          subst hwo
          go_wp2
          go_loopw [7, 8] (fun xv kk wr2 => ∃ k : Nat, k ≤ 16 ∧ kk = .int .i64 (k : Nat) ∧ Hid (Bk.Ext 79 2 osm1 osm2 wo N X L j k xv wr2)) (fun _ kk _ => 16 - (intOf kk).toNat)
          case atStart => exact ⟨0, Nat.zero_le _, rfl, E0⟩
          case round =>
            obtain ⟨k, hk, rfl, HE⟩ := hrel
            by_cases hlt2 : k < 16
            · have hd3 : decide ((k : Int) < 16) = true := by simp; omega
              obtain ⟨ax, cx, rfl⟩ := HE.out.shape
              obtain ⟨B, A, Z, e1, e2, e3, e4, z1, z2, z3, z4, z5, z6⟩ := osm_neg j k (by omega) (by omega)
              have HM2 := Lib.hid (show osm2 j k = [(.int .i64 Z), (.int .u64 0)] by unfold osm2; rw [e4])
              clear e4
              go_wp2_with (at_builtin; refine Bk.wpList_append_goes _ rfl (.tmp 53) (.tmp 60) 22 rfl 79 i0 (.agg #[.int .i64 0, .int .u64 0]) 2 16 Tryz.underlying22 hi0 hz0 hz1 hz2 rfl (by decide) (.slice ax (L j + k) cx) (L j + k) (Bk.Dm osm1 osm2 L j k) rfl (HE.out.own.alloc _) ⟨wr.heap.size, 0, none⟩ 1 1 [(.int .i64 Z), (.int .u64 0)] rfl rfl (osm_new wr Z) (by simp [Value.oneCell']) (by unfold maxLen; omega) (by omega) (by decide) ?_)
              intro v2 w2 hown2 hgo2
              rw [← HM2.out] at hown2
              have HN := Lib.hid (HE.out.step osm1_len hown2 hgo2 HXL.out)
              obtain ⟨a2, c2, rfl⟩ := HN.out.shape
              clear hown2 hgo2
              go_wp2
              go_roundw
              case rel => exact ⟨k + 1, by omega, by go_num, HN⟩
              case measure => simp [intOf]; omega
            · obtain rfl : k = 16 := by omega
              obtain ⟨ax, cx, rfl⟩ := HE.out.shape
              have HOW := Lib.hid (show wr.ownsRow 0 22 1 (.slice av j cv) j ((List.range j).map Y) from Bk.owns_only HG.out.own HE.out.only (fun g hg hm => by
                have h1 := (HG.out.pos g hg).1
                have h2 := (HP.out.lt j g (by simpa using hm)).1
                omega))
              go_wp2_with (at_builtin; refine Bk.wpList_append_goes _ rfl (.tmp 62) (.tmp 64) 50 rfl 22 i1 (.slice none 0 0) 1 24 Tryz.underlying50 hi1 hy0 hy1 hy2 rfl (by decide) (.slice av j cv) j ((List.range j).map Y) rfl (HOW.out.alloc _) ⟨wr.heap.size, 0, none⟩ 1 1 [Value.slice ax (L j + 16) cx] rfl rfl (osm_one wr _ 22) (by simp [Value.oneCell']) (by unfold maxLen; omega) (by omega) (by decide) ?_)
              intro v2 w2 hown2 hgo2
              have HN := Lib.hid (HG.out.step HP.out HE.out hown2 hgo2 HSS.out HMW.out)
              obtain ⟨a2, c2, rfl⟩ := HN.out.shape
              clear hown2 hgo2
              go_wp2
              go_roundw
              case rel => exact ⟨j + 1, _, by omega, by go_num, HN⟩
              case measure => simp [intOf]; omega
        · obtain rfl : j = i := by omega
          have hd2 : decide (j < j) = false := by simp
          obtain ⟨av, cv, rfl⟩ := HG.out.shape
          clear G0 hlt
          go_wp2
          go_loopw [9] (fun ii wr => ∃ t : Nat, t ≤ j ∧ ii = .int .i64 (t : Nat) ∧ Hid (Bk.Long 22 79 2 osm1 osm2 S w N X L a h j M j (.slice av j cv) Y wr)) (fun ii _ => j - (intOf ii).toNat)
          case atStart => exact ⟨0, Nat.zero_le _, rfl, HG⟩
          case round =>
            obtain ⟨t, ht, rfl, HG2⟩ := hrel
            clear HG
            by_cases hlt3 : t < j
            · have hd4 : decide (t < j) = true := by simpa using hlt3
              have htx : (t : Int) < (j : Int) := by omega
              obtain ⟨rfl, hhl, hcs⟩ := HG2.out.outer (by omega)
              have hct := hcs t hlt3
              obtain ⟨aj, cj, hXj⟩ := Bk.owns_shape (HG2.out.rows.own t)
              have hLt := HL.out t
              rw [hXj] at hct
              obtain ⟨Lt, hLe⟩ : ∃ Lt, L t = Lt := ⟨_, rfl⟩
              have HLE := Lib.hid hLe
              rw [hLe] at hct hLt
              have HXJ := Lib.hid hXj
              rw [hLe] at HXJ
              clear hXj hcs hLe
              go_wp2
              go_loopw [11] (fun kk wr => ∃ k : Nat, k ≤ Lt ∧ kk = .int .i64 (k : Nat) ∧ Hid (Bk.Long 22 79 2 osm1 osm2 S w N X L (some ⟨h, 0, none⟩) h j M j (.slice av j cv) Y wr)) (fun kk _ => Lt - (intOf kk).toNat)
              case atStart => exact ⟨0, Nat.zero_le _, rfl, HG2⟩
              case round =>
                obtain ⟨k, hk, rfl, HG3⟩ := hrel
                clear HG2 hct
                by_cases hlt4 : k < Lt
                · have hd5 : decide (k < Lt) = true := by simpa using hlt4
                  have hkx : (k : Int) < (Lt : Int) := by omega
                  have hkx2 : (k : Int) < (Lt : Int) + 16 := by omega
                  have hkx3 : k < Lt + 16 := by omega
                  obtain ⟨_, hhl3, hcs3⟩ := HG3.out.outer (by omega)
                  have hct3 := hcs3 t hlt3
                  rw [HXJ.out] at hct3
                  obtain ⟨gl, cl, gy, cy, hvl, hlc, hy1, hy2, hx1⟩ := HG3.out.look osm1_len osm2_len t hlt3
                  cases hvl
                  rw [HLE.out] at hlc hy1 hx1
                  have p0 := hy1 k 0 _ hlt4 (by decide) rfl
                  have p1 := hy1 k 1 _ hlt4 (by decide) rfl
                  obtain ⟨gx, cpx, hX0, r0⟩ := hx1 k 0 _ hlt4 (by decide) rfl
                  obtain ⟨gx1, cpx1, hX1, r1⟩ := hx1 k 1 _ hlt4 (by decide) rfl
                  rw [HXJ.out] at hX0
                  cases hX0
                  rw [HXJ.out] at hX1
                  cases hX1
                  rw [Nat.add_zero] at p0 r0
                  obtain ⟨A, Z, e1, e2, e3, z1, z2, z3, z4⟩ := osm_pos t k (by omega) (by omega)
                  rw [e3] at p0 r0
                  have hne := fun W => neq79 Z W
                  clear hy1 hy2 hx1 hcs3 e3
                  go_wp2
                  go_roundw
                  case rel => exact ⟨k + 1, by omega, by go_num, HG3⟩
                  case measure => simp [intOf]; omega
                · obtain rfl : k = Lt := by omega
                  have hd5 : decide (k < k) = false := by simp
                  go_wp2
                  go_loopw [12] (fun kk wr => ∃ q : Nat, q ≤ 16 ∧ kk = .int .i64 (q : Nat) ∧ Hid (Bk.Long 22 79 2 osm1 osm2 S w N X L (some ⟨h, 0, none⟩) h j M j (.slice av j cv) Y wr)) (fun kk _ => 16 - (intOf kk).toNat)
                  case atStart => exact ⟨0, by omega, rfl, HG3⟩
                  case round =>
                    obtain ⟨q, hq, rfl, HG4⟩ := hrel
                    clear HG3
                    by_cases hlt5 : q < 16
                    · have hd6 : decide ((q : Int) < 16) = true := by simp; omega
                      obtain ⟨gl, cl, gy, cy, hvl, hlc, hy1, hy2, hx1⟩ := HG4.out.look osm1_len osm2_len t hlt3
                      cases hvl
                      rw [HLE.out] at hlc hy2
                      have p0 := hy2 q 0 _ hlt5 (by decide) rfl
                      have p1 := hy2 q 1 _ hlt5 (by decide) rfl
                      rw [Nat.add_zero] at p0
                      obtain ⟨kq, hkq, z7, z8⟩ := osm_sum k q (by omega) (by omega)
                      rw [hkq] at p0 p1
                      obtain ⟨hkqx, hkqx0, hkqx1⟩ := osm_lt hkq hlt5
                      obtain ⟨B, A, Z, e1, e2, e3, e4, z1, z2, z3, z4, z5, z6⟩ := osm_neg t q (by omega) (by omega)
                      rw [e4] at p0
                      have hne := fun W => neq79 Z W
                      clear hy1 hy2 hx1 hkq e4
                      go_wp2
                      go_roundw
                      case rel => exact ⟨q + 1, by omega, by go_num, HG4⟩
                      case measure => simp [intOf]; omega
                    · obtain rfl : q = 16 := by omega
                      go_wp2
                      go_roundw
                      case rel => exact ⟨t + 1, by omega, by go_num, HG4⟩
                      case measure => simp [intOf]; omega
            · obtain rfl : t = j := by omega
              have hd4 : decide (t < t) = false := by simp
              go_wp2
              go_ret
              exact ⟨rfl, HG2.out.only⟩
end Go.Proofs.YtdlifcpdlbmijaaGreatDoor
namespace Go.Proofs.YtdlifcpdlbmijaaGreatDoor.Bk8
set_option linter.unusedVariables false
set_option linter.unusedSimpArgs false
open Go.RowKit Go.PlainAid
open B2 (Only)
section
variable {P : Program}
/-- where an append of at least one element goes: in place, with the same room; or to new memory, and then nothing that was there has turned -/
def Goes (w w' : World) (v v' : Value) (n m : Nat) : Prop :=
  (∃ g cap, v = .slice (some ⟨g, 0, none⟩) n cap ∧ v' = .slice (some ⟨g, 0, none⟩) (n + m) cap ∧ w.grownBy w' (some g)) ∨
  (∃ g cap, v' = .slice (some ⟨g, 0, none⟩) (n + m) cap ∧ w.heap.size ≤ g ∧ w.grownBy w' none)
theorem run_append_goes (w : World) (t ty e : TypeId) (i : TypeInfo) (z : Value) (size bytes : Nat) (ht : P.underlying t = some (.slice e)) (hi : P.info? e = some i) (hz : i.zero = some z)
    (hsize : i.size = size) (hby : i.bytes = bytes) (hzs : z.cells.size = size) (hsz : 0 < size)
    (v : Value) (n : Nat) (xs : List Value) (hown : w.ownsRow 0 e size v n xs)
    (a : Addr) (m c : Nat) (news : List Value) (hl : news.length = m * size) (hnews : ∀ j u, news[j]? = some u → w.cell? (a.add j) = some u) (h1 : ∀ u ∈ news, u.oneCell' = true)
    (h63 : n + m ≤ maxLen) (hbytes : (n + m) * bytes ≤ 140737488355328) (hm : 0 < m) :
    ∃ v' w', (Builtin.append_ #[t, t] ty #[v, .slice (some a) m c]).run P w = .ok v' w' ∧ w'.ownsRow 0 e size v' (n + m) (xs ++ news) ∧ Goes w w' v v' n m := by
  obtain ⟨v', w', hr, h2, h3, h4⟩ := run_append_own (P := P) w 0 t ty e i z size bytes ht hi hz hsize hby hzs hsz v n xs hown a m c news hl hnews h1 h63 hbytes (Nat.zero_le _)
  refine ⟨v', w', hr, h2, ?_⟩
  rcases hown.2 with ⟨rfl, rfl⟩ | ⟨g, cap, cur, rfl, hbg, hg, hnc, hcm, hcs, htake⟩
  · have hx : xs = [] := List.eq_nil_of_length_eq_zero (by simpa using hown.1)
    subst hx
    obtain ⟨v2, w2, hr2, k2, k3, k4⟩ := run_append_own (P := P) w w.heap.size t ty e i z size bytes ht hi hz hsize hby hzs hsz _ 0 [] (World.ownsRow_nil w _ e size) a m c news hl hnews h1 h63 hbytes (Nat.le_refl _)
    rw [hr] at hr2
    cases hr2
    rcases k2.2 with ⟨_, h0⟩ | ⟨g, cap, cur, hv, hg, _⟩
    · omega
    · exact .inr ⟨g, cap, hv, hg, h3⟩
  · by_cases hroom : n + m ≤ cap
    · have hfit : n * i.size + news.length ≤ cur.size := by rw [hl, hcs, hsize, ← Nat.add_mul]; exact Nat.mul_le_mul_right _ hroom
      have hr2 := run_append_room (P := P) w t ty e i ht hi g n cap cur hg a m c news (by rw [hsize]; exact hl) hnews h1 hroom hfit
      rw [hr] at hr2
      cases hr2
      exact .inl ⟨g, cap, rfl, rfl, h3⟩
    · have holds := hown.cells (g := g) rfl
      have hr2 := run_append_grow (P := P) w t ty e i z ht hi hz ⟨g, 0, none⟩ n cap xs (by rw [hsize]; exact hown.1) holds a m c news (by rw [hsize]; exact hl) hnews (by omega) (by simp only [maxLen] at h63; omega) (growslice_fits (by omega) (by rw [hby]; exact hbytes))
      rw [hr] at hr2
      cases hr2
      exact .inr ⟨_, _, rfl, Nat.le_refl _, ⟨rfl, rfl, rfl, by simp, fun k hk _ => Below.heap_alloc w.drew _ k hk⟩⟩
theorem wpList_append_goes (w : World) {ops : Array Oper} {rest : List Oper} {o : Oper} {a : Act} {Q : Exit → Act → World → Prop} (hgd : o.guard = none) (s x : Operand) (t : TypeId)
    (ho : o.op = .call { callee := .builtin .append, args := #[s, x], argTypes := #[t, t] })
    (e : TypeId) (i : TypeInfo) (z : Value) (size bytes : Nat) (ht : P.underlying t = some (.slice e)) (hi : P.info? e = some i) (hz : i.zero = some z)
    (hsize : i.size = size) (hby : i.bytes = bytes) (hzs : z.cells.size = size) (hsz : 0 < size)
    (v : Value) (n : Nat) (xs : List Value) (hs : a.eval s = v) (hown : w.ownsRow 0 e size v n xs)
    (ad : Addr) (m c : Nat) (news : List Value) (hx : a.eval x = .slice (some ad) m c) (hl : news.length = m * size) (hnews : ∀ j u, news[j]? = some u → w.cell? (ad.add j) = some u) (h1 : ∀ u ∈ news, u.oneCell' = true)
    (h63 : n + m ≤ maxLen) (hbytes : (n + m) * bytes ≤ 140737488355328) (hm : 0 < m)
    (h : ∀ v' w', w'.ownsRow 0 e size v' (n + m) (xs ++ news) → Goes w w' v v' n m → wpList P ops Q rest (a.put o.dst v') w') : wpList P ops Q (o :: rest) a w := by
  refine wpList_plain hgd fun K hK => ?_
  obtain ⟨v', w', hr, h2, h3⟩ := run_append_goes (P := P) w t o.type e i z size bytes ht hi hz hsize hby hzs hsz v n xs hown ad m c news hl hnews h1 h63 hbytes hm
  unfold Oper.wp execOp
  simp only [ho, resolve, invoke, builtin, Sem.run_bind, Sem.run_pure, Result.andThen_ok, List.map_toArray, List.map_cons, List.map_nil, hs, hx, hr]
  exact hK _ _ (h v' w' h2 h3)
end

theorem add_here (g j : Nat) : (⟨g, 0, none⟩ : Addr).add j = ⟨g, j, none⟩ := by unfold Addr.add; split <;> simp_all
theorem owns_only {w w' : World} {N e size n : Nat} {v : Value} {xs : List Value} (h : w.ownsRow N e size v n xs) {S : List Nat} (ho : Only S w w') (hn : ∀ g, v.ownBlock = some g → g ∉ S) : w'.ownsRow N e size v n xs := by
  refine ⟨h.1, ?_⟩
  rcases h.2 with h2 | ⟨g, cap, cur, hv, hg, hh, r⟩
  · exact .inl h2
  · exact .inr ⟨g, cap, cur, hv, hg, (ho.block g (Array.getElem?_eq_some_iff.1 hh).1 (hn g (by rw [hv]; rfl))).trans hh, r⟩
theorem owns_shape {w : World} {N e size n : Nat} {v : Value} {xs : List Value} (h : w.ownsRow N e size v n xs) : ∃ a c, v = .slice a n c := by
  rcases h.2 with ⟨hv, h0⟩ | ⟨g, cap, _, hv, _⟩
  · rw [hv, h0]; exact ⟨_, _, rfl⟩
  · exact ⟨_, _, hv⟩
theorem owns_lower {w : World} {N M e size n : Nat} {v : Value} {xs : List Value} (h : w.ownsRow N e size v n xs) (hM : M ≤ N) : w.ownsRow M e size v n xs := by
  refine ⟨h.1, ?_⟩
  rcases h.2 with h2 | ⟨g, cap, cur, hv, hg, r⟩
  · exact .inl h2
  · exact .inr ⟨g, cap, cur, hv, Nat.le_trans hM hg, r⟩
theorem owns_raise {w w' : World} {N M e size n : Nat} {v : Value} {xs : List Value} (h : w.ownsRow N e size v n xs) (hM : ∀ g, v.ownBlock = some g → M ≤ g) : w.ownsRow M e size v n xs := by
  refine ⟨h.1, ?_⟩
  rcases h.2 with h2 | ⟨g, cap, cur, hv, hg, r⟩
  · exact .inl h2
  · exact .inr ⟨g, cap, cur, hv, hM g (by rw [hv]; rfl), r⟩
/-- cells written one behind the other -/
def put (w : World) (g : Nat) : Nat → List Value → World
  | _, [] => w
  | off, u :: us => put (w.setCell ⟨g, off, none⟩ u) g (off + 1) us
theorem put_owns {N e sz n cap g : Nat} : ∀ (us : List Value) (w : World) (A B D : List Value), B.length = us.length → w.ownsRow N e sz (.slice (some ⟨g, 0, none⟩) n cap) n (A ++ B ++ D) →
    (put w g A.length us).ownsRow N e sz (.slice (some ⟨g, 0, none⟩) n cap) n (A ++ us ++ D) ∧ Only [g] w (put w g A.length us)
  | [], w, A, B, D, hl, h => by
    have : B = [] := List.eq_nil_of_length_eq_zero hl
    subst this
    exact ⟨h, Only.refl _ _⟩
  | u :: us, w, A, b :: B, D, hl, h => by
    obtain ⟨h1, _⟩ := h.stored A.length u
    have e : (A ++ (b :: B) ++ D).set A.length u = (A ++ [u]) ++ B ++ D := by simp
    rw [e] at h1
    obtain ⟨h2, h3⟩ := put_owns us (w.setCell ⟨g, A.length, none⟩ u) (A ++ [u]) B D (by simpa using hl) h1
    rw [List.length_append, List.length_singleton] at h2 h3
    refine ⟨by simpa [put] using h2, ?_⟩
    exact ((Only.refl [g] w).setCell (p := ⟨g, A.length, none⟩) (.inl (by simp)) u).trans h3 (fun x hx => .inl hx)
  | u :: us, w, A, [], D, hl, h => by simp at hl
section
variable (e sz : Nat) (m1 m2 : Nat → Nat → List Value)
/-- the marks of a row -/
def Cm (m1 : Nat → Nat → List Value) (j k : Nat) : List Value := (List.range k).flatMap (m1 j)
theorem Cm_succ (j k : Nat) : Cm m1 j (k + 1) = Cm m1 j k ++ m1 j k := by simp [Cm, List.range_succ]
theorem Cm_length (h1 : ∀ i k, (m1 i k).length = sz) (j k : Nat) : (Cm m1 j k).length = k * sz := by
  induction k with
  | zero => simp [Cm]
  | succ k ih => rw [Cm_succ, List.length_append, ih, h1, Nat.succ_mul]
theorem Cm_get (h1 : ∀ i k, (m1 i k).length = sz) (j : Nat) : ∀ (n k t : Nat), k < n → t < sz → (Cm m1 j n)[k * sz + t]? = (m1 j k)[t]?
  | 0, k, t, hk, ht => by omega
  | n + 1, k, t, hk, ht => by
    have hl := Cm_length sz m1 h1 j n
    rw [Cm_succ]
    by_cases hkn : k = n
    · subst hkn
      rw [List.getElem?_append_right (by omega), hl, show k * sz + t - k * sz = t by omega]
    · have h2 : (k + 1) * sz ≤ n * sz := Nat.mul_le_mul_right _ (by omega)
      rw [Nat.succ_mul] at h2
      rw [List.getElem?_append_left (by omega)]
      exact Cm_get h1 j n k t (by omega) ht
/-- rows, each in a block of its own or nil -/
structure Lots (w : World) (N : Nat) (X : Nat → Value) (L : Nat → Nat) (C : Nat → List Value) : Prop where
  own : ∀ i, w.ownsRow N e sz (X i) (L i) (C i)
  apart : ∀ i j, i ≠ j → (X i).ownBlock = none ∨ (X i).ownBlock ≠ (X j).ownBlock
theorem Lots.only {e sz : Nat} {w w' : World} {N : Nat} {X : Nat → Value} {L : Nat → Nat} {C : Nat → List Value} (h : Lots e sz w N X L C) {S : List Nat} (ho : Only S w w') (hn : ∀ i g, (X i).ownBlock = some g → g ∉ S) : Lots e sz w' N X L C :=
  ⟨fun i => owns_only (h.own i) ho (hn i), h.apart⟩
/-- the slice of slices itself -/
def Outer (w : World) (a : Option Addr) (h n : Nat) (X : Nat → Value) : Prop := 0 < n → a = some ⟨h, 0, none⟩ ∧ h < w.heap.size ∧ ∀ i, i < n → w.cell? ⟨h, i, none⟩ = some (X i)
theorem Outer.only {w w' : World} {a : Option Addr} {h n : Nat} {X : Nat → Value} (H : Outer w a h n X) {S : List Nat} (ho : Only S w w') (hn : h ∉ S) : Outer w' a h n X := fun h0 => by
  obtain ⟨e, hl, hc⟩ := H h0
  exact ⟨e, Nat.lt_of_lt_of_le hl ho.size, fun i hi => (ho.cell (p := ⟨h, i, none⟩) hl hn).trans (hc i hi)⟩
/-- the first rows have their marks, the row i those ahead of k -/
structure Marked (S : List Nat) (w : World) (N : Nat) (X : Nat → Value) (L : Nat → Nat) (a : Option Addr) (h n i k : Nat) (wr : World) : Prop where
  rows : ∃ C, Lots e sz wr N X L C ∧ (∀ j, j < i → C j = Cm m1 j (L j)) ∧ (C i).take (k * sz) = Cm m1 i k
  outer : Outer wr a h n X
  only : Only S w wr
variable {e sz m1 m2} {S : List Nat}
theorem Marked.stay {w wr w' : World} {N h n i k : Nat} {X : Nat → Value} {L : Nat → Nat} {a : Option Addr} (H : Marked e sz m1 S w N X L a h n i k wr) (hb : Below wr.heap.size wr w') : Marked e sz m1 S w N X L a h n i k w' := by
  obtain ⟨C, hL, h1, h2⟩ := H.rows
  exact ⟨⟨C, hL.only (Only.of_below hb []) (fun _ _ _ => by simp), h1, h2⟩, H.outer.only (Only.of_below hb []) (by simp), H.only.trans (Only.of_below hb []) (by simp)⟩
theorem Marked.shape {w wr : World} {N h n i k : Nat} {X : Nat → Value} {L : Nat → Nat} {a : Option Addr} (H : Marked e sz m1 S w N X L a h n i k wr) (j : Nat) : ∃ a' cap', X j = .slice a' (L j) cap' := by
  obtain ⟨C, hL, _⟩ := H.rows
  exact owns_shape (hL.own j)
theorem Marked.zero {w : World} {N h n : Nat} {X : Nat → Value} {L : Nat → Nat} {a : Option Addr} {C : Nat → List Value} (hL : Lots e sz w N X L C) (hO : Outer w a h n X) : Marked e sz m1 S w N X L a h n 0 0 w :=
  ⟨⟨C, hL, fun j hj => by omega, by simp [Cm]⟩, hO, Only.refl _ _⟩
/-- the element k of the row i is written -/
theorem Marked.cell {w wr : World} {N h n i k : Nat} {X : Nat → Value} {L : Nat → Nat} {a : Option Addr} (h1 : ∀ i k, (m1 i k).length = sz) (hsz : 0 < sz) (H : Marked e sz m1 S w N X L a h n i k wr) (hk : k < L i) (hh : ∀ j g, (X j).ownBlock = some g → g ≠ h) (hS : ∀ j g, (X j).ownBlock = some g → g ∈ S) :
    ∃ g cap xs, X i = .slice (some ⟨g, 0, none⟩) (L i) cap ∧ N ≤ g ∧ g < wr.heap.size ∧ k * sz + sz ≤ L i * sz ∧ wr.ownsRow N e sz (.slice (some ⟨g, 0, none⟩) (L i) cap) (L i) xs ∧ Marked e sz m1 S w N X L a h n i (k + 1) (put wr g (k * sz) (m1 i k)) := by
  obtain ⟨C, hL, hC, hCi⟩ := H.rows
  have hb : k * sz + sz ≤ L i * sz := by rw [← Nat.succ_mul]; exact Nat.mul_le_mul_right _ hk
  obtain ⟨hlen, hr⟩ := hL.own i
  rcases hr with ⟨_, h0⟩ | ⟨g, cap, cur, hX, hg, hhp, hr⟩
  · omega
  · have hown := hL.own i
    rw [hX] at hown
    have hA : ((C i).take (k * sz)).length = k * sz := by rw [List.length_take, hlen]; omega
    have e3 : C i = (C i).take (k * sz) ++ ((C i).drop (k * sz)).take sz ++ (C i).drop (k * sz + sz) := by
      rw [List.append_assoc, ← List.drop_drop, List.take_append_drop, List.take_append_drop]
    have hB : (((C i).drop (k * sz)).take sz).length = (m1 i k).length := by rw [h1, List.length_take, List.length_drop, hlen]; omega
    have hown2 := hown
    rw [e3] at hown2
    obtain ⟨p1, p2⟩ := put_owns (m1 i k) wr _ _ _ hB hown2
    rw [hA] at p1 p2
    refine ⟨g, cap, C i, hX, hg, (Array.getElem?_eq_some_iff.1 hhp).1, hb, hown, ⟨⟨fun j => if j = i then (C i).take (k * sz) ++ m1 i k ++ (C i).drop (k * sz + sz) else C j, ⟨fun j => ?_, hL.apart⟩, fun j hj => ?_, ?_⟩, ?_, ?_⟩⟩
    · by_cases hj : j = i
      · subst hj
        rw [if_pos rfl, hX]
        exact p1
      · rw [if_neg hj]
        refine owns_only (hL.own j) p2 (fun g' hg' => ?_)
        rcases hL.apart j i hj with h2 | h2
        · rw [h2] at hg'; cases hg'
        · rw [hg', hX] at h2
          simp only [Value.ownBlock] at h2
          intro hm
          simp only [List.mem_singleton] at hm
          exact h2 (by rw [hm])
    · show (if j = i then _ else C j) = _
      rw [if_neg (by omega)]
      exact hC j hj
    · show (if i = i then _ else C i).take _ = _
      rw [if_pos rfl, Cm_succ, hCi, List.take_append_of_le_length (by rw [List.length_append, Cm_length sz m1 h1, h1, Nat.succ_mul]; exact Nat.le_refl _)]
      exact List.take_of_length_le (by rw [List.length_append, Cm_length sz m1 h1, h1, Nat.succ_mul]; exact Nat.le_refl _)
    · exact H.outer.only p2 (by
        have := hh i g (by rw [hX]; rfl)
        simpa using this.symm)
    · exact H.only.trans p2 (fun x hx => by simp at hx; subst hx; exact .inl (hS i x (by rw [hX]; rfl)))
theorem Marked.next {w wr : World} {N h n i k : Nat} {X : Nat → Value} {L : Nat → Nat} {a : Option Addr} (H : Marked e sz m1 S w N X L a h n i k wr) (hk : k = L i) : Marked e sz m1 S w N X L a h n (i + 1) 0 wr := by
  obtain ⟨C, hL, hC, hCi⟩ := H.rows
  refine ⟨⟨C, hL, fun j hj => ?_, by simp [Cm]⟩, H.outer, H.only⟩
  by_cases hji : j = i
  · subst hji
    rw [List.take_of_length_le (by rw [(hL.own j).1, hk]; exact Nat.le_refl _)] at hCi
    rw [← hk]; exact hCi
  · exact hC j (by omega)
theorem Marked.all {w wr : World} {N h n : Nat} {X : Nat → Value} {L : Nat → Nat} {a : Option Addr} (H : Marked e sz m1 S w N X L a h n n 0 wr) (hz : ∀ j, n ≤ j → L j = 0) : Lots e sz wr N X L (fun j => Cm m1 j (L j)) := by
  obtain ⟨C, hL, hC, _⟩ := H.rows
  have e1 : C = fun j => Cm m1 j (L j) := by
    funext j
    by_cases hj : j < n
    · exact hC j hj
    · have h0 := hz j (by omega)
      have hlen := (hL.own j).1
      rw [h0, Nat.zero_mul] at hlen
      rw [h0, List.eq_nil_of_length_eq_zero hlen]
      rfl
  rw [← e1]; exact hL
/-- a row with all its marks, and k of the others behind them -/
def Dm (m1 m2 : Nat → Nat → List Value) (L : Nat → Nat) (j k : Nat) : List Value := Cm m1 j (L j) ++ Cm m2 j k
theorem Dm_succ (L : Nat → Nat) (j k : Nat) : Dm m1 m2 L j (k + 1) = Dm m1 m2 L j k ++ m2 j k := by unfold Dm; rw [Cm_succ, List.append_assoc]
theorem Dm_zero (L : Nat → Nat) (j : Nat) : Dm m1 m2 L j 0 = Cm m1 j (L j) := by simp [Dm, Cm]
/-- one row, k marks longer -/
structure Ext (e sz : Nat) (m1 m2 : Nat → Nat → List Value) (w0 : World) (N : Nat) (X : Nat → Value) (L : Nat → Nat) (i k : Nat) (xv : Value) (wr : World) : Prop where
  own : wr.ownsRow 0 e sz xv (L i + k) (Dm m1 m2 L i k)
  pos : (∃ g cap, X i = .slice (some ⟨g, 0, none⟩) (L i) cap ∧ xv = .slice (some ⟨g, 0, none⟩) (L i + k) cap) ∨ (k = 0 ∧ xv = X i) ∨ (∃ g cap, xv = .slice (some ⟨g, 0, none⟩) (L i + k) cap ∧ w0.heap.size ≤ g)
  xi : wr.ownsRow N e sz (X i) (L i) (Cm m1 i (L i))
  only : Only (X i).ownBlock.toList w0 wr
theorem Ext.shape {w0 wr : World} {N i k : Nat} {X : Nat → Value} {L : Nat → Nat} {xv : Value} (H : Ext e sz m1 m2 w0 N X L i k xv wr) : ∃ a' cap', xv = .slice a' (L i + k) cap' := owns_shape H.own
theorem Ext.zero {w0 : World} {N i : Nat} {X : Nat → Value} {L : Nat → Nat} (h : w0.ownsRow N e sz (X i) (L i) (Cm m1 i (L i))) : Ext e sz m1 m2 w0 N X L i 0 (X i) w0 :=
  ⟨by rw [Dm_zero]; exact owns_lower h (Nat.zero_le _), .inr (.inl ⟨rfl, rfl⟩), h, Only.refl _ _⟩
theorem Ext.stay {w0 wr w' : World} {N i k : Nat} {X : Nat → Value} {L : Nat → Nat} {xv : Value} (H : Ext e sz m1 m2 w0 N X L i k xv wr) (hb : Below wr.heap.size wr w') : Ext e sz m1 m2 w0 N X L i k xv w' :=
  ⟨owns_only H.own (Only.of_below hb []) (fun _ _ => by simp), H.pos, owns_only H.xi (Only.of_below hb []) (fun _ _ => by simp), H.only.trans (Only.of_below hb []) (by simp)⟩
theorem owns_in_place {w' : World} {N g n m cap : Nat} {xs news : List Value} {v : Value} (h : w'.ownsRow 0 e sz v (n + m) (xs ++ news)) (hv : v = .slice (some ⟨g, 0, none⟩) (n + m) cap) (hl : xs.length = n * sz) (hN : N ≤ g) (hc : n ≤ cap) : w'.ownsRow N e sz (.slice (some ⟨g, 0, none⟩) n cap) n xs := by
  rcases h.2 with ⟨h1, _⟩ | ⟨g2, cap2, cur, h1, _, hh, h2, h3, h4, h5⟩
  · rw [hv] at h1; cases h1
  · rw [hv] at h1
    cases h1
    refine ⟨hl, .inr ⟨g, cap, cur, rfl, hN, hh, hc, h3, h4, ?_⟩⟩
    have := congrArg (List.take (n * sz)) h5
    rw [List.take_take, Nat.min_eq_left (by rw [Nat.add_mul]; omega), List.take_left' hl] at this
    exact this
theorem Ext.step {w0 wr w' : World} {N i k : Nat} {X : Nat → Value} {L : Nat → Nat} {xv v' : Value} {o : Obj} (h1 : ∀ i k, (m1 i k).length = sz) (H : Ext e sz m1 m2 w0 N X L i k xv wr) (hown : w'.ownsRow 0 e sz v' (L i + k + 1) (Dm m1 m2 L i k ++ m2 i k)) (hg : Goes (wr.alloc o) w' xv v' (L i + k) 1) (hXl : ∀ g, (X i).ownBlock = some g → g < w0.heap.size ∧ N ≤ g) :
    Ext e sz m1 m2 w0 N X L i (k + 1) v' w' := by
  have hs := H.only.size
  have hown2 : w'.ownsRow 0 e sz v' (L i + (k + 1)) (Dm m1 m2 L i (k + 1)) := by rw [Dm_succ]; exact hown
  have hxi := owns_only H.xi ((Only.refl [] wr).alloc o) (fun _ _ => by simp)
  rcases hg with ⟨g, cap, hv, hv', hgr⟩ | ⟨g, cap, hv', hgl, hgr⟩
  · have hpos : (X i = .slice (some ⟨g, 0, none⟩) (L i) cap) ∨ w0.heap.size ≤ g := by
      rcases H.pos with ⟨g2, c2, e1, e2⟩ | ⟨e1, e2⟩ | ⟨g2, c2, e2, e3⟩
      · rw [hv] at e2; cases e2; exact .inl e1
      · subst e1; rw [hv] at e2; exact .inl e2.symm
      · rw [hv] at e2; cases e2; exact .inr e3
    rcases hpos with hp | hp
    · refine ⟨hown2, .inl ⟨g, cap, hp, hv'⟩, ?_, ?_⟩
      · rw [hp]
        have hc : L i ≤ cap := by
          rcases hxi.2 with ⟨h1, _⟩ | ⟨g2, c2, _, h1, _, _, h2, _⟩
          · rw [hp] at h1; cases h1
          · rw [hp] at h1; cases h1; exact h2
        exact owns_in_place hown2 hv' (Cm_length sz m1 h1 i (L i)) (hXl g (by rw [hp]; rfl)).2 hc
      · exact (H.only.alloc o).grown hgr (fun k hk => by cases hk; exact .inl (by rw [hp]; simp [Value.ownBlock]))
    · refine ⟨hown2, .inr (.inr ⟨g, cap, hv', hp⟩), ?_, ?_⟩
      · refine owns_only hxi ((Only.refl [g] _).grown hgr (fun k hk => by cases hk; exact .inl (by simp))) (fun g2 hg2 => ?_)
        have := (hXl g2 hg2).1
        simp; omega
      · exact (H.only.alloc o).grown hgr (fun k hk => by cases hk; exact .inr hp)
  · refine ⟨hown2, .inr (.inr ⟨g, cap, hv', by simp at hgl; omega⟩), ?_, ?_⟩
    · exact owns_only hxi ((Only.refl [] _).grown hgr (fun k hk => by cases hk)) (fun _ _ => by simp)
    · exact (H.only.alloc o).grown hgr (fun k hk => by cases hk)
/-- the longer rows, i of them; te: the type of a row -/
structure Long (te e sz : Nat) (m1 m2 : Nat → Nat → List Value) (S : List Nat) (w : World) (N : Nat) (X : Nat → Value) (L : Nat → Nat) (a : Option Addr) (h n M i : Nat) (vl : Value) (Y : Nat → Value) (wr : World) : Prop where
  rows : Lots e sz wr N X L (fun j => Cm m1 j (L j))
  outer : Outer wr a h n X
  only : Only S w wr
  own : wr.ownsRow 0 te 1 vl i ((List.range i).map Y)
  each : ∀ j, j < i → ∃ g cap, Y j = .slice (some ⟨g, 0, none⟩) (L j + 8) cap ∧ wr.ownsRow 0 e sz (Y j) (L j + 8) (Dm m1 m2 L j 8) ∧ ((X j).ownBlock = some g ∨ M ≤ g) ∧ vl.ownBlock ≠ some g ∧ g < wr.heap.size
  pos : ∀ g, vl.ownBlock = some g → M ≤ g ∧ g < wr.heap.size
  size : M ≤ wr.heap.size
/-- what holds of the rows' places all the while -/
structure Places (N M h : Nat) (X : Nat → Value) : Prop where
  lt : ∀ j g, (X j).ownBlock = some g → g < M ∧ N ≤ g
  ne : ∀ j g, (X j).ownBlock = some g → g ≠ h
  h : h < M
  apart : ∀ i j, i ≠ j → (X i).ownBlock = none ∨ (X i).ownBlock ≠ (X j).ownBlock
  nm : N ≤ M
theorem Long.shape {te : Nat} {w wr : World} {N h n M i : Nat} {X : Nat → Value} {L : Nat → Nat} {a : Option Addr} {vl : Value} {Y : Nat → Value} (H : Long te e sz m1 m2 S w N X L a h n M i vl Y wr) : ∃ a' cap', vl = .slice a' i cap' := owns_shape H.own
theorem Long.stay {te : Nat} {w wr w' : World} {N h n M i : Nat} {X : Nat → Value} {L : Nat → Nat} {a : Option Addr} {vl : Value} {Y : Nat → Value} (H : Long te e sz m1 m2 S w N X L a h n M i vl Y wr) (hb : Below wr.heap.size wr w') : Long te e sz m1 m2 S w N X L a h n M i vl Y w' := by
  have ho := Only.of_below hb []
  have hs := H.size
  refine ⟨H.rows.only ho (fun _ _ _ => by simp), H.outer.only ho (by simp), H.only.trans ho (by simp), owns_only H.own ho (fun _ _ => by simp), fun j hj => ?_, fun g hg => ?_, Nat.le_trans H.size hb.size⟩
  · obtain ⟨g, cap, e1, e2, e3, e4, e5⟩ := H.each j hj
    exact ⟨g, cap, e1, owns_only e2 ho (fun _ _ => by simp), e3, e4, Nat.lt_of_lt_of_le e5 hb.size⟩
  · have h1 := H.pos g hg
    exact ⟨h1.1, Nat.lt_of_lt_of_le h1.2 hb.size⟩
theorem Long.step {te : Nat} {w w0 wr w2 : World} {N h n M i : Nat} {X : Nat → Value} {L : Nat → Nat} {a : Option Addr} {vl v' xv : Value} {Y : Nat → Value} {o : Obj} (P : Places N M h X) (H : Long te e sz m1 m2 S w N X L a h n M i vl Y w0) (E : Ext e sz m1 m2 w0 N X L i 8 xv wr)
    (hown : w2.ownsRow 0 te 1 v' (i + 1) ((List.range i).map Y ++ [xv])) (hg : Goes (wr.alloc o) w2 vl v' i 1) (hSS : ∀ j g, (X j).ownBlock = some g → g ∈ S) (hMw : w.heap.size ≤ M) : Long te e sz m1 m2 S w N X L a h n M (i + 1) v' (fun j => if j = i then xv else Y j) w2 := by
  have s0 := H.size
  have s1 := E.only.size
  -- what the last append may have turned
  obtain ⟨T, hT, hTv⟩ : ∃ T : List Nat, Only T (wr.alloc o) w2 ∧ ∀ x ∈ T, vl.ownBlock = some x := by
    rcases hg with ⟨g, cap, hv, hv', hgr⟩ | ⟨g, cap, hv', hgl, hgr⟩
    · exact ⟨[g], (Only.refl [g] _).grown hgr (fun k hk => by cases hk; exact .inl (by simp)), fun x hx => by simp at hx; subst hx; rw [hv]; rfl⟩
    · exact ⟨[], (Only.refl [] _).grown hgr (fun k hk => by cases hk), fun x hx => by simp at hx⟩
  have hT2 : Only T wr w2 := ((Only.refl T wr).alloc o).trans hT (fun x hx => .inl hx)
  have s2 := hT2.size
  have hS : ∀ x ∈ (X i).ownBlock.toList, (X i).ownBlock = some x := fun x hx => by simpa using hx
  have hX : ∀ j g, j ≠ i → (X j).ownBlock = some g → g ∉ (X i).ownBlock.toList := fun j g hj hg hm => by
    have := hS g hm
    rcases P.apart j i hj with h1 | h1
    · rw [h1] at hg; cases hg
    · exact h1 (by rw [hg, this])
  have hXT : ∀ j g, (X j).ownBlock = some g → g ∉ T := fun j g hg hm => by
    have h1 := (H.pos g (hTv g hm)).1
    have h2 := (P.lt j g hg).1
    omega
  -- the new value's place
  have hv'pos : (v'.ownBlock = vl.ownBlock) ∨ (∃ g, v'.ownBlock = some g ∧ wr.heap.size ≤ g ∧ g < w2.heap.size) := by
    rcases hg with ⟨g, cap, hv, hv', hgr⟩ | ⟨g, cap, hv', hgl, hgr⟩
    · exact .inl (by rw [hv, hv']; rfl)
    · refine .inr ⟨g, by rw [hv']; rfl, by simp at hgl; omega, ?_⟩
      exact (hown.lt g (by rw [hv']; rfl)).2
  have hxv : ∃ g cap, xv = .slice (some ⟨g, 0, none⟩) (L i + 8) cap ∧ ((X i).ownBlock = some g ∨ w0.heap.size ≤ g) := by
    rcases E.pos with ⟨g2, c2, e1, e2⟩ | ⟨e1, e2⟩ | ⟨g2, c2, e2, e3⟩
    · exact ⟨g2, c2, e2, .inl (by rw [e1]; rfl)⟩
    · omega
    · exact ⟨g2, c2, e2, .inr e3⟩
  obtain ⟨gx, cx, hxe, hxp⟩ := hxv
  have hgxl : gx < wr.heap.size := (E.own.lt gx (by rw [hxe]; rfl)).2
  have hgxv : vl.ownBlock ≠ some gx := fun e => by
    have h1 := H.pos gx e
    rcases hxp with h2 | h2
    · have := (P.lt i gx h2).1; omega
    · omega
  have hgxT : gx ∉ T := fun hm => hgxv (hTv gx hm)
  refine ⟨⟨fun j => ?_, P.apart⟩, ?_, ?_, ?_, fun j hj => ?_, fun g hg2 => ?_, by omega⟩
  · by_cases hj : j = i
    · subst hj; exact owns_only E.xi hT2 (hXT j)
    · exact owns_only (owns_only (H.rows.own j) E.only (fun g hg => hX j g hj hg)) hT2 (hXT j)
  · refine (H.outer.only E.only (fun hm => ?_)).only hT2 (fun hm => ?_)
    · exact P.ne i h (hS h hm) rfl
    · have := (H.pos h (hTv h hm)).1; have := P.h; omega
  · refine (H.only.trans E.only (fun x hx => .inl (hSS i x (hS x hx)))).trans hT2 (fun x hx => .inr ?_)
    have := (H.pos x (hTv x hx)).1; omega
  · have e : (List.range (i + 1)).map (fun j => if j = i then xv else Y j) = (List.range i).map Y ++ [xv] := by
      rw [List.range_succ, List.map_append]
      congr 1
      · apply List.map_congr_left
        intro j hj
        have : j ≠ i := by have := List.mem_range.1 hj; omega
        simp [this]
      · simp
    rw [e]; exact hown
  · by_cases hji : j = i
    · subst hji
      simp only [if_true]
      refine ⟨gx, cx, hxe, owns_only E.own hT2 (fun g hg => by rw [hxe] at hg; cases hg; exact hgxT), ?_, ?_, by omega⟩
      · rcases hxp with h2 | h2
        · exact .inl h2
        · exact .inr (by omega)
      · rcases hv'pos with h1 | ⟨g, h1, h2, _⟩
        · rw [h1]; exact hgxv
        · rw [h1]; intro e; injection e with e; omega
    · obtain ⟨g, cap, e1, e2, e3, e4, e5⟩ := H.each j (by omega)
      simp only [hji, if_false]
      have hgS : g ∉ (X i).ownBlock.toList := fun hm => by
        rcases e3 with h1 | h1
        · exact hX j g hji h1 hm
        · have := (P.lt i g (hS g hm)).1; omega
      have hgT : g ∉ T := fun hm => e4 (hTv g hm)
      refine ⟨g, cap, e1, owns_only (owns_only e2 E.only (fun g' hg' => by rw [e1] at hg'; cases hg'; exact hgS)) hT2 (fun g' hg' => by rw [e1] at hg'; cases hg'; exact hgT), e3, ?_, by omega⟩
      rcases hv'pos with h1 | ⟨g', h1, h2, _⟩
      · rw [h1]; exact e4
      · rw [h1]; intro e; injection e with e; omega
  · rcases hv'pos with h1 | ⟨g', h1, h2, h3⟩
    · rw [h1] at hg2
      have := H.pos g hg2; omega
    · rw [h1] at hg2; injection hg2 with hg2; omega
theorem Dm_low (h1 : ∀ i k, (m1 i k).length = sz) (L : Nat → Nat) (i k t : Nat) (hk : k < L i) (ht : t < sz) : (Dm m1 m2 L i 8)[k * sz + t]? = (m1 i k)[t]? := by
  have h2 : (k + 1) * sz ≤ L i * sz := Nat.mul_le_mul_right _ (by omega)
  rw [Nat.succ_mul] at h2
  unfold Dm
  rw [List.getElem?_append_left (by rw [Cm_length sz m1 h1]; omega)]
  exact Cm_get sz m1 h1 i (L i) k t hk ht
theorem Dm_high (h1 : ∀ i k, (m1 i k).length = sz) (h2 : ∀ i k, (m2 i k).length = sz) (L : Nat → Nat) (i k t : Nat) (hk : k < 8) (ht : t < sz) : (Dm m1 m2 L i 8)[(L i + k) * sz + t]? = (m2 i k)[t]? := by
  unfold Dm
  rw [List.getElem?_append_right (by rw [Cm_length sz m1 h1, Nat.add_mul]; omega), Cm_length sz m1 h1, Nat.add_mul, show L i * sz + k * sz + t - L i * sz = k * sz + t by omega]
  exact Cm_get sz m2 h2 i 8 k t hk ht
/-- what the last look meets -/
theorem Long.look {te : Nat} {w wr : World} {N h n M i : Nat} {X : Nat → Value} {L : Nat → Nat} {a : Option Addr} {vl : Value} {Y : Nat → Value} (h1 : ∀ i k, (m1 i k).length = sz) (h2 : ∀ i k, (m2 i k).length = sz) (H : Long te e sz m1 m2 S w N X L a h n M i vl Y wr) (t : Nat) (ht : t < i) :
    ∃ gl cl gy cy, vl = .slice (some ⟨gl, 0, none⟩) i cl ∧ wr.cell? ⟨gl, t, none⟩ = some (.slice (some ⟨gy, 0, none⟩) (L t + 8) cy) ∧ (∀ k j u, k < L t → j < sz → (m1 t k)[j]? = some u → wr.cell? ⟨gy, k * sz + j, none⟩ = some u) ∧ (∀ k j u, k < 8 → j < sz → (m2 t k)[j]? = some u → wr.cell? ⟨gy, (L t + k) * sz + j, none⟩ = some u) ∧
      (∀ k j u, k < L t → j < sz → (m1 t k)[j]? = some u → ∃ g cap, X t = .slice (some ⟨g, 0, none⟩) (L t) cap ∧ wr.cell? ⟨g, k * sz + j, none⟩ = some u) := by
  obtain ⟨gy, cy, e1, e2, _⟩ := H.each t ht
  have hvl : ∃ gl cl, vl = .slice (some ⟨gl, 0, none⟩) i cl := by
    rcases H.own.2 with ⟨_, h0⟩ | ⟨g, cap, _, hv, _⟩
    · omega
    · exact ⟨g, cap, hv⟩
  obtain ⟨gl, cl, hvl⟩ := hvl
  refine ⟨gl, cl, gy, cy, hvl, ?_, fun k j u hk hj hu => ?_, fun k j u hk hj hu => ?_, fun k j u hk hj hu => ?_⟩
  · have := H.own.cells (g := gl) (by rw [hvl]; rfl) t (Y t) (by simp [ht])
    rw [add_here] at this
    rw [this, e1]
  · have := e2.cells (g := gy) (by rw [e1]; rfl) (k * sz + j) u (by rw [Dm_low h1 L t k j hk hj]; exact hu)
    rw [add_here] at this
    exact this
  · have := e2.cells (g := gy) (by rw [e1]; rfl) ((L t + k) * sz + j) u (by rw [Dm_high h1 h2 L t k j hk hj]; exact hu)
    rw [add_here] at this
    exact this
  · have hb : (k + 1) * sz ≤ L t * sz := Nat.mul_le_mul_right _ (by omega)
    have ho := H.rows.own t
    rcases ho.2 with ⟨_, h0⟩ | ⟨g, cap, _, hv, _⟩
    · omega
    · refine ⟨g, cap, hv, ?_⟩
      have := ho.cells (g := g) (by rw [hv]; rfl) (k * sz + j) u (by rw [Cm_get sz m1 h1 t (L t) k j hk hj]; exact hu)
      rw [add_here] at this
      exact this
end
end Go.Proofs.YtdlifcpdlbmijaaGreatDoor.Bk8
namespace Go.Proofs.YtdlifcpdlbmijaaGreatDoor
set_option linter.unusedVariables false
set_option linter.unusedSimpArgs false
open Go.RowKit Go.PlainAid
open B2 (Only)
def och1 (i k : Nat) : List Value := [(.int .i64 0), (.int .i64 0), (.int .i64 ((i : Int) * 1000 + (k : Int))), (.slice none 0 0)]
def och2 (i k : Nat) : List Value := [(.int .i64 0), (.int .i64 0), (.int .i64 ((-1 - (i : Int)) * 1000 + (k : Int))), (.slice none 0 0)]
theorem och1_len (i k : Nat) : (och1 i k).length = 4 := rfl
theorem och2_len (i k : Nat) : (och2 i k).length = 4 := rfl
theorem och_info : (Tryz.prog.info? 26).map (fun i => (i.zero, i.size, i.bytes)) = some (some (.agg #[.int .i64 0, .int .i64 0, .int .i64 0, .slice none 0 0]), 4, 48) := by kernel_rfl
theorem och_row : (Tryz.prog.info? 23).map (fun i => (i.zero, i.size, i.bytes)) = some (some (.slice none 0 0), 1, 24) := by kernel_rfl
theorem och_new (W : World) (Z : Int) : ∀ (j : Nat) (x : Value), ([(.int .i64 0), (.int .i64 0), (.int .i64 Z), (.slice none 0 0)] : List Value)[j]? = some x → (W.alloc (.cells #[(.int .i64 0), (.int .i64 0), (.int .i64 Z), (.slice none 0 0)] 26)).cell? ((⟨W.heap.size, 0, none⟩ : Addr).add j) = some x := World.news_of_block (heap_alloc_new W _)
theorem och_one (W : World) (u : Value) (t : TypeId) : ∀ (j : Nat) (x : Value), [u][j]? = some x → (W.alloc (.cells #[u] t)).cell? ((⟨W.heap.size, 0, none⟩ : Addr).add j) = some x := World.news_of_block (heap_alloc_new W _)
theorem och_put {S : List Nat} {w wr : World} {N h n i k : Nat} {X : Nat → Value} {L : Nat → Nat} {a : Option Addr} (H : Bk8.Marked 26 4 och1 S w N X L a h n i k wr) (hk : k < L i) (hh : ∀ j g, (X j).ownBlock = some g → g ≠ h) (hS : ∀ j g, (X j).ownBlock = some g → g ∈ S) (Z : Int) (hZ : (i : Int) * 1000 + (k : Int) = Z) :
    ∃ g cap u0 u1 u2 u3, X i = .slice (some ⟨g, 0, none⟩) (L i) cap ∧ (wr.cell? ⟨g, k * 4, none⟩ = some u0 ∧ wr.frozen? ⟨g, k * 4, none⟩ = false ∧ (wr.setCell ⟨g, k * 4, none⟩ (.int .i64 0)).cell? ⟨g, k * 4 + 1, none⟩ = some u1 ∧ (wr.setCell ⟨g, k * 4, none⟩ (.int .i64 0)).frozen? ⟨g, k * 4 + 1, none⟩ = false ∧ ((wr.setCell ⟨g, k * 4, none⟩ (.int .i64 0)).setCell ⟨g, k * 4 + 1, none⟩ (.int .i64 0)).cell? ⟨g, k * 4 + 2, none⟩ = some u2 ∧ ((wr.setCell ⟨g, k * 4, none⟩ (.int .i64 0)).setCell ⟨g, k * 4 + 1, none⟩ (.int .i64 0)).frozen? ⟨g, k * 4 + 2, none⟩ = false ∧ (((wr.setCell ⟨g, k * 4, none⟩ (.int .i64 0)).setCell ⟨g, k * 4 + 1, none⟩ (.int .i64 0)).setCell ⟨g, k * 4 + 2, none⟩ (.int .i64 Z)).cell? ⟨g, k * 4 + 3, none⟩ = some u3 ∧ (((wr.setCell ⟨g, k * 4, none⟩ (.int .i64 0)).setCell ⟨g, k * 4 + 1, none⟩ (.int .i64 0)).setCell ⟨g, k * 4 + 2, none⟩ (.int .i64 Z)).frozen? ⟨g, k * 4 + 3, none⟩ = false) ∧
      Bk8.Marked 26 4 och1 S w N X L a h n i (k + 1) ((((wr.setCell ⟨g, k * 4, none⟩ (.int .i64 0)).setCell ⟨g, k * 4 + 1, none⟩ (.int .i64 0)).setCell ⟨g, k * 4 + 2, none⟩ (.int .i64 Z)).setCell ⟨g, k * 4 + 3, none⟩ (.slice none 0 0)) := by
  obtain ⟨g, cap, xs, hX, hg, hgl, hb, hown, hM⟩ := H.cell och1_len (by decide) hk hh hS
  have hlen := hown.1
  have c0 := hown.cellAt (k * 4 + 0) (by first | omega | (simp only [List.length_set]; omega))
  have f0 := hown.frozenAt (k * 4 + 0)
  have s0 := (hown.stored (k * 4 + 0) (.int .i64 0)).1
  have c1 := s0.cellAt (k * 4 + 1) (by first | omega | (simp only [List.length_set]; omega))
  have f1 := s0.frozenAt (k * 4 + 1)
  have s1 := (s0.stored (k * 4 + 1) (.int .i64 0)).1
  have c2 := s1.cellAt (k * 4 + 2) (by first | omega | (simp only [List.length_set]; omega))
  have f2 := s1.frozenAt (k * 4 + 2)
  have s2 := (s1.stored (k * 4 + 2) (.int .i64 Z)).1
  have c3 := s2.cellAt (k * 4 + 3) (by first | omega | (simp only [List.length_set]; omega))
  have f3 := s2.frozenAt (k * 4 + 3)
  rw [List.getElem?_eq_getElem (by omega)] at c0
  rw [List.getElem?_set_ne (by omega), List.getElem?_eq_getElem (by omega)] at c1
  rw [List.getElem?_set_ne (by omega), List.getElem?_set_ne (by omega), List.getElem?_eq_getElem (by omega)] at c2
  rw [List.getElem?_set_ne (by omega), List.getElem?_set_ne (by omega), List.getElem?_set_ne (by omega), List.getElem?_eq_getElem (by omega)] at c3
  unfold och1 at hM
  rw [hZ] at hM
  exact ⟨g, cap, xs[k * 4 + 0]'(by omega), xs[k * 4 + 1]'(by omega), xs[k * 4 + 2]'(by omega), xs[k * 4 + 3]'(by omega), hX, ⟨c0, f0, c1, f1, c2, f2, c3, f3⟩, hM⟩
theorem och_w64 {x : Int} (h1 : -9223372036854775808 ≤ x) (h2 : x ≤ 9223372036854775807) : wrap64 x = x := by unfold wrap64; omega
theorem och_pos (i k : Nat) (h1 : i ≤ 1000) (h2 : k ≤ 100000000) : ∃ A Z : Int, (i : Int) * 1000 = A ∧ A + (k : Int) = Z ∧ (i : Int) * 1000 + (k : Int) = Z ∧ wrap64 A = A ∧ IntKind.i64.wrap A = A ∧ wrap64 Z = Z ∧ IntKind.i64.wrap Z = Z := ⟨_, _, rfl, rfl, rfl, och_w64 (by omega) (by omega), by rw [IntKind.wrap_i64]; omega, och_w64 (by omega) (by omega), by rw [IntKind.wrap_i64]; omega⟩
theorem och_neg (i k : Nat) (h1 : i ≤ 1000) (h2 : k ≤ 100000000) : ∃ B A Z : Int, -1 - (i : Int) = B ∧ B * 1000 = A ∧ A + (k : Int) = Z ∧ (-1 - (i : Int)) * 1000 + (k : Int) = Z ∧ wrap64 B = B ∧ IntKind.i64.wrap B = B ∧ wrap64 A = A ∧ IntKind.i64.wrap A = A ∧ wrap64 Z = Z ∧ IntKind.i64.wrap Z = Z := ⟨_, _, _, rfl, rfl, rfl, rfl, och_w64 (by omega) (by omega), by rw [IntKind.wrap_i64]; omega, och_w64 (by omega) (by omega), by rw [IntKind.wrap_i64]; omega, och_w64 (by omega) (by omega), by rw [IntKind.wrap_i64]; omega⟩
theorem och_sum (k q : Nat) (h1 : k ≤ 100000000) (h2 : q ≤ 16) : ∃ m : Nat, k + q = m ∧ wrap64 ((k : Int) + (q : Int)) = (m : Int) ∧ IntKind.i64.wrap ((k : Int) + (q : Int)) = (m : Int) := ⟨_, rfl, by rw [och_w64 (by omega) (by omega)]; omega, by rw [IntKind.wrap_i64]; omega⟩
theorem och_lt {k q m : Nat} (h : k + q = m) (h2 : q < 8) : (m : Int) < (k : Int) + 8 ∧ (0 : Int) ≤ (m : Int) ∧ m < k + 8 := by omega
set_option maxRecDepth 100000 in
set_option maxHeartbeats 8000000 in
theorem och_any (S : List Nat) (a : Option Addr) (h n cap N : Nat) (X : Nat → Value) (L : Nat → Nat) (w : World) (P : Bk8.Places N w.heap.size h X) (hO : Bk8.Outer w a h n X) (hR : ∃ C, Bk8.Lots 26 4 w N X L C) (hn : n ≤ 1000) (hL : ∀ j, L j ≤ 100000000) (hz : ∀ j, n ≤ j → L j = 0) (hS : ∀ j g, (X j).ownBlock = some g → g ∈ S) :
    Calls Tryz.prog 67 #[.slice a n cap] w fun e w' => e = .returned (.bool true) ∧ Only S w w' := by
  obtain ⟨i0, hi0, hz0, hz1, hz2⟩ := info_parts och_info
  obtain ⟨i1, hi1, hy0, hy1, hy2⟩ := info_parts och_row
  obtain ⟨C, hC⟩ := hR
  have HSS := Lib.hid hS
  have M0 := Lib.hid (Bk8.Marked.zero (m1 := och1) (S := S) hC hO)
  have HH := Lib.hid P.ne
  have HP := Lib.hid P
  have HL := Lib.hid hL
  have HZ := Lib.hid hz
  clear hO hC hL P hz hS
  go_enter Tryz.func67, Tryz.ntmps67
  go_wp2
  go_loopw [3] (fun ii wr => ∃ i : Nat, i ≤ n ∧ ii = .int .i64 (i : Nat) ∧ Hid (Bk8.Marked 26 4 och1 S w N X L a h n i 0 wr) ∧ Hid (w.heap.size ≤ wr.heap.size)) (fun ii _ => n - (intOf ii).toNat)
  case atStart => exact ⟨0, Nat.zero_le _, rfl, M0, Lib.hid (Nat.le_refl _)⟩
  case round =>
    obtain ⟨i, hi, rfl, HM, HS⟩ := hrel
    by_cases hlt : i < n
    · have hd : decide (i < n) = true := by simpa using hlt
      have hix : (i : Int) < (n : Int) := by omega
      go_wp2
      go_loopw [4] (fun kk wr2 => ∃ k : Nat, k ≤ L i ∧ kk = .int .i64 (k : Nat) ∧ Hid (Bk8.Marked 26 4 och1 S w N X L a h n i k wr2) ∧ Hid (w.heap.size ≤ wr2.heap.size)) (fun kk _ => L i - (intOf kk).toNat)
      case atStart => exact ⟨0, Nat.zero_le _, rfl, HM, HS⟩
      case round =>
        obtain ⟨k, hk, rfl, HM2, HS2⟩ := hrel
        have hLi := HL.out i
        obtain ⟨rfl, hhl, hcs⟩ := HM2.out.outer (by omega)
        have hci := hcs i hlt
        by_cases hlt2 : k < L i
        · obtain ⟨A, Z, e1, e2, e3, z1, z2, z3, z4⟩ := och_pos i k (by omega) (by omega)
          obtain ⟨g, cp, u0, u1, u2, u3, hX, ⟨q0a, q0b, q1a, q1b, q2a, q2b, q3a, q3b⟩, hst⟩ := och_put HM2.out hlt2 HH.out HSS.out Z e3
          rw [hX] at hci
          have HN := Lib.hid hst
          have HN2 := Lib.hid (show w.heap.size ≤ ((((wr.setCell ⟨g, k * 4, none⟩ (.int .i64 0)).setCell ⟨g, k * 4 + 1, none⟩ (.int .i64 0)).setCell ⟨g, k * 4 + 2, none⟩ (.int .i64 Z)).setCell ⟨g, k * 4 + 3, none⟩ (.slice none 0 0)).heap.size by have h2 := HS2.out; simp; omega)
          obtain ⟨Li, hLe⟩ : ∃ Li, L i = Li := ⟨_, rfl⟩
          rw [hLe] at hci hlt2 hLi hk ⊢
          have hd2 : decide (k < Li) = true := by simpa using hlt2
          have hkx : (k : Int) < (Li : Int) := by omega
          clear hst hX hLe hcs e3
          go_wp2
          clear q0a q0b q1a q1b q2a q2b q3a q3b
          go_roundw
          case rel => exact ⟨k + 1, by omega, by go_num, HN, HN2⟩
          case measure => simp [intOf]; omega
        · obtain ⟨a', cp, hX⟩ := HM2.out.shape i
          rw [hX] at hci
          have HN := Lib.hid (HM2.out.next (by omega))
          obtain ⟨Li, hLe⟩ : ∃ Li, L i = Li := ⟨_, rfl⟩
          rw [hLe] at hci hlt2 hLi hk ⊢
          have hd2 : decide (k < Li) = false := by simpa using hlt2
          clear hX hLe hcs
          go_wp2
          go_roundw
          case rel => exact ⟨i + 1, by omega, by go_num, HN, HS2⟩
          case measure => simp [intOf]; omega
    · obtain rfl : i = n := by omega
      have hd : decide (i < i) = false := by simp
      have G0 := Lib.hid (show Bk8.Long 23 26 4 och1 och2 S w N X L a h i w.heap.size 0 (.slice none 0 0) (fun _ => .slice none 0 0) wr from ⟨HM.out.all HZ.out, HM.out.outer, HM.out.only, World.ownsRow_nil _ _ _ _, fun j hj => by omega, fun g hg => (by cases hg), HS.out⟩)
      obtain ⟨M, hM⟩ : ∃ M, w.heap.size = M := ⟨_, rfl⟩
      have HMW := Lib.hid (show w.heap.size ≤ M by omega)
      rw [hM] at G0 HP
      clear hM hlt
      go_wp2
      go_loopw [5, 6] (fun vl ii wr => ∃ (j : Nat) (Y : Nat → Value), j ≤ i ∧ ii = .int .i64 (j : Nat) ∧ Hid (Bk8.Long 23 26 4 och1 och2 S w N X L a h i M j vl Y wr)) (fun _ ii _ => i - (intOf ii).toNat)
      case atStart => exact ⟨0, _, Nat.zero_le _, rfl, G0⟩
      case round =>
        obtain ⟨j, Y, hj, rfl, HG⟩ := hrel
        by_cases hlt : j < i
        · have hd2 : decide (j < i) = true := by simpa using hlt
          have hjx : (j : Int) < (i : Int) := by omega
          obtain ⟨rfl, hhl, hcs⟩ := HG.out.outer (by omega)
          have hcj := hcs j hlt
          have E0 := Lib.hid (Bk8.Ext.zero (m2 := och2) (HG.out.rows.own j))
          obtain ⟨aj, cj, hXj⟩ := Bk8.owns_shape (HG.out.rows.own j)
          have hLj := HL.out j
          rw [hXj] at hcj E0
          obtain ⟨av, cv, rfl⟩ := HG.out.shape
          have HXL := Lib.hid (show ∀ g, (X j).ownBlock = some g → g < wr.heap.size ∧ N ≤ g from fun g hg => ⟨by have h1 := (HP.out.lt j g hg).1; have h2 := HG.out.size; omega, (HP.out.lt j g hg).2⟩)
          clear hcs hXj
          obtain ⟨wo, hwo⟩ : ∃ wo, wo = wr := ⟨_, rfl⟩
          subst hwo
          go_wp2
          go_loopw [7, 8] (fun xv kk wr2 => ∃ k : Nat, k ≤ 8 ∧ kk = .int .i64 (k : Nat) ∧ Hid (Bk8.Ext 26 4 och1 och2 wo N X L j k xv wr2)) (fun _ kk _ => 8 - (intOf kk).toNat)
          case atStart => exact ⟨0, Nat.zero_le _, rfl, E0⟩
          case round =>
            obtain ⟨k, hk, rfl, HE⟩ := hrel
            by_cases hlt2 : k < 8
            · have hd3 : decide ((k : Int) < 8) = true := by simp; omega
              obtain ⟨ax, cx, rfl⟩ := HE.out.shape
              obtain ⟨B, A, Z, e1, e2, e3, e4, z1, z2, z3, z4, z5, z6⟩ := och_neg j k (by omega) (by omega)
              have HM2 := Lib.hid (show och2 j k = [(.int .i64 0), (.int .i64 0), (.int .i64 Z), (.slice none 0 0)] by unfold och2; rw [e4])
              clear e4
              go_wp2_with (at_builtin; refine Bk8.wpList_append_goes _ rfl (.tmp 53) (.tmp 60) 23 rfl 26 i0 (.agg #[.int .i64 0, .int .i64 0, .int .i64 0, .slice none 0 0]) 4 48 Tryz.underlying23 hi0 hz0 hz1 hz2 rfl (by decide) (.slice ax (L j + k) cx) (L j + k) (Bk8.Dm och1 och2 L j k) rfl (HE.out.own.alloc _) ⟨wr.heap.size, 0, none⟩ 1 1 [(.int .i64 0), (.int .i64 0), (.int .i64 Z), (.slice none 0 0)] rfl rfl (och_new wr Z) (by simp [Value.oneCell']) (by unfold maxLen; omega) (by omega) (by decide) ?_)
              intro v2 w2 hown2 hgo2
              rw [← HM2.out] at hown2
              have HN := Lib.hid (HE.out.step och1_len hown2 hgo2 HXL.out)
              obtain ⟨a2, c2, rfl⟩ := HN.out.shape
              clear hown2 hgo2
              go_wp2
              go_roundw
              case rel => exact ⟨k + 1, by omega, by go_num, HN⟩
              case measure => simp [intOf]; omega
            · obtain rfl : k = 8 := by omega
              obtain ⟨ax, cx, rfl⟩ := HE.out.shape
              have HOW := Lib.hid (show wr.ownsRow 0 23 1 (.slice av j cv) j ((List.range j).map Y) from Bk8.owns_only HG.out.own HE.out.only (fun g hg hm => by
                have h1 := (HG.out.pos g hg).1
                have h2 := (HP.out.lt j g (by simpa using hm)).1
                omega))
              go_wp2_with (at_builtin; refine Bk8.wpList_append_goes _ rfl (.tmp 62) (.tmp 64) 66 rfl 23 i1 (.slice none 0 0) 1 24 Tryz.underlying66 hi1 hy0 hy1 hy2 rfl (by decide) (.slice av j cv) j ((List.range j).map Y) rfl (HOW.out.alloc _) ⟨wr.heap.size, 0, none⟩ 1 1 [Value.slice ax (L j + 8) cx] rfl rfl (och_one wr _ 23) (by simp [Value.oneCell']) (by unfold maxLen; omega) (by omega) (by decide) ?_)
              intro v2 w2 hown2 hgo2
              have HN := Lib.hid (HG.out.step HP.out HE.out hown2 hgo2 HSS.out HMW.out)
              obtain ⟨a2, c2, rfl⟩ := HN.out.shape
              clear hown2 hgo2
              go_wp2
              go_roundw
              case rel => exact ⟨j + 1, _, by omega, by go_num, HN⟩
              case measure => simp [intOf]; omega
        · obtain rfl : j = i := by omega
          have hd2 : decide (j < j) = false := by simp
          obtain ⟨av, cv, rfl⟩ := HG.out.shape
          clear G0 hlt
          go_wp2
          go_loopw [9] (fun ii wr => ∃ t : Nat, t ≤ j ∧ ii = .int .i64 (t : Nat) ∧ Hid (Bk8.Long 23 26 4 och1 och2 S w N X L a h j M j (.slice av j cv) Y wr)) (fun ii _ => j - (intOf ii).toNat)
          case atStart => exact ⟨0, Nat.zero_le _, rfl, HG⟩
          case round =>
            obtain ⟨t, ht, rfl, HG2⟩ := hrel
            clear HG
            by_cases hlt3 : t < j
            · have hd4 : decide (t < j) = true := by simpa using hlt3
              have htx : (t : Int) < (j : Int) := by omega
              obtain ⟨rfl, hhl, hcs⟩ := HG2.out.outer (by omega)
              have hct := hcs t hlt3
              obtain ⟨aj, cj, hXj⟩ := Bk8.owns_shape (HG2.out.rows.own t)
              have hLt := HL.out t
              rw [hXj] at hct
              obtain ⟨Lt, hLe⟩ : ∃ Lt, L t = Lt := ⟨_, rfl⟩
              have HLE := Lib.hid hLe
              rw [hLe] at hct hLt
              have HXJ := Lib.hid hXj
              rw [hLe] at HXJ
              clear hXj hcs hLe
              go_wp2
              go_loopw [11] (fun kk wr => ∃ k : Nat, k ≤ Lt ∧ kk = .int .i64 (k : Nat) ∧ Hid (Bk8.Long 23 26 4 och1 och2 S w N X L (some ⟨h, 0, none⟩) h j M j (.slice av j cv) Y wr)) (fun kk _ => Lt - (intOf kk).toNat)
              case atStart => exact ⟨0, Nat.zero_le _, rfl, HG2⟩
              case round =>
                obtain ⟨k, hk, rfl, HG3⟩ := hrel
                clear HG2 hct
                by_cases hlt4 : k < Lt
                · have hd5 : decide (k < Lt) = true := by simpa using hlt4
                  have hkx : (k : Int) < (Lt : Int) := by omega
                  have hkx2 : (k : Int) < (Lt : Int) + 8 := by omega
                  have hkx3 : k < Lt + 8 := by omega
                  obtain ⟨_, hhl3, hcs3⟩ := HG3.out.outer (by omega)
                  have hct3 := hcs3 t hlt3
                  rw [HXJ.out] at hct3
                  obtain ⟨gl, cl, gy, cy, hvl, hlc, hy1, hy2, hx1⟩ := HG3.out.look och1_len och2_len t hlt3
                  cases hvl
                  rw [HLE.out] at hlc hy1 hx1
                  have p0 := hy1 k 0 _ hlt4 (by decide) rfl
                  have p1 := hy1 k 1 _ hlt4 (by decide) rfl
                  have p2 := hy1 k 2 _ hlt4 (by decide) rfl
                  have p3 := hy1 k 3 _ hlt4 (by decide) rfl
                  obtain ⟨gx, cpx, hX0, r0⟩ := hx1 k 0 _ hlt4 (by decide) rfl
                  obtain ⟨gx1, cpx1, hX1, r1⟩ := hx1 k 1 _ hlt4 (by decide) rfl
                  obtain ⟨gx2, cpx2, hX2, r2⟩ := hx1 k 2 _ hlt4 (by decide) rfl
                  obtain ⟨gx3, cpx3, hX3, r3⟩ := hx1 k 3 _ hlt4 (by decide) rfl
                  rw [HXJ.out] at hX0
                  cases hX0
                  rw [HXJ.out] at hX1
                  cases hX1
                  rw [HXJ.out] at hX2
                  cases hX2
                  rw [HXJ.out] at hX3
                  cases hX3
                  rw [Nat.add_zero] at p0 r0
                  obtain ⟨A, Z, e1, e2, e3, z1, z2, z3, z4⟩ := och_pos t k (by omega) (by omega)
                  rw [e3] at p2 r2
                  skip
                  clear hy1 hy2 hx1 hcs3 e3
                  go_wp2
                  go_roundw
                  case rel => exact ⟨k + 1, by omega, by go_num, HG3⟩
                  case measure => simp [intOf]; omega
                · obtain rfl : k = Lt := by omega
                  have hd5 : decide (k < k) = false := by simp
                  go_wp2
                  go_loopw [12] (fun kk wr => ∃ q : Nat, q ≤ 8 ∧ kk = .int .i64 (q : Nat) ∧ Hid (Bk8.Long 23 26 4 och1 och2 S w N X L (some ⟨h, 0, none⟩) h j M j (.slice av j cv) Y wr)) (fun kk _ => 8 - (intOf kk).toNat)
                  case atStart => exact ⟨0, by omega, rfl, HG3⟩
                  case round =>
                    obtain ⟨q, hq, rfl, HG4⟩ := hrel
                    clear HG3
                    by_cases hlt5 : q < 8
                    · have hd6 : decide ((q : Int) < 8) = true := by simp; omega
                      obtain ⟨gl, cl, gy, cy, hvl, hlc, hy1, hy2, hx1⟩ := HG4.out.look och1_len och2_len t hlt3
                      cases hvl
                      rw [HLE.out] at hlc hy2
                      have p0 := hy2 q 0 _ hlt5 (by decide) rfl
                      have p1 := hy2 q 1 _ hlt5 (by decide) rfl
                      have p2 := hy2 q 2 _ hlt5 (by decide) rfl
                      have p3 := hy2 q 3 _ hlt5 (by decide) rfl
                      rw [Nat.add_zero] at p0
                      obtain ⟨kq, hkq, z7, z8⟩ := och_sum k q (by omega) (by omega)
                      rw [hkq] at p0 p1 p2 p3
                      obtain ⟨hkqx, hkqx0, hkqx1⟩ := och_lt hkq hlt5
                      obtain ⟨B, A, Z, e1, e2, e3, e4, z1, z2, z3, z4, z5, z6⟩ := och_neg t q (by omega) (by omega)
                      rw [e4] at p2
                      skip
                      clear hy1 hy2 hx1 hkq e4
                      go_wp2
                      go_roundw
                      case rel => exact ⟨q + 1, by omega, by go_num, HG4⟩
                      case measure => simp [intOf]; omega
                    · obtain rfl : q = 8 := by omega
                      go_wp2
                      go_roundw
                      case rel => exact ⟨t + 1, by omega, by go_num, HG4⟩
                      case measure => simp [intOf]; omega
            · obtain rfl : t = j := by omega
              have hd4 : decide (t < t) = false := by simp
              go_wp2
              go_ret
              exact ⟨rfl, HG2.out.only⟩
end Go.Proofs.YtdlifcpdlbmijaaGreatDoor
namespace Go.Proofs.YtdlifcpdlbmijaaGreatDoor
set_option linter.unusedVariables false
set_option linter.unusedSimpArgs false
open Go.RowKit Go.PlainAid
open B2 (Only)
/-- the book's cells -/
def bkg (F : Nat → Value) : Array Value := ((List.range 32).map F).toArray
theorem bkg_at (F : Nat → Value) (k : Nat) (h : k < 32) : (bkg F)[k]? = some (F k) := by
  unfold bkg
  rw [List.getElem?_toArray, List.getElem?_map, List.getElem?_range h]
  rfl
def upd (F : Nat → Value) (f : Nat) (v : Value) : Nat → Value := fun k => if k = f then v else F k
theorem upd_here (F : Nat → Value) (f : Nat) (v : Value) : upd F f v f = v := if_pos rfl
theorem upd_rest (F : Nat → Value) (f k : Nat) (v : Value) (h : k ≠ f) : upd F f v k = F k := if_neg h
/-- the book is at pb -/
def BG (w : World) (pb : Nat) (F : Nat → Value) : Prop := w.heap[pb]? = some (.cells (bkg F) 73 (0, 0))
theorem BG.lt {w : World} {pb : Nat} {F : Nat → Value} (h : BG w pb F) : pb < w.heap.size := (Array.getElem?_eq_some_iff.1 h).1
theorem BG.cell {w : World} {pb : Nat} {F : Nat → Value} (h : BG w pb F) (k : Nat) (hk : k < 32) : w.cell? ⟨pb, k, none⟩ = some (F k) := by
  rw [cell_of_row _ _ _ _ _ _ h]; exact bkg_at F k hk
theorem BG.frozen {w : World} {pb : Nat} {F : Nat → Value} (h : BG w pb F) (k : Nat) : w.frozen? ⟨pb, k, none⟩ = false := frozen_of_row _ _ _ _ _ h
theorem BG.only {w w' : World} {pb : Nat} {F : Nat → Value} (h : BG w pb F) {S : List Nat} (ho : Only S w w') (hn : pb ∉ S) : BG w' pb F := (ho.block pb h.lt hn).trans h
theorem BG.below {w w' : World} {pb : Nat} {F : Nat → Value} (h : BG w pb F) (hb : Below w.heap.size w w') : BG w' pb F := h.only (Only.of_below hb []) (by simp)
theorem BG.put {w : World} {pb : Nat} {F : Nat → Value} (h : BG w pb F) (f : Nat) (hf : f < 32) (v : Value) : BG (w.setCell ⟨pb, f, none⟩ v) pb (upd F f v) := by
  unfold BG
  rw [heap_setCell_same _ _ _ _ _ _ h]
  congr 2
  unfold bkg
  apply Array.ext'
  simp only [Array.toList_setIfInBounds]
  apply List.ext_getElem?
  intro i
  rw [List.getElem?_set]
  by_cases hi : f = i
  · subst hi
    rw [if_pos rfl, List.getElem?_map, List.getElem?_range hf]
    simp [upd, hf]
  · rw [if_neg hi, List.getElem?_map, List.getElem?_map]
    by_cases h2 : i < 32
    · rw [List.getElem?_range h2]
      simp [upd, Ne.symm hi]
    · rw [List.getElem?_eq_none (by simpa using h2)]; rfl
/-- blocks of unlike types are unlike -/
theorem unlike {w : World} {a b : Nat} {x y : Array Value} {s t : TypeId} {p q : Nat × Nat} (h1 : w.heap[a]? = some (.cells x s p)) (h2 : w.heap[b]? = some (.cells y t q)) (hne : s ≠ t) : a ≠ b := fun e => by
  subst e
  rw [h1] at h2
  injection h2 with h2
  injection h2 with _ h2
  exact hne h2
theorem owns_cells {w : World} {N e sz n g : Nat} {v : Value} {xs : List Value} (h : w.ownsRow N e sz v n xs) (hg : v.ownBlock = some g) : ∃ cur : Array Value, w.heap[g]? = some (.cells cur e (0, 0)) := by
  rcases h.2 with ⟨hv, _⟩ | ⟨g2, c2, cur, hv, _, hh, _⟩
  · rw [hv] at hg; cases hg
  · rw [hv] at hg; injection hg with hg; have hg : g2 = g := hg; subst hg; exact ⟨cur, hh⟩
/-- behind a row more -/
def BPost (w : World) (pb f te n : Nat) (F : Nat → Value) (xs : List Value) (x : Value) (w' : World) : Prop :=
  ∃ v', BG w' pb (upd F f v') ∧ w'.ownsRow 0 te 1 v' (n + 1) (xs ++ [x]) ∧ Only (pb :: (F f).ownBlock.toList) w w' ∧ (v'.ownBlock = (F f).ownBlock ∨ ∃ g, v'.ownBlock = some g ∧ w.heap.size ≤ g)
theorem BG.append {w w2 : World} {pb f te n c3 cv : Nat} {av a2 : Option Addr} {F : Nat → Value} {xs : List Value} {x : Value} {o : Obj} (hB : BG w pb F) (hF : F f = .slice av n cv) (hf : f < 32) (hte : te ≠ 73) (hv : w.ownsRow 0 te 1 (.slice av n cv) n xs)
    (hown2 : w2.ownsRow 0 te 1 (.slice a2 (n + 1) c3) (n + 1) (xs ++ [x])) (hgo : Bk.Goes (w.alloc o) w2 (.slice av n cv) (.slice a2 (n + 1) c3) n 1) :
    BG w2 pb F ∧ BPost w pb f te n F xs x (w2.setCell ⟨pb, f, none⟩ (.slice a2 (n + 1) c3)) := by
  have hgr2 : Only (Value.slice av n cv).ownBlock.toList (w.alloc o) w2 := by
    rcases hgo with ⟨g, cap, hv, hv', hgr⟩ | ⟨g, cap, hv', hg, hgr⟩
    · rw [hv]
      exact (Only.refl _ _).grown hgr (fun k hk => by cases hk; exact .inl (by simp [Value.ownBlock]))
    · exact (Only.refl _ _).grown hgr (fun k hk => by cases hk)
  have ho2 : Only (Value.slice av n cv).ownBlock.toList w w2 := ((Only.refl _ w).alloc _).trans hgr2 (fun x hx => .inl hx)
  have hpb : pb ∉ (Value.slice av n cv).ownBlock.toList := fun hm => by
    obtain ⟨cur, hc⟩ := owns_cells hv (by simpa using hm)
    exact unlike hc hB hte rfl
  have hB2 := hB.only ho2 hpb
  refine ⟨hB2, _, hB2.put f hf _, ?_, ?_, ?_⟩
  · refine Bk.owns_only hown2 ((Only.refl [pb] _).setCell (p := ⟨pb, f, none⟩) (.inl (by simp)) _) (fun g hg hm => ?_)
    obtain ⟨cur, hc⟩ := owns_cells hown2 hg
    exact unlike hc hB2 hte (by simpa using hm)
  · rw [hF]
    exact (ho2.mono (fun x hx => List.mem_cons_of_mem _ hx)).setCell (p := ⟨pb, f, none⟩) (.inl (by simp)) _
  · rw [hF]
    rcases hgo with ⟨g, cap, hv, hv', _⟩ | ⟨g, cap, hv', hg, _⟩
    · exact .inl (by rw [hv, hv']; rfl)
    · exact .inr ⟨g, by rw [hv']; rfl, by simp at hg; omega⟩
theorem info22s : (Tryz.prog.info? 22).map (fun i => (i.zero, i.size, i.bytes)) = some (some (.slice none 0 0), 1, 24) := by kernel_rfl
theorem one_anyB (W : World) (u : Value) (t : TypeId) : ∀ (j : Nat) (x : Value), [u][j]? = some x → (W.alloc (.cells #[u] t)).cell? ((⟨W.heap.size, 0, none⟩ : Addr).add j) = some x := World.news_of_block (heap_alloc_new W _)
set_option maxRecDepth 100000 in
set_option maxHeartbeats 1000000 in
theorem bgbytes_any (pb n m cap : Nat) (a : Option Addr) (F : Nat → Value) (xs : List Value) (w : World) (H : BG w pb F) (hv : w.ownsRow 0 24 1 (F 0) n xs) (hn : n ≤ 100000) :
    Calls Tryz.prog 38 #[.pointer (some ⟨pb, 0, none⟩), .slice a m cap] w fun e w' => e = .returned (.tuple #[]) ∧ BPost w pb 0 24 n F xs (.slice a m cap) w' := by
  obtain ⟨i0, hi, hz0, hz1, hz2⟩ := info_parts B2.info27
  obtain ⟨av, cv, hF⟩ := Bk.owns_shape hv
  rw [hF] at hv
  have c0 : w.cell? ⟨pb, 0, none⟩ = some (.slice av n cv) := by rw [← hF]; exact H.cell 0 (by decide)
  have HH := Lib.hid H
  have HV := Lib.hid hv
  have HFF := Lib.hid hF
  clear H hv hF
  go_enter Tryz.func38, Tryz.ntmps38
  go_wp2_with (at_builtin; refine Bk.wpList_append_goes _ rfl (.tmp 8) (.tmp 10) 40 rfl 24 i0 (.slice none 0 0) 1 24 Tryz.underlying40 hi hz0 hz1 hz2 rfl (by decide) (.slice av n cv) n xs rfl (HV.out.alloc _) ⟨w.heap.size, 0, none⟩ 1 1 [Value.slice a m cap] rfl rfl (one_anyB w _ 24) (by simp [Value.oneCell']) (by unfold maxLen; omega) (by omega) (by decide) ?_)
  intro v2 w2 hown2 hgo2
  obtain ⟨a2, c3, rfl⟩ := Bk.owns_shape hown2
  obtain ⟨hb2, hpost⟩ := HH.out.append HFF.out (by decide) (by decide) HV.out hown2 hgo2
  have c2 : w2.cell? ⟨pb, 0, none⟩ = some (.slice av n cv) := by rw [← HFF.out]; exact hb2.cell 0 (by decide)
  have f2 : w2.frozen? ⟨pb, 0, none⟩ = false := hb2.frozen 0
  have HN := Lib.hid hpost
  clear hown2 hgo2 hb2 hpost
  go_wp2
  go_end0
  exact ⟨rfl, HN.out⟩
set_option maxRecDepth 100000 in
set_option maxHeartbeats 1000000 in
theorem bgsamples_any (pb n m cap : Nat) (a : Option Addr) (F : Nat → Value) (xs : List Value) (w : World) (H : BG w pb F) (hv : w.ownsRow 0 22 1 (F 10) n xs) (hn : n ≤ 100000) :
    Calls Tryz.prog 15 #[.pointer (some ⟨pb, 0, none⟩), .slice a m cap] w fun e w' => e = .returned (.tuple #[]) ∧ BPost w pb 10 22 n F xs (.slice a m cap) w' := by
  obtain ⟨i0, hi, hz0, hz1, hz2⟩ := info_parts info22s
  obtain ⟨av, cv, hF⟩ := Bk.owns_shape hv
  rw [hF] at hv
  have c0 : w.cell? ⟨pb, 10, none⟩ = some (.slice av n cv) := by rw [← hF]; exact H.cell 10 (by decide)
  have HH := Lib.hid H
  have HV := Lib.hid hv
  have HFF := Lib.hid hF
  clear H hv hF
  go_enter Tryz.func15, Tryz.ntmps15
  go_wp2_with (at_builtin; refine Bk.wpList_append_goes _ rfl (.tmp 8) (.tmp 10) 50 rfl 22 i0 (.slice none 0 0) 1 24 Tryz.underlying50 hi hz0 hz1 hz2 rfl (by decide) (.slice av n cv) n xs rfl (HV.out.alloc _) ⟨w.heap.size, 0, none⟩ 1 1 [Value.slice a m cap] rfl rfl (one_anyB w _ 22) (by simp [Value.oneCell']) (by unfold maxLen; omega) (by omega) (by decide) ?_)
  intro v2 w2 hown2 hgo2
  obtain ⟨a2, c3, rfl⟩ := Bk.owns_shape hown2
  obtain ⟨hb2, hpost⟩ := HH.out.append HFF.out (by decide) (by decide) HV.out hown2 hgo2
  have c2 : w2.cell? ⟨pb, 10, none⟩ = some (.slice av n cv) := by rw [← HFF.out]; exact hb2.cell 10 (by decide)
  have f2 : w2.frozen? ⟨pb, 10, none⟩ = false := hb2.frozen 10
  have HN := Lib.hid hpost
  clear hown2 hgo2 hb2 hpost
  go_wp2
  go_end0
  exact ⟨rfl, HN.out⟩
end Go.Proofs.YtdlifcpdlbmijaaGreatDoor
