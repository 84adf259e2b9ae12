/-
  THE BOOK, of elements of any size: rows apart from each other, their marks, the rows that grow. No number of the program stands in it.
-/
import Derived.Test.YtiolghcjndoigaaGreatDoorBase
import Derived.Laws.OwnMore
namespace Go.Proofs.YtiolghcjndoigaaGreatDoor.Bk
set_option linter.unusedVariables false
set_option linter.unusedSimpArgs false
open Go.RowKit Go.PlainAid
section
variable {P : Program}
/-- where an append of at least one element goes: in place, with the same room; or to new memory, and then nothing that was there has turned -/
def Goes (w w' : World) (v v' : Value) (n m : Nat) : Prop :=
  (∃ g cap, v = .slice (some ⟨g, 0, none⟩) n cap ∧ v' = .slice (some ⟨g, 0, none⟩) (n + m) cap ∧ w.grownBy w' (some g)) ∨
  (∃ g cap, v' = .slice (some ⟨g, 0, none⟩) (n + m) cap ∧ w.heap.size ≤ g ∧ w.grownBy w' none)
theorem run_append_goes (w : World) (t ty e : TypeId) (i : TypeInfo) (z : Value) (size bytes : Nat) (ht : P.underlying t = some (.slice e)) (hi : P.info? e = some i) (hz : i.zero = some z)
    (hsize : i.size = size) (hby : i.bytes = bytes) (hzs : z.cells.size = size) (hsz : 0 < size)
    (v : Value) (n : Nat) (xs : List Value) (hown : w.ownsRow 0 e size v n xs)
    (a : Addr) (m c : Nat) (news : List Value) (hl : news.length = m * size) (hnews : ∀ j u, news[j]? = some u → w.cell? (a.add j) = some u) (h1 : ∀ u ∈ news, u.oneCell' = true)
    (h63 : n + m ≤ maxLen) (hbytes : (n + m) * bytes ≤ 140737488355328) (hm : 0 < m) :
    ∃ v' w', (Builtin.append_ #[t, t] ty #[v, .slice (some a) m c]).run P w = .ok v' w' ∧ w'.ownsRow 0 e size v' (n + m) (xs ++ news) ∧ Goes w w' v v' n m := by
  obtain ⟨v', w', hr, h2, h3, h4⟩ := run_append_own (P := P) w 0 t ty e i z size bytes ht hi hz hsize hby hzs hsz v n xs hown a m c news hl hnews h1 h63 hbytes (Nat.zero_le _)
  refine ⟨v', w', hr, h2, ?_⟩
  rcases hown.2 with ⟨rfl, rfl⟩ | ⟨g, cap, cur, rfl, hbg, hg, hnc, hcm, hcs, htake⟩
  · have hx : xs = [] := List.eq_nil_of_length_eq_zero (by simpa using hown.1)
    subst hx
    obtain ⟨v2, w2, hr2, k2, k3, k4⟩ := run_append_own (P := P) w w.heap.size t ty e i z size bytes ht hi hz hsize hby hzs hsz _ 0 [] (World.ownsRow_nil w _ e size) a m c news hl hnews h1 h63 hbytes (Nat.le_refl _)
    rw [hr] at hr2
    cases hr2
    rcases k2.2 with ⟨_, h0⟩ | ⟨g, cap, cur, hv, hg, _⟩
    · omega
    · exact .inr ⟨g, cap, hv, hg, h3⟩
  · by_cases hroom : n + m ≤ cap
    · have hfit : n * i.size + news.length ≤ cur.size := by rw [hl, hcs, hsize, ← Nat.add_mul]; exact Nat.mul_le_mul_right _ hroom
      have hr2 := run_append_room (P := P) w t ty e i ht hi g n cap cur hg a m c news (by rw [hsize]; exact hl) hnews h1 hroom hfit
      rw [hr] at hr2
      cases hr2
      exact .inl ⟨g, cap, rfl, rfl, h3⟩
    · have holds := hown.cells (g := g) rfl
      have hr2 := run_append_grow (P := P) w t ty e i z ht hi hz ⟨g, 0, none⟩ n cap xs (by rw [hsize]; exact hown.1) holds a m c news (by rw [hsize]; exact hl) hnews (by omega) (by simp only [maxLen] at h63; omega) (growslice_fits (by omega) (by rw [hby]; exact hbytes))
      rw [hr] at hr2
      cases hr2
      exact .inr ⟨_, _, rfl, Nat.le_refl _, ⟨rfl, rfl, rfl, by simp, fun k hk _ => Below.heap_alloc w.drew _ k hk⟩⟩
theorem wpList_append_goes (w : World) {ops : Array Oper} {rest : List Oper} {o : Oper} {a : Act} {Q : Exit → Act → World → Prop} (hgd : o.guard = none) (s x : Operand) (t : TypeId)
    (ho : o.op = .call { callee := .builtin .append, args := #[s, x], argTypes := #[t, t] })
    (e : TypeId) (i : TypeInfo) (z : Value) (size bytes : Nat) (ht : P.underlying t = some (.slice e)) (hi : P.info? e = some i) (hz : i.zero = some z)
    (hsize : i.size = size) (hby : i.bytes = bytes) (hzs : z.cells.size = size) (hsz : 0 < size)
    (v : Value) (n : Nat) (xs : List Value) (hs : a.eval s = v) (hown : w.ownsRow 0 e size v n xs)
    (ad : Addr) (m c : Nat) (news : List Value) (hx : a.eval x = .slice (some ad) m c) (hl : news.length = m * size) (hnews : ∀ j u, news[j]? = some u → w.cell? (ad.add j) = some u) (h1 : ∀ u ∈ news, u.oneCell' = true)
    (h63 : n + m ≤ maxLen) (hbytes : (n + m) * bytes ≤ 140737488355328) (hm : 0 < m)
    (h : ∀ v' w', w'.ownsRow 0 e size v' (n + m) (xs ++ news) → Goes w w' v v' n m → wpList P ops Q rest (a.put o.dst v') w') : wpList P ops Q (o :: rest) a w := by
  refine wpList_plain hgd fun K hK => ?_
  obtain ⟨v', w', hr, h2, h3⟩ := run_append_goes (P := P) w t o.type e i z size bytes ht hi hz hsize hby hzs hsz v n xs hown ad m c news hl hnews h1 h63 hbytes hm
  unfold Oper.wp execOp
  simp only [ho, resolve, invoke, builtin, Sem.run_bind, Sem.run_pure, Result.andThen_ok, List.map_toArray, List.map_cons, List.map_nil, hs, hx, hr]
  exact hK _ _ (h v' w' h2 h3)
end

theorem add_here (g j : Nat) : (⟨g, 0, none⟩ : Addr).add j = ⟨g, j, none⟩ := by unfold Addr.add; split <;> simp_all
theorem owns_only {w w' : World} {N e size n : Nat} {v : Value} {xs : List Value} (h : w.ownsRow N e size v n xs) {S : List Nat} (ho : Only S w w') (hn : ∀ g, v.ownBlock = some g → g ∉ S) : w'.ownsRow N e size v n xs := by
  refine ⟨h.1, ?_⟩
  rcases h.2 with h2 | ⟨g, cap, cur, hv, hg, hh, r⟩
  · exact .inl h2
  · exact .inr ⟨g, cap, cur, hv, hg, (ho.block g (Array.getElem?_eq_some_iff.1 hh).1 (hn g (by rw [hv]; rfl))).trans hh, r⟩
theorem owns_shape {w : World} {N e size n : Nat} {v : Value} {xs : List Value} (h : w.ownsRow N e size v n xs) : ∃ a c, v = .slice a n c := by
  rcases h.2 with ⟨hv, h0⟩ | ⟨g, cap, _, hv, _⟩
  · rw [hv, h0]; exact ⟨_, _, rfl⟩
  · exact ⟨_, _, hv⟩
theorem owns_lower {w : World} {N M e size n : Nat} {v : Value} {xs : List Value} (h : w.ownsRow N e size v n xs) (hM : M ≤ N) : w.ownsRow M e size v n xs := by
  refine ⟨h.1, ?_⟩
  rcases h.2 with h2 | ⟨g, cap, cur, hv, hg, r⟩
  · exact .inl h2
  · exact .inr ⟨g, cap, cur, hv, Nat.le_trans hM hg, r⟩
theorem owns_raise {w w' : World} {N M e size n : Nat} {v : Value} {xs : List Value} (h : w.ownsRow N e size v n xs) (hM : ∀ g, v.ownBlock = some g → M ≤ g) : w.ownsRow M e size v n xs := by
  refine ⟨h.1, ?_⟩
  rcases h.2 with h2 | ⟨g, cap, cur, hv, hg, r⟩
  · exact .inl h2
  · exact .inr ⟨g, cap, cur, hv, hM g (by rw [hv]; rfl), r⟩
/-- cells written one behind the other -/
def put (w : World) (g : Nat) : Nat → List Value → World
  | _, [] => w
  | off, u :: us => put (w.setCell ⟨g, off, none⟩ u) g (off + 1) us
theorem put_owns {N e sz n cap g : Nat} : ∀ (us : List Value) (w : World) (A B D : List Value), B.length = us.length → w.ownsRow N e sz (.slice (some ⟨g, 0, none⟩) n cap) n (A ++ B ++ D) →
    (put w g A.length us).ownsRow N e sz (.slice (some ⟨g, 0, none⟩) n cap) n (A ++ us ++ D) ∧ Only [g] w (put w g A.length us)
  | [], w, A, B, D, hl, h => by
    have : B = [] := List.eq_nil_of_length_eq_zero hl
    subst this
    exact ⟨h, Only.refl _ _⟩
  | u :: us, w, A, b :: B, D, hl, h => by
    obtain ⟨h1, _⟩ := h.stored A.length u
    have e : (A ++ (b :: B) ++ D).set A.length u = (A ++ [u]) ++ B ++ D := by simp
    rw [e] at h1
    obtain ⟨h2, h3⟩ := put_owns us (w.setCell ⟨g, A.length, none⟩ u) (A ++ [u]) B D (by simpa using hl) h1
    rw [List.length_append, List.length_singleton] at h2 h3
    refine ⟨by simpa [put] using h2, ?_⟩
    exact ((Only.refl [g] w).setCell (p := ⟨g, A.length, none⟩) (.inl (by simp)) u).trans h3 (fun x hx => .inl hx)
  | u :: us, w, A, [], D, hl, h => by simp at hl
section
variable (e sz : Nat) (m1 m2 : Nat → Nat → List Value)
/-- the marks of a row -/
def Cm (m1 : Nat → Nat → List Value) (j k : Nat) : List Value := (List.range k).flatMap (m1 j)
theorem Cm_succ (j k : Nat) : Cm m1 j (k + 1) = Cm m1 j k ++ m1 j k := by simp [Cm, List.range_succ]
theorem Cm_length (h1 : ∀ i k, (m1 i k).length = sz) (j k : Nat) : (Cm m1 j k).length = k * sz := by
  induction k with
  | zero => simp [Cm]
  | succ k ih => rw [Cm_succ, List.length_append, ih, h1, Nat.succ_mul]
theorem Cm_get (h1 : ∀ i k, (m1 i k).length = sz) (j : Nat) : ∀ (n k t : Nat), k < n → t < sz → (Cm m1 j n)[k * sz + t]? = (m1 j k)[t]?
  | 0, k, t, hk, ht => by omega
  | n + 1, k, t, hk, ht => by
    have hl := Cm_length sz m1 h1 j n
    rw [Cm_succ]
    by_cases hkn : k = n
    · subst hkn
      rw [List.getElem?_append_right (by omega), hl, show k * sz + t - k * sz = t by omega]
    · have h2 : (k + 1) * sz ≤ n * sz := Nat.mul_le_mul_right _ (by omega)
      rw [Nat.succ_mul] at h2
      rw [List.getElem?_append_left (by omega)]
      exact Cm_get h1 j n k t (by omega) ht
/-- rows, each in a block of its own or nil -/
structure Lots (w : World) (N : Nat) (X : Nat → Value) (L : Nat → Nat) (C : Nat → List Value) : Prop where
  own : ∀ i, w.ownsRow N e sz (X i) (L i) (C i)
  apart : ∀ i j, i ≠ j → (X i).ownBlock = none ∨ (X i).ownBlock ≠ (X j).ownBlock
theorem Lots.only {e sz : Nat} {w w' : World} {N : Nat} {X : Nat → Value} {L : Nat → Nat} {C : Nat → List Value} (h : Lots e sz w N X L C) {S : List Nat} (ho : Only S w w') (hn : ∀ i g, (X i).ownBlock = some g → g ∉ S) : Lots e sz w' N X L C :=
  ⟨fun i => owns_only (h.own i) ho (hn i), h.apart⟩
/-- the slice of slices itself -/
def Outer (w : World) (a : Option Addr) (h n : Nat) (X : Nat → Value) : Prop := 0 < n → a = some ⟨h, 0, none⟩ ∧ h < w.heap.size ∧ ∀ i, i < n → w.cell? ⟨h, i, none⟩ = some (X i)
theorem Outer.only {w w' : World} {a : Option Addr} {h n : Nat} {X : Nat → Value} (H : Outer w a h n X) {S : List Nat} (ho : Only S w w') (hn : h ∉ S) : Outer w' a h n X := fun h0 => by
  obtain ⟨e, hl, hc⟩ := H h0
  exact ⟨e, Nat.lt_of_lt_of_le hl ho.size, fun i hi => (ho.cell (p := ⟨h, i, none⟩) hl hn).trans (hc i hi)⟩
/-- the first rows have their marks, the row i those ahead of k -/
structure Marked (S : List Nat) (w : World) (N : Nat) (X : Nat → Value) (L : Nat → Nat) (a : Option Addr) (h n i k : Nat) (wr : World) : Prop where
  rows : ∃ C, Lots e sz wr N X L C ∧ (∀ j, j < i → C j = Cm m1 j (L j)) ∧ (C i).take (k * sz) = Cm m1 i k
  outer : Outer wr a h n X
  only : Only S w wr
variable {e sz m1 m2} {S : List Nat}
theorem Marked.stay {w wr w' : World} {N h n i k : Nat} {X : Nat → Value} {L : Nat → Nat} {a : Option Addr} (H : Marked e sz m1 S w N X L a h n i k wr) (hb : Below wr.heap.size wr w') : Marked e sz m1 S w N X L a h n i k w' := by
  obtain ⟨C, hL, h1, h2⟩ := H.rows
  exact ⟨⟨C, hL.only (Only.of_below hb []) (fun _ _ _ => by simp), h1, h2⟩, H.outer.only (Only.of_below hb []) (by simp), H.only.trans (Only.of_below hb []) (by simp)⟩
theorem Marked.shape {w wr : World} {N h n i k : Nat} {X : Nat → Value} {L : Nat → Nat} {a : Option Addr} (H : Marked e sz m1 S w N X L a h n i k wr) (j : Nat) : ∃ a' cap', X j = .slice a' (L j) cap' := by
  obtain ⟨C, hL, _⟩ := H.rows
  exact owns_shape (hL.own j)
theorem Marked.zero {w : World} {N h n : Nat} {X : Nat → Value} {L : Nat → Nat} {a : Option Addr} {C : Nat → List Value} (hL : Lots e sz w N X L C) (hO : Outer w a h n X) : Marked e sz m1 S w N X L a h n 0 0 w :=
  ⟨⟨C, hL, fun j hj => by omega, by simp [Cm]⟩, hO, Only.refl _ _⟩
/-- the element k of the row i is written -/
theorem Marked.cell {w wr : World} {N h n i k : Nat} {X : Nat → Value} {L : Nat → Nat} {a : Option Addr} (h1 : ∀ i k, (m1 i k).length = sz) (hsz : 0 < sz) (H : Marked e sz m1 S w N X L a h n i k wr) (hk : k < L i) (hh : ∀ j g, (X j).ownBlock = some g → g ≠ h) (hS : ∀ j g, (X j).ownBlock = some g → g ∈ S) :
    ∃ g cap xs, X i = .slice (some ⟨g, 0, none⟩) (L i) cap ∧ N ≤ g ∧ g < wr.heap.size ∧ k * sz + sz ≤ L i * sz ∧ wr.ownsRow N e sz (.slice (some ⟨g, 0, none⟩) (L i) cap) (L i) xs ∧ Marked e sz m1 S w N X L a h n i (k + 1) (put wr g (k * sz) (m1 i k)) := by
  obtain ⟨C, hL, hC, hCi⟩ := H.rows
  have hb : k * sz + sz ≤ L i * sz := by rw [← Nat.succ_mul]; exact Nat.mul_le_mul_right _ hk
  obtain ⟨hlen, hr⟩ := hL.own i
  rcases hr with ⟨_, h0⟩ | ⟨g, cap, cur, hX, hg, hhp, hr⟩
  · omega
  · have hown := hL.own i
    rw [hX] at hown
    have hA : ((C i).take (k * sz)).length = k * sz := by rw [List.length_take, hlen]; omega
    have e3 : C i = (C i).take (k * sz) ++ ((C i).drop (k * sz)).take sz ++ (C i).drop (k * sz + sz) := by
      rw [List.append_assoc, ← List.drop_drop, List.take_append_drop, List.take_append_drop]
    have hB : (((C i).drop (k * sz)).take sz).length = (m1 i k).length := by rw [h1, List.length_take, List.length_drop, hlen]; omega
    have hown2 := hown
    rw [e3] at hown2
    obtain ⟨p1, p2⟩ := put_owns (m1 i k) wr _ _ _ hB hown2
    rw [hA] at p1 p2
    refine ⟨g, cap, C i, hX, hg, (Array.getElem?_eq_some_iff.1 hhp).1, hb, hown, ⟨⟨fun j => if j = i then (C i).take (k * sz) ++ m1 i k ++ (C i).drop (k * sz + sz) else C j, ⟨fun j => ?_, hL.apart⟩, fun j hj => ?_, ?_⟩, ?_, ?_⟩⟩
    · by_cases hj : j = i
      · subst hj
        rw [if_pos rfl, hX]
        exact p1
      · rw [if_neg hj]
        refine owns_only (hL.own j) p2 (fun g' hg' => ?_)
        rcases hL.apart j i hj with h2 | h2
        · rw [h2] at hg'; cases hg'
        · rw [hg', hX] at h2
          simp only [Value.ownBlock] at h2
          intro hm
          simp only [List.mem_singleton] at hm
          exact h2 (by rw [hm])
    · show (if j = i then _ else C j) = _
      rw [if_neg (by omega)]
      exact hC j hj
    · show (if i = i then _ else C i).take _ = _
      rw [if_pos rfl, Cm_succ, hCi, List.take_append_of_le_length (by rw [List.length_append, Cm_length sz m1 h1, h1, Nat.succ_mul]; exact Nat.le_refl _)]
      exact List.take_of_length_le (by rw [List.length_append, Cm_length sz m1 h1, h1, Nat.succ_mul]; exact Nat.le_refl _)
    · exact H.outer.only p2 (by
        have := hh i g (by rw [hX]; rfl)
        simpa using this.symm)
    · exact H.only.trans p2 (fun x hx => by simp at hx; subst hx; exact .inl (hS i x (by rw [hX]; rfl)))
theorem Marked.next {w wr : World} {N h n i k : Nat} {X : Nat → Value} {L : Nat → Nat} {a : Option Addr} (H : Marked e sz m1 S w N X L a h n i k wr) (hk : k = L i) : Marked e sz m1 S w N X L a h n (i + 1) 0 wr := by
  obtain ⟨C, hL, hC, hCi⟩ := H.rows
  refine ⟨⟨C, hL, fun j hj => ?_, by simp [Cm]⟩, H.outer, H.only⟩
  by_cases hji : j = i
  · subst hji
    rw [List.take_of_length_le (by rw [(hL.own j).1, hk]; exact Nat.le_refl _)] at hCi
    rw [← hk]; exact hCi
  · exact hC j (by omega)
theorem Marked.all {w wr : World} {N h n : Nat} {X : Nat → Value} {L : Nat → Nat} {a : Option Addr} (H : Marked e sz m1 S w N X L a h n n 0 wr) (hz : ∀ j, n ≤ j → L j = 0) : Lots e sz wr N X L (fun j => Cm m1 j (L j)) := by
  obtain ⟨C, hL, hC, _⟩ := H.rows
  have e1 : C = fun j => Cm m1 j (L j) := by
    funext j
    by_cases hj : j < n
    · exact hC j hj
    · have h0 := hz j (by omega)
      have hlen := (hL.own j).1
      rw [h0, Nat.zero_mul] at hlen
      rw [h0, List.eq_nil_of_length_eq_zero hlen]
      rfl
  rw [← e1]; exact hL
/-- a row with all its marks, and k of the others behind them -/
def Dm (m1 m2 : Nat → Nat → List Value) (L : Nat → Nat) (j k : Nat) : List Value := Cm m1 j (L j) ++ Cm m2 j k
theorem Dm_succ (L : Nat → Nat) (j k : Nat) : Dm m1 m2 L j (k + 1) = Dm m1 m2 L j k ++ m2 j k := by unfold Dm; rw [Cm_succ, List.append_assoc]
theorem Dm_zero (L : Nat → Nat) (j : Nat) : Dm m1 m2 L j 0 = Cm m1 j (L j) := by simp [Dm, Cm]
/-- one row, k marks longer -/
structure Ext (e sz : Nat) (m1 m2 : Nat → Nat → List Value) (w0 : World) (N : Nat) (X : Nat → Value) (L : Nat → Nat) (i k : Nat) (xv : Value) (wr : World) : Prop where
  own : wr.ownsRow 0 e sz xv (L i + k) (Dm m1 m2 L i k)
  pos : (∃ g cap, X i = .slice (some ⟨g, 0, none⟩) (L i) cap ∧ xv = .slice (some ⟨g, 0, none⟩) (L i + k) cap) ∨ (k = 0 ∧ xv = X i) ∨ (∃ g cap, xv = .slice (some ⟨g, 0, none⟩) (L i + k) cap ∧ w0.heap.size ≤ g)
  xi : wr.ownsRow N e sz (X i) (L i) (Cm m1 i (L i))
  only : Only (X i).ownBlock.toList w0 wr
theorem Ext.shape {w0 wr : World} {N i k : Nat} {X : Nat → Value} {L : Nat → Nat} {xv : Value} (H : Ext e sz m1 m2 w0 N X L i k xv wr) : ∃ a' cap', xv = .slice a' (L i + k) cap' := owns_shape H.own
theorem Ext.zero {w0 : World} {N i : Nat} {X : Nat → Value} {L : Nat → Nat} (h : w0.ownsRow N e sz (X i) (L i) (Cm m1 i (L i))) : Ext e sz m1 m2 w0 N X L i 0 (X i) w0 :=
  ⟨by rw [Dm_zero]; exact owns_lower h (Nat.zero_le _), .inr (.inl ⟨rfl, rfl⟩), h, Only.refl _ _⟩
theorem Ext.stay {w0 wr w' : World} {N i k : Nat} {X : Nat → Value} {L : Nat → Nat} {xv : Value} (H : Ext e sz m1 m2 w0 N X L i k xv wr) (hb : Below wr.heap.size wr w') : Ext e sz m1 m2 w0 N X L i k xv w' :=
  ⟨owns_only H.own (Only.of_below hb []) (fun _ _ => by simp), H.pos, owns_only H.xi (Only.of_below hb []) (fun _ _ => by simp), H.only.trans (Only.of_below hb []) (by simp)⟩
theorem owns_in_place {w' : World} {N g n m cap : Nat} {xs news : List Value} {v : Value} (h : w'.ownsRow 0 e sz v (n + m) (xs ++ news)) (hv : v = .slice (some ⟨g, 0, none⟩) (n + m) cap) (hl : xs.length = n * sz) (hN : N ≤ g) (hc : n ≤ cap) : w'.ownsRow N e sz (.slice (some ⟨g, 0, none⟩) n cap) n xs := by
  rcases h.2 with ⟨h1, _⟩ | ⟨g2, cap2, cur, h1, _, hh, h2, h3, h4, h5⟩
  · rw [hv] at h1; cases h1
  · rw [hv] at h1
    cases h1
    refine ⟨hl, .inr ⟨g, cap, cur, rfl, hN, hh, hc, h3, h4, ?_⟩⟩
    have := congrArg (List.take (n * sz)) h5
    rw [List.take_take, Nat.min_eq_left (by rw [Nat.add_mul]; omega), List.take_left' hl] at this
    exact this
theorem Ext.step {w0 wr w' : World} {N i k : Nat} {X : Nat → Value} {L : Nat → Nat} {xv v' : Value} {o : Obj} (h1 : ∀ i k, (m1 i k).length = sz) (H : Ext e sz m1 m2 w0 N X L i k xv wr) (hown : w'.ownsRow 0 e sz v' (L i + k + 1) (Dm m1 m2 L i k ++ m2 i k)) (hg : Goes (wr.alloc o) w' xv v' (L i + k) 1) (hXl : ∀ g, (X i).ownBlock = some g → g < w0.heap.size ∧ N ≤ g) :
    Ext e sz m1 m2 w0 N X L i (k + 1) v' w' := by
  have hs := H.only.size
  have hown2 : w'.ownsRow 0 e sz v' (L i + (k + 1)) (Dm m1 m2 L i (k + 1)) := by rw [Dm_succ]; exact hown
  have hxi := owns_only H.xi ((Only.refl [] wr).alloc o) (fun _ _ => by simp)
  rcases hg with ⟨g, cap, hv, hv', hgr⟩ | ⟨g, cap, hv', hgl, hgr⟩
  · have hpos : (X i = .slice (some ⟨g, 0, none⟩) (L i) cap) ∨ w0.heap.size ≤ g := by
      rcases H.pos with ⟨g2, c2, e1, e2⟩ | ⟨e1, e2⟩ | ⟨g2, c2, e2, e3⟩
      · rw [hv] at e2; cases e2; exact .inl e1
      · subst e1; rw [hv] at e2; exact .inl e2.symm
      · rw [hv] at e2; cases e2; exact .inr e3
    rcases hpos with hp | hp
    · refine ⟨hown2, .inl ⟨g, cap, hp, hv'⟩, ?_, ?_⟩
      · rw [hp]
        have hc : L i ≤ cap := by
          rcases hxi.2 with ⟨h1, _⟩ | ⟨g2, c2, _, h1, _, _, h2, _⟩
          · rw [hp] at h1; cases h1
          · rw [hp] at h1; cases h1; exact h2
        exact owns_in_place hown2 hv' (Cm_length sz m1 h1 i (L i)) (hXl g (by rw [hp]; rfl)).2 hc
      · exact (H.only.alloc o).grown hgr (fun k hk => by cases hk; exact .inl (by rw [hp]; simp [Value.ownBlock]))
    · refine ⟨hown2, .inr (.inr ⟨g, cap, hv', hp⟩), ?_, ?_⟩
      · refine owns_only hxi ((Only.refl [g] _).grown hgr (fun k hk => by cases hk; exact .inl (by simp))) (fun g2 hg2 => ?_)
        have := (hXl g2 hg2).1
        simp; omega
      · exact (H.only.alloc o).grown hgr (fun k hk => by cases hk; exact .inr hp)
  · refine ⟨hown2, .inr (.inr ⟨g, cap, hv', by simp at hgl; omega⟩), ?_, ?_⟩
    · exact owns_only hxi ((Only.refl [] _).grown hgr (fun k hk => by cases hk)) (fun _ _ => by simp)
    · exact (H.only.alloc o).grown hgr (fun k hk => by cases hk)
/-- the longer rows, i of them; te: the type of a row -/
structure Long (te e sz : Nat) (m1 m2 : Nat → Nat → List Value) (S : List Nat) (w : World) (N : Nat) (X : Nat → Value) (L : Nat → Nat) (a : Option Addr) (h n M i : Nat) (vl : Value) (Y : Nat → Value) (wr : World) : Prop where
  rows : Lots e sz wr N X L (fun j => Cm m1 j (L j))
  outer : Outer wr a h n X
  only : Only S w wr
  own : wr.ownsRow 0 te 1 vl i ((List.range i).map Y)
  each : ∀ j, j < i → ∃ g cap, Y j = .slice (some ⟨g, 0, none⟩) (L j + 16) cap ∧ wr.ownsRow 0 e sz (Y j) (L j + 16) (Dm m1 m2 L j 16) ∧ ((X j).ownBlock = some g ∨ M ≤ g) ∧ vl.ownBlock ≠ some g ∧ g < wr.heap.size
  pos : ∀ g, vl.ownBlock = some g → M ≤ g ∧ g < wr.heap.size
  size : M ≤ wr.heap.size
/-- what holds of the rows' places all the while -/
structure Places (N M h : Nat) (X : Nat → Value) : Prop where
  lt : ∀ j g, (X j).ownBlock = some g → g < M ∧ N ≤ g
  ne : ∀ j g, (X j).ownBlock = some g → g ≠ h
  h : h < M
  apart : ∀ i j, i ≠ j → (X i).ownBlock = none ∨ (X i).ownBlock ≠ (X j).ownBlock
  nm : N ≤ M
theorem Long.shape {te : Nat} {w wr : World} {N h n M i : Nat} {X : Nat → Value} {L : Nat → Nat} {a : Option Addr} {vl : Value} {Y : Nat → Value} (H : Long te e sz m1 m2 S w N X L a h n M i vl Y wr) : ∃ a' cap', vl = .slice a' i cap' := owns_shape H.own
theorem Long.stay {te : Nat} {w wr w' : World} {N h n M i : Nat} {X : Nat → Value} {L : Nat → Nat} {a : Option Addr} {vl : Value} {Y : Nat → Value} (H : Long te e sz m1 m2 S w N X L a h n M i vl Y wr) (hb : Below wr.heap.size wr w') : Long te e sz m1 m2 S w N X L a h n M i vl Y w' := by
  have ho := Only.of_below hb []
  have hs := H.size
  refine ⟨H.rows.only ho (fun _ _ _ => by simp), H.outer.only ho (by simp), H.only.trans ho (by simp), owns_only H.own ho (fun _ _ => by simp), fun j hj => ?_, fun g hg => ?_, Nat.le_trans H.size hb.size⟩
  · obtain ⟨g, cap, e1, e2, e3, e4, e5⟩ := H.each j hj
    exact ⟨g, cap, e1, owns_only e2 ho (fun _ _ => by simp), e3, e4, Nat.lt_of_lt_of_le e5 hb.size⟩
  · have h1 := H.pos g hg
    exact ⟨h1.1, Nat.lt_of_lt_of_le h1.2 hb.size⟩
theorem Long.step {te : Nat} {w w0 wr w2 : World} {N h n M i : Nat} {X : Nat → Value} {L : Nat → Nat} {a : Option Addr} {vl v' xv : Value} {Y : Nat → Value} {o : Obj} (P : Places N M h X) (H : Long te e sz m1 m2 S w N X L a h n M i vl Y w0) (E : Ext e sz m1 m2 w0 N X L i 16 xv wr)
    (hown : w2.ownsRow 0 te 1 v' (i + 1) ((List.range i).map Y ++ [xv])) (hg : Goes (wr.alloc o) w2 vl v' i 1) (hSS : ∀ j g, (X j).ownBlock = some g → g ∈ S) (hMw : w.heap.size ≤ M) : Long te e sz m1 m2 S w N X L a h n M (i + 1) v' (fun j => if j = i then xv else Y j) w2 := by
  have s0 := H.size
  have s1 := E.only.size
  -- what the last append may have turned
  obtain ⟨T, hT, hTv⟩ : ∃ T : List Nat, Only T (wr.alloc o) w2 ∧ ∀ x ∈ T, vl.ownBlock = some x := by
    rcases hg with ⟨g, cap, hv, hv', hgr⟩ | ⟨g, cap, hv', hgl, hgr⟩
    · exact ⟨[g], (Only.refl [g] _).grown hgr (fun k hk => by cases hk; exact .inl (by simp)), fun x hx => by simp at hx; subst hx; rw [hv]; rfl⟩
    · exact ⟨[], (Only.refl [] _).grown hgr (fun k hk => by cases hk), fun x hx => by simp at hx⟩
  have hT2 : Only T wr w2 := ((Only.refl T wr).alloc o).trans hT (fun x hx => .inl hx)
  have s2 := hT2.size
  have hS : ∀ x ∈ (X i).ownBlock.toList, (X i).ownBlock = some x := fun x hx => by simpa using hx
  have hX : ∀ j g, j ≠ i → (X j).ownBlock = some g → g ∉ (X i).ownBlock.toList := fun j g hj hg hm => by
    have := hS g hm
    rcases P.apart j i hj with h1 | h1
    · rw [h1] at hg; cases hg
    · exact h1 (by rw [hg, this])
  have hXT : ∀ j g, (X j).ownBlock = some g → g ∉ T := fun j g hg hm => by
    have h1 := (H.pos g (hTv g hm)).1
    have h2 := (P.lt j g hg).1
    omega
  -- the new value's place
  have hv'pos : (v'.ownBlock = vl.ownBlock) ∨ (∃ g, v'.ownBlock = some g ∧ wr.heap.size ≤ g ∧ g < w2.heap.size) := by
    rcases hg with ⟨g, cap, hv, hv', hgr⟩ | ⟨g, cap, hv', hgl, hgr⟩
    · exact .inl (by rw [hv, hv']; rfl)
    · refine .inr ⟨g, by rw [hv']; rfl, by simp at hgl; omega, ?_⟩
      exact (hown.lt g (by rw [hv']; rfl)).2
  have hxv : ∃ g cap, xv = .slice (some ⟨g, 0, none⟩) (L i + 16) cap ∧ ((X i).ownBlock = some g ∨ w0.heap.size ≤ g) := by
    rcases E.pos with ⟨g2, c2, e1, e2⟩ | ⟨e1, e2⟩ | ⟨g2, c2, e2, e3⟩
    · exact ⟨g2, c2, e2, .inl (by rw [e1]; rfl)⟩
    · omega
    · exact ⟨g2, c2, e2, .inr e3⟩
  obtain ⟨gx, cx, hxe, hxp⟩ := hxv
  have hgxl : gx < wr.heap.size := (E.own.lt gx (by rw [hxe]; rfl)).2
  have hgxv : vl.ownBlock ≠ some gx := fun e => by
    have h1 := H.pos gx e
    rcases hxp with h2 | h2
    · have := (P.lt i gx h2).1; omega
    · omega
  have hgxT : gx ∉ T := fun hm => hgxv (hTv gx hm)
  refine ⟨⟨fun j => ?_, P.apart⟩, ?_, ?_, ?_, fun j hj => ?_, fun g hg2 => ?_, by omega⟩
  · by_cases hj : j = i
    · subst hj; exact owns_only E.xi hT2 (hXT j)
    · exact owns_only (owns_only (H.rows.own j) E.only (fun g hg => hX j g hj hg)) hT2 (hXT j)
  · refine (H.outer.only E.only (fun hm => ?_)).only hT2 (fun hm => ?_)
    · exact P.ne i h (hS h hm) rfl
    · have := (H.pos h (hTv h hm)).1; have := P.h; omega
  · refine (H.only.trans E.only (fun x hx => .inl (hSS i x (hS x hx)))).trans hT2 (fun x hx => .inr ?_)
    have := (H.pos x (hTv x hx)).1; omega
  · have e : (List.range (i + 1)).map (fun j => if j = i then xv else Y j) = (List.range i).map Y ++ [xv] := by
      rw [List.range_succ, List.map_append]
      congr 1
      · apply List.map_congr_left
        intro j hj
        have : j ≠ i := by have := List.mem_range.1 hj; omega
        simp [this]
      · simp
    rw [e]; exact hown
  · by_cases hji : j = i
    · subst hji
      simp only [if_true]
      refine ⟨gx, cx, hxe, owns_only E.own hT2 (fun g hg => by rw [hxe] at hg; cases hg; exact hgxT), ?_, ?_, by omega⟩
      · rcases hxp with h2 | h2
        · exact .inl h2
        · exact .inr (by omega)
      · rcases hv'pos with h1 | ⟨g, h1, h2, _⟩
        · rw [h1]; exact hgxv
        · rw [h1]; intro e; injection e with e; omega
    · obtain ⟨g, cap, e1, e2, e3, e4, e5⟩ := H.each j (by omega)
      simp only [hji, if_false]
      have hgS : g ∉ (X i).ownBlock.toList := fun hm => by
        rcases e3 with h1 | h1
        · exact hX j g hji h1 hm
        · have := (P.lt i g (hS g hm)).1; omega
      have hgT : g ∉ T := fun hm => e4 (hTv g hm)
      refine ⟨g, cap, e1, owns_only (owns_only e2 E.only (fun g' hg' => by rw [e1] at hg'; cases hg'; exact hgS)) hT2 (fun g' hg' => by rw [e1] at hg'; cases hg'; exact hgT), e3, ?_, by omega⟩
      rcases hv'pos with h1 | ⟨g', h1, h2, _⟩
      · rw [h1]; exact e4
      · rw [h1]; intro e; injection e with e; omega
  · rcases hv'pos with h1 | ⟨g', h1, h2, h3⟩
    · rw [h1] at hg2
      have := H.pos g hg2; omega
    · rw [h1] at hg2; injection hg2 with hg2; omega
theorem Dm_low (h1 : ∀ i k, (m1 i k).length = sz) (L : Nat → Nat) (i k t : Nat) (hk : k < L i) (ht : t < sz) : (Dm m1 m2 L i 16)[k * sz + t]? = (m1 i k)[t]? := by
  have h2 : (k + 1) * sz ≤ L i * sz := Nat.mul_le_mul_right _ (by omega)
  rw [Nat.succ_mul] at h2
  unfold Dm
  rw [List.getElem?_append_left (by rw [Cm_length sz m1 h1]; omega)]
  exact Cm_get sz m1 h1 i (L i) k t hk ht
theorem Dm_high (h1 : ∀ i k, (m1 i k).length = sz) (h2 : ∀ i k, (m2 i k).length = sz) (L : Nat → Nat) (i k t : Nat) (hk : k < 16) (ht : t < sz) : (Dm m1 m2 L i 16)[(L i + k) * sz + t]? = (m2 i k)[t]? := by
  unfold Dm
  rw [List.getElem?_append_right (by rw [Cm_length sz m1 h1, Nat.add_mul]; omega), Cm_length sz m1 h1, Nat.add_mul, show L i * sz + k * sz + t - L i * sz = k * sz + t by omega]
  exact Cm_get sz m2 h2 i 16 k t hk ht
/-- what the last look meets -/
theorem Long.look {te : Nat} {w wr : World} {N h n M i : Nat} {X : Nat → Value} {L : Nat → Nat} {a : Option Addr} {vl : Value} {Y : Nat → Value} (h1 : ∀ i k, (m1 i k).length = sz) (h2 : ∀ i k, (m2 i k).length = sz) (H : Long te e sz m1 m2 S w N X L a h n M i vl Y wr) (t : Nat) (ht : t < i) :
    ∃ gl cl gy cy, vl = .slice (some ⟨gl, 0, none⟩) i cl ∧ wr.cell? ⟨gl, t, none⟩ = some (.slice (some ⟨gy, 0, none⟩) (L t + 16) cy) ∧ (∀ k j u, k < L t → j < sz → (m1 t k)[j]? = some u → wr.cell? ⟨gy, k * sz + j, none⟩ = some u) ∧ (∀ k j u, k < 16 → j < sz → (m2 t k)[j]? = some u → wr.cell? ⟨gy, (L t + k) * sz + j, none⟩ = some u) ∧
      (∀ k j u, k < L t → j < sz → (m1 t k)[j]? = some u → ∃ g cap, X t = .slice (some ⟨g, 0, none⟩) (L t) cap ∧ wr.cell? ⟨g, k * sz + j, none⟩ = some u) := by
  obtain ⟨gy, cy, e1, e2, _⟩ := H.each t ht
  have hvl : ∃ gl cl, vl = .slice (some ⟨gl, 0, none⟩) i cl := by
    rcases H.own.2 with ⟨_, h0⟩ | ⟨g, cap, _, hv, _⟩
    · omega
    · exact ⟨g, cap, hv⟩
  obtain ⟨gl, cl, hvl⟩ := hvl
  refine ⟨gl, cl, gy, cy, hvl, ?_, fun k j u hk hj hu => ?_, fun k j u hk hj hu => ?_, fun k j u hk hj hu => ?_⟩
  · have := H.own.cells (g := gl) (by rw [hvl]; rfl) t (Y t) (by simp [ht])
    rw [add_here] at this
    rw [this, e1]
  · have := e2.cells (g := gy) (by rw [e1]; rfl) (k * sz + j) u (by rw [Dm_low h1 L t k j hk hj]; exact hu)
    rw [add_here] at this
    exact this
  · have := e2.cells (g := gy) (by rw [e1]; rfl) ((L t + k) * sz + j) u (by rw [Dm_high h1 h2 L t k j hk hj]; exact hu)
    rw [add_here] at this
    exact this
  · have hb : (k + 1) * sz ≤ L t * sz := Nat.mul_le_mul_right _ (by omega)
    have ho := H.rows.own t
    rcases ho.2 with ⟨_, h0⟩ | ⟨g, cap, _, hv, _⟩
    · omega
    · refine ⟨g, cap, hv, ?_⟩
      have := ho.cells (g := g) (by rw [hv]; rfl) (k * sz + j) u (by rw [Cm_get sz m1 h1 t (L t) k j hk hj]; exact hu)
      rw [add_here] at this
      exact this
end
/-- the book's cells: rows of one kind, at place f, and nothing else -/
def bkf (f : Nat) (v : Value) : Array Value := ((List.replicate 32 (.slice none 0 0)).set f v).toArray
theorem bkf_at (f : Nat) (v : Value) (h : f < 32) : (bkf f v)[f]? = some v := by
  unfold bkf; rw [List.getElem?_toArray, List.getElem?_set_self (by simpa using h)]
theorem bkf_rest (f : Nat) (v : Value) (k : Nat) (h : k < 32) (hk : k ≠ f) : (bkf f v)[k]? = some (.slice none 0 0) := by
  unfold bkf; rw [List.getElem?_toArray, List.getElem?_set_ne (by omega), List.getElem?_replicate, if_pos h]
/-- the book at pb has these rows; h is where they lie; T: the book's type, te: a row's -/
def BookAt (T te f : Nat) (w : World) (pb h n : Nat) (X : Nat → Value) : Prop :=
  ∃ v, w.heap[pb]? = some (.cells (bkf f v) T (0, 0)) ∧ w.ownsRow 0 te 1 v n ((List.range n).map X) ∧ h = v.ownBlock.getD pb ∧ v.ownBlock ≠ some pb
section
variable {T te f : Nat}
theorem BookAt.lt {w : World} {pb h n : Nat} {X : Nat → Value} (H : BookAt T te f w pb h n X) : pb < w.heap.size ∧ h < w.heap.size := by
  obtain ⟨v, h1, h2, rfl, _⟩ := H
  have hp := (Array.getElem?_eq_some_iff.1 h1).1
  refine ⟨hp, ?_⟩
  cases e : v.ownBlock with
  | none => exact hp
  | some g => exact (h2.lt g e).2
theorem BookAt.only {w w' : World} {pb h n : Nat} {X : Nat → Value} (H : BookAt T te f w pb h n X) {S : List Nat} (ho : Only S w w') (hp : pb ∉ S) (hh : h ∉ S) : BookAt T te f w' pb h n X := by
  obtain ⟨v, h1, h2, rfl, h4⟩ := H
  refine ⟨v, (ho.block pb (Array.getElem?_eq_some_iff.1 h1).1 hp).trans h1, owns_only h2 ho (fun g hg => ?_), rfl, h4⟩
  rw [hg] at hh
  exact hh
theorem BookAt.below {w w' : World} {pb h n : Nat} {X : Nat → Value} (H : BookAt T te f w pb h n X) (hb : Below w.heap.size w w') : BookAt T te f w' pb h n X := H.only (Only.of_below hb []) (by simp) (by simp)
/-- behind a row more -/
def BookPost (T te f : Nat) (w : World) (pb h n : Nat) (X : Nat → Value) (w' : World) : Prop := ∃ h', BookAt T te f w' pb h' n X ∧ (h' = h ∨ w.heap.size ≤ h') ∧ Only [pb, h] w w'
theorem BookAt.congr {w : World} {pb h n : Nat} {X Y : Nat → Value} (H : BookAt T te f w pb h n X) (he : ∀ j, j < n → Y j = X j) : BookAt T te f w pb h n Y := by
  obtain ⟨v, h1, h2, h3, h4⟩ := H
  refine ⟨v, h1, ?_, h3, h4⟩
  have : (List.range n).map Y = (List.range n).map X := List.map_congr_left fun j hj => he j (List.mem_range.1 hj)
  rw [this]; exact h2
theorem BookAt.outer {w : World} {pb h n : Nat} {X : Nat → Value} (H : BookAt T te f w pb h n X) : ∃ a cap, w.heap[pb]? = some (.cells (bkf f (.slice a n cap)) T (0, 0)) ∧ Outer w a h n X := by
  obtain ⟨v, h1, h2, rfl, h4⟩ := H
  rcases h2.2 with ⟨rfl, rfl⟩ | ⟨g, cap, cur, hv, hg⟩
  · exact ⟨none, 0, h1, fun h0 => by omega⟩
  · have hc := h2.cells (g := g) (by rw [hv]; rfl)
    have hl := (h2.lt g (by rw [hv]; rfl)).2
    subst hv
    refine ⟨_, cap, h1, fun _ => ⟨rfl, hl, fun i hi => ?_⟩⟩
    have := hc i (X i) (by simp [hi])
    rw [add_here] at this
    exact this
theorem bk_cell {w : World} {pb : Nat} {v : Value} (h : w.heap[pb]? = some (.cells (bkf f v) T (0, 0))) (k : Nat) (hk : k < 32) (hf : k ≠ f) : w.cell? ⟨pb, k, none⟩ = some (.slice none 0 0) := by
  rw [cell_of_row _ _ _ _ _ _ h]; exact bkf_rest f v k hk hf
theorem bk_here {w : World} {pb : Nat} {v : Value} (h : w.heap[pb]? = some (.cells (bkf f v) T (0, 0))) (hf : f < 32) : w.cell? ⟨pb, f, none⟩ = some v := by
  rw [cell_of_row _ _ _ _ _ _ h]; exact bkf_at f v hf
/-- a row put into the book -/
theorem BookAt.put {w w2 : World} {pb h n m cap cv c3 : Nat} {av a a2 : Option Addr} {X : Nat → Value} (hX : X n = .slice a m cap) {o : Obj} (h1 : w.heap[pb]? = some (.cells (bkf f (.slice av n cv)) T (0, 0))) (h4 : (Value.slice av n cv).ownBlock ≠ some pb)
    (hown2 : w2.ownsRow 0 te 1 (.slice a2 (n + 1) c3) (n + 1) ((List.range n).map X ++ [Value.slice a m cap])) (hgo : Goes (w.alloc o) w2 (.slice av n cv) (.slice a2 (n + 1) c3) n 1) :
    w2.heap[pb]? = some (.cells (bkf f (.slice av n cv)) T (0, 0)) ∧ BookPost T te f w pb ((Value.slice av n cv).ownBlock.getD pb) (n + 1) X (w2.setCell ⟨pb, f, none⟩ (.slice a2 (n + 1) c3)) := by
  have hpl := (Array.getElem?_eq_some_iff.1 h1).1
  have hpl2 : ((Value.slice a2 (n + 1) c3).ownBlock = (Value.slice av n cv).ownBlock ∧ ∃ g, (Value.slice av n cv).ownBlock = some g) ∨ ∃ g, (Value.slice a2 (n + 1) c3).ownBlock = some g ∧ w.heap.size ≤ g := by
    rcases hgo with ⟨g, cap, hv, hv', _⟩ | ⟨g, cap, hv', hg, _⟩
    · exact .inl ⟨by rw [hv, hv']; rfl, g, by rw [hv]; rfl⟩
    · exact .inr ⟨g, by rw [hv']; rfl, by simp at hg; omega⟩
  have hgr2 : Only (Value.slice av n cv).ownBlock.toList (w.alloc o) w2 := by
    rcases hgo with ⟨g, cap, hv, hv', hgr⟩ | ⟨g, cap, hv', hg, hgr⟩
    · rw [hv]
      exact (Only.refl _ _).grown hgr (fun k hk => by cases hk; exact .inl (by simp [Value.ownBlock]))
    · exact (Only.refl _ _).grown hgr (fun k hk => by cases hk)
  have hb2 : w2.heap[pb]? = some (.cells (bkf f (.slice av n cv)) T (0, 0)) := (hgr2.block pb (by simp; omega) (fun hm => h4 (by simpa using hm))).trans ((Below.heap_alloc w _ pb hpl).trans h1)
  refine ⟨hb2, ?_⟩
  have hnb : (Value.slice a2 (n + 1) c3).ownBlock ≠ some pb := by
    rcases hpl2 with ⟨e, _⟩ | ⟨g, e, hg⟩
    · rw [e]; exact h4
    · rw [e]; intro h; injection h with h; omega
  have hsome : ∃ g, (Value.slice a2 (n + 1) c3).ownBlock = some g ∧ (g = (Value.slice av n cv).ownBlock.getD pb ∨ w.heap.size ≤ g) := by
    rcases hpl2 with ⟨e, g, hg⟩ | ⟨g, e, hg⟩
    · exact ⟨g, by rw [e]; exact hg, .inl (by rw [hg]; rfl)⟩
    · exact ⟨g, e, .inr hg⟩
  have ho2 : Only [pb, (Value.slice av n cv).ownBlock.getD pb] w w2 := ((Only.refl _ w).alloc _).trans hgr2 (fun x hx => by
    have : (Value.slice av n cv).ownBlock = some x := by simpa using hx
    exact .inl (by simp [this]))
  obtain ⟨g, hg1, hg2⟩ := hsome
  refine ⟨g, ⟨_, ?_, ?_, by rw [hg1]; rfl, hnb⟩, hg2, ho2.setCell (p := ⟨pb, f, none⟩) (.inl (by simp)) _⟩
  · rw [heap_setCell_same _ _ _ _ _ _ hb2]
    congr 2
    unfold bkf
    apply Array.ext'
    simp
  · have e : (List.range (n + 1)).map X = (List.range n).map X ++ [Value.slice a m cap] := by rw [List.range_succ, List.map_append, List.map_singleton, hX]
    rw [e]
    exact owns_only hown2 ((Only.refl [pb] _).setCell (p := ⟨pb, f, none⟩) (.inl (by simp)) _) (fun g' hg' hm => by
      simp at hm; subst hm; exact hnb hg')
end
end Go.Proofs.YtiolghcjndoigaaGreatDoor.Bk
