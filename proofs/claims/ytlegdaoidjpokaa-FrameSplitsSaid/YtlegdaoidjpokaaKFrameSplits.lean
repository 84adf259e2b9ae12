/-
  PROVED: a record is cut into the sectors that the chapter says, or refused, for every segment, place and record of at most 100000 bytes; it stays; what comes out is its owner's. Conditions: none.
-/
import Derived.Test.YtlegdaoidjpokaaKFsB
import Derived.Test.YtlegdaoidjpokaaK04
import Derived.Test.YtlegdaoidjpokaaKFsA
import Derived.Test.YtlegdaoidjpokaaRows
import Derived.Test.YtlegdaoidjpokaaK05
import Derived.WalkKit
import Derived.ProofKit
import Derived.OpenShut
import Derived.ShutString
import Derived.ChangeOld
import Derived.Below
namespace Go.Proofs.Ytlegdaoidjpokaa.B2
open Go.RowKit
set_option linter.unusedVariables false
set_option linter.unusedSimpArgs false
section
variable {P : Program}
theorem run_append_full (w : World) (t ty e : TypeId) (i : TypeInfo) (z : Value) (size bytes : Nat) (ht : P.underlying t = some (.slice e)) (hi : P.info? e = some i) (hz : i.zero = some z)
    (hsize : i.size = size) (hby : i.bytes = bytes) (hzs : z.cells.size = size) (hsz : 0 < size)
    (b : Addr) (n cap : Nat) (xs : List Value) (hlo : xs.length = n * size) (holds : ∀ j v, xs[j]? = some v → w.cell? (b.add j) = some v)
    (a : Addr) (m c : Nat) (news : List Value) (hl : news.length = m * size) (hnews : ∀ j u, news[j]? = some u → w.cell? (a.add j) = some u)
    (hcap : cap < n + m) (h63 : n + m ≤ maxLen) (hbytes : (n + m) * bytes ≤ 140737488355328) :
    ∃ cap' w', (Builtin.append_ #[t, t] ty #[.slice (some b) n cap, .slice (some a) m c]).run P w = .ok (.slice (some ⟨w.heap.size, 0, none⟩) (n + m) cap') w' ∧ w'.ownsRow w.heap.size e size (.slice (some ⟨w.heap.size, 0, none⟩) (n + m) cap') (n + m) (xs ++ news) ∧ Below w.heap.size w w' := by
  subst hsize
  subst hby
  have hr := run_append_grow (P := P) w t ty e i z ht hi hz b n cap xs hlo holds a m c news hl hnews hcap (by simp only [maxLen] at h63; omega) (growslice_fits hcap hbytes)
  have hlen : (xs ++ news).length = (n + m) * i.size := by rw [List.length_append, hlo, hl, Nat.add_mul]
  have hge := grownCap_ge w (n + m) cap e
  have hcm : grownCap w (n + m) cap e ≤ maxLen := grownCap_le_maxLen w (n + m) cap e h63
  refine ⟨_, _, hr, ⟨hlen, .inr ⟨w.heap.size, _, _, rfl, Nat.le_refl _, heap_alloc_new w.drew _, hge, hcm, ?_, ?_⟩⟩, ⟨rfl, rfl, rfl, by simp, fun k hk => Below.heap_alloc w.drew _ k hk⟩⟩
  · simp only [Array.size_append, List.size_toArray, size_zeroCells, hzs, hlo, hl, ← Nat.add_mul]
    congr 1
    omega
  · simp only [Array.toList_append, List.append_assoc]
    rw [← List.append_assoc, ← hlen]
    exact List.take_left
theorem wpList_append_full (w : World) {ops : Array Oper} {rest : List Oper} {o : Oper} {a : Act} {Q : Exit → Act → World → Prop} (hgd : o.guard = none) (s x : Operand) (t : TypeId)
    (ho : o.op = .call { callee := .builtin .append, args := #[s, x], argTypes := #[t, t] })
    (e : TypeId) (i : TypeInfo) (z : Value) (size bytes : Nat) (ht : P.underlying t = some (.slice e)) (hi : P.info? e = some i) (hz : i.zero = some z)
    (hsize : i.size = size) (hby : i.bytes = bytes) (hzs : z.cells.size = size) (hsz : 0 < size)
    (b : Addr) (n cap : Nat) (xs : List Value) (hs : a.eval s = .slice (some b) n cap) (hlo : xs.length = n * size) (holds : ∀ j v, xs[j]? = some v → w.cell? (b.add j) = some v)
    (ad : Addr) (m c : Nat) (news : List Value) (hx : a.eval x = .slice (some ad) m c) (hl : news.length = m * size) (hnews : ∀ j u, news[j]? = some u → w.cell? (ad.add j) = some u)
    (hcap : cap < n + m) (h63 : n + m ≤ maxLen) (hbytes : (n + m) * bytes ≤ 140737488355328)
    (h : ∀ cap' w', w'.ownsRow w.heap.size e size (.slice (some ⟨w.heap.size, 0, none⟩) (n + m) cap') (n + m) (xs ++ news) → Below w.heap.size w w' → wpList P ops Q rest (a.put o.dst (.slice (some ⟨w.heap.size, 0, none⟩) (n + m) cap')) w') : wpList P ops Q (o :: rest) a w := by
  refine wpList_plain hgd fun K hK => ?_
  obtain ⟨cap', w', hr, h2, h3⟩ := run_append_full (P := P) w t o.type e i z size bytes ht hi hz hsize hby hzs hsz b n cap xs hlo holds ad m c news hl hnews hcap h63 hbytes
  unfold Oper.wp execOp
  simp only [ho, resolve, invoke, builtin, Sem.run_bind, Sem.run_pure, Result.andThen_ok, List.map_toArray, List.map_cons, List.map_nil, hs, hx, hr]
  exact hK _ _ (h cap' w' h2 h3)
end
/-- rows of 256 bytes, n of them, row j in block B j from O j on; M: a block's bytes -/
structure Sec (w : World) (B O : Nat → Nat) (n : Nat) (M : Nat → List Nat) : Prop where
  mem : ∀ j, j < n → Mem w (B j) 5 (M (B j)) ∧ O j + 256 ≤ (M (B j)).length
/-- the row itself -/
def secX (B O : Nat → Nat) (j : Nat) : Value := .slice (some ⟨B j, O j, none⟩) 256 256
/-- what holds of their places all the while -/
structure SecP (B O : Nat → Nat) (n h N : Nat) (TT : List Nat) : Prop where
  apart : ∀ i j, i < n → j < n → i ≠ j → B i = B j → O i + 256 ≤ O j ∨ O j + 256 ≤ O i
  lt : ∀ j, j < n → B j < N ∧ B j ≠ h ∧ B j ∈ TT
theorem Sec.only {w w' : World} {B O : Nat → Nat} {n : Nat} {M : Nat → List Nat} (H : Sec w B O n M) {S : List Nat} (ho : Only S w w') (hn : ∀ j, j < n → B j ∉ S) : Sec w' B O n M :=
  ⟨fun j hj => ⟨(H.mem j hj).1.only ho (hn j hj), (H.mem j hj).2⟩⟩
theorem Sec.below {w w' : World} {B O : Nat → Nat} {n : Nat} {M : Nat → List Nat} (H : Sec w B O n M) (hb : Below w.heap.size w w') : Sec w' B O n M := H.only (Only.of_below hb []) (fun _ _ => by simp)
/-- the first rows have their marks, the row i those ahead of k -/
structure MarkedS (TT : List Nat) (w : World) (B O : Nat → Nat) (a : Option Addr) (h n i k : Nat) (wr : World) : Prop where
  rows : ∃ M, Sec wr B O n M ∧ ∀ j k', j < n → (j < i ∨ (j = i ∧ k' < k)) → k' < 256 → (M (B j))[O j + k']? = some (mark1 j k')
  outer : Outer wr a h n (secX B O)
  only : Only TT w wr
theorem MarkedS.cell {TT : List Nat} {w wr : World} {B O : Nat → Nat} {a : Option Addr} {h n i k N : Nat} (P : SecP B O n h N TT) (H : MarkedS TT w B O a h n i k wr) (hi : i < n) (hk : k < 256) :
    (∃ u, wr.cell? ⟨B i, O i + k, none⟩ = some u) ∧ wr.frozen? ⟨B i, O i + k, none⟩ = false ∧ MarkedS TT w B O a h n i (k + 1) (wr.setCell ⟨B i, O i + k, none⟩ (.int .u8 ((mark1 i k : Nat) : Int))) := by
  obtain ⟨M, hS, hm⟩ := H.rows
  obtain ⟨m1, m2⟩ := hS.mem i hi
  have ho : Only [B i] wr (wr.setCell ⟨B i, O i + k, none⟩ (.int .u8 ((mark1 i k : Nat) : Int))) := (Only.refl _ _).setCell (p := ⟨B i, O i + k, none⟩) (.inl (by simp)) _
  refine ⟨⟨_, m1.cell (O i + k) (by omega)⟩, m1.frozen _, ⟨fun g => if g = B i then (M g).set (O i + k) (mark1 i k) else M g, ⟨fun j hj => ?_⟩, fun j k' hj hjk hk' => ?_⟩, ?_, ?_⟩
  · by_cases e : B j = B i
    · have h2 := (hS.mem j hj).2
      rw [e] at h2 ⊢
      simp only [if_true, List.length_set]
      exact ⟨m1.set _ _, h2⟩
    · simp only [if_neg e]
      obtain ⟨k1, k2⟩ := hS.mem j hj
      exact ⟨k1.only ho (by simp [e]), k2⟩
  · by_cases e : B j = B i
    · simp only [if_pos e]
      rw [List.getElem?_set]
      by_cases e2 : j = i
      · subst e2
        by_cases e3 : k = k'
        · subst e3
          rw [if_pos rfl, if_pos (by omega)]
        · rw [if_neg (by omega)]
          exact hm j k' hj (by omega) hk'
      · have := P.apart j i hj hi e2 e
        rw [if_neg (by omega)]
        exact hm j k' hj (by omega) hk'
    · simp only [if_neg e]
      have e2 : j ≠ i := fun h => e (by rw [h])
      exact hm j k' hj (by omega) hk'
  · exact H.outer.only ho (by have := (P.lt i hi).2.1; simp; exact fun h => this h.symm)
  · exact H.only.setCell (p := ⟨B i, O i + k, none⟩) (.inl (P.lt i hi).2.2) _
theorem MarkedS.next {TT : List Nat} {w wr : World} {B O : Nat → Nat} {a : Option Addr} {h n i : Nat} (H : MarkedS TT w B O a h n i 256 wr) : MarkedS TT w B O a h n (i + 1) 0 wr := by
  obtain ⟨M, hS, hm⟩ := H.rows
  exact ⟨⟨M, hS, fun j k' hj hjk hk' => hm j k' hj (by omega) hk'⟩, H.outer, H.only⟩
/-- all rows have all their marks -/
structure AllS (wr : World) (B O : Nat → Nat) (a : Option Addr) (h n : Nat) : Prop where
  cells : ∀ j k, j < n → k < 256 → wr.cell? ⟨B j, O j + k, none⟩ = some (.int .u8 ((mark1 j k : Nat) : Int))
  outer : Outer wr a h n (secX B O)
  lt : ∀ j, j < n → B j < wr.heap.size
theorem MarkedS.all {TT : List Nat} {w wr : World} {B O : Nat → Nat} {a : Option Addr} {h n : Nat} (H : MarkedS TT w B O a h n n 0 wr) : AllS wr B O a h n := by
  obtain ⟨M, hS, hm⟩ := H.rows
  refine ⟨fun j k hj hk => ?_, H.outer, fun j hj => (hS.mem j hj).1.lt⟩
  obtain ⟨m1, m2⟩ := hS.mem j hj
  have h1 := hm j k hj (.inl hj) hk
  have h2 := m1.cell (O j + k) (by omega)
  rw [List.getElem?_eq_getElem (by omega)] at h1
  injection h1 with h1
  rw [h2, h1]
theorem AllS.below {w w' : World} {B O : Nat → Nat} {a : Option Addr} {h n : Nat} (H : AllS w B O a h n) (hb : Below w.heap.size w w') : AllS w' B O a h n :=
  ⟨fun j k hj hk => cell_below (H.cells j k hj hk) hb, H.outer.only (Only.of_below hb []) (by simp), fun j hj => Nat.lt_of_lt_of_le (H.lt j hj) hb.size⟩
/-- one row, k marks longer -/
def ExtS (w0 : World) (B O : Nat → Nat) (i k : Nat) (xv : Value) (wr : World) : Prop :=
  (k = 0 ∧ xv = secX B O i ∧ wr = w0) ∨ (0 < k ∧ wr.ownsRow w0.heap.size 5 1 xv (256 + k) (cellsOf (Dm (fun _ => 256) i k)) ∧ Below w0.heap.size w0 wr)
theorem ExtS.shape {w0 wr : World} {B O : Nat → Nat} {i k : Nat} {xv : Value} (H : ExtS w0 B O i k xv wr) : ∃ a' cap', xv = .slice a' (256 + k) cap' := by
  rcases H with ⟨rfl, h, _⟩ | ⟨_, h, _⟩
  · rw [h]; exact ⟨_, _, rfl⟩
  · rcases h.2 with ⟨hv, h0⟩ | ⟨g, cap, _, hv, _⟩
    · omega
    · exact ⟨_, _, hv⟩
theorem Dm_zero (L : Nat → Nat) (j : Nat) : Dm L j 0 = Cm L j := by simp [Dm]
/-- the longer rows, i of them, all of them behind the world w1 -/
structure LongS (w1 : World) (i : Nat) (vl : Value) (Y : Nat → Value) (wr : World) : Prop where
  below : Below w1.heap.size w1 wr
  own : wr.ownsRow w1.heap.size 23 1 vl i ((List.range i).map Y)
  each : ∀ j, j < i → ∃ g cap, Y j = .slice (some ⟨g, 0, none⟩) 272 cap ∧ wr.ownsRow w1.heap.size 5 1 (Y j) 272 (cellsOf (Dm (fun _ => 256) j 16)) ∧ vl.ownBlock ≠ some g
theorem LongS.shape {w1 wr : World} {i : Nat} {vl : Value} {Y : Nat → Value} (H : LongS w1 i vl Y wr) : ∃ a' cap', vl = .slice a' i cap' := by
  rcases H.own.2 with ⟨hv, h0⟩ | ⟨g, cap, _, hv, _⟩
  · rw [hv, h0]; exact ⟨_, _, rfl⟩
  · exact ⟨_, _, hv⟩
theorem LongS.step {w1 w0 wr w2 W : World} {i : Nat} {vl v' xv : Value} {Y : Nat → Value} {B O : Nat → Nat} (H : LongS w1 i vl Y w0) (E : ExtS w0 B O i 16 xv wr) (hW : Below wr.heap.size wr W)
    (hown : w2.ownsRow w1.heap.size 23 1 v' (i + 1) ((List.range i).map Y ++ [xv])) (hg : W.grownBy w2 vl.ownBlock) (hpl : v'.ownBlock = vl.ownBlock ∨ v'.ownBlock = some W.heap.size) : LongS w1 (i + 1) v' (fun j => if j = i then xv else Y j) w2 := by
  rcases E with ⟨h, _⟩ | ⟨_, e1, e2⟩
  · omega
  have s0 := H.below.size
  have s1 := e2.size
  have sW := hW.size
  obtain ⟨gx, cx, hxe, hgx, hgxl⟩ : ∃ gx cx, xv = .slice (some ⟨gx, 0, none⟩) 272 cx ∧ w0.heap.size ≤ gx ∧ gx < wr.heap.size := by
    rcases e1.2 with ⟨_, h0⟩ | ⟨g, c, cur, hv, hg, hh, _⟩
    · omega
    · exact ⟨g, c, hv, hg, (Array.getElem?_eq_some_iff.1 hh).1⟩
  have hvl : ∀ g, vl.ownBlock = some g → w1.heap.size ≤ g ∧ g < w0.heap.size := fun g hg => H.own.lt g hg
  have hO : Only vl.ownBlock.toList W w2 := (Only.refl _ _).grown hg (fun k hk => .inl (by simp [hk]))
  have hO0 : Only vl.ownBlock.toList w0 w2 := (Only.of_below (e2.trans (hW.mono s1)) vl.ownBlock.toList).trans hO (fun x hx => .inl hx)
  have hOr : Only vl.ownBlock.toList wr w2 := (Only.of_below hW vl.ownBlock.toList).trans hO (fun x hx => .inl hx)
  have hmem : ∀ g, g ∈ vl.ownBlock.toList → vl.ownBlock = some g := fun g hg => by simpa using hg
  have hv' : ∀ g, v'.ownBlock = some g → vl.ownBlock = some g ∨ g = W.heap.size := fun g hg => by
    rcases hpl with h | h
    · exact .inl (h.symm.trans hg)
    · rw [h] at hg; injection hg with hg; exact .inr hg.symm
  refine ⟨H.below.trans (hO0.below s0 (fun x hx => (hvl x (hmem x hx)).1)), ?_, fun j hj => ?_⟩
  · have e : (List.range (i + 1)).map (fun j => if j = i then xv else Y j) = (List.range i).map Y ++ [xv] := by
      rw [List.range_succ, List.map_append]
      congr 1
      · apply List.map_congr_left
        intro j hj
        have : j ≠ i := by have := List.mem_range.1 hj; omega
        simp [this]
      · simp
    rw [e]; exact hown
  · by_cases hji : j = i
    · subst hji
      simp only [if_true]
      refine ⟨gx, cx, hxe, ?_, fun h => ?_⟩
      · have h1 := owns_only e1 hOr (fun g hg hm => by rw [hxe] at hg; injection hg with hg; have := (hvl g (hmem g hm)).2; have hg : gx = g := hg; omega)
        refine ⟨h1.1, ?_⟩
        rcases h1.2 with h2 | ⟨g, c, cur, k1, k2, k3⟩
        · exact .inl h2
        · exact .inr ⟨g, c, cur, k1, by omega, k3⟩
      · rcases hv' gx h with h1 | h1
        · have := (hvl gx h1).2; omega
        · omega
    · obtain ⟨g, cap, k1, k2, k3⟩ := H.each j (by omega)
      simp only [hji, if_false]
      have hgl : g < w0.heap.size := (k2.lt g (by rw [k1]; rfl)).2
      refine ⟨g, cap, k1, owns_only k2 hO0 (fun g' hg' hm => by rw [k1] at hg'; injection hg' with hg'; have hg' : g = g' := hg'; subst hg'; exact k3 (hmem g hm)), fun h => ?_⟩
      rcases hv' g h with h1 | h1
      · exact k3 h1
      · omega
/-- what the last look meets -/
theorem LongS.look {w1 wr : World} {i : Nat} {vl : Value} {Y : Nat → Value} (H : LongS w1 i vl Y wr) (t : Nat) (ht : t < i) :
    ∃ gl cl gy cy, vl = .slice (some ⟨gl, 0, none⟩) i cl ∧ wr.cell? ⟨gl, t, none⟩ = some (.slice (some ⟨gy, 0, none⟩) 272 cy) ∧ (∀ k, k < 256 → wr.cell? ⟨gy, k, none⟩ = some (.int .u8 ((mark1 t k : Nat) : Int))) ∧ (∀ k, k < 16 → wr.cell? ⟨gy, 256 + k, none⟩ = some (.int .u8 ((mark2 t k : Nat) : Int))) := by
  obtain ⟨gy, cy, e1, e2, _⟩ := H.each t ht
  have hvl : ∃ gl cl, vl = .slice (some ⟨gl, 0, none⟩) i cl := by
    rcases H.own.2 with ⟨_, h0⟩ | ⟨g, cap, _, hv, _⟩
    · omega
    · exact ⟨g, cap, hv⟩
  obtain ⟨gl, cl, hvl⟩ := hvl
  refine ⟨gl, cl, gy, cy, hvl, ?_, fun k hk => ?_, fun k hk => ?_⟩
  · have := H.own.cells (g := gl) (by rw [hvl]; rfl) t (Y t) (by simp [ht])
    rw [add_here] at this
    rw [this, e1]
  · have := e2.cells (g := gy) (by rw [e1]; rfl) k (.int .u8 ((mark1 t k : Nat) : Int)) (by unfold cellsOf; rw [List.getElem?_map, Dm_low (fun _ => 256) t k hk]; rfl)
    rw [add_here] at this
    exact this
  · have := e2.cells (g := gy) (by rw [e1]; rfl) (256 + k) (.int .u8 ((mark2 t k : Nat) : Int)) (by unfold cellsOf; rw [List.getElem?_map, Dm_high (fun _ => 256) t k hk]; rfl)
    rw [add_here] at this
    exact this
end Go.Proofs.Ytlegdaoidjpokaa.B2
namespace Go.Proofs.Ytlegdaoidjpokaa.B2
open Go.RowKit
set_option linter.unusedVariables false
set_option linter.unusedSimpArgs false
set_option maxRecDepth 100000 in
set_option maxHeartbeats 2000000 in
theorem ownsect_any (TT : List Nat) (a : Option Addr) (h n cap : Nat) (B O : Nat → Nat) (w : World) (P : SecP B O n h w.heap.size TT) (hO : Outer w a h n (secX B O)) (hR : ∃ M, Sec w B O n M) (hn : n ≤ 1000) (hoff : ∀ j, j < n → O j ≤ 1000000) :
    Calls Try.prog 30 #[.slice a n cap] w fun e w' => e = .returned (.bool true) ∧ Only TT w w' := by
  obtain ⟨i0, hi0, hz0, hz1, hz2⟩ := info_parts info5
  obtain ⟨i1, hi1, hy0, hy1, hy2⟩ := info_parts info27
  obtain ⟨M, hM⟩ := hR
  have M0 := Lib.hid (show MarkedS TT w B O a h n 0 0 w from ⟨⟨M, hM, fun j k' hj hjk => by omega⟩, hO, Only.refl _ _⟩)
  have HP := Lib.hid P
  have HF := Lib.hid hoff
  clear hO hM P hoff
  go_enter Try.func30, Try.ntmps30
  go_wp2
  go_loopw [3] (fun ii wr => ∃ i : Nat, i ≤ n ∧ ii = .int .i64 (i : Nat) ∧ Hid (MarkedS TT w B O a h n i 0 wr)) (fun ii _ => n - (intOf ii).toNat)
  case atStart => exact ⟨0, Nat.zero_le _, rfl, M0⟩
  case round =>
    obtain ⟨i, hi, rfl, HM⟩ := hrel
    by_cases hlt : i < n
    · have hd : decide (i < n) = true := by simpa using hlt
      have hix : (i : Int) < (n : Int) := by omega
      go_wp2
      go_loopw [4] (fun kk wr2 => ∃ k : Nat, k ≤ 256 ∧ kk = .int .i64 (k : Nat) ∧ Hid (MarkedS TT w B O a h n i k wr2)) (fun kk _ => 256 - (intOf kk).toNat)
      case atStart => exact ⟨0, Nat.zero_le _, rfl, HM⟩
      case round =>
        obtain ⟨k, hk, rfl, HM2⟩ := hrel
        obtain ⟨rfl, hhl, hcs⟩ := HM2.out.outer (by omega)
        have hci := hcs i hlt
        have hOi := HF.out i hlt
        by_cases hlt2 : k < 256
        · obtain ⟨⟨u, hc⟩, hf, hst⟩ := HM2.out.cell HP.out hlt hlt2
          unfold secX at hci
          have HST := Lib.hid hst
          obtain ⟨Bi, hBe⟩ : ∃ Bi, B i = Bi := ⟨_, rfl⟩
          obtain ⟨Oi, hOe⟩ : ∃ Oi, O i = Oi := ⟨_, rfl⟩
          rw [hBe, hOe] at hci hc hf HST
          have hd2 : decide ((k : Int) < 256) = true := by simp; omega
          have hkx : (k : Int) < 256 := by omega
          have HMS := Lib.hid (mark1_spell i k)
          clear hst hBe hOe hcs hOi
          go_wp2
          rw [HMS.out]
          go_roundw
          case rel => exact ⟨k + 1, by omega, by go_num, HST⟩
          case measure => simp [intOf]; omega
        · obtain rfl : k = 256 := by omega
          unfold secX at hci
          have HN := Lib.hid (HM2.out.next)
          have hd2 : decide (((256 : Nat) : Int) < 256) = false := by simp
          clear hcs hOi
          go_wp2
          go_roundw
          case rel => exact ⟨i + 1, by omega, by go_num, HN⟩
          case measure => simp [intOf]; omega
    · obtain rfl : i = n := by omega
      have hd : decide (i < i) = false := by simp
      have HA := Lib.hid HM.out.all
      have HON := Lib.hid HM.out.only
      obtain ⟨w1, hw1⟩ : ∃ w1, w1 = wr := ⟨_, rfl⟩
      subst hw1
      have G0 := Lib.hid (show LongS w1 0 (.slice none 0 0) (fun _ => .slice none 0 0) w1 from ⟨Below.refl _ _, World.ownsRow_nil _ _ _ _, fun j hj => by omega⟩)
      clear hlt HM M0
      go_wp2
      go_loopw [5, 6] (fun vl ii wr => ∃ (j : Nat) (Y : Nat → Value), j ≤ i ∧ ii = .int .i64 (j : Nat) ∧ Hid (LongS w1 j vl Y wr)) (fun _ ii _ => i - (intOf ii).toNat)
      case atStart => exact ⟨0, _, Nat.zero_le _, rfl, G0⟩
      case round =>
        obtain ⟨j, Y, hj, rfl, HG⟩ := hrel
        by_cases hlt : j < i
        · have hd2 : decide (j < i) = true := by simpa using hlt
          have hjx : (j : Int) < (i : Int) := by omega
          have HAr := Lib.hid (HA.out.below HG.out.below)
          obtain ⟨rfl, hhl, hcs⟩ := HAr.out.outer (by omega)
          have hcj := hcs j hlt
          unfold secX at hcj
          have E0 := Lib.hid (show ExtS wr B O j 0 (.slice (some ⟨B j, O j, none⟩) 256 256) wr from .inl ⟨rfl, rfl, rfl⟩)
          obtain ⟨av, cv, rfl⟩ := HG.out.shape
          clear hcs
          obtain ⟨wo, hwo⟩ : ∃ wo, wo = wr := ⟨_, rfl⟩
          subst hwo
          go_wp2
          go_loopw [7, 8] (fun xv kk wr2 => ∃ k : Nat, k ≤ 16 ∧ kk = .int .i64 (k : Nat) ∧ Hid (ExtS wo B O j k xv wr2)) (fun _ kk _ => 16 - (intOf kk).toNat)
          case atStart => exact ⟨0, Nat.zero_le _, rfl, E0⟩
          case round =>
            clear E0
            obtain ⟨k, hk, rfl, HE⟩ := hrel
            by_cases hlt2 : k < 16
            · have HSP := Lib.hid (mark2_spell j k)
              rcases HE.out with ⟨rfl, rfl, rfl⟩ | ⟨hk0, hown, hbel⟩
              · have hd3 : decide ((((0 : Nat) : Int)) < 16) = true := by simp
                have HCS := Lib.hid (show ∀ q v, (cellsOf (Cm (fun _ => 256) j))[q]? = some v → (wr.alloc (.cells #[Value.int .u8 ((((-1 : Int) - (j : Int)) * 97) % 256)] 5)).cell? ((⟨B j, O j, none⟩ : Addr).add q) = some v from fun q v hq => by
                  have hql : q < 256 := by
                    have := (List.getElem?_eq_some_iff.1 hq).1
                    rwa [cellsOf_length, Cm_length] at this
                  have h1 := HAr.out.cells j q hlt hql
                  rw [add_at]
                  have h2 : (cellsOf (Cm (fun _ => 256) j))[q]? = some (.int .u8 ((mark1 j q : Nat) : Int)) := by
                    unfold cellsOf Cm
                    simp [hql]
                  rw [h2] at hq
                  cases hq
                  exact cell_below h1 ((Below.refl _ _).alloc (Nat.le_refl _) _))
                have HB2 := Lib.hid ((Below.refl wr.heap.size wr).alloc (Nat.le_refl _) (.cells #[Value.int .u8 ((((-1 : Int) - (j : Int)) * 97) % 256)] 5))
                unfold secX
                go_wp2_with (at_builtin; refine wpList_append_full _ rfl (.tmp 54) (.tmp 62) 23 rfl 5 i0 (.int .u8 0) 1 1 Try.underlying23 hi0 hz0 hz1 hz2 rfl (by decide) ⟨B j, O j, none⟩ 256 256 (cellsOf (Cm (fun _ => 256) j)) rfl (by rw [cellsOf_length, Cm_length]) HCS.out ⟨wr.heap.size, 0, none⟩ 1 1 [Value.int .u8 ((((-1 : Int) - (j : Int)) * 97) % 256)] rfl rfl (one_any wr _ 5) (by decide) (by unfold maxLen; omega) (by omega) ?_)
                intro c2 w2 hown2 hb2
                have hm0 : (((-1 : Int) - (j : Int)) * 97) % 256 = ((mark2 j 0 : Nat) : Int) := by unfold mark2; omega
                rw [hm0] at hown2 hb2
                have HN := Lib.hid (show ExtS wr B O j (0 + 1) (.slice (some ⟨wr.heap.size + 1, 0, none⟩) 257 c2) w2 from by
                  refine .inr ⟨by omega, ?_, (by have h := HB2.out; rw [hm0] at h; exact h.trans (hb2.mono (by simp)))⟩
                  rw [Dm_succ, Dm_zero, cellsOf_append]
                  refine ⟨hown2.1, ?_⟩
                  rcases hown2.2 with h2 | ⟨g, c, cur, k1, k2, k3⟩
                  · exact absurd h2.2 (by decide)
                  · exact .inr ⟨g, c, cur, k1, by omega, k3⟩)
                clear hown2 hb2 HCS HB2 hm0
                go_wp2
                go_roundw
                case rel => exact ⟨0 + 1, by omega, by go_num, HN⟩
                case measure => simp [intOf]
              · have hd3 : decide ((k : Int) < 16) = true := by simp; omega
                obtain ⟨ax, cx, rfl⟩ := HE.out.shape
                have HOX := Lib.hid hown
                have HBX := Lib.hid hbel
                clear hown hbel HE
                go_wp2_with (at_builtin; refine wpList_append_own_at _ rfl (.tmp 54) (.tmp 62) 23 rfl wo.heap.size 5 i0 (.int .u8 0) 1 1 Try.underlying23 hi0 hz0 hz1 hz2 rfl (by decide) (.slice ax (256 + k) cx) (256 + k) (cellsOf (Dm (fun _ => 256) j k)) rfl (HOX.out.alloc _) ⟨wr.heap.size, 0, none⟩ 1 1 [Value.int .u8 (((-1 - (j : Int)) * 97 + (k : Int) * 13) % 256)] rfl rfl (one_any wr _ 5) (by simp [Value.oneCell']) (by unfold maxLen; omega) (by omega) (by have := HBX.out.size; simp; omega) ?_)
                intro v2 w2 hown2 hgr2 _ hpl2
                rw [HSP.out] at hown2
                have HN := Lib.hid (show ExtS wo B O j (k + 1) v2 w2 from .inr ⟨by omega, by rw [Dm_succ, cellsOf_append]; exact hown2, by
                  have hA := HBX.out.trans (((Below.refl wr.heap.size wr).alloc (Nat.le_refl _) (.cells #[Value.int .u8 (((-1 - (j : Int)) * 97 + (k : Int) * 13) % 256)] 5)).mono HBX.out.size)
                  exact hA.grown hgr2 (by have := HBX.out.size; simp; omega) (fun q hq => by
                    have := (HOX.out.lt q hq).1
                    omega)⟩)
                obtain ⟨a2, c2, rfl⟩ := HN.out.shape
                clear hown2 hgr2 hpl2
                go_wp2
                go_roundw
                case rel => exact ⟨k + 1, by omega, by go_num, HN⟩
                case measure => simp [intOf]; omega
            · obtain rfl : k = 16 := by omega
              obtain ⟨ax, cx, rfl⟩ := HE.out.shape
              have hd3 : decide (((16 : Nat) : Int) < 16) = false := by simp
              have HEB := Lib.hid (show Below wo.heap.size wo wr from by
                rcases HE.out with ⟨h, _⟩ | ⟨_, _, h⟩
                · omega
                · exact h)
              have HOW := Lib.hid (show wr.ownsRow w1.heap.size 23 1 (.slice av j cv) j ((List.range j).map Y) from owns_only HG.out.own (Only.of_below HEB.out []) (fun _ _ => by simp))
              have HSZ := Lib.hid (show w1.heap.size ≤ wr.heap.size from Nat.le_trans HG.out.below.size HEB.out.size)
              go_wp2_with (at_builtin; refine wpList_append_own_at _ rfl (.tmp 64) (.tmp 66) 25 rfl w1.heap.size 23 i1 (.slice none 0 0) 1 24 Try.underlying25 hi1 hy0 hy1 hy2 rfl (by decide) (.slice av j cv) j ((List.range j).map Y) rfl (HOW.out.alloc _) ⟨wr.heap.size, 0, none⟩ 1 1 [Value.slice ax (256 + 16) cx] rfl rfl (one_any wr _ 23) (by simp [Value.oneCell']) (by unfold maxLen; omega) (by omega) (by have := HSZ.out; simp; omega) ?_)
              intro v2 w2 hown2 hgr2 _ hpl2
              have HN := Lib.hid (HG.out.step HE.out ((Below.refl wr.heap.size wr).alloc (Nat.le_refl _) _) hown2 hgr2 (by simpa using hpl2))
              obtain ⟨a2, c2, rfl⟩ := HN.out.shape
              clear hown2 hgr2 hpl2
              go_wp2
              go_roundw
              case rel => exact ⟨j + 1, _, by omega, by go_num, HN⟩
              case measure => simp [intOf]; omega
        · obtain rfl : j = i := by omega
          have hd2 : decide (j < j) = false := by simp
          obtain ⟨av, cv, rfl⟩ := HG.out.shape
          have HAr := Lib.hid (HA.out.below HG.out.below)
          have HEND := Lib.hid (HON.out.trans (Only.of_below HG.out.below []) (fun x hx => by simp at hx))
          clear G0 hlt
          go_wp2
          go_loop [9] (fun ii => ∃ t : Nat, t ≤ j ∧ ii = .int .i64 (t : Nat)) (fun ii => j - (intOf ii).toNat)
          case atStart => exact ⟨0, Nat.zero_le _, rfl⟩
          case round =>
            obtain ⟨t, ht, rfl⟩ := hrel
            by_cases hlt3 : t < j
            · have hd4 : decide (t < j) = true := by simpa using hlt3
              have htx : (t : Int) < (j : Int) := by omega
              obtain ⟨rfl, hhl, hcs⟩ := HAr.out.outer (by omega)
              have hct := hcs t hlt3
              unfold secX at hct
              obtain ⟨gl, cl, gy, cy, hvl, hlc, hy1, hy2⟩ := HG.out.look t hlt3
              cases hvl
              have HY1 := Lib.hid hy1
              have HY2 := Lib.hid hy2
              have HX1 := Lib.hid (fun k hk => HAr.out.cells t k hlt3 hk)
              have hOt := HF.out t hlt3
              obtain ⟨Bt, hBe⟩ : ∃ Bt, B t = Bt := ⟨_, rfl⟩
              obtain ⟨Ot, hOe⟩ : ∃ Ot, O t = Ot := ⟨_, rfl⟩
              rw [hBe, hOe] at hct HX1
              clear hcs hy1 hy2 hBe hOe hOt
              go_wp2
              go_loop [11] (fun kk => ∃ k : Nat, k ≤ 256 ∧ kk = .int .i64 (k : Nat)) (fun kk => 256 - (intOf kk).toNat)
              case atStart => exact ⟨0, Nat.zero_le _, rfl⟩
              case round =>
                obtain ⟨k, hk, rfl⟩ := hrel
                by_cases hlt4 : k < 256
                · have hd5 : decide ((k : Int) < 256) = true := by simp; omega
                  have hkx : (k : Int) < 256 := by omega
                  have hkx2 : (k : Int) < 272 := by omega
                  have hc1 := HX1.out k hlt4
                  have hc2 := HY1.out k hlt4
                  have hms := mark1_spell t k
                  go_wp2
                  go_round
                  case rel => exact ⟨k + 1, by omega, by go_num⟩
                  case measure => simp [intOf]; omega
                · obtain rfl : k = 256 := by omega
                  have hd5 : decide (((256 : Nat) : Int) < 256) = false := by simp
                  go_wp2
                  go_loop [12] (fun kk => ∃ q : Nat, q ≤ 16 ∧ kk = .int .i64 (q : Nat)) (fun kk => 16 - (intOf kk).toNat)
                  case atStart => exact ⟨0, by omega, rfl⟩
                  case round =>
                    obtain ⟨q, hq, rfl⟩ := hrel
                    by_cases hlt5 : q < 16
                    · have hd6 : decide ((q : Int) < 16) = true := by simp; omega
                      have hqx : (256 : Int) + (q : Int) < 272 := by omega
                      have hqx0 : (0 : Int) ≤ 256 + (q : Int) := by omega
                      obtain ⟨q2, hq2⟩ : ∃ q2, 256 + q = q2 := ⟨_, rfl⟩
                      have hqe : (256 : Int) + (q : Int) = (q2 : Int) := by omega
                      have hc3 := HY2.out q hlt5
                      rw [hq2] at hc3
                      have hq3 : (q2 : Int) < 272 := by omega
                      have hms2 := mark2_spell t q
                      clear hq2
                      go_wp2
                      go_round
                      case rel => exact ⟨q + 1, by omega, by go_num⟩
                      case measure => simp [intOf]; omega
                    · obtain rfl : q = 16 := by omega
                      have hd6 : decide (((16 : Nat) : Int) < 16) = false := by simp
                      go_wp2
                      go_round
                      case rel => exact ⟨t + 1, by omega, by go_num⟩
                      case measure => simp [intOf]; omega
            · obtain rfl : t = j := by omega
              have hd4 : decide (t < t) = false := by simp
              go_wp2
              go_ret
              exact ⟨rfl, HEND.out⟩
end Go.Proofs.Ytlegdaoidjpokaa.B2
namespace Go.Proofs.Ytlegdaoidjpokaa.B2
open Go.RowKit
set_option linter.unusedVariables false
set_option linter.unusedSimpArgs false
/-- where the lists lie, all the while -/
structure LsP (V : Nat → Value) (hu m q N M : Nat) (TT : List Nat) : Prop where
  shape : ∀ e, e < m → ∃ a, V e = .slice a q q
  lt : ∀ e g, e < m → (V e).ownBlock = some g → g < M ∧ g ≠ hu ∧ g ∈ TT
  apart : ∀ e f, e < m → f < m → e ≠ f → (V e).ownBlock = none ∨ (V e).ownBlock ≠ (V f).ownBlock
/-- the first lists have their marks, the list i those ahead of k -/
structure RMs (TT : List Nat) (w wr : World) (V : Nat → Value) (u : Option Addr) (hu m q N i k : Nat) (E : Nat → Nat → Nat) : Prop where
  row : ∀ e, e < m → ∃ ys, wr.ownsRow N 23 1 (V e) q ys ∧ ∀ p, (e < i ∨ (e = i ∧ p < k)) → p < q → ys[p]? = some (one1 (E e p))
  each : ∀ e p, e < m → (e < i ∨ (e = i ∧ p < k)) → p < q → wr.cell? ⟨E e p, 0, none⟩ = some (.int .u8 ((mark1 e p : Nat) : Int)) ∧ w.heap.size ≤ E e p
  outer : Outer wr u hu m V
  only : Only TT w wr
theorem RMs.step {TT : List Nat} {w wr : World} {V : Nat → Value} {u : Option Addr} {hu m q N i k : Nat} {E : Nat → Nat → Nat} (P : LsP V hu m q N w.heap.size TT) (H : RMs TT w wr V u hu m q N i k E) (hi : i < m) (hk : k < q) :
    ∃ g, V i = .slice (some ⟨g, 0, none⟩) q q ∧ (∃ x, (wr.alloc (.cells #[.int .u8 ((mark1 i k : Nat) : Int)] 5)).cell? ⟨g, k, none⟩ = some x) ∧ (wr.alloc (.cells #[.int .u8 ((mark1 i k : Nat) : Int)] 5)).frozen? ⟨g, k, none⟩ = false ∧
    RMs TT w ((wr.alloc (.cells #[.int .u8 ((mark1 i k : Nat) : Int)] 5)).setCell ⟨g, k, none⟩ (one1 wr.heap.size)) V u hu m q N i (k + 1) (fun e p => if e = i ∧ p = k then wr.heap.size else E e p) := by
  obtain ⟨ys, h1, h2⟩ := H.row i hi
  have hs := H.only.size
  obtain ⟨a0, hsh⟩ := P.shape i hi
  have hg : ∃ g, V i = .slice (some ⟨g, 0, none⟩) q q := by
    rcases h1.2 with ⟨hv, h0⟩ | ⟨g, c, _, hv, _⟩
    · omega
    · rw [hv] at hsh
      injection hsh with e1 e2 e3
      exact ⟨g, by rw [hv, e3]⟩
  obtain ⟨g, hv⟩ := hg
  obtain ⟨hgM, hghu, hgT⟩ := P.lt i g hi (by rw [hv]; rfl)
  have hA := (Below.refl wr.heap.size wr).alloc (Nat.le_refl _) (.cells #[.int .u8 ((mark1 i k : Nat) : Int)] 5)
  have hnew := heap_alloc_new wr (.cells #[.int .u8 ((mark1 i k : Nat) : Int)] 5)
  have hOA : Only TT w (wr.alloc (.cells #[.int .u8 ((mark1 i k : Nat) : Int)] 5)) := H.only.alloc _
  have h1A := owns_only h1 (Only.of_below hA []) (fun _ _ => by simp)
  have hrA : ∀ e, e < m → ∃ ys, (wr.alloc (.cells #[.int .u8 ((mark1 i k : Nat) : Int)] 5)).ownsRow N 23 1 (V e) q ys ∧ ∀ p, (e < i ∨ (e = i ∧ p < k)) → p < q → ys[p]? = some (one1 (E e p)) := fun e he => by
    obtain ⟨ys, k1, k2⟩ := H.row e he
    exact ⟨ys, owns_only k1 (Only.of_below hA []) (fun _ _ => by simp), k2⟩
  have heA : ∀ e p, e < m → (e < i ∨ (e = i ∧ p < k)) → p < q → (wr.alloc (.cells #[.int .u8 ((mark1 i k : Nat) : Int)] 5)).cell? ⟨E e p, 0, none⟩ = some (.int .u8 ((mark1 e p : Nat) : Int)) := fun e p he h hp => cell_below (H.each e p he h hp).1 hA
  have hoA : Outer (wr.alloc (.cells #[.int .u8 ((mark1 i k : Nat) : Int)] 5)) u hu m V := H.outer.only (Only.of_below hA []) (by simp)
  have hcN : (wr.alloc (.cells #[.int .u8 ((mark1 i k : Nat) : Int)] 5)).cell? ⟨wr.heap.size, 0, none⟩ = some (.int .u8 ((mark1 i k : Nat) : Int)) := (cell_of_row _ _ 0 _ _ _ hnew).trans rfl
  generalize wr.alloc (.cells #[.int .u8 ((mark1 i k : Nat) : Int)] 5) = W at *
  have ho : Only [g] W (W.setCell ⟨g, k, none⟩ (one1 wr.heap.size)) := (Only.refl [g] W).setCell (p := ⟨g, k, none⟩) (.inl (by simp)) _
  have hyl : ys.length = q := by have := h1.1; omega
  refine ⟨g, hv, ?_, ?_, ⟨fun e he => ?_, fun e p he hep hp => ?_, hoA.only ho (by simp; exact fun h => hghu h.symm), hOA.trans ho (fun x hx => .inl (by simp at hx; rw [hx]; exact hgT))⟩⟩
  · have hc := h1A.cells (g := g) (by rw [hv]; rfl) k (ys[k]'(by omega)) (by simp [hyl, hk])
    rw [add_here] at hc
    exact ⟨_, hc⟩
  · rcases h1A.2 with ⟨hv2, _⟩ | ⟨g2, c2, cur, hv2, _, hh, _⟩
    · rw [hv] at hv2; cases hv2
    · rw [hv] at hv2; cases hv2; exact frozen_of_row _ _ _ _ _ hh
  · by_cases e1 : e = i
    · subst e1
      rw [hv] at h1A ⊢
      refine ⟨ys.set k (one1 wr.heap.size), owns_set h1A hk rfl, fun p hp hpq => ?_⟩
      rw [List.getElem?_set]
      by_cases e2 : k = p
      · subst e2; rw [if_pos rfl, if_pos (by omega), if_pos ⟨rfl, rfl⟩]
      · rw [if_neg e2, if_neg (fun h => e2 h.2.symm)]; exact h2 p (by omega) hpq
    · obtain ⟨zs, k1, k2⟩ := hrA e he
      refine ⟨zs, owns_only k1 ho (fun g2 hg2 hm => ?_), fun p hp hpq => ?_⟩
      · have hm : g2 = g := by simpa using hm
        subst hm
        rcases P.apart e i he hi e1 with h | h
        · rw [h] at hg2; cases hg2
        · exact h (by rw [hg2, hv]; rfl)
      · rw [if_neg (fun h => e1 h.1)]; exact k2 p (by omega) hpq
  · by_cases e1 : e = i ∧ p = k
    · obtain ⟨rfl, rfl⟩ := e1
      simp only [and_self, if_true]
      exact ⟨Only_cell ho hcN (by simp; omega), hs⟩
    · simp only [if_neg e1]
      have h3 := H.each e p he (by omega) hp
      exact ⟨Only_cell ho (heA e p he (by omega) hp) (by simp; omega), h3.2⟩
theorem RMs.next {TT : List Nat} {w wr : World} {V : Nat → Value} {u : Option Addr} {hu m q N i : Nat} {E : Nat → Nat → Nat} (H : RMs TT w wr V u hu m q N i q E) : RMs TT w wr V u hu m q N (i + 1) 0 E :=
  ⟨fun e he => by
    obtain ⟨ys, k1, k2⟩ := H.row e he
    exact ⟨ys, k1, fun p hp hpq => k2 p (by omega) hpq⟩, fun e p he hep hp => H.each e p he (by omega) hp, H.outer, H.only⟩
/-- all lists have all their marks -/
structure AllR (wr : World) (V : Nat → Value) (u : Option Addr) (hu m q N : Nat) (E : Nat → Nat → Nat) : Prop where
  row : ∀ e, e < m → wr.ownsRow N 23 1 (V e) q ((List.range q).map fun p => one1 (E e p))
  each : ∀ e p, e < m → p < q → wr.cell? ⟨E e p, 0, none⟩ = some (.int .u8 ((mark1 e p : Nat) : Int))
  outer : Outer wr u hu m V
theorem RMs.all {TT : List Nat} {w wr : World} {V : Nat → Value} {u : Option Addr} {hu m q N : Nat} {E : Nat → Nat → Nat} (H : RMs TT w wr V u hu m q N m 0 E) : AllR wr V u hu m q N E := by
  refine ⟨fun e he => ?_, fun e p he hp => (H.each e p he (.inl he) hp).1, H.outer⟩
  obtain ⟨ys, k1, k2⟩ := H.row e he
  have hy : ys = (List.range q).map fun p => one1 (E e p) := by
    apply List.ext_getElem?
    intro p
    by_cases hp : p < q
    · rw [k2 p (.inl he) hp]; simp [hp]
    · rw [List.getElem?_eq_none (by have := k1.1; omega), List.getElem?_eq_none (by simp; omega)]
  rw [← hy]; exact k1
theorem AllR.below {w w' : World} {V : Nat → Value} {u : Option Addr} {hu m q N : Nat} {E : Nat → Nat → Nat} (H : AllR w V u hu m q N E) (hb : Below w.heap.size w w') : AllR w' V u hu m q N E :=
  ⟨fun e he => owns_only (H.row e he) (Only.of_below hb []) (fun _ _ => by simp), fun e p he hp => cell_below (H.each e p he hp) hb, H.outer.only (Only.of_below hb []) (by simp)⟩
theorem AllR.cell {w : World} {V : Nat → Value} {u : Option Addr} {hu m q N : Nat} {E : Nat → Nat → Nat} (H : AllR w V u hu m q N E) (e p : Nat) (he : e < m) (hp : p < q) :
    ∃ g c, V e = .slice (some ⟨g, 0, none⟩) q c ∧ w.cell? ⟨g, p, none⟩ = some (one1 (E e p)) ∧ w.cell? ⟨E e p, 0, none⟩ = some (.int .u8 ((mark1 e p : Nat) : Int)) := by
  have h1 := H.row e he
  rcases h1.2 with ⟨hv, h0⟩ | ⟨g, c, _, hv, _⟩
  · omega
  · have h2 := h1.cells (g := g) (by rw [hv]; rfl) p (one1 (E e p)) (by simp [hp])
    rw [add_here] at h2
    exact ⟨g, c, hv, h2, H.each e p he hp⟩
/-- a list, k rows longer: its values -/
def Lv (E : Nat → Nat → Nat) (D : Nat → Nat) (q i k : Nat) : List Value := ((List.range q).map fun p => one1 (E i p)) ++ (List.range k).map fun p => one1 (D p)
theorem Lv_len (E : Nat → Nat → Nat) (D : Nat → Nat) (q i k : Nat) : (Lv E D q i k).length = q + k := by simp [Lv]
theorem Lv_zero (E : Nat → Nat → Nat) (D : Nat → Nat) (q i : Nat) : Lv E D q i 0 = (List.range q).map fun p => one1 (E i p) := by simp [Lv]
theorem Lv_succ (E : Nat → Nat → Nat) (D : Nat → Nat) (q i k d : Nat) : Lv E (fun p => if p = k then d else D p) q i (k + 1) = Lv E D q i k ++ [one1 d] := by
  unfold Lv
  rw [List.append_assoc, List.range_succ, List.map_append, List.map_singleton]
  dsimp only
  rw [if_pos rfl]
  congr 2
  refine List.map_congr_left fun p hp => ?_
  have := List.mem_range.1 hp
  rw [if_neg (by omega)]
structure ExtRs (w0 : World) (E : Nat → Nat → Nat) (q i k : Nat) (D : Nat → Nat) (xv : Value) (wr : World) : Prop where
  own : wr.ownsRow w0.heap.size 23 1 xv (q + k) (Lv E D q i k)
  below : Below w0.heap.size w0 wr
  each : ∀ p, p < k → wr.cell? ⟨D p, 0, none⟩ = some (.int .u8 ((mark2 i p : Nat) : Int)) ∧ w0.heap.size ≤ D p ∧ D p < wr.heap.size ∧ xv.ownBlock ≠ some (D p)
theorem ExtRs.shape {w0 wr : World} {E : Nat → Nat → Nat} {q i k : Nat} {D : Nat → Nat} {xv : Value} (H : ExtRs w0 E q i k D xv wr) : ∃ a c, xv = .slice a (q + k) c := by
  rcases H.own.2 with ⟨hv, h0⟩ | ⟨g, cap, _, hv, _⟩
  · rw [hv, h0]; exact ⟨_, _, rfl⟩
  · exact ⟨_, _, hv⟩
/-- a row more: in whatever way the append goes -/
theorem ExtRs.step {w0 wr W w' : World} {E : Nat → Nat → Nat} {q i k d : Nat} {D : Nat → Nat} {xv v' : Value} (hk : 0 < k) (H : ExtRs w0 E q i k D xv wr) (hW : Below wr.heap.size wr W) (hd : wr.heap.size ≤ d) (hd2 : d < W.heap.size) (hdc : W.cell? ⟨d, 0, none⟩ = some (.int .u8 ((mark2 i k : Nat) : Int)))
    (hown : w'.ownsRow w0.heap.size 23 1 v' (q + k + 1) (Lv E D q i k ++ [one1 d])) (hg : W.grownBy w' xv.ownBlock) (hpl : v'.ownBlock = xv.ownBlock ∨ v'.ownBlock = some W.heap.size) :
    ExtRs w0 E q i (k + 1) (fun p => if p = k then d else D p) v' w' := by
  have s0 := H.below.size
  have sW := hW.size
  have hxl : ∀ g, xv.ownBlock = some g → w0.heap.size ≤ g ∧ g < wr.heap.size := fun g hg => H.own.lt g hg
  have hO : Only xv.ownBlock.toList W w' := (Only.refl _ _).grown hg (fun k hk => .inl (by simp [hk]))
  have sO := hO.size
  have hv' : ∀ g, v'.ownBlock = some g → xv.ownBlock = some g ∨ g = W.heap.size := fun g hg => by
    rcases hpl with h | h
    · exact .inl (h.symm.trans hg)
    · rw [h] at hg; injection hg with hg; exact .inr hg.symm
  refine ⟨by rw [Lv_succ]; exact hown, (H.below.trans (hW.mono s0)).trans (hO.below (by omega) (fun x hx => (hxl x (by simpa using hx)).1)), fun p hp => ?_⟩
  by_cases e : p = k
  · subst e
    simp only [if_true]
    refine ⟨Only_cell hO hdc (fun hm => ?_), by omega, by omega, fun h => ?_⟩
    · have := (hxl d (by simpa using hm)).2; omega
    · rcases hv' d h with h1 | h1
      · have := (hxl d h1).2; omega
      · omega
  · simp only [if_neg e]
    obtain ⟨k1, k2, k3, k4⟩ := H.each p (by omega)
    refine ⟨Only_cell hO (cell_below k1 hW) (fun hm => k4 (by simpa using hm)), k2, by omega, fun h => ?_⟩
    rcases hv' _ h with h1 | h1
    · exact k4 h1
    · omega
/-- the first row more: new memory, for the list has no room -/
theorem ExtRs.first {w0 W w' : World} {E : Nat → Nat → Nat} {q i d N : Nat} {a : Option Addr} {v' : Value} {D : Nat → Nat} (hV : w0.ownsRow N 23 1 (.slice a q q) q (Lv E D q i 0)) (hW : Below w0.heap.size w0 W) (hd : w0.heap.size ≤ d) (hd2 : d < W.heap.size) (hdc : W.cell? ⟨d, 0, none⟩ = some (.int .u8 ((mark2 i 0 : Nat) : Int)))
    (hown : w'.ownsRow 0 23 1 v' (q + 1) (Lv E D q i 0 ++ [one1 d])) (hg : Goes W w' (.slice a q q) v' q 1) : ExtRs w0 E q i 1 (fun p => if p = 0 then d else D p) v' w' := by
  have sW := hW.size
  rcases hg with ⟨g, cap, hv, hv', hgr⟩ | ⟨g, cap, hv', hgl, hgr⟩
  · exfalso
    injection hv with e1 e2 e3
    rcases hown.2 with ⟨h, _⟩ | ⟨g2, c2, cur, h, _, _, hc, _⟩
    · rw [hv'] at h; cases h
    · rw [hv'] at h
      injection h with h1 h2 h3
      omega
  · have hb : Below W.heap.size W w' := (Below.refl W.heap.size W).grown hgr (Nat.le_refl _) (fun k hk => by cases hk)
    refine ⟨?_, hW.trans (hb.mono sW), fun p hp => ?_⟩
    · rw [Lv_succ]
      refine ⟨hown.1, ?_⟩
      rcases hown.2 with h2 | ⟨g2, c, cur, k1, k2, k3⟩
      · exact .inl h2
      · rw [hv'] at k1 ⊢
        injection k1 with k1 _ k4
        have e : g = g2 := by injection k1 with k1; injection k1
        subst e
        exact .inr ⟨g, c, cur, by rw [k4], by omega, k3⟩
    · obtain rfl : p = 0 := by omega
      simp only [if_true]
      have := hb.size
      refine ⟨cell_below hdc hb, hd, by omega, fun h => ?_⟩
      rw [hv'] at h
      injection h with h
      have h : g = d := h
      omega
/-- the longer lists, i of them, all of them behind the world w1 -/
structure LongR (w1 : World) (E : Nat → Nat → Nat) (q i : Nat) (vl : Value) (Y : Nat → Value) (D : Nat → Nat → Nat) (wr : World) : Prop where
  below : Below w1.heap.size w1 wr
  own : wr.ownsRow w1.heap.size 25 1 vl i ((List.range i).map Y)
  each : ∀ j, j < i → ∃ g cap, Y j = .slice (some ⟨g, 0, none⟩) (q + 8) cap ∧ wr.ownsRow w1.heap.size 23 1 (Y j) (q + 8) (Lv E (D j) q j 8) ∧ vl.ownBlock ≠ some g
  bytes : ∀ j p, j < i → p < 8 → wr.cell? ⟨D j p, 0, none⟩ = some (.int .u8 ((mark2 j p : Nat) : Int)) ∧ D j p < wr.heap.size ∧ vl.ownBlock ≠ some (D j p)
theorem LongR.shape {w1 wr : World} {E : Nat → Nat → Nat} {q i : Nat} {vl : Value} {Y : Nat → Value} {D : Nat → Nat → Nat} (H : LongR w1 E q i vl Y D wr) : ∃ a' cap', vl = .slice a' i cap' := by
  rcases H.own.2 with ⟨hv, h0⟩ | ⟨g, cap, _, hv, _⟩
  · rw [hv, h0]; exact ⟨_, _, rfl⟩
  · exact ⟨_, _, hv⟩
theorem LongR.step {w1 w0 wr w2 W : World} {E : Nat → Nat → Nat} {q i : Nat} {vl v' xv : Value} {Y : Nat → Value} {D : Nat → Nat → Nat} {d : Nat → Nat} (H : LongR w1 E q i vl Y D w0) (X : ExtRs w0 E q i 8 d xv wr) (hW : Below wr.heap.size wr W)
    (hown : w2.ownsRow w1.heap.size 25 1 v' (i + 1) ((List.range i).map Y ++ [xv])) (hg : W.grownBy w2 vl.ownBlock) (hpl : v'.ownBlock = vl.ownBlock ∨ v'.ownBlock = some W.heap.size) : LongR w1 E q (i + 1) v' (fun j => if j = i then xv else Y j) (fun j => if j = i then d else D j) w2 := by
  have e1 := X.own
  have e2 := X.below
  have s0 := H.below.size
  have s1 := e2.size
  have sW := hW.size
  obtain ⟨gx, cx, hxe, hgx, hgxl⟩ : ∃ gx cx, xv = .slice (some ⟨gx, 0, none⟩) (q + 8) cx ∧ w0.heap.size ≤ gx ∧ gx < wr.heap.size := by
    rcases e1.2 with ⟨_, h0⟩ | ⟨g, c, cur, hv, hg, hh, _⟩
    · omega
    · exact ⟨g, c, hv, hg, (Array.getElem?_eq_some_iff.1 hh).1⟩
  have hvl : ∀ g, vl.ownBlock = some g → w1.heap.size ≤ g ∧ g < w0.heap.size := fun g hg => H.own.lt g hg
  have hO : Only vl.ownBlock.toList W w2 := (Only.refl _ _).grown hg (fun k hk => .inl (by simp [hk]))
  have hO0 : Only vl.ownBlock.toList w0 w2 := (Only.of_below (e2.trans (hW.mono s1)) vl.ownBlock.toList).trans hO (fun x hx => .inl hx)
  have hOr : Only vl.ownBlock.toList wr w2 := (Only.of_below hW vl.ownBlock.toList).trans hO (fun x hx => .inl hx)
  have sO := hOr.size
  have hmem : ∀ g, g ∈ vl.ownBlock.toList → vl.ownBlock = some g := fun g hg => by simpa using hg
  have hv' : ∀ g, v'.ownBlock = some g → vl.ownBlock = some g ∨ g = W.heap.size := fun g hg => by
    rcases hpl with h | h
    · exact .inl (h.symm.trans hg)
    · rw [h] at hg; injection hg with hg; exact .inr hg.symm
  refine ⟨H.below.trans (hO0.below s0 (fun x hx => (hvl x (hmem x hx)).1)), ?_, fun j hj => ?_, fun j p hj hp => ?_⟩
  · have e : (List.range (i + 1)).map (fun j => if j = i then xv else Y j) = (List.range i).map Y ++ [xv] := by
      rw [List.range_succ, List.map_append]
      congr 1
      · apply List.map_congr_left
        intro j hj
        have : j ≠ i := by have := List.mem_range.1 hj; omega
        simp [this]
      · simp
    rw [e]; exact hown
  · by_cases hji : j = i
    · subst hji
      simp only [if_true]
      refine ⟨gx, cx, hxe, ?_, fun h => ?_⟩
      · have h1 := owns_only e1 hOr (fun g hg hm => by rw [hxe] at hg; injection hg with hg; have := (hvl g (hmem g hm)).2; have hg : gx = g := hg; omega)
        refine ⟨h1.1, ?_⟩
        rcases h1.2 with h2 | ⟨g, c, cur, k1, k2, k3⟩
        · exact .inl h2
        · exact .inr ⟨g, c, cur, k1, by omega, k3⟩
      · rcases hv' gx h with h1 | h1
        · have := (hvl gx h1).2; omega
        · omega
    · obtain ⟨g, cap, k1, k2, k3⟩ := H.each j (by omega)
      simp only [hji, if_false]
      have hgl : g < w0.heap.size := (k2.lt g (by rw [k1]; rfl)).2
      refine ⟨g, cap, k1, owns_only k2 hO0 (fun g' hg' hm => by rw [k1] at hg'; injection hg' with hg'; have hg' : g = g' := hg'; subst hg'; exact k3 (hmem g hm)), fun h => ?_⟩
      rcases hv' g h with h1 | h1
      · exact k3 h1
      · omega
  · by_cases hji : j = i
    · subst hji
      simp only [if_true]
      obtain ⟨k1, k2, k3, k4⟩ := X.each p hp
      refine ⟨Only_cell hOr k1 (fun hm => ?_), by omega, fun h => ?_⟩
      · have := (hvl _ (hmem _ hm)).2; omega
      · rcases hv' _ h with h1 | h1
        · have := (hvl _ h1).2; omega
        · omega
    · simp only [hji, if_false]
      obtain ⟨k1, k2, k3⟩ := H.bytes j p (by omega) hp
      refine ⟨Only_cell hO0 k1 (fun hm => k3 (hmem _ hm)), by omega, fun h => ?_⟩
      rcases hv' _ h with h1 | h1
      · exact k3 h1
      · omega
/-- what the last look meets -/
theorem LongR.look {w1 wr : World} {E : Nat → Nat → Nat} {q i : Nat} {vl : Value} {Y : Nat → Value} {D : Nat → Nat → Nat} (H : LongR w1 E q i vl Y D wr) (t : Nat) (ht : t < i) :
    ∃ gl cl gy cy, vl = .slice (some ⟨gl, 0, none⟩) i cl ∧ wr.cell? ⟨gl, t, none⟩ = some (.slice (some ⟨gy, 0, none⟩) (q + 8) cy) ∧ (∀ k, k < q → wr.cell? ⟨gy, k, none⟩ = some (one1 (E t k))) ∧ (∀ k, k < 8 → wr.cell? ⟨gy, q + k, none⟩ = some (one1 (D t k)) ∧ wr.cell? ⟨D t k, 0, none⟩ = some (.int .u8 ((mark2 t k : Nat) : Int))) := by
  obtain ⟨gy, cy, e1, e2, _⟩ := H.each t ht
  have hvl : ∃ gl cl, vl = .slice (some ⟨gl, 0, none⟩) i cl := by
    rcases H.own.2 with ⟨_, h0⟩ | ⟨g, cap, _, hv, _⟩
    · omega
    · exact ⟨g, cap, hv⟩
  obtain ⟨gl, cl, hvl⟩ := hvl
  refine ⟨gl, cl, gy, cy, hvl, ?_, fun k hk => ?_, fun k hk => ⟨?_, (H.bytes t k ht hk).1⟩⟩
  · have := H.own.cells (g := gl) (by rw [hvl]; rfl) t (Y t) (by simp [ht])
    rw [add_here] at this
    rw [this, e1]
  · have := e2.cells (g := gy) (by rw [e1]; rfl) k (one1 (E t k)) (by unfold Lv; rw [List.getElem?_append_left (by simp; omega)]; simp [hk])
    rw [add_here] at this
    exact this
  · have := e2.cells (g := gy) (by rw [e1]; rfl) (q + k) (one1 (D t k)) (by unfold Lv; rw [List.getElem?_append_right (by simp)]; simp [hk])
    rw [add_here] at this
    exact this
end Go.Proofs.Ytlegdaoidjpokaa.B2
namespace Go.Proofs.Ytlegdaoidjpokaa.B2
open Go.RowKit
set_option linter.unusedVariables false
set_option linter.unusedSimpArgs false
set_option maxRecDepth 100000 in
set_option maxHeartbeats 4000000 in
theorem ownrowsm_any (TT : List Nat) (u : Option Addr) (hu m q cu N : Nat) (V : Nat → Value) (w : World) (P : LsP V hu m q N w.heap.size TT) (hO : Outer w u hu m V) (hR : ∀ e, e < m → ∃ ys, w.ownsRow N 23 1 (V e) q ys) (hm : m ≤ 1000) (hq : q ≤ 100000) :
    Calls Try.prog 48 #[.slice u m cu] w fun e w' => e = .returned (.bool true) ∧ Only TT w w' := by
  obtain ⟨i0, hi0, hz0, hz1, hz2⟩ := info_parts info5
  obtain ⟨i1, hi1, hy0, hy1, hy2⟩ := info_parts info27
  obtain ⟨i2, hi2, hx0, hx1, hx2⟩ := info_parts info53
  have HI1 := Lib.hid (And.intro hi1 (And.intro hy0 (And.intro hy1 hy2)))
  have HI2 := Lib.hid (And.intro hi2 (And.intro hx0 (And.intro hx1 hx2)))
  have HP := Lib.hid P
  have M0 := Lib.hid (show ∃ E, RMs TT w w V u hu m q N 0 0 E from ⟨fun _ _ => 0, fun e he => by
    obtain ⟨ys, h⟩ := hR e he
    exact ⟨ys, h, fun p hp => by omega⟩, fun e p he hp => by omega, hO, Only.refl _ _⟩)
  clear P hO hR hi0 hz0 hz1 hz2 hi1 hy0 hy1 hy2 hi2 hx0 hx1 hx2
  go_enter Try.func48, Try.ntmps48
  go_wp2_with fail
  go_loopw [3] (fun ii wr => ∃ i : Nat, i ≤ m ∧ ii = .int .i64 (i : Nat) ∧ Hid (∃ E, RMs TT w wr V u hu m q N i 0 E)) (fun ii _ => m - (intOf ii).toNat)
  case atStart => exact ⟨0, Nat.zero_le _, rfl, M0⟩
  case round =>
    clear M0
    obtain ⟨i, hi, rfl, HM⟩ := hrel
    by_cases hlt : i < m
    · have hd : decide (i < m) = true := by simpa using hlt
      have hdi : decide ((i : Int) < (m : Int)) = true := by simp; omega
      have hix : (i : Int) < (m : Int) := by omega
      go_wp2_with fail
      go_loopw [4] (fun kk wr => ∃ k : Nat, k ≤ q ∧ kk = .int .i64 k ∧ Hid (∃ E, RMs TT w wr V u hu m q N i k E)) (fun kk _ => q - (intOf kk).toNat)
      case atStart => exact ⟨0, Nat.zero_le _, rfl, HM⟩
      case round =>
        clear HM
        obtain ⟨k, hk, rfl, HK⟩ := hrel
        obtain ⟨E, hE⟩ := HK.out
        obtain ⟨rfl, hhl, hcs⟩ := hE.outer (by omega)
        have hci := hcs i hlt
        obtain ⟨ax, hsh⟩ := HP.out.shape i hlt
        by_cases hlt2 : k < q
        · have hd3 : decide ((k : Int) < (q : Int)) = true := by simp; omega
          have hd2 : decide (k < q) = true := by simp; omega
          obtain ⟨g, hv, ⟨x, hx1⟩, hx2, hx3⟩ := hE.step HP.out hlt hlt2
          have q2 := cell_below hci ((Below.refl wr.heap.size wr).alloc (Nat.le_refl _) (.cells #[.int .u8 ((mark1 i k : Nat) : Int)] 5))
          rw [hv] at hci q2
          have HX := Lib.hid (show ∃ E, _ from ⟨_, hx3⟩)
          have hms := mark1_spell i k
          clear hv hx3 hsh hcs hE HK
          go_wp2_with fail
          go_roundw
          case rel => exact ⟨k + 1, by omega, by go_num, HX⟩
          case measure => simp [intOf]; omega
        · obtain rfl : k = q := by omega
          have hd3 : decide ((k : Int) < (k : Int)) = false := by simp
          have HN := Lib.hid (show ∃ E, RMs TT w wr V (some ⟨hu, 0, none⟩) hu m k N (i + 1) 0 E from ⟨E, hE.next⟩)
          rw [hsh] at hci
          clear hE HK hcs hsh
          go_wp2_with fail
          go_roundw
          case rel => exact ⟨i + 1, by omega, by go_num, HN⟩
          case measure => simp [intOf]; omega
    · obtain rfl : i = m := by omega
      have hd : decide (i < i) = false := by simp
      have hdi : decide ((i : Int) < (i : Int)) = false := by simp
      obtain ⟨E, hE⟩ := HM.out
      have HA := Lib.hid hE.all
      have HON := Lib.hid hE.only
      obtain ⟨w1, hw1⟩ : ∃ w1, w1 = wr := ⟨_, rfl⟩
      subst hw1
      have G0 := Lib.hid (show ∃ Y D, LongR w1 E q 0 (.slice none 0 0) Y D w1 from ⟨fun _ => .slice none 0 0, fun _ _ => 0, Below.refl _ _, World.ownsRow_nil _ _ _ _, fun j hj => by omega, fun j p hj => by omega⟩)
      clear hlt HM hE
      go_wp2_with fail
      go_loopw [5, 6] (fun vl ii wr => ∃ (j : Nat), j ≤ i ∧ ii = .int .i64 (j : Nat) ∧ Hid (∃ Y D, LongR w1 E q j vl Y D wr)) (fun _ ii _ => i - (intOf ii).toNat)
      case atStart => exact ⟨0, Nat.zero_le _, rfl, G0⟩
      case round =>
        clear G0
        obtain ⟨j, hj, rfl, HG0⟩ := hrel
        obtain ⟨Y, D, hG⟩ := HG0.out
        have HG := Lib.hid hG
        obtain ⟨av, cv, rfl⟩ := hG.shape
        clear HG0 hG
        by_cases hlt : j < i
        · have hd2 : decide (j < i) = true := by simpa using hlt
          have hdj : decide ((j : Int) < (i : Int)) = true := by simp; omega
          have hjx : (j : Int) < (i : Int) := by omega
          have HAr := Lib.hid (HA.out.below HG.out.below)
          obtain ⟨rfl, hhl, hcs⟩ := HAr.out.outer (by omega)
          have hcj := hcs j hlt
          obtain ⟨ax0, hsh⟩ := HP.out.shape j hlt
          rw [hsh] at hcj
          have HSH := Lib.hid hsh
          obtain ⟨wo, hwo⟩ : ∃ wo, wo = wr := ⟨_, rfl⟩
          subst hwo
          clear hcs hsh
          go_wp2_with fail
          go_loopw [7, 8] (fun xv kk wr => ∃ k : Nat, k ≤ 8 ∧ kk = .int .i64 k ∧ Hid ((k = 0 ∧ xv = .slice ax0 q q ∧ wr = wo) ∨ (0 < k ∧ ∃ d, ExtRs wo E q j k d xv wr))) (fun _ kk _ => 8 - (intOf kk).toNat)
          case atStart => exact ⟨0, Nat.zero_le _, rfl, Lib.hid (.inl ⟨rfl, rfl, rfl⟩)⟩
          case round =>
            obtain ⟨k, hk, rfl, HE⟩ := hrel
            by_cases hlt2 : k < 8
            · have HX0 := Lib.hid (show Below wr.heap.size wr ((wr.alloc (.cells #[.int .u8 ((mark2 j k : Nat) : Int)] 5)).alloc (.cells #[one1 wr.heap.size] 23)) ∧ ((wr.alloc (.cells #[.int .u8 ((mark2 j k : Nat) : Int)] 5)).alloc (.cells #[one1 wr.heap.size] 23)).cell? ⟨wr.heap.size, 0, none⟩ = some (.int .u8 ((mark2 j k : Nat) : Int)) ∧ wr.heap.size < ((wr.alloc (.cells #[.int .u8 ((mark2 j k : Nat) : Int)] 5)).alloc (.cells #[one1 wr.heap.size] 23)).heap.size from by
                have hA1 := (Below.refl wr.heap.size wr).alloc (Nat.le_refl _) (.cells #[.int .u8 ((mark2 j k : Nat) : Int)] 5)
                have hdc := (cell_of_row _ _ 0 _ _ _ (heap_alloc_new wr (.cells #[.int .u8 ((mark2 j k : Nat) : Int)] 5)))
                have hdc2 : (wr.alloc (.cells #[.int .u8 ((mark2 j k : Nat) : Int)] 5)).cell? ⟨wr.heap.size, 0, none⟩ = some (.int .u8 ((mark2 j k : Nat) : Int)) := hdc.trans rfl
                have hA2 := (Below.refl (wr.alloc (.cells #[.int .u8 ((mark2 j k : Nat) : Int)] 5)).heap.size (wr.alloc (.cells #[.int .u8 ((mark2 j k : Nat) : Int)] 5))).alloc (Nat.le_refl _) (.cells #[one1 wr.heap.size] 23)
                exact ⟨hA1.trans (hA2.mono hA1.size), cell_below hdc2 hA2, by simp; omega⟩)
              have hsrc := one_any (wr.alloc (.cells #[.int .u8 ((mark2 j k : Nat) : Int)] 5)) (one1 wr.heap.size) 23
              rw [show (wr.alloc (.cells #[.int .u8 ((mark2 j k : Nat) : Int)] 5)).heap.size = wr.heap.size + 1 by simp] at hsrc
              have HSRC := Lib.hid hsrc
              have HONE := Lib.hid (show ∀ u ∈ ([one1 wr.heap.size] : List Value), u.oneCell' = true by simp [one1, Value.oneCell'])
              have HWS := Lib.hid (show ((wr.alloc (.cells #[.int .u8 ((mark2 j k : Nat) : Int)] 5)).alloc (.cells #[one1 wr.heap.size] 23)).heap.size = wr.heap.size + 2 by simp)
              clear hsrc
              rcases HE.out with ⟨rfl, rfl, rfl⟩ | ⟨hk0, d, hX⟩
              · have hm0 : (((-1 : Int) - (j : Int)) * 97) % 256 = ((mark2 j 0 : Nat) : Int) := by unfold mark2; omega
                have hd3 : decide (((0 : Nat) : Int) < 8) = true := by simp
                have HV0 := Lib.hid (show wr.ownsRow N 23 1 (.slice ax0 q q) q (Lv E (fun _ => 0) q j 0) from by rw [Lv_zero, ← HSH.out]; exact HAr.out.row j hlt)
                have HV := Lib.hid (show ((wr.alloc (.cells #[.int .u8 ((mark2 j 0 : Nat) : Int)] 5)).alloc (.cells #[one1 wr.heap.size] 23)).ownsRow 0 23 1 (.slice ax0 q q) q (Lv E (fun _ => 0) q j 0) from by
                  have h := HV0.out
                  have h2 : wr.ownsRow 0 23 1 (.slice ax0 q q) q (Lv E (fun _ => 0) q j 0) := ⟨h.1, by
                    rcases h.2 with h3 | ⟨g, c2, cur, e1, _, r⟩
                    · exact .inl h3
                    · exact .inr ⟨g, c2, cur, e1, Nat.zero_le _, r⟩⟩
                  exact owns_only h2 (Only.of_below HX0.out.1 []) (fun _ _ => by simp))
                clear HE
                go_wp2_with (at_builtin; refine wpList_append_goes _ rfl (.tmp 55) (.tmp 64) 25 rfl 23 i1 (.slice none 0 0) 1 24 Try.underlying25 HI1.out.1 HI1.out.2.1 HI1.out.2.2.1 HI1.out.2.2.2 rfl (by decide) (.slice ax0 q q) q (Lv E (fun _ => 0) q j 0) rfl HV.out ⟨wr.heap.size + 1, 0, none⟩ 1 1 [one1 wr.heap.size] rfl rfl HSRC.out HONE.out (by unfold maxLen; omega) (by omega) (by decide) ?_; intro v2 w2 hown2 hgo2; have HN := Lib.hid (ExtRs.first HV0.out HX0.out.1 (Nat.le_refl _) HX0.out.2.2 HX0.out.2.1 hown2 hgo2); obtain ⟨a2, c2, rfl⟩ := HN.out.shape; clear hown2 hgo2)
                go_wp2_with fail
                go_roundw
                case rel => exact ⟨1, by omega, by go_num, Lib.hid (.inr ⟨by omega, _, HN.out⟩)⟩
                case measure => simp [intOf]
              · have hms := mark2_spell j k
                have hd3 : decide ((k : Int) < 8) = true := by simp; omega
                obtain ⟨ax, cx, rfl⟩ := hX.shape
                have HX := Lib.hid hX
                have HOW := Lib.hid (show ((wr.alloc (.cells #[.int .u8 ((mark2 j k : Nat) : Int)] 5)).alloc (.cells #[one1 wr.heap.size] 23)).ownsRow wo.heap.size 23 1 (.slice ax (q + k) cx) (q + k) (Lv E d q j k) from owns_only hX.own (Only.of_below HX0.out.1 []) (fun _ _ => by simp))
                have HSZ := Lib.hid hX.below.size
                obtain ⟨qk, hqk⟩ : ∃ qk, q + k = qk := ⟨_, rfl⟩
                have HQK := Lib.hid hqk
                have HMX := Lib.hid (show qk + 1 ≤ maxLen ∧ (qk + 1) * 24 ≤ 140737488355328 from ⟨by unfold maxLen; omega, by omega⟩)
                rw [hqk] at HOW
                rw [hqk]
                clear hX HE hqk
                go_wp2_with (at_builtin; refine wpList_append_own_at _ rfl (.tmp 55) (.tmp 64) 25 rfl wo.heap.size 23 i1 (.slice none 0 0) 1 24 Try.underlying25 HI1.out.1 HI1.out.2.1 HI1.out.2.2.1 HI1.out.2.2.2 rfl (by decide) (.slice ax qk cx) qk (Lv E d q j k) rfl HOW.out ⟨wr.heap.size + 1, 0, none⟩ 1 1 [one1 wr.heap.size] rfl rfl HSRC.out HONE.out HMX.out.1 HMX.out.2 (by have := HSZ.out; simp; omega) ?_; intro v2 w2 hown2 hgr2 _ hpl2; have HN := Lib.hid (HX.out.step (d := wr.heap.size) (W := (wr.alloc (.cells #[.int .u8 ((mark2 j k : Nat) : Int)] 5)).alloc (.cells #[one1 wr.heap.size] 23)) (v' := v2) (w' := w2) hk0 HX0.out.1 (Nat.le_refl _) HX0.out.2.2 HX0.out.2.1 (by rw [HQK.out]; exact hown2) (by rw [HQK.out]; exact hgr2) (by rw [HQK.out]; simpa using hpl2)); obtain ⟨a2, c2, rfl⟩ := HN.out.shape; clear hown2 hgr2 hpl2)
                go_wp2_with fail
                go_roundw
                case rel => exact ⟨k + 1, by omega, by go_num, Lib.hid (.inr ⟨by omega, _, HN.out⟩)⟩
                case measure => simp [intOf]; omega
            · obtain rfl : k = 8 := by omega
              have hd3 : decide (((8 : Nat) : Int) < 8) = false := by simp
              rcases HE.out with ⟨h, _⟩ | ⟨_, d, hX⟩
              · omega
              obtain ⟨ax, cx, rfl⟩ := hX.shape
              have HX := Lib.hid hX
              obtain ⟨q8, hq8⟩ : ∃ q8, q + 8 = q8 := ⟨_, rfl⟩
              have HQ8 := Lib.hid hq8
              have HOW := Lib.hid (show wr.ownsRow w1.heap.size 25 1 (.slice av j cv) j ((List.range j).map Y) from owns_only HG.out.own (Only.of_below hX.below []) (fun _ _ => by simp))
              have HSZ := Lib.hid (show w1.heap.size ≤ wr.heap.size from Nat.le_trans HG.out.below.size hX.below.size)
              have HONE := Lib.hid (show ∀ u ∈ ([.slice ax q8 cx] : List Value), u.oneCell' = true by simp [Value.oneCell'])
              have HSRC := Lib.hid (one_any wr (.slice ax q8 cx) 25)
              rw [hq8]
              clear hX HE hq8
              go_wp2_with (at_builtin; refine wpList_append_own_at _ rfl (.tmp 66) (.tmp 68) 50 rfl w1.heap.size 25 i2 (.slice none 0 0) 1 24 Try.underlying50 HI2.out.1 HI2.out.2.1 HI2.out.2.2.1 HI2.out.2.2.2 rfl (by decide) (.slice av j cv) j ((List.range j).map Y) rfl (HOW.out.alloc _) ⟨wr.heap.size, 0, none⟩ 1 1 [.slice ax q8 cx] rfl rfl HSRC.out HONE.out (by unfold maxLen; omega) (by omega) (by have := HSZ.out; simp; omega) ?_; intro v2 w2 hown2 hgr2 _ hpl2; have HN := Lib.hid (HG.out.step (v' := v2) (w2 := w2) HX.out ((Below.refl wr.heap.size wr).alloc (Nat.le_refl _) (.cells #[.slice ax q8 cx] 25)) (by rw [HQ8.out]; exact hown2) (by simpa using hgr2) (by simpa using hpl2)); obtain ⟨a2, c2, rfl⟩ := HN.out.shape; clear hown2 hgr2 hpl2)
              go_wp2_with fail
              go_roundw
              case rel => exact ⟨j + 1, by omega, by go_num, Lib.hid ⟨_, _, HN.out⟩⟩
              case measure => simp [intOf]; omega
        · obtain rfl : j = i := by omega
          have hd2 : decide (j < j) = false := by simp
          have hdj : decide ((j : Int) < (j : Int)) = false := by simp
          have HAr := Lib.hid (HA.out.below HG.out.below)
          have HEND := Lib.hid (HON.out.trans (Only.of_below HG.out.below []) (fun x hx => by simp at hx))
          clear hlt
          go_wp2_with fail
          go_loop [9] (fun ii => ∃ t : Nat, t ≤ j ∧ ii = .int .i64 (t : Nat)) (fun ii => j - (intOf ii).toNat)
          case atStart => exact ⟨0, Nat.zero_le _, rfl⟩
          case round =>
            obtain ⟨t, ht, rfl⟩ := hrel
            by_cases hlt3 : t < j
            · have hd4 : decide (t < j) = true := by simpa using hlt3
              have hd5 : decide ((t : Int) < (j : Int)) = true := by simp; omega
              have htx : (t : Int) < (j : Int) := by omega
              obtain ⟨rfl, hhl, hcs⟩ := HAr.out.outer (by omega)
              have hct := hcs t hlt3
              obtain ⟨at', hsh⟩ := HP.out.shape t hlt3
              rw [hsh] at hct
              have HCE := Lib.hid (fun p hp => HAr.out.cell t p hlt3 hp)
              rw [hsh] at HCE
              obtain ⟨gl, cl, gy, cy, hvl, hlc, hk1, hk2⟩ := HG.out.look t hlt3
              cases hvl
              have HY1 := Lib.hid hk1
              have HY2 := Lib.hid hk2
              obtain ⟨r8, hr8⟩ : ∃ r8, q + 8 = r8 := ⟨_, rfl⟩
              rw [hr8] at hlc
              clear hcs hk1 hk2 hsh
              go_wp2_with fail
              go_loop [11] (fun kk => ∃ k : Nat, k ≤ q ∧ kk = .int .i64 k) (fun kk => q - (intOf kk).toNat)
              case atStart => exact ⟨0, Nat.zero_le _, rfl⟩
              case round =>
                obtain ⟨k, hk, rfl⟩ := hrel
                by_cases hlt4 : k < q
                · have hd6 : decide ((k : Int) < (q : Int)) = true := by simp; omega
                  have hd7 : decide (k < q) = true := by simp; omega
                  have hk8 : (k : Int) < (r8 : Int) := by omega
                  obtain ⟨g, c, hV, k1, k2⟩ := HCE.out k hlt4
                  have hat : at' = some ⟨g, 0, none⟩ := by injection hV
                  subst hat
                  have k3 := HY1.out k hlt4
                  have hms := mark1_spell t k
                  unfold one1 at k1 k3
                  clear hV
                  go_wp2_with fail
                  go_round
                  case rel => exact ⟨k + 1, by omega, by go_num⟩
                  case measure => simp [intOf]; omega
                · obtain rfl : k = q := by omega
                  have hd6 : decide ((k : Int) < (k : Int)) = false := by simp
                  go_wp2_with fail
                  go_loop [12] (fun kk => ∃ z : Nat, z ≤ 8 ∧ kk = .int .i64 z) (fun kk => 8 - (intOf kk).toNat)
                  case atStart => exact ⟨0, by omega, rfl⟩
                  case round =>
                    obtain ⟨z, hz, rfl⟩ := hrel
                    by_cases hlt5 : z < 8
                    · have hd8 : decide ((z : Int) < 8) = true := by simp; omega
                      obtain ⟨k1, k2⟩ := HY2.out z hlt5
                      obtain ⟨kq, hkq⟩ : ∃ kq, k + z = kq := ⟨_, rfl⟩
                      have hkqi : (k : Int) + (z : Int) = (kq : Int) := by omega
                      have hkq8 : (kq : Int) < (r8 : Int) := by omega
                      rw [hkq] at k1
                      have hms := mark2_spell t z
                      unfold one1 at k1
                      go_wp2_with fail
                      go_round
                      case rel => exact ⟨z + 1, by omega, by go_num⟩
                      case measure => simp [intOf]; omega
                    · obtain rfl : z = 8 := by omega
                      have hd8 : decide (((8 : Nat) : Int) < 8) = false := by simp
                      go_wp2_with fail
                      go_round
                      case rel => exact ⟨t + 1, by omega, by go_num⟩
                      case measure => simp [intOf]; omega
            · obtain rfl : t = j := by omega
              have hd4 : decide (t < t) = false := by simp
              have hd5 : decide ((t : Int) < (t : Int)) = false := by simp
              go_wp2_with fail
              go_ret
              exact ⟨rfl, HEND.out⟩
end Go.Proofs.Ytlegdaoidjpokaa.B2
namespace Go.Proofs.Ytlegdaoidjpokaa.B2
open Go.RowKit
set_option linter.unusedVariables false
set_option linter.unusedSimpArgs false
/-- a book with m lists of rows and n rows -/
def BookG (w : World) (pb hu h m n : Nat) (V X : Nat → Value) : Prop :=
  ∃ u, BookAt2 u w pb h n X ∧ w.ownsRow 0 25 1 u m ((List.range m).map V) ∧ hu = u.ownBlock.getD pb ∧ u.ownBlock ≠ some pb
theorem BookAt2.ty {u : Value} {w : World} {pb h n : Nat} {X : Nat → Value} (H : BookAt2 u w pb h n X) : h = pb ∨ ∃ cur, w.heap[h]? = some (.cells cur 23 (0, 0)) := by
  obtain ⟨v, h1, h2, rfl, h4⟩ := H
  rcases h2.2 with ⟨rfl, _⟩ | ⟨g, c, cur, rfl, _, hh, _⟩
  · exact .inl rfl
  · exact .inr ⟨cur, hh⟩
theorem owns25 {w : World} {N m : Nat} {u : Value} {xs : List Value} (h : w.ownsRow N 25 1 u m xs) (g : Nat) (hg : u.ownBlock = some g) : ∃ cur, w.heap[g]? = some (.cells cur 25 (0, 0)) := by
  rcases h.2 with ⟨rfl, _⟩ | ⟨g2, c, cur, rfl, _, hh, _⟩
  · cases hg
  · injection hg with hg
    have hg : g2 = g := hg
    subst hg
    exact ⟨cur, hh⟩
theorem u_off {u : Value} {w : World} {pb h n m : Nat} {X : Nat → Value} {xs : List Value} {N : Nat} (H : BookAt2 u w pb h n X) (hu : w.ownsRow N 25 1 u m xs) (hp : u.ownBlock ≠ some pb) : ∀ g, u.ownBlock = some g → g ≠ pb ∧ g ≠ h := by
  intro g hg
  refine ⟨fun e => hp (by rw [hg, e]), fun e => ?_⟩
  obtain ⟨cur, hc⟩ := owns25 hu g hg
  rcases H.ty with e2 | ⟨cur2, hc2⟩
  · exact hp (by rw [hg, e, e2])
  · rw [← e, hc] at hc2
    injection hc2 with hc2
    injection hc2 with _ hc2
    exact absurd hc2 (by decide)
/-- while rows are put into the book -/
structure RowsG (w wr : World) (u : Value) (pb h0 hu0 h m n : Nat) (V X : Nat → Value) : Prop where
  book : BookAt2 u wr pb h n X
  lists : wr.ownsRow 0 25 1 u m ((List.range m).map V)
  off : u.ownBlock ≠ some pb
  low : h = h0 ∨ w.heap.size ≤ h
  only : Only [pb, h0, hu0] w wr
theorem RowsG.next {w wr w' : World} {u : Value} {pb h0 hu0 h h' m n : Nat} {V X : Nat → Value} (H : RowsG w wr u pb h0 hu0 h m n V X) (hb : BookAt2 u w' pb h' (n + 1) X) (hl : h' = h ∨ wr.heap.size ≤ h') (ho : Only [pb, h] wr w') : RowsG w w' u pb h0 hu0 h' m (n + 1) V X := by
  have hs := H.only.size
  have hoff := u_off H.book H.lists H.off
  refine ⟨hb, owns_only H.lists ho (fun g hg => ?_), H.off, ?_, H.only.trans ho (fun x hx => ?_)⟩
  · obtain ⟨k1, k2⟩ := hoff g hg
    simp; exact ⟨k1, k2⟩
  · have := H.low; omega
  · rcases List.mem_cons.1 hx with h1 | h1
    · exact .inl (by simp [h1])
    · have h1 : x = h := by simpa using h1
      rcases H.low with h2 | h2
      · exact .inl (by simp [h1, h2])
      · exact .inr (by omega)
set_option maxRecDepth 100000 in
set_option maxHeartbeats 4000000 in
theorem bookrowsg_any (pb h0 hu0 m n0 q cv : Nat) (av : Option Addr) (V X : Nat → Value) (w : World) (HB : BookG w pb hu0 h0 m n0 V X) (hV : V m = .slice av q cv) (hsrc : ∀ j, j < q → ∃ g, av = some ⟨g, 0, none⟩ ∧ g ≠ pb ∧ g ≠ h0 ∧ g ≠ hu0 ∧ w.cell? ⟨g, j, none⟩ = some (X (n0 + j)) ∧ ∃ a l c, X (n0 + j) = .slice a l c) (hm : m ≤ 1000) (hn : n0 + q ≤ 1000) :
    Calls Try.prog 13 #[.pointer (some ⟨pb, 0, none⟩), .slice av q cv] w fun e w' => e = .returned (.tuple #[]) ∧ ∃ hu h, BookG w' pb hu h (m + 1) (n0 + q) V X ∧ (h = h0 ∨ w.heap.size ≤ h) ∧ (hu = hu0 ∨ w.heap.size ≤ hu) ∧ Only [pb, h0, hu0] w w' := by
  obtain ⟨i2, hi2, hx0, hx1, hx2⟩ := info_parts info53'
  have HI := Lib.hid (And.intro hi2 (And.intro hx0 (And.intro hx1 hx2)))
  obtain ⟨u, hbk, hul, hhu0, huo⟩ := HB
  obtain ⟨vb, hb, hvb, hvh, hvo⟩ := id hbk
  have hpl := (Array.getElem?_eq_some_iff.1 hb).1
  have hus : ∃ au cu, u = .slice au m cu := by
    rcases hul.2 with ⟨hv, h0⟩ | ⟨g, c, _, hv, _⟩
    · exact ⟨none, 0, by rw [hv, h0]⟩
    · exact ⟨_, _, hv⟩
  obtain ⟨au, cu, rfl⟩ := hus
  have q18 : w.cell? ⟨pb, 18, none⟩ = some (.slice au m cu) := by rw [cell_of_row _ _ _ _ _ _ hb]; exact bk2_rows _ _
  have f18 : w.frozen? ⟨pb, 18, none⟩ = false := frozen_of_row _ _ _ _ _ hb
  have HSRC := Lib.hid (one_any w (.slice av q cv) 25)
  have HONE := Lib.hid (show ∀ u ∈ ([.slice av q cv] : List Value), u.oneCell' = true by simp [Value.oneCell'])
  have HBK := Lib.hid (And.intro hbk (And.intro hul (And.intro hhu0 huo)))
  have HUF := Lib.hid (u_off hbk hul huo)
  have HVB := Lib.hid (And.intro hb (And.intro hvb (And.intro hvh hvo)))
  have HSS := Lib.hid hsrc
  have HVM := Lib.hid hV
  clear hbk hul hhu0 huo hb hvb hvh hvo hsrc hi2 hx0 hx1 hx2 hV
  go_enter Try.func13, Try.ntmps13
  go_wp2_with (at_builtin; refine wpList_append_place _ rfl (.tmp 9) (.tmp 11) 50 rfl 25 i2 (.slice none 0 0) 1 24 Try.underlying50 HI.out.1 HI.out.2.1 HI.out.2.2.1 HI.out.2.2.2 rfl (by decide) (.slice au m cu) m ((List.range m).map V) rfl (HBK.out.2.1.alloc _) ⟨w.heap.size, 0, none⟩ 1 1 [.slice av q cv] rfl rfl HSRC.out HONE.out (by unfold maxLen; omega) (by omega) ?_; intro v2 w2 hown2 hgr2 hpl2; have hO2 : Only [pb, h0, hu0] w w2 := ((Only.refl _ w).alloc _).grown hgr2 (fun k hk => .inl (by have h := HBK.out.2.2.1; rw [hk] at h; simp at h; simp [h])); have hb2 : w2.heap[pb]? = some (.cells (bk2 (.slice au m cu) vb) 65 (0, 0)) := (hgr2.block pb (by simp; omega) (fun e => HBK.out.2.2.2 e.symm)).trans ((Below.heap_alloc w _ pb hpl).trans HVB.out.1); have f2 : w2.frozen? ⟨pb, 18, none⟩ = false := frozen_of_row _ _ _ _ _ hb2; have q2 : w2.cell? ⟨pb, 18, none⟩ = some (.slice au m cu) := (by rw [cell_of_row _ _ _ _ _ _ hb2]; exact bk2_rows _ _); have HP2 := Lib.hid (And.intro hown2 (And.intro hgr2 (And.intro hpl2 (And.intro hO2 hb2)))); obtain ⟨a3, c3, rfl⟩ : ∃ a3 c3, v2 = .slice a3 (m + 1) c3 := (by rcases hown2.2 with ⟨_, h⟩ | ⟨g, c, _, hv, _⟩; (· omega); (· exact ⟨_, _, hv⟩)); clear hown2 hgr2 hpl2 hO2 hb2 q18 f18)
  have HST := Lib.hid (show RowsG w (w2.setCell ⟨pb, 18, none⟩ (.slice a3 (m + 1) c3)) (.slice a3 (m + 1) c3) pb h0 hu0 h0 (m + 1) n0 V X from by
    obtain ⟨hown2, hgr2, hpl2, hO2, hb2⟩ := HP2.out
    have ho : Only [pb] w2 (w2.setCell ⟨pb, 18, none⟩ (.slice a3 (m + 1) c3)) := (Only.refl [pb] _).setCell (p := ⟨pb, 18, none⟩) (.inl (by simp)) _
    have hnp : (Value.slice a3 (m + 1) c3).ownBlock ≠ some pb := by
      rcases hpl2 with e | ⟨g, e, hg⟩
      · rw [e]; exact HBK.out.2.2.2
      · rw [e]; simp at hg ⊢; omega
    refine ⟨⟨vb, ?_, ?_, HVB.out.2.2.1, HVB.out.2.2.2⟩, ?_, hnp, .inl rfl, hO2.trans ho (fun x hx => .inl (by simp at hx; simp [hx]))⟩
    · have h := heap_setCell_same w2 pb 18 _ _ (.slice a3 (m + 1) c3) hb2
      rw [h]; rfl
    · refine owns_only (owns_only HVB.out.2.1 (((Only.refl (Value.slice au m cu).ownBlock.toList w).alloc _).grown hgr2 (fun k hk => .inl (by simp [hk]))) (fun g hg hm => ?_)) ho (fun g hg hm => ?_)
      · have h1 := HUF.out g (by simpa using hm)
        have h2 := HVB.out.2.2.1
        rw [hg] at h2
        exact h1.2 (by simpa using h2.symm)
      · have hm : g = pb := by simpa using hm
        subst hm
        exact HVB.out.2.2.2 hg
    · refine owns_only ?_ ho (fun g hg hm => ?_)
      · rw [List.range_succ, List.map_append, List.map_singleton, HVM.out]
        exact hown2
      · have hm : g = pb := by simpa using hm
        subst hm
        exact hnp hg)
  have HL3 := Lib.hid (show (Value.slice a3 (m + 1) c3).ownBlock.getD pb = hu0 ∨ w.heap.size ≤ (Value.slice a3 (m + 1) c3).ownBlock.getD pb from by
    obtain ⟨hown2, hgr2, hpl2, hO2, hb2⟩ := HP2.out
    rcases hpl2 with e | ⟨g, e, hg⟩
    · rw [e]; exact .inl HBK.out.2.2.1.symm
    · rw [e]; right; simp at hg ⊢; omega)
  clear q2 f2 HP2
  generalize w2.setCell ⟨pb, 18, none⟩ (.slice a3 (m + 1) c3) = W3 at *
  go_loopw [4] (fun ii wr => ∃ j h, j ≤ q ∧ ii = .int .i64 (j : Nat) ∧ Hid (RowsG w wr (.slice a3 (m + 1) c3) pb h0 hu0 h (m + 1) (n0 + j) V X)) (fun ii _ => q - (intOf ii).toNat)
  case atStart => exact ⟨0, h0, Nat.zero_le _, rfl, HST⟩
  case round =>
    clear HST
    obtain ⟨j, h, hj, rfl, HS⟩ := hrel
    by_cases hlt : j < q
    · have hd : decide ((j : Int) < (q : Int)) = true := by simp; omega
      have hd2 : decide (j < q) = true := by simp; omega
      obtain ⟨g, hav, hg1, hg2, hg3, hc, a, l, c, hX⟩ := HSS.out j hlt
      subst hav
      have hc2 := Only_cell HS.out.only hc (by simp; exact ⟨hg1, hg2, hg3⟩)
      rw [hX] at hc2
      have CB := Lib.hid (bookbytes2_any (.slice a3 (m + 1) c3) pb h (n0 + j) l c a X hX wr HS.out.book (by omega))
      clear hc hX hg1 hg2 hg3
      go_wp2_with fail
      go_at_call 29
      refine CB.out.mono ?_
      rintro e w4 ⟨rfl, h', k1, k2, k3⟩
      have HN := Lib.hid (HS.out.next k1 k2 k3)
      clear k1 k2 k3 CB hc2
      go_wp2_with fail
      go_roundw
      case rel => exact ⟨j + 1, h', by omega, by go_num, HN⟩
      case measure => simp [intOf]; omega
    · obtain rfl : j = q := by omega
      have hd : decide ((j : Int) < (j : Int)) = false := by simp
      go_wp2_with fail
      go_end0
      have H := HS.out
      exact ⟨rfl, _, h, ⟨_, H.book, H.lists, rfl, H.off⟩, H.low, HL3.out, H.only⟩
end Go.Proofs.Ytlegdaoidjpokaa.B2
namespace Go.Proofs.Ytlegdaoidjpokaa.B2
open Go.RowKit
set_option linter.unusedVariables false
set_option linter.unusedSimpArgs false
set_option maxRecDepth 100000 in
set_option maxHeartbeats 4000000 in
theorem own3_any (pb m n cu cap : Nat) (au a : Option Addr) (TT SS : List Nat) (w : World) (hb : w.heap[pb]? = some (.cells (bk2 (.slice au m cu) (.slice a n cap)) 65 (0, 0))) (hpT : pb ∉ TT) (hpS : pb ∉ SS)
    (CB : Calls Try.prog 30 #[.slice a n cap] w fun e w' => e = .returned (.bool true) ∧ Only TT w w')
    (CR : ∀ w1, Only TT w w1 → Calls Try.prog 48 #[.slice au m cu] w1 fun e w' => e = .returned (.bool true) ∧ Only SS w1 w') :
    Calls Try.prog 16 #[.pointer (some ⟨pb, 0, none⟩)] w fun e w' => e = .returned (.bool true) ∧ Only (TT ++ SS) w w' := by
  have hpl := (Array.getElem?_eq_some_iff.1 hb).1
  have c0 : w.cell? ⟨pb, 0, none⟩ = some (.slice a n cap) := by rw [cell_of_row _ _ _ _ _ _ hb]; rfl
  have HB := Lib.hid hb
  have CB0 := Lib.hid CB
  have CR0 := Lib.hid CR
  clear hb CB CR
  go_enter Try.func16, Try.ntmps16
  go_wp2_with fail
  refine (CB0.out).mono ?_
  rintro e w1 ⟨rfl, hb1⟩
  have hbk : w1.heap[pb]? = some (.cells (bk2 (.slice au m cu) (.slice a n cap)) 65 (0, 0)) := (hb1.block pb hpl hpT).trans HB.out
  have hpl1 := (Array.getElem?_eq_some_iff.1 hbk).1
  have B1 := Lib.hid hb1
  have BK := Lib.hid hbk
  clear hb1 hbk c0
  have c1 : w1.cell? ⟨pb, 1, none⟩ = some (.slice none 0 0) := bk2_cellL BK.out 0 (by decide)
  go_wp2_with fail
  refine (own40 _).mono ?_
  rintro e wx ⟨rfl, hww⟩
  subst hww
  clear c1
  have c2 : w1.cell? ⟨pb, 2, none⟩ = some (.slice none 0 0) := bk2_cellL BK.out 1 (by decide)
  go_wp2_with fail
  refine (own41 _).mono ?_
  rintro e wx ⟨rfl, hww⟩
  subst hww
  clear c2
  have c3 : w1.cell? ⟨pb, 3, none⟩ = some (.slice none 0 0) := bk2_cellL BK.out 2 (by decide)
  go_wp2_with fail
  refine (own42 _).mono ?_
  rintro e wx ⟨rfl, hww⟩
  subst hww
  clear c3
  have c4 : w1.cell? ⟨pb, 4, none⟩ = some (.slice none 0 0) := bk2_cellL BK.out 3 (by decide)
  go_wp2_with fail
  refine (own43 _).mono ?_
  rintro e wx ⟨rfl, hww⟩
  subst hww
  clear c4
  have c5 : w1.cell? ⟨pb, 5, none⟩ = some (.slice none 0 0) := bk2_cellL BK.out 4 (by decide)
  go_wp2_with fail
  refine (own44 _).mono ?_
  rintro e wx ⟨rfl, hww⟩
  subst hww
  clear c5
  have c6 : w1.cell? ⟨pb, 6, none⟩ = some (.slice none 0 0) := bk2_cellL BK.out 5 (by decide)
  go_wp2_with fail
  refine (own45 _).mono ?_
  rintro e wx ⟨rfl, hww⟩
  subst hww
  clear c6
  have c7 : w1.cell? ⟨pb, 7, none⟩ = some (.slice none 0 0) := bk2_cellL BK.out 6 (by decide)
  go_wp2_with fail
  refine (own46 _).mono ?_
  rintro e wx ⟨rfl, hww⟩
  subst hww
  clear c7
  have c8 : w1.cell? ⟨pb, 8, none⟩ = some (.slice none 0 0) := bk2_cellL BK.out 7 (by decide)
  go_wp2_with fail
  refine (own47 _).mono ?_
  rintro e wx ⟨rfl, hww⟩
  subst hww
  clear c8
  have c9 : w1.cell? ⟨pb, 9, none⟩ = some (.slice none 0 0) := bk2_cellL BK.out 8 (by decide)
  go_wp2_with fail
  refine (own48 _).mono ?_
  rintro e wx ⟨rfl, hww⟩
  subst hww
  clear c9
  have c10 : w1.cell? ⟨pb, 10, none⟩ = some (.slice none 0 0) := bk2_cellL BK.out 9 (by decide)
  go_wp2_with fail
  refine (own49 _).mono ?_
  rintro e wx ⟨rfl, hww⟩
  subst hww
  clear c10
  have c11 : w1.cell? ⟨pb, 11, none⟩ = some (.slice none 0 0) := bk2_cellL BK.out 10 (by decide)
  go_wp2_with fail
  refine (own50 _).mono ?_
  rintro e wx ⟨rfl, hww⟩
  subst hww
  clear c11
  have c12 : w1.cell? ⟨pb, 12, none⟩ = some (.slice none 0 0) := bk2_cellL BK.out 11 (by decide)
  go_wp2_with fail
  refine (own51 _).mono ?_
  rintro e wx ⟨rfl, hww⟩
  subst hww
  clear c12
  have c13 : w1.cell? ⟨pb, 13, none⟩ = some (.slice none 0 0) := bk2_cellL BK.out 12 (by decide)
  go_wp2_with fail
  refine (own52 _).mono ?_
  rintro e wx ⟨rfl, hww⟩
  subst hww
  clear c13
  have c14 : w1.cell? ⟨pb, 14, none⟩ = some (.slice none 0 0) := bk2_cellL BK.out 13 (by decide)
  go_wp2_with fail
  refine (own53 _).mono ?_
  rintro e wx ⟨rfl, hww⟩
  subst hww
  clear c14
  have c15 : w1.cell? ⟨pb, 15, none⟩ = some (.slice none 0 0) := bk2_cellL BK.out 14 (by decide)
  go_wp2_with fail
  refine (own54 _).mono ?_
  rintro e wx ⟨rfl, hww⟩
  subst hww
  clear c15
  have c16 : w1.cell? ⟨pb, 16, none⟩ = some (.slice none 0 0) := bk2_cellL BK.out 15 (by decide)
  go_wp2_with fail
  refine (own55 _).mono ?_
  rintro e wx ⟨rfl, hww⟩
  subst hww
  clear c16
  have c17 : w1.cell? ⟨pb, 17, none⟩ = some (.slice none 0 0) := bk2_cellL BK.out 16 (by decide)
  go_wp2_with fail
  refine (own56 _).mono ?_
  rintro e wx ⟨rfl, hww⟩
  subst hww
  clear c17
  have c18 : w1.cell? ⟨pb, 18, none⟩ = some (.slice au m cu) := by rw [cell_of_row _ _ _ _ _ _ BK.out]; exact bk2_rows _ _
  have CR := Lib.hid (CR0.out w1 B1.out)
  go_wp2_with fail
  refine (CR.out).mono ?_
  rintro e w3 ⟨rfl, hb3⟩
  have hbk3 : w3.heap[pb]? = some (.cells (bk2 (.slice au m cu) (.slice a n cap)) 65 (0, 0)) := (hb3.block pb hpl1 hpS).trans BK.out
  have hpl3 := (Array.getElem?_eq_some_iff.1 hbk3).1
  have B3 := Lib.hid (show Only (TT ++ SS) w w3 from (B1.out.mono (fun x hx => List.mem_append_left _ hx)).trans hb3 (fun x hx => .inl (List.mem_append_right _ hx)))
  replace BK := Lib.hid hbk3
  clear c18 CR hb3 hbk3
  have c19 : w3.cell? ⟨pb, 19, none⟩ = some (.slice none 0 0) := bk2_cellH BK.out 0 (by decide)
  go_wp2_with fail
  refine (own58 _).mono ?_
  rintro e wx ⟨rfl, hww⟩
  subst hww
  clear c19
  have c20 : w3.cell? ⟨pb, 20, none⟩ = some (.slice none 0 0) := bk2_cellH BK.out 1 (by decide)
  go_wp2_with fail
  refine (own59 _).mono ?_
  rintro e wx ⟨rfl, hww⟩
  subst hww
  clear c20
  have c21 : w3.cell? ⟨pb, 21, none⟩ = some (.slice none 0 0) := bk2_cellH BK.out 2 (by decide)
  go_wp2_with fail
  refine (own60 _).mono ?_
  rintro e wx ⟨rfl, hww⟩
  subst hww
  clear c21
  have c22 : w3.cell? ⟨pb, 22, none⟩ = some (.slice none 0 0) := bk2_cellH BK.out 3 (by decide)
  go_wp2_with fail
  refine (own61 _).mono ?_
  rintro e wx ⟨rfl, hww⟩
  subst hww
  clear c22
  have c23 : w3.cell? ⟨pb, 23, none⟩ = some (.slice none 0 0) := bk2_cellH BK.out 4 (by decide)
  go_wp2_with fail
  refine (own62 _).mono ?_
  rintro e wx ⟨rfl, hww⟩
  subst hww
  clear c23
  have c24 : w3.cell? ⟨pb, 24, none⟩ = some (.slice none 0 0) := bk2_cellH BK.out 5 (by decide)
  go_wp2_with fail
  refine (own63 _).mono ?_
  rintro e wx ⟨rfl, hww⟩
  subst hww
  clear c24
  have c25 : w3.cell? ⟨pb, 25, none⟩ = some (.slice none 0 0) := bk2_cellH BK.out 6 (by decide)
  go_wp2_with fail
  refine (own64 _).mono ?_
  rintro e wx ⟨rfl, hww⟩
  subst hww
  clear c25
  have c26 : w3.cell? ⟨pb, 26, none⟩ = some (.slice none 0 0) := bk2_cellH BK.out 7 (by decide)
  go_wp2_with fail
  refine (own65 _).mono ?_
  rintro e wx ⟨rfl, hww⟩
  subst hww
  clear c26
  have c27 : w3.cell? ⟨pb, 27, none⟩ = some (.slice none 0 0) := bk2_cellH BK.out 8 (by decide)
  go_wp2_with fail
  refine (own66 _).mono ?_
  rintro e wx ⟨rfl, hww⟩
  subst hww
  clear c27
  have c28 : w3.cell? ⟨pb, 28, none⟩ = some (.slice none 0 0) := bk2_cellH BK.out 9 (by decide)
  go_wp2_with fail
  refine (own67 _).mono ?_
  rintro e wx ⟨rfl, hww⟩
  subst hww
  clear c28
  have c29 : w3.cell? ⟨pb, 29, none⟩ = some (.slice none 0 0) := bk2_cellH BK.out 10 (by decide)
  go_wp2_with fail
  refine (own68 _).mono ?_
  rintro e w2 ⟨rfl, hb2⟩
  have B2 := Lib.hid (B3.out.trans (Only.of_below hb2 []) (fun x hx => by simp at hx))
  replace BK := Lib.hid ((hb2.block pb hpl3).trans BK.out)
  clear hb2 c29
  have c30 : w2.cell? ⟨pb, 30, none⟩ = some (.slice none 0 0) := bk2_cellH BK.out 11 (by decide)
  go_wp2_with fail
  refine (own69 _).mono ?_
  rintro e wx ⟨rfl, hww⟩
  subst hww
  clear c30
  have c31 : w2.cell? ⟨pb, 31, none⟩ = some (.slice none 0 0) := bk2_cellH BK.out 12 (by decide)
  go_wp2_with fail
  refine (own70 _).mono ?_
  rintro e wx ⟨rfl, hww⟩
  subst hww
  clear c31
  go_wp2
  go_ret
  exact ⟨rfl, B2.out⟩
end Go.Proofs.Ytlegdaoidjpokaa.B2
namespace Go.Proofs.Ytlegdaoidjpokaa
set_option linter.unusedVariables false
set_option linter.unusedSimpArgs false
open Go.RowKit
open B2 (Only Row Lots owns_only)
set_option maxHeartbeats 8000000 in
set_option maxRecDepth 100000 in
theorem refsplit_empty (ad : Addr) (cap seg t : Nat) (hs : seg < 4294967296) (ht : t + 1 ≤ 32) (w : World) :
    Calls Try.prog 12 #[.int .u32 seg, .int .i64 t, .slice (some ad) 0 cap] w fun e w' => ∃ v X, e = .returned (.tuple #[v, .int .u16 0]) ∧ OutR w' w.heap.size v (Fr.cutS seg t []) X ∧ Below w.heap.size w w' := by
  obtain ⟨i1, hi1, hy0, hy1, hy2⟩ := info_parts B2.info27
  have HI := Lib.hid (And.intro hi1 (And.intro hy0 (And.intro hy1 hy2)))
  have h0d : decide ((t : Int) < 0) = false := by simp
  have h31 : decide ((31 : Int) < (t : Int)) = false := by simp; omega
  have hST := Lib.hid (show OutR w w.heap.size (.slice none 0 0) [] (fun _ => .slice none 0 0) ∧ Below w.heap.size w w from ⟨OutR.nil _ _, Below.refl _ _⟩)
  have CS1 := fun W => refsec_some ad [] 0 cap 1 seg t rfl (by decide) (by decide) hs (by omega) W ⟨by decide, (fun c hc => by cases hc), fun h => absurd rfl h⟩
  simp only [Int.cast_ofNat_Int] at CS1
  have CS := Lib.hid CS1
  have HC := Lib.hid (And.intro (cutS_one seg t [] (by decide)) (Fr.sec_len 1 seg t [] (by decide)))
  clear CS1
  clear hi1 hy0 hy1 hy2
  go_enter Try.func12, Try.ntmps12
  go_wp2_with fail
  go_loopw [9, 10] (fun v i wr => (i = .int .i64 0 ∧ v = .slice none 0 0 ∧ wr = w) ∨ (i = .int .i64 1 ∧ Hid (∃ X, OutR wr w.heap.size v (Fr.cutS seg t []) X ∧ Below w.heap.size w wr))) (fun _ i _ => 1 - (intOf i).toNat)
  case atStart => exact .inl ⟨rfl, rfl, rfl⟩
  case round =>
    rcases hrel with ⟨rfl, rfl, rfl⟩ | ⟨rfl, HO⟩
    · go_wp2_with fail
      go_at_call 28
      refine (CS.out wr).mono ?_
      rintro e w2 ⟨x, rfl, hx, hb2⟩
      obtain ⟨xa, xc, rfl⟩ : ∃ a c, x = .slice a 256 c := by
        obtain ⟨a, c, h⟩ := hx.shape
        rw [HC.out.2] at h
        exact ⟨a, c, h⟩
      have hA := (Below.refl w2.heap.size w2).alloc (Nat.le_refl _) (.cells #[.slice xa 256 xc] 23)
      have hb3 := hb2.trans (hA.mono hb2.size)
      have HB3 := Lib.hid (And.intro hb3 (hST.out.2.trans (hb3.mono hST.out.2.size)))
      have HX := Lib.hid (hx.below hA)
      have HSRC := Lib.hid (B2.one_any w2 (.slice xa 256 xc) 23)
      have HONE := Lib.hid (show ∀ u ∈ ([.slice xa 256 xc] : List Value), u.oneCell' = true by simp [Value.oneCell'])
      clear hb2 hb3 hA CS hx
      go_wp2_with (at_builtin; refine wpList_append_own_at _ rfl (.tmp 58) (.tmp 60) 25 rfl wr.heap.size 23 i1 (.slice none 0 0) 1 24 Try.underlying25 HI.out.1 HI.out.2.1 HI.out.2.2.1 HI.out.2.2.2 rfl (by decide) (.slice none 0 0) 0 [] rfl (World.ownsRow_nil _ _ _ _) ⟨w2.heap.size, 0, none⟩ 1 1 [.slice xa 256 xc] rfl rfl HSRC.out HONE.out (by decide) (by decide) HB3.out.2.size ?_; intro v' w4 hown hgr _ hpl; have HO4 := Lib.hid (scan_more hST.out HB3.out.1 HX.out rfl hown hgr hpl); clear hown hgr hpl)
      go_wp2_with fail
      go_roundw
      case rel => exact .inr ⟨by go_num, Lib.hid ⟨_, by rw [HC.out.1]; exact HO4.out⟩⟩
      case measure => simp [intOf]
    · go_wp2_with fail
      go_returns
      obtain ⟨X, h1, h2⟩ := HO.out
      exact ⟨_, X, rfl, h1, h2⟩
theorem refsplit_any (a : Option Addr) (bs : List Nat) (n cap seg t : Nat) (hn : bs.length = n) (hc : n ≤ cap) (hc0 : a = none → cap = 0) (hl : n ≤ 7680) (hs : seg < 4294967296) (ht : t + Fr.need n ≤ 32) (w : World) (H : Bys w a bs) :
    Calls Try.prog 12 #[.int .u32 seg, .int .i64 t, .slice a n cap] w fun e w' => ∃ v X, e = .returned (.tuple #[v, .int .u16 0]) ∧ OutR w' w.heap.size v (Fr.cutS seg t bs) X ∧ Below w.heap.size w w' := by
  have hnd : 1 ≤ Fr.need n := by unfold Fr.need; omega
  cases hb : bs with
  | nil =>
    subst hb
    have h0 : n = 0 := by simpa using hn.symm
    subst h0
    cases a with
    | none =>
      have := hc0 rfl
      subst this
      exact refsplit_none seg t hs (by omega) w
    | some ad => exact refsplit_empty ad cap seg t hs (by omega) w
  | cons c rest =>
    obtain ⟨b, off, rfl, _⟩ := H.2.2 (by rw [hb]; simp)
    rw [← hb]
    by_cases hq : n ≤ 240
    · exact refsplit_one b off bs n cap seg t hn hc hq hs (by omega) w H
    · exact refsplit_many b off bs n cap seg t ((n + 239) / 240) hn hc hl hs ht rfl (by omega) w H
end Go.Proofs.Ytlegdaoidjpokaa
namespace Go.Proofs.Ytlegdaoidjpokaa.B2
open Go.RowKit
set_option linter.unusedVariables false
set_option linter.unusedSimpArgs false
theorem LsP.mono {V : Nat → Value} {hu m q N M M' : Nat} {TT : List Nat} (H : LsP V hu m q N M TT) (h : M ≤ M') : LsP V hu m q N M' TT :=
  ⟨H.shape, fun e g he hg => ⟨by have := (H.lt e g he hg).1; omega, (H.lt e g he hg).2⟩, H.apart⟩
theorem own_two (pb hu h m n q N : Nat) (V : Nat → Value) (B O : Nat → Nat) (TT SS : List Nat) (w : World) (HB : BookG w pb hu h m n V (secX B O)) (P : SecP B O n h w.heap.size TT) (hS : ∃ M, Sec w B O n M) (L : LsP V hu m q N w.heap.size SS)
    (hR : ∀ e, e < m → ∃ ys, w.ownsRow N 23 1 (V e) q ys) (hpT : pb ∉ TT) (hpS : pb ∉ SS) (huT : hu ∉ TT) (hVT : ∀ e g, e < m → (V e).ownBlock = some g → g ∉ TT) (hm : m ≤ 1000) (hq : q ≤ 100000) (hn : n ≤ 1000) (hoff : ∀ j, j < n → O j ≤ 1000000) :
    Calls Try.prog 16 #[.pointer (some ⟨pb, 0, none⟩)] w fun e w' => e = .returned (.bool true) ∧ Only (TT ++ SS) w w' := by
  obtain ⟨u, hbk, hul, hhu, huo⟩ := HB
  obtain ⟨a, cap, hb, hO⟩ := hbk.outer
  have hus : ∃ au cu, u = .slice au m cu ∧ Outer w au hu m V := by
    rcases hul.2 with ⟨hv, h0⟩ | ⟨g, c, cur, hv, hr⟩
    · exact ⟨none, 0, by rw [hv, h0], fun h => by omega⟩
    · have hc := hul.cells (g := g) (by rw [hv]; rfl)
      have hl := (hul.lt g (by rw [hv]; rfl)).2
      subst hv
      have hhu : hu = g := hhu
      subst hhu
      refine ⟨_, c, rfl, fun _ => ⟨rfl, hl, fun i hi => ?_⟩⟩
      have := hc i (V i) (by simp [hi])
      rw [add_here] at this
      exact this
  obtain ⟨au, cu, rfl, hOu⟩ := hus
  refine own3_any pb m n cu cap au a TT SS w hb hpT hpS (ownsect_any TT a h n cap B O w P hO hS hn hoff) (fun w1 ho => ?_)
  exact ownrowsm_any SS au hu m q cu N V w1 (L.mono ho.size) (hOu.only ho huT) (fun e he => by
    obtain ⟨ys, h1⟩ := hR e he
    exact ⟨ys, owns_only h1 ho (fun g hg => hVT e g he hg)⟩) hm hq
theorem flat_len (S : List (List Nat)) (hS : ∀ s ∈ S, s.length = 256) : S.flatten.length = S.length * 256 := by
  induction S with
  | nil => rfl
  | cons s S ih =>
    rw [List.flatten_cons, List.length_append, hS s List.mem_cons_self, ih (fun x hx => hS x (List.mem_cons_of_mem _ hx)), List.length_cons]
    omega
/-- where the sectors of both lists lie -/
def twoB (m1 m2 q : Nat) (j : Nat) : Nat := if j < q then m1 else m2
def twoO (q : Nat) (j : Nat) : Nat := if j < q then j * 256 else (j - q) * 256
/-- both lists -/
def twoV (h1 h2 q : Nat) (e : Nat) : Value := if e = 0 then .slice (some ⟨h1, 0, none⟩) q q else .slice (some ⟨h2, 0, none⟩) q q
theorem two_place (m1 m2 q h N : Nat) (h1 : m1 < N) (h2 : m2 < N) (k1 : m1 ≠ h) (k2 : m2 ≠ h) (hne : m1 ≠ m2) : SecP (twoB m1 m2 q) (twoO q) (q + q) h N [m1, m2] := by
  refine ⟨fun i j hi hj hij he => ?_, fun j hj => ?_⟩
  · unfold twoB at he
    unfold twoO
    by_cases hi2 : i < q
    · by_cases hj2 : j < q
      · rw [if_pos hi2, if_pos hj2]; omega
      · rw [if_pos hi2, if_neg hj2] at he; exact absurd he hne
    · by_cases hj2 : j < q
      · rw [if_neg hi2, if_pos hj2] at he; exact absurd he.symm hne
      · rw [if_neg hi2, if_neg hj2]; omega
  · unfold twoB
    by_cases hj2 : j < q
    · rw [if_pos hj2]; exact ⟨h1, k1, by simp⟩
    · rw [if_neg hj2]; exact ⟨h2, k2, by simp⟩
theorem two_sec {w : World} {N1 N2 h1 h2 m1 m2 q : Nat} {S : List (List Nat)} (A : Spt w N1 h1 m1 S) (B : Spt w N2 h2 m2 S) (hq : S.length = q) : ∃ M, Sec w (twoB m1 m2 q) (twoO q) (q + q) M := by
  have hl := flat_len S A.len
  refine ⟨fun _ => S.flatten, ⟨fun j hj => ?_⟩⟩
  unfold twoB twoO
  by_cases hj2 : j < q
  · rw [if_pos hj2, if_pos hj2]
    exact ⟨A.mem, by rw [hl, hq]; omega⟩
  · rw [if_neg hj2, if_neg hj2]
    exact ⟨B.mem, by rw [hl, hq]; omega⟩
theorem two_lists (h1 h2 hu q N M : Nat) (k1 : h1 < M) (k2 : h2 < M) (e1 : h1 ≠ hu) (e2 : h2 ≠ hu) (hne : h1 ≠ h2) : LsP (twoV h1 h2 q) hu 2 q N M [h1, h2] := by
  refine ⟨fun e he => ?_, fun e g he hg => ?_, fun e f he hf hef => .inr ?_⟩
  · unfold twoV
    by_cases h0 : e = 0
    · rw [if_pos h0]; exact ⟨_, rfl⟩
    · rw [if_neg h0]; exact ⟨_, rfl⟩
  · unfold twoV at hg
    by_cases h0 : e = 0
    · rw [if_pos h0] at hg; injection hg with hg; have hg : h1 = g := hg; subst hg; exact ⟨k1, e1, by simp⟩
    · rw [if_neg h0] at hg; injection hg with hg; have hg : h2 = g := hg; subst hg; exact ⟨k2, e2, by simp⟩
  · unfold twoV
    by_cases h0 : e = 0
    · rw [if_pos h0, if_neg (by omega)]
      intro h; injection h with h; exact hne h
    · rw [if_neg h0, if_pos (by omega)]
      intro h; injection h with h; exact hne h.symm
theorem Spt.only {w w' : World} {N h m : Nat} {S : List (List Nat)} (H : Spt w N h m S) {T : List Nat} (ho : Only T w w') (h1 : h ∉ T) (h2 : m ∉ T) : Spt w' N h m S :=
  ⟨(ho.block _ (Array.getElem?_eq_some_iff.1 H.row).1 h1).trans H.row, H.mem.only ho h2, H.len, H.byt, H.low⟩
theorem Spt.lt {w : World} {N h m : Nat} {S : List (List Nat)} (H : Spt w N h m S) : h < w.heap.size ∧ m < w.heap.size ∧ h ≠ m := by
  refine ⟨(Array.getElem?_eq_some_iff.1 H.row).1, H.mem.lt, fun e => ?_⟩
  have h1 := H.row
  have h2 : w.heap[m]? = _ := H.mem
  rw [e, h2] at h1
  injection h1 with h1
  injection h1 with _ h1
  exact absurd h1 (by decide)
/-- the rows as the book takes them -/
theorem Spt.into {w : World} {N h m m1 m2 q : Nat} {S : List (List Nat)} (H : Spt w N h m S) (hq : S.length = q) (n0 : Nat) (hX : ∀ j, j < q → twoB m1 m2 q (n0 + j) = m ∧ twoO q (n0 + j) = j * 256) (pb h0 hu0 : Nat) (k1 : h ≠ pb) (k2 : h ≠ h0) (k3 : h ≠ hu0) :
    ∀ j, j < q → ∃ g, (some ⟨h, 0, none⟩ : Option Addr) = some ⟨g, 0, none⟩ ∧ g ≠ pb ∧ g ≠ h0 ∧ g ≠ hu0 ∧ w.cell? ⟨g, j, none⟩ = some (secX (twoB m1 m2 q) (twoO q) (n0 + j)) ∧ ∃ a l c, secX (twoB m1 m2 q) (twoO q) (n0 + j) = .slice a l c := by
  intro j hj
  refine ⟨h, rfl, k1, k2, k3, ?_, _, _, _, rfl⟩
  rw [H.cell j (by omega)]
  unfold secX
  rw [(hX j hj).1, (hX j hj).2]
theorem bk_none : bk (.slice none 0 0) = bk2 (.slice none 0 0) (.slice none 0 0) := rfl
theorem book_new {w : World} {pb : Nat} (hb : w.heap[pb]? = some (.cells (bk (.slice none 0 0)) 65 (0, 0))) (V X : Nat → Value) : BookG w pb pb pb 0 0 V X :=
  ⟨.slice none 0 0, ⟨.slice none 0 0, by rw [← bk_none]; exact hb, World.ownsRow_nil _ _ _ _, rfl, fun h => by cases h⟩, World.ownsRow_nil _ _ _ _, rfl, fun h => by cases h⟩
theorem BookG.below {w w' : World} {pb hu h m n : Nat} {V X : Nat → Value} (H : BookG w pb hu h m n V X) (hb : Below w.heap.size w w') : BookG w' pb hu h m n V X := by
  obtain ⟨u, h1, h2, h3, h4⟩ := H
  exact ⟨u, h1.below hb, owns_only h2 (Only.of_below hb []) (fun _ _ => by simp), h3, h4⟩
theorem lent_n (a : Option Addr) (bs : List Nat) (n L cap : Nat) (hn : bs.length = n) (hL : n + 2 = L) (w : World) (H : Bys w a bs) (hc0 : a = none → cap = 0) (hsm : n ≤ 100000) :
    Calls Try.prog 8 #[.slice a n cap] w fun e w' => ∃ g, e = .returned (.slice (some ⟨g, 0, none⟩) n L) ∧ w.heap.size ≤ g ∧ Lent w' g bs ∧ Below w.heap.size w w' := by
  subst hn; subst hL
  refine (lent_any a bs cap w H hc0 hsm).mono ?_
  rintro e w' ⟨g, h1, h2, h3, h4⟩
  exact ⟨g, h2, h1, h3, h4⟩
theorem whole_n (g : Nat) (a : Option Addr) (bs : List Nat) (n L cap : Nat) (hn : bs.length = n) (hL : n + 2 = L) (w : World) (H0 : Lent w g bs) (H : Bys w a bs) (hsm : n ≤ 100000) :
    Calls Try.prog 10 #[.slice (some ⟨g, 0, none⟩) n L, .slice a n cap] w fun e w' => e = .returned (.bool true) ∧ Below w.heap.size w w' := by
  subst hn; subst hL
  exact whole_any g a bs cap w H0 H hsm
end Go.Proofs.Ytlegdaoidjpokaa.B2
namespace Go.Proofs.Ytlegdaoidjpokaa
set_option linter.unusedVariables false
set_option linter.unusedSimpArgs false
open Go.RowKit
open B2 (Only Row Lots owns_only)
theorem splits_much (seg n cap : Nat) (a : Option Addr) (x : Int) (hn : 100000 < n) (w : World) :
    Calls Try.prog 3 #[.int .u32 seg, .int .i64 x, .slice a n cap] w fun e w' => e = .returned (.bool true) ∧ Below w.heap.size w w' := by
  have d1 : decide ((100000 : Int) < (n : Int)) = true := by simp; omega
  go_enter Try.func3, Try.ntmps3
  go_wp2_with fail
  go_ret
  exact ⟨rfl, Below.refl _ _⟩
set_option maxHeartbeats 8000000 in
set_option maxRecDepth 100000 in
theorem splits_good (seg t n cap : Nat) (a : Option Addr) (bs : List Nat) (hn : bs.length = n) (hl : n ≤ 7680) (hs : seg < 4294967296) (ht : t + Fr.need n ≤ 32) (hc : n ≤ cap) (hc0 : a = none → cap = 0) (w : World) (H : Bys w a bs) (hold : ∀ x, a = some x → x.block < w.heap.size ∨ bs = []) :
    Calls Try.prog 3 #[.int .u32 seg, .int .i64 t, .slice a n cap] w fun e w' => e = .returned (.bool true) ∧ Below w.heap.size w w' := by
  have d1 : decide ((100000 : Int) < (n : Int)) = false := by simp; omega
  have d2 : ¬ 100000 < n := by omega
  obtain ⟨L, hL⟩ : ∃ L, n + 2 = L := ⟨_, rfl⟩
  obtain ⟨q, hq⟩ : ∃ q, Fr.need n = q := ⟨_, rfl⟩
  have hq32 : q ≤ 32 := by omega
  have hql : (Fr.cutS seg t bs).length = q := by rw [Fr.cutS_len, hn, hq]
  have HA := Lib.hid (And.intro hn (And.intro hL (And.intro hq (And.intro hql (And.intro hc (And.intro hc0 H))))))
  have HT := Lib.hid (And.intro hl (And.intro hs ht))
  have HOLD := Lib.hid hold
  have CL := Lib.hid (B2.lent_n a bs n L cap hn hL w H hc0 (by omega))
  clear hn hL hq hql hc hc0 H hold hs ht
  go_enter Try.func3, Try.ntmps3
  go_wp2_with fail
  go_at_call 8
  refine CL.out.mono ?_
  rintro e w1 ⟨g, rfl, hg1, hL1, hb1⟩
  have HB1 := Lib.hid (And.intro hL1 (And.intro hb1 hg1))
  have HOWN := Lib.hid (hL1.bytes HA.out.2.2.2.2.2.2.1 HA.out.2.2.2.2.2.2.2.1)
  have CA := Lib.hid (spl_ok (some ⟨g, 0, none⟩) bs n L seg t HA.out.1 (by have := HA.out.2.1; omega) (fun h => by cases h) HT.out.1 HT.out.2.1 HT.out.2.2 w1 HOWN.out (fun x hx => by cases hx; exact .inl (Array.getElem?_eq_some_iff.1 hL1).1))
  clear hL1 hb1 hg1 CL
  rw [HA.out.2.2.1] at CA
  go_wp2_with fail
  go_at_call 9
  refine CA.out.mono ?_
  rintro e w2 ⟨h1, m1, rfl, hS1, hb2⟩
  have HS1 := Lib.hid (And.intro hS1 hb2)
  have CB := Lib.hid (spl_ok (some ⟨g, 0, none⟩) bs n L seg t HA.out.1 (by have := HA.out.2.1; omega) (fun h => by cases h) HT.out.1 HT.out.2.1 HT.out.2.2 w2 (HOWN.out.below hb2) (fun x hx => by cases hx; exact .inl (Array.getElem?_eq_some_iff.1 (HB1.out.1.below hb2)).1))
  clear hS1 hb2 CA
  rw [HA.out.2.2.1] at CB
  go_wp2_with fail
  go_at_call 9
  refine CB.out.mono ?_
  rintro e w3 ⟨h2, m2, rfl, hS2, hb3⟩
  have HS2 := Lib.hid (And.intro hS2 hb3)
  have HL3 := Lib.hid ((HB1.out.1.below HS1.out.2).below hb3)
  have hb03 : Below w.heap.size w w3 := (HB1.out.2.1.trans (HS1.out.2.mono HB1.out.2.1.size)).trans (hb3.mono (Nat.le_trans HB1.out.2.1.size HS1.out.2.size))
  have HB03 := Lib.hid hb03
  have CW := Lib.hid (B2.whole_n g a bs n L cap HA.out.1 HA.out.2.1 w3 HL3.out (HA.out.2.2.2.2.2.2.below hb03) (by omega))
  clear hS2 hb3 hb03 CB
  go_wp2_with fail
  go_at_call 10
  refine CW.out.mono ?_
  rintro e w4 ⟨rfl, hb4⟩
  have HB4 := Lib.hid hb4
  have CP := Lib.hid (spoil_n g n L bs w4 HA.out.1 HA.out.2.1 (by omega) (HL3.out.below hb4))
  clear hb4 CW
  go_wp2_with fail
  go_at_call 11
  refine CP.out.mono ?_
  rintro e w5 ⟨rfl, ho5⟩
  have hsz1 := HB1.out.2.1.size
  have hsz2 := HS1.out.2.size
  have hsz3 := HS2.out.2.size
  have hsz4 := HB4.out.size
  have hsz5 := ho5.size
  have hgl : g < w1.heap.size := (Array.getElem?_eq_some_iff.1 HB1.out.1).1
  have l1 := B2.Spt.lt HS1.out.1
  have l2 := B2.Spt.lt HS2.out.1
  have o1 := HS1.out.1.low
  have o2 := HS2.out.1.low
  have hS1 : Spt w5 w1.heap.size h1 m1 (Fr.cutS seg t bs) := B2.Spt.only ((HS1.out.1.below HS2.out.2).below HB4.out) ho5 (by simp; omega) (by simp; omega)
  have hS2 : Spt w5 w2.heap.size h2 m2 (Fr.cutS seg t bs) := B2.Spt.only (HS2.out.1.below HB4.out) ho5 (by simp; omega) (by simp; omega)
  have hgS : ∀ x ∈ [g], w.heap.size ≤ x := fun x hx => by
    have hx : x = g := by simpa using hx
    subst hx
    exact HB1.out.2.2
  have hb05 : Below w.heap.size w w5 := (HB03.out.trans (HB4.out.mono HB03.out.size)).trans (ho5.below (by omega) hgS)
  have HN := Lib.hid (show h1 ≠ h2 ∧ m1 ≠ m2 ∧ h1 ≠ m1 ∧ h2 ≠ m2 ∧ h1 ≠ m2 ∧ h2 ≠ m1 ∧ w.heap.size ≤ h1 ∧ w.heap.size ≤ h2 ∧ w.heap.size ≤ m1 ∧ w.heap.size ≤ m2 ∧ h1 < w5.heap.size ∧ h2 < w5.heap.size ∧ m1 < w5.heap.size ∧ m2 < w5.heap.size from ⟨by omega, by omega, by omega, by omega, by omega, by omega, by omega, by omega, by omega, by omega, by omega, by omega, by omega, by omega⟩)
  have H5 := Lib.hid (And.intro hS1 (And.intro hS2 hb05))
  have CR := Lib.hid (refsplit_any a bs n cap seg t HA.out.1 HA.out.2.2.2.2.1 HA.out.2.2.2.2.2.1 HT.out.1 HT.out.2.1 HT.out.2.2 w5 (HA.out.2.2.2.2.2.2.below hb05))
  clear hgS hsz1 hsz2 hsz3 hsz4 hsz5 hgl l1 l2 o1 o2 hS1 hS2 hb05 ho5 CP
  go_wp2_with fail
  go_at_call 12
  refine CR.out.mono ?_
  rintro e w6 ⟨v, X, rfl, hO6, hb6⟩
  obtain ⟨va, vc, rfl⟩ : ∃ va vc, v = .slice va q vc := by rw [← HA.out.2.2.2.1]; exact hO6.shape
  have hA6 := (Below.refl w6.heap.size w6).alloc (Nat.le_refl _) (.cells (B2.bk (.slice none 0 0)) 65)
  have HO6 := Lib.hid hO6
  have HS6 := Lib.hid (And.intro (H5.out.1.below hb6) (H5.out.2.1.below hb6))
  have HB6 := Lib.hid (And.intro (H5.out.2.2.trans (hb6.mono H5.out.2.2.size)) (And.intro hb6.size (And.intro hA6 (show (w6.alloc (.cells (B2.bk (.slice none 0 0)) 65)).heap.size = w6.heap.size + 1 by simp))))
  have HBK := Lib.hid (B2.book_new (heap_alloc_new w6 (.cells (B2.bk (.slice none 0 0)) 65)) (B2.twoV h1 h2 q) (B2.secX (B2.twoB m1 m2 q) (B2.twoO q)))
  clear hO6 hb6 hA6 CR
  go_wp2_with fail
  have hnn := HN.out
  have hw56 : w5.heap.size ≤ w6.heap.size := HB6.out.2.1
  have CB := Lib.hid (B2.bookrowsg_any w6.heap.size w6.heap.size w6.heap.size 0 0 q q (some ⟨h1, 0, none⟩) (B2.twoV h1 h2 q) (B2.secX (B2.twoB m1 m2 q) (B2.twoO q)) (w6.alloc (.cells (B2.bk (.slice none 0 0)) 65)) HBK.out rfl
    (B2.Spt.into (HS6.out.1.below HB6.out.2.2.1) HA.out.2.2.2.1 0 (fun j hj => by unfold B2.twoB B2.twoO; rw [Nat.zero_add, if_pos hj, if_pos hj]; exact ⟨rfl, rfl⟩) _ _ _ (by omega) (by omega) (by omega)) (by decide) (by omega))
  clear hnn hw56
  refine (CB.out).mono ?_
  clear CB HBK
  generalize w6.alloc (.cells (B2.bk (.slice none 0 0)) 65) = W at *
  rintro e w7 ⟨rfl, hu7, hk7, hG7, hl7, hk7', ho7⟩
  have hww := HB6.out.2.2.2
  have hb67 : Below w6.heap.size w6 w7 := HB6.out.2.2.1.trans (ho7.below (by omega) (fun x hx => by simp at hx; omega))
  rw [Nat.zero_add, Nat.zero_add] at hG7
  have H7 := Lib.hid (And.intro hG7 (And.intro hb67 (show w6.heap.size ≤ hk7 ∧ w6.heap.size ≤ hu7 from ⟨by omega, by omega⟩)))
  have hnn := HN.out
  have hw56 : w5.heap.size ≤ w6.heap.size := HB6.out.2.1
  have CB := Lib.hid (B2.bookrowsg_any w6.heap.size hk7 hu7 1 q q q (some ⟨h2, 0, none⟩) (B2.twoV h1 h2 q) (B2.secX (B2.twoB m1 m2 q) (B2.twoO q)) w7 hG7 rfl
    (B2.Spt.into (HS6.out.2.below hb67) HA.out.2.2.2.1 q (fun j hj => by unfold B2.twoB B2.twoO; rw [if_neg (by omega), if_neg (by omega), Nat.add_sub_cancel_left]; exact ⟨rfl, rfl⟩) _ _ _ (by omega) (by omega) (by omega)) (by decide) (by omega))
  clear hnn hw56 hww hb67 hG7 hl7 hk7' ho7
  go_wp2_with fail
  go_at_call 13
  refine CB.out.mono ?_
  clear CB
  rintro e w8 ⟨rfl, hu8, hk8, hG8, hl8, hk8', ho8⟩
  have h77 := H7.out.2.2
  have hs67 := H7.out.2.1.size
  have hb68 : Below w6.heap.size w6 w8 := H7.out.2.1.trans (ho8.below hs67 (fun x hx => by simp at hx; omega))
  have H8 := Lib.hid (And.intro hG8 (And.intro hb68 (show w6.heap.size ≤ hk8 ∧ w6.heap.size ≤ hu8 from ⟨by omega, by omega⟩)))
  have CK := Lib.hid (known_any w8)
  clear hG8 hl8 hk8' ho8 h77 hs67 hb68
  go_wp2_with fail
  go_at_call 14
  refine CK.out.mono ?_
  rintro e w9 ⟨rfl, hb9⟩
  have hb69 := H8.out.2.1.trans (hb9.mono H8.out.2.1.size)
  have hS8 := (cut_bytes seg t bs HA.out.2.2.2.2.2.2.2.1).2
  obtain ⟨a1, c1, hv1, hRw1⟩ := (HO6.out.below hb69).rws hS8 (by rw [HA.out.2.2.2.1]; omega)
  have e1 : va = a1 := by injection hv1
  subst e1
  have hR1 := (HS6.out.1.below hb69).rws
  have hR2 := (HS6.out.2.below hb69).rws
  have H9 := Lib.hid (And.intro (H8.out.1.below hb9) hb69)
  have HRW := Lib.hid (And.intro hRw1 (And.intro hR1 hR2))
  have C1 := Lib.hid (samerows_any (some ⟨h1, 0, none⟩) va (Fr.cutS seg t bs) q q vc HA.out.2.2.2.1 (by omega) w9 hR1 hRw1)
  have h00 : ((0 : Int) == 0) = true := rfl
  clear hb9 hb69 hS8 hv1 hRw1 hR1 hR2 CK
  go_wp2_with fail
  go_at_call 15
  refine C1.out.mono ?_
  rintro e w10 ⟨rfl, hb10⟩
  have C2 := Lib.hid (samerows_any (some ⟨h2, 0, none⟩) va (Fr.cutS seg t bs) q q vc HA.out.2.2.2.1 (by omega) w10 (HRW.out.2.2.below hb10) (HRW.out.1.below hb10))
  have H10 := Lib.hid (And.intro (H9.out.1.below hb10) (H9.out.2.trans (hb10.mono H9.out.2.size)))
  clear hb10 C1
  go_wp2_with fail
  go_at_call 15
  refine C2.out.mono ?_
  rintro e w11 ⟨rfl, hb11⟩
  have hG := H10.out.1.below hb11
  have hb := H10.out.2.trans (hb11.mono H10.out.2.size)
  have hS1 := HS6.out.1.below hb
  have hS2 := HS6.out.2.below hb
  have hnn := HN.out
  have hw56 : w5.heap.size ≤ w6.heap.size := HB6.out.2.1
  have h88 := H8.out.2.2
  have hsz := hb.size
  have CO := Lib.hid (B2.own_two w6.heap.size hu8 hk8 2 (q + q) q 0 (B2.twoV h1 h2 q) (B2.twoB m1 m2 q) (B2.twoO q) [m1, m2] [h1, h2] w11 hG
    (B2.two_place m1 m2 q hk8 w11.heap.size (by omega) (by omega) (by omega) (by omega) (by omega))
    (B2.two_sec hS1 hS2 HA.out.2.2.2.1)
    (B2.two_lists h1 h2 hu8 q 0 w11.heap.size (by omega) (by omega) (by omega) (by omega) (by omega))
    (fun e he => by
      unfold B2.twoV
      by_cases h0 : e = 0
      · rw [if_pos h0]; have h := hS1.own; rw [HA.out.2.2.2.1] at h; exact ⟨_, ⟨h.1, by
          rcases h.2 with h3 | ⟨g, c2, cur, e1, _, r⟩
          · exact .inl h3
          · exact .inr ⟨g, c2, cur, e1, Nat.zero_le _, r⟩⟩⟩
      · rw [if_neg h0]; have h := hS2.own; rw [HA.out.2.2.2.1] at h; exact ⟨_, ⟨h.1, by
          rcases h.2 with h3 | ⟨g, c2, cur, e1, _, r⟩
          · exact .inl h3
          · exact .inr ⟨g, c2, cur, e1, Nat.zero_le _, r⟩⟩⟩)
    (by simp; omega) (by simp; omega) (by simp; omega)
    (fun e g' he hg hm => by
      unfold B2.twoV at hg
      by_cases h0 : e = 0
      · rw [if_pos h0] at hg; injection hg with hg; have hg : h1 = g' := hg; subst hg; simp at hm; omega
      · rw [if_neg h0] at hg; injection hg with hg; have hg : h2 = g' := hg; subst hg; simp at hm; omega)
    (by decide) (by omega) (by omega) (fun j hj => by unfold B2.twoO; by_cases hj2 : j < q <;> simp only [hj2, if_true, if_false] <;> omega))
  have HE := Lib.hid (And.intro (HB6.out.1.trans (hb.mono HB6.out.1.size)) (show ∀ x ∈ [m1, m2] ++ [h1, h2], w.heap.size ≤ x from fun x hx => by simp at hx; omega))
  clear hb11 hG hb hS1 hS2 hnn hw56 h88 hsz C2
  go_wp2_with fail
  go_at_call 16
  refine CO.out.mono ?_
  rintro e w12 ⟨rfl, ho12⟩
  have HF := Lib.hid (HE.out.1.trans (ho12.below HE.out.1.size HE.out.2))
  clear ho12 CO
  go_wp2_with fail
  go_ret
  exact ⟨rfl, HF.out⟩
end Go.Proofs.Ytlegdaoidjpokaa
namespace Go.Proofs.Ytlegdaoidjpokaa
set_option linter.unusedVariables false
set_option linter.unusedSimpArgs false
open Go.RowKit
open B2 (Only Row Lots owns_only)
set_option maxHeartbeats 8000000 in
set_option maxRecDepth 100000 in
theorem splits_bad (seg n cap : Nat) (t : Int) (E : Nat) (a : Option Addr) (bs : List Nat) (hn : bs.length = n) (hl : n ≤ 100000) (hc0 : a = none → cap = 0) (w : World) (H : Bys w a bs)
    (CS : ∀ (ad : Option Addr) (L : Nat) (W : World), Calls Try.prog 9 #[.int .u32 seg, .int .i64 t, .slice ad n L] W fun e w' => e = .returned (.tuple #[.slice none 0 0, .int .u16 (E : Nat)]) ∧ w' = W)
    (CR : ∀ (W : World), Calls Try.prog 12 #[.int .u32 seg, .int .i64 t, .slice a n cap] W fun e w' => e = .returned (.tuple #[.slice none 0 0, .int .u16 (E : Nat)]) ∧ w' = W) :
    Calls Try.prog 3 #[.int .u32 seg, .int .i64 t, .slice a n cap] w fun e w' => e = .returned (.bool true) ∧ Below w.heap.size w w' := by
  have d1 : decide ((100000 : Int) < (n : Int)) = false := by simp; omega
  have d2 : ¬ 100000 < n := by omega
  obtain ⟨L, hL⟩ : ∃ L, n + 2 = L := ⟨_, rfl⟩
  have HA := Lib.hid (And.intro hn (And.intro hL (And.intro hc0 H)))
  have HCS := Lib.hid CS
  have HCR := Lib.hid CR
  have CL := Lib.hid (B2.lent_n a bs n L cap hn hL w H hc0 (by omega))
  clear hn hL hc0 H CS CR
  go_enter Try.func3, Try.ntmps3
  go_wp2_with fail
  go_at_call 8
  refine CL.out.mono ?_
  rintro e w1 ⟨g, rfl, hg1, hL1, hb1⟩
  have HB1 := Lib.hid (And.intro hL1 (And.intro hb1 hg1))
  clear hL1 hb1 hg1 CL
  go_wp2_with fail
  go_at_call 9
  refine (HCS.out (some ⟨g, 0, none⟩) L w1).mono ?_
  rintro e w2 ⟨rfl, hw2⟩
  obtain rfl : w1 = w2 := hw2.symm
  go_wp2_with fail
  go_at_call 9
  refine (HCS.out (some ⟨g, 0, none⟩) L w1).mono ?_
  rintro e w2 ⟨rfl, hw2⟩
  obtain rfl : w1 = w2 := hw2.symm
  have CW := Lib.hid (B2.whole_n g a bs n L cap HA.out.1 HA.out.2.1 w1 HB1.out.1 (HA.out.2.2.2.below HB1.out.2.1) (by omega))
  go_wp2_with fail
  go_at_call 10
  refine CW.out.mono ?_
  rintro e w4 ⟨rfl, hb4⟩
  have HB4 := Lib.hid hb4
  have CP := Lib.hid (spoil_n g n L bs w4 HA.out.1 HA.out.2.1 (by omega) (HB1.out.1.below hb4))
  clear hb4 CW
  go_wp2_with fail
  go_at_call 11
  refine CP.out.mono ?_
  rintro e w5 ⟨rfl, ho5⟩
  have hgS : ∀ x ∈ [g], w.heap.size ≤ x := fun x hx => by
    have hx : x = g := by simpa using hx
    subst hx
    exact HB1.out.2.2
  have hs4 := HB4.out.size
  have hs1 := HB1.out.2.1.size
  have H5 := Lib.hid (show Below w.heap.size w w5 from (HB1.out.2.1.trans (HB4.out.mono hs1)).trans (ho5.below (by omega) hgS))
  clear hgS hs4 hs1 ho5 CP
  go_wp2_with fail
  go_at_call 12
  refine (HCR.out w5).mono ?_
  rintro e w6 ⟨rfl, hw6⟩
  obtain rfl : w5 = w6 := hw6.symm
  have hA6 := (Below.refl w5.heap.size w5).alloc (Nat.le_refl _) (.cells (B2.bk (.slice none 0 0)) 65)
  have HB6 := Lib.hid (And.intro hA6 (show (w5.alloc (.cells (B2.bk (.slice none 0 0)) 65)).heap.size = w5.heap.size + 1 by simp))
  have HBK := Lib.hid (B2.book_new (heap_alloc_new w5 (.cells (B2.bk (.slice none 0 0)) 65)) (fun _ => .slice none 0 0) (B2.secX (fun _ => 0) (fun _ => 0)))
  clear hA6
  go_wp2_with fail
  have CB := Lib.hid (B2.bookrowsg_any w5.heap.size w5.heap.size w5.heap.size 0 0 0 0 none (fun _ => .slice none 0 0) (B2.secX (fun _ => 0) (fun _ => 0)) (w5.alloc (.cells (B2.bk (.slice none 0 0)) 65)) HBK.out rfl (fun j hj => by omega) (by decide) (by decide))
  refine (CB.out).mono ?_
  clear CB HBK
  generalize w5.alloc (.cells (B2.bk (.slice none 0 0)) 65) = W at *
  rintro e w7 ⟨rfl, hu7, hk7, hG7, hl7, hk7', ho7⟩
  have hww := HB6.out.2
  have hb67 : Below w5.heap.size w5 w7 := HB6.out.1.trans (ho7.below (by omega) (fun x hx => by simp at hx; omega))
  have H7 := Lib.hid (And.intro hb67 (show w5.heap.size ≤ hk7 ∧ w5.heap.size ≤ hu7 from ⟨by omega, by omega⟩))
  have CB := Lib.hid (B2.bookrowsg_any w5.heap.size hk7 hu7 1 0 0 0 none (fun _ => .slice none 0 0) (B2.secX (fun _ => 0) (fun _ => 0)) w7 hG7 rfl (fun j hj => by omega) (by decide) (by decide))
  clear hww hb67 hG7 hl7 hk7' ho7
  go_wp2_with fail
  go_at_call 13
  refine CB.out.mono ?_
  clear CB
  rintro e w8 ⟨rfl, hu8, hk8, hG8, hl8, hk8', ho8⟩
  have h77 := H7.out.2
  have hs67 := H7.out.1.size
  have hb68 : Below w5.heap.size w5 w8 := H7.out.1.trans (ho8.below hs67 (fun x hx => by simp at hx; omega))
  have H8 := Lib.hid (And.intro hG8 hb68)
  have CK := Lib.hid (known_any w8)
  clear hG8 hl8 hk8' ho8 h77 hs67 hb68
  go_wp2_with fail
  go_at_call 14
  refine CK.out.mono ?_
  rintro e w9 ⟨rfl, hb9⟩
  have H9 := Lib.hid (And.intro (H8.out.1.below hb9) (H8.out.2.trans (hb9.mono H8.out.2.size)))
  have C1 := Lib.hid (samerows_any none none [] 0 0 0 rfl (by decide) w9 ⟨by decide, fun h => absurd rfl h⟩ ⟨by decide, fun h => absurd rfl h⟩)
  have h00 : ((E : Int) == (E : Int)) = true := beq_self_eq_true _
  clear hb9 CK
  go_wp2_with fail
  go_at_call 15
  refine C1.out.mono ?_
  rintro e w10 ⟨rfl, hb10⟩
  have C2 := Lib.hid (samerows_any none none [] 0 0 0 rfl (by decide) w10 ⟨by decide, fun h => absurd rfl h⟩ ⟨by decide, fun h => absurd rfl h⟩)
  have H10 := Lib.hid (And.intro (H9.out.1.below hb10) (H9.out.2.trans (hb10.mono H9.out.2.size)))
  clear hb10 C1
  go_wp2_with fail
  go_at_call 15
  refine C2.out.mono ?_
  rintro e w11 ⟨rfl, hb11⟩
  have hG := H10.out.1.below hb11
  have hb := H10.out.2.trans (hb11.mono H10.out.2.size)
  have CO := Lib.hid (B2.own_two w5.heap.size hu8 hk8 2 0 0 0 (fun _ => .slice none 0 0) (fun _ => 0) (fun _ => 0) [] [] w11 hG
    ⟨fun i j hi => by omega, fun j hj => by omega⟩ ⟨fun _ => [], ⟨fun j hj => by omega⟩⟩
    ⟨fun e he => ⟨none, rfl⟩, fun e g he hg => (by cases hg), fun e f he hf hef => .inl rfl⟩
    (fun e he => ⟨[], World.ownsRow_nil _ _ _ _⟩) (by simp) (by simp) (by simp) (fun e g' he hg => (by cases hg)) (by decide) (by decide) (by decide) (fun j hj => by omega))
  have HE := Lib.hid (H5.out.trans (hb.mono H5.out.size))
  clear hb11 hG hb C2
  go_wp2_with fail
  go_at_call 16
  refine CO.out.mono ?_
  rintro e w12 ⟨rfl, ho12⟩
  have HF := Lib.hid (HE.out.trans (ho12.below HE.out.size (fun x hx => by simp at hx)))
  clear ho12 CO
  go_wp2_with fail
  go_ret
  exact ⟨rfl, HF.out⟩
theorem splits_law (seg n cap : Nat) (t : Int) (a : Option Addr) (bs : List Nat) (hn : bs.length = n) (hs : seg < 4294967296) (ht2 : -9223372036854775808 ≤ t ∧ t ≤ 9223372036854775807) (hc : n ≤ cap) (hc0 : a = none → cap = 0) (w : World) (H : Bys w a bs) (hold : ∀ x, a = some x → x.block < w.heap.size ∨ bs = []) :
    Calls Try.prog 3 #[.int .u32 seg, .int .i64 t, .slice a n cap] w fun e w' => e = .returned (.bool true) ∧ Below w.heap.size w w' := by
  by_cases h1 : 100000 < n
  · exact splits_much seg n cap a t h1 w
  · by_cases h2 : 7680 < n
    · exact splits_bad seg n cap t 111 a bs hn (by omega) hc0 w H (fun ad L W => split_long ad n L seg t h2 W) (fun W => refsplit_long a n cap seg t h2 W)
    · by_cases h3 : t < 0 ∨ (32 : Int) - (Fr.need n : Nat) < t
      · exact splits_bad seg n cap t 1 a bs hn (by omega) hc0 w H (fun ad L W => split_arg ad n L seg t (by omega) h3 ht2 W) (fun W => refsplit_arg a n cap seg t (by omega) h3 ht2 W)
      · obtain ⟨k, rfl⟩ := Int.eq_ofNat_of_zero_le (show 0 ≤ t by omega)
        exact splits_good seg k n cap a bs hn (by omega) hs (by omega) hc hc0 w H hold
end Go.Proofs.Ytlegdaoidjpokaa
namespace Go.Proofs.Ytlegdaoidjpokaa.frameSplits
open Go.ChangeShapes Go.WideShapes Go.ChangeAt Go.RowKit
open Go.ChangeMaps (open_string shut_string)
set_option linter.unusedVariables false

theorem own : ownKnob Try.prog.godebug = none := by kernel_rfl
theorem laidOut : laidOutB Try.prog = true := by kernel_rfl

theorem walk (a0 : Int) (a1 : Int) (a2 : Option Addr) (len2 cap2 : Nat) (z2 : List Int) (w : World) (w0 : (Lit.int .u32 a0).wf = true) (w1 : (Lit.int .i64 a1).wf = true) (w2 : IsRow .u8 w a2 len2 cap2 z2) :
    Calls Try.prog 3 #[.int .u32 a0, .int .i64 a1, .slice a2 len2 cap2] w fun e w' => e = .returned (.bool true) ∧ Below w.heap.size w w' := by
  obtain ⟨seg, rfl⟩ := Int.eq_ofNat_of_zero_le (bounds_u32 w0).1
  have hs : seg < 4294967296 := by have := (bounds_u32 w0).2; omega
  have ht : -9223372036854775808 ≤ a1 ∧ a1 ≤ 9223372036854775807 := by have := bounds_i64 w1; omega
  have hc : len2 ≤ cap2 := by rcases w2 with ⟨_, rfl, rfl, _⟩ | ⟨_, _, h, _⟩
                              · exact Nat.le_refl _
                              · exact h
  obtain ⟨bs, hl, hB, hc0⟩ := bys_of_row w2
  exact splits_law seg len2 cap2 a1 a2 bs hl hs ht hc hc0 w hB (bys_old hB)

set_option maxRecDepth 100000 in
theorem lifted (os : Os) (started : os.Started) (H : Type) (enc : TypeId × Value → H) :
    ReturnsInHanded {} Try.checked os 3 .any (Rows.frameSplitsSpec.pre6 enc Try.prog Try.f3 Rows.frameSplitsRow.domain false) (Rows.frameSplitsSpec.post enc Try.prog Try.f3 false true false false) := by
  refine returnsInHanded_of_change (C := Try.checked) own started (by kernel_rfl) Try.func3
    (ChangeSpec.witness6 (enc := enc) (C := Try.checked) false ⟨#[], #[.int .u32 0, .int .i64 0, .slice none 0 0], []⟩ 8 (by kernel_rfl) (by kernel_rfl) (by kernel_rfl) (by kernel_rfl)) ?_
  intro W base args ds gs before hval0 hW hcnd _
  have hval : ∀ (j : Nat) t v, Try.f3.params[j]? = some t → args[j]? = some v → Value.okWide Try.prog W .any base t v := hval0
  have hW' := hW
  obtain ⟨p, q, hA0, hV, rfl, hfz, hnd⟩ := hW
  have hA : DataW.TrodAll enc Try.prog W 0 (fun _ => true) true Try.f3.params.toList args.toList ds p := hA0
  rw [Try.params3] at hA hval
  obtain ⟨v0, vs0, d0, ds0, p0, q0, hargs, rfl, rfl, h0, r0⟩ := trodAll_cons hA
  obtain ⟨v1, vs1, d1, ds1, p1, q1, rfl, rfl, rfl, h1, r1⟩ := trodAll_cons r0
  obtain ⟨v2, vs2, d2, ds2, p2, q2, rfl, rfl, rfl, h2, r2⟩ := trodAll_cons r1
  obtain ⟨rfl, rfl, rfl⟩ := trodAll_nil r2
  obtain rfl : args = #[v0, v1, v2] := by cases args; simp_all
  obtain ⟨rfl, rfl⟩ := trodVars_none hV
  obtain ⟨a0, rfl, rfl, rfl, w0⟩ := open_int Try.underlying22 (hval 0 22 v0 rfl rfl) h0
  obtain ⟨a1, rfl, rfl, rfl, w1⟩ := open_int Try.underlying3 (hval 1 3 v1 rfl rfl) h1
  obtain ⟨a2, len2, cap2, rfl⟩ := okWide_slice Try.underlying23 (hval 2 23 v2 rfl rfl)
  have k2 := h2
  have lt2 : ∀ x ∈ p2, x.block < W.heap.size := by obtain ⟨m, hm⟩ := k2; exact DataW.trod_lt m _ _ _ hm
  obtain ⟨z2, w2⟩ : ∃ zs, IsRow .u8 W a2 len2 cap2 zs := by
    obtain ⟨fuel, hf⟩ := h2
    rcases open_ints Try.underlying23 Try.underlying5 (by kernel_rfl) hf with ⟨hcs, _⟩ | ⟨x, l, c, zs, hcs, _, hl, hm, hz, _, hcell, hwz⟩
    · simp [Value.cells] at hcs
      obtain ⟨rfl, rfl, rfl⟩ := hcs
      exact ⟨[], .inl ⟨rfl, rfl, rfl, rfl⟩⟩
    · simp [Value.cells] at hcs
      obtain ⟨rfl, rfl, rfl⟩ := hcs
      exact ⟨zs, .inr ⟨_, rfl, hl, hm, by simpa using hz, hcell, hwz⟩⟩
  clear hA0 hval0
  refine (walk a0 a1 a2 len2 cap2 z2 W w0 w1 w2).mono fun e W' ⟨he, bel⟩ => ?_
  subst he
  exact ⟨_, rfl, _, _, _, [], _, [], hW', trodAll_mk1 (shut_bool Try.underlying4 _), (trodAll_cons_mk (shut_int Try.underlying22 w0) (trodAll_cons_mk (shut_int Try.underlying3 w1) (trodAll_cons_mk (Below.trod laidOut (by kernel_rfl) (of_decide_eq_true (by kernel_rfl)) k2 bel lt2) trodAll_mk0))), rfl, bel.frame _, fun h => by cases h⟩

theorem over : Rows.frameSplitsRow.holds Try.pinned (OpenSpec.ofChange Rows.frameSplitsSpec) :=
  OpenClaim.holds_of_wide 3 Try.f3 rfl rfl rfl rfl rfl rfl rfl ⟨rfl, rfl, rfl, rfl, rfl⟩ rfl rfl rfl rfl rfl (by kernel_rfl) Try.func3 (by kernel_rfl)
    (of_decide_eq_true (by kernel_rfl)) (by unfold Func.isWrapper; first | (rw [if_pos (by decide +kernel)]; kernel_rfl) | (rw [if_neg (by decide +kernel)]; exact ⟨rfl, rfl⟩))
    (fun os started H enc _ => lifted os started H enc)

theorem proved : Rows.FrameSplitsSaid := over
#print axioms proved
end Go.Proofs.Ytlegdaoidjpokaa.frameSplits
