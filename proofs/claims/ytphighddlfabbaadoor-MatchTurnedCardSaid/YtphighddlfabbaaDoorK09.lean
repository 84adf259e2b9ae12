/-
  PACKED: WaT, WaU, WaV, WaW, WaX, WaY, WaZ, WbA
-/
import Derived.Test.YtphighddlfabbaaDoorK08
import Derived.Deep.AppendLies
import Derived.Deep.RegionHeldLaw
import Derived.Deep.RegionLaw
import Derived.BigRegion
import Derived.StillTailTactics
import Derived.Deep.Cut
namespace Go.Proofs.YtphighddlfabbaaDoor
set_option linter.unusedVariables false
set_option linter.unusedSimpArgs false
open Go.RowKit Go.PlainAid Go.Shelf
open Rx (Set4 RS Instr)
/-- a step's cells -/
def icells (i : Instr) (ep : Option Addr) : List Value :=
  [.int .u8 ((i.kind : Nat) : Int), .int .u64 ((i.bytes.a : Nat) : Int), .int .u64 ((i.bytes.b : Nat) : Int), .int .u64 ((i.bytes.c : Nat) : Int), .int .u64 ((i.bytes.d : Nat) : Int), .int .u8 ((i.edge : Nat) : Int), .int .i64 ((i.slot : Nat) : Int), .bool i.lazy, .int .i64 ((i.next : Nat) : Int), .int .i64 ((i.other : Nat) : Int), .pointer ep]
/-- what it knows of the empty text -/
def EmI (w0 : World) (i : Instr) (ep : Option Addr) : Prop := (i.empty = [] ∧ ep = none) ∨ ∃ t S, i.empty = Rx.emptiesOf t ∧ EmAt w0 S t (.pointer ep)
/-- a program lies there, at a pointer of the call's own -/
structure PRv (w0 w : World) (P : Nat) (v : Value) (is : List Instr) : Prop where
  below : Below w0.heap.size w0 w
  ge : w0.heap.size ≤ P
  cell : w.heap[P]? = some (.cells #[v] 73 (0, 0))
  row : ∃ xs : List (List Value), xs.length = is.length ∧ w.ownsRow w0.heap.size 83 11 v is.length xs.flatten ∧ ∀ k (hk : k < is.length), ∃ ep, xs[k]? = some (icells is[k] ep) ∧ EmI w0 is[k] ep
def PR (w0 w : World) (P : Nat) (is : List Instr) : Prop := ∃ v, PRv w0 w P v is
/-- rows of numbers stay -/
structure K3 (w w' : World) : Prop where
  size : w.heap.size ≤ w'.heap.size
  rows : ∀ (k : Nat) (cs : Array Value), w.heap[k]? = some (.cells cs 3 (0, 0)) → w'.heap[k]? = some (.cells cs 3 (0, 0))
theorem K3.refl (w : World) : K3 w w := ⟨Nat.le_refl _, fun _ _ h => h⟩
theorem K3.trans {a b c : World} (h : K3 a b) (k : K3 b c) : K3 a c := ⟨Nat.le_trans h.size k.size, fun i cs e => k.rows i cs (h.rows i cs e)⟩
theorem K3.below {w w' : World} (h : Below w.heap.size w w') : K3 w w' := ⟨h.size, fun i cs e => (h.block i (Array.getElem?_eq_some_iff.1 e).1).trans e⟩
theorem size_setCell (w : World) (p : Addr) (u : Value) : (w.setCell p u).heap.size = w.heap.size := by simp [World.setCell]
theorem own75_block {w : World} {base : Nat} {v : Value} {n : Nat} {xs : List Value} (h : w.ownsRow base 83 11 v n xs) : ∀ k, v.ownBlock = some k → base ≤ k ∧ ∃ cur, w.heap[k]? = some (.cells cur 83 (0, 0)) := by
  intro k hk
  rcases h.2 with ⟨rfl, _⟩ | ⟨g, cap, cur, rfl, hg, hc, _⟩
  · cases hk
  · simp only [Value.ownBlock, Option.some.injEq] at hk
    subst hk
    exact ⟨hg, cur, hc⟩
theorem own75_move {w w' : World} {base : Nat} {v : Value} {n : Nat} {xs : List Value} (h : w.ownsRow base 83 11 v n xs) (hm : ∀ k, v.ownBlock = some k → w'.heap[k]? = w.heap[k]?) : w'.ownsRow base 83 11 v n xs := by
  obtain ⟨h1, h2⟩ := h
  refine ⟨h1, ?_⟩
  rcases h2 with h2 | ⟨g, cap, cur, hv, hg, hc, h3⟩
  · exact .inl h2
  · exact .inr ⟨g, cap, cur, hv, hg, (hm g (by rw [hv]; rfl)).trans hc, h3⟩
section
variable {w0 w : World} {P : Nat} {v : Value} {is : List Instr}
theorem PRv.shape (h : PRv w0 w P v is) : ∃ a c, v = .slice a is.length c := by
  obtain ⟨xs, _, h1, _⟩ := h.row
  rcases h1.2 with ⟨rfl, h0⟩ | ⟨g, cap, cur, rfl, _⟩
  · exact ⟨none, 0, by rw [h0]⟩
  · exact ⟨_, _, rfl⟩
theorem PRv.lt (h : PRv w0 w P v is) : P < w.heap.size := (Array.getElem?_eq_some_iff.1 h.cell).1
/-- blocks of other kinds may be laid or turned -/
theorem PRv.move (h : PRv w0 w P v is) {w' : World} (hb : Below w.heap.size w w') : PRv w0 w' P v is := by
  obtain ⟨h1, h2, h3, xs, h4, h5, h6⟩ := h
  have lt : ∀ {k : Nat} {o : Obj}, w.heap[k]? = some o → k < w.heap.size := fun h => (Array.getElem?_eq_some_iff.1 h).1
  refine ⟨h1.trans (hb.mono h1.size), h2, (hb.block P (lt h3)).trans h3, xs, h4, own75_move h5 (fun k hk => ?_), h6⟩
  obtain ⟨_, cur, hc⟩ := own75_block h5 k hk
  exact hb.block k (lt hc)
/-- a step appended -/
theorem PRv.snoc (h : PRv w0 w P v is) (i : Instr) (ep : Option Addr) (he : EmI w0 i ep) : ∃ xs : List Value, ∀ w2, Below w.heap.size w w2 → w2.ownsRow w0.heap.size 83 11 v is.length xs ∧
    ∀ g cap w1, w1.ownsRow w0.heap.size 83 11 (.slice (some ⟨g, 0, none⟩) (is.length + 1) cap) (is.length + 1) (xs ++ icells i ep) → w2.grownBy w1 v.ownBlock →
      w1.heap[P]? = some (.cells #[v] 73 (0, 0)) ∧ PR w0 (w1.setCell ⟨P, 0, none⟩ (.slice (some ⟨g, 0, none⟩) (is.length + 1) cap)) P (is ++ [i]) ∧ K3 w (w1.setCell ⟨P, 0, none⟩ (.slice (some ⟨g, 0, none⟩) (is.length + 1) cap)) := by
  have hmv := fun w2 (hb : Below w.heap.size w w2) => h.move hb
  obtain ⟨h1, h2, h3, xs, h4, h5, h6⟩ := h
  have lt : ∀ {w : World} {k : Nat} {o : Obj}, w.heap[k]? = some o → k < w.heap.size := fun h => (Array.getElem?_eq_some_iff.1 h).1
  refine ⟨xs.flatten, fun w2 hb => ?_⟩
  have h5' : w2.ownsRow w0.heap.size 83 11 v is.length xs.flatten := own75_move h5 (fun k hk => by
    obtain ⟨_, cur, hc⟩ := own75_block h5 k hk
    exact hb.block k (lt hc))
  have h1' := (hmv w2 hb).below
  have h3' := (hmv w2 hb).cell
  refine ⟨h5', fun g cap w1 k1 k2 => ?_⟩
  have hP : w1.heap[P]? = some (.cells #[v] 73 (0, 0)) := (k2.block P (lt h3') (fun e => by
    obtain ⟨_, cur, hc⟩ := own75_block h5' P e.symm
    rw [h3'] at hc
    cases hc)).trans h3'
  have hK : K3 w (w1.setCell ⟨P, 0, none⟩ (.slice (some ⟨g, 0, none⟩) (is.length + 1) cap)) := ⟨by rw [size_setCell]; exact Nat.le_trans hb.size k2.size, fun k cs e => by
    have e2 := (K3.below hb).rows k cs e
    have hne : k ≠ P := by intro he; subst he; rw [h3'] at e2; cases e2
    rw [heap_setCell_other _ _ _ _ (by first | exact hne | exact fun e => hne e.symm), k2.block k (lt e2) (fun he => by
      obtain ⟨_, cur, hc⟩ := own75_block h5' k he.symm
      rw [hc] at e2
      cases e2)]
    exact e2⟩
  refine ⟨hP, ⟨.slice (some ⟨g, 0, none⟩) (is.length + 1) cap, ?_, h2, heap_setCell_same _ _ _ _ _ _ hP, xs ++ [icells i ep], by simp [h4], ?_, fun k hk => ?_⟩, hK⟩
  · exact (h1'.grown k2 h1'.size (fun k hk => (own75_block h5' k hk).1)).setCell h2 _
  · rw [List.length_append, List.flatten_append]
    have hfl : [icells i ep].flatten = icells i ep := by simp
    rw [hfl]
    refine own75_move k1 (fun k hk => heap_setCell_other _ _ _ _ (fun e => ?_))
    have hkP : k = P := by first | exact e | exact e.symm
    subst hkP
    obtain ⟨_, cur, hc⟩ := own75_block k1 k hk
    rw [hP] at hc
    cases hc
  · by_cases hlt : k < is.length
    · obtain ⟨ep', h7, h8⟩ := h6 k hlt
      rw [List.getElem_append_left hlt]
      exact ⟨ep', by rw [List.getElem?_append_left (by omega)]; exact h7, h8⟩
    · have hke : k = is.length := by rw [List.length_append] at hk; simp at hk; omega
      subst hke
      rw [List.getElem_append_right (by omega)]
      simp only [Nat.sub_self, List.getElem_cons_zero]
      exact ⟨ep, by rw [List.getElem?_append_right (by omega)]; simp [h4], he⟩
end
theorem infoN : (Tryd.prog.info? 83).map (fun i => (i.zero, i.size, i.bytes)) = some (some (.agg #[.int .u8 0, .int .u64 0, .int .u64 0, .int .u64 0, .int .u64 0, .int .u8 0, .int .i64 0, .bool false, .int .i64 0, .int .i64 0, .pointer none]), 11, 88) := by kernel_rfl
set_option maxHeartbeats 4000000 in
set_option maxRecDepth 100000 in
theorem emit_any (w0 : World) (P : Nat) (is : List Instr) (i : Instr) (ep : Option Addr) (hn : i.next = is.length + 1) (he : EmI w0 i ep) (hlen : is.length ≤ 100000) (w : World) (H : PR w0 w P is) :
    Calls Tryd.prog 33 #[ptr P, .agg #[.int .u8 ((i.kind : Nat) : Int), .int .u64 ((i.bytes.a : Nat) : Int), .int .u64 ((i.bytes.b : Nat) : Int), .int .u64 ((i.bytes.c : Nat) : Int), .int .u64 ((i.bytes.d : Nat) : Int), .int .u8 ((i.edge : Nat) : Int), .int .i64 ((i.slot : Nat) : Int), .bool i.lazy, .int .i64 0, .int .i64 ((i.other : Nat) : Int), .pointer ep]] w
      fun e w' => e = .returned (.int .i64 ((is.length : Nat) : Int)) ∧ PR w0 w' P (is ++ [i]) ∧ K3 w w' := by
  obtain ⟨v, H⟩ := H
  obtain ⟨a, c, rfl⟩ := H.shape
  obtain ⟨i0, hi0, hz0, hz1, hz2⟩ := info_parts infoN
  have hlt := H.lt
  obtain ⟨L0, hL0⟩ : ∃ L : List Value, [.int .u8 ((i.kind : Nat) : Int), .int .u64 ((i.bytes.a : Nat) : Int), .int .u64 ((i.bytes.b : Nat) : Int), .int .u64 ((i.bytes.c : Nat) : Int), .int .u64 ((i.bytes.d : Nat) : Int), .int .u8 ((i.edge : Nat) : Int), .int .i64 ((i.slot : Nat) : Int), .bool i.lazy] = L := ⟨_, rfl⟩
  have hic : icells i ep = [.int .u8 ((i.kind : Nat) : Int), .int .u64 ((i.bytes.a : Nat) : Int), .int .u64 ((i.bytes.b : Nat) : Int), .int .u64 ((i.bytes.c : Nat) : Int), .int .u64 ((i.bytes.d : Nat) : Int), .int .u8 ((i.edge : Nat) : Int), .int .i64 ((i.slot : Nat) : Int), .bool i.lazy, .int .i64 ((is.length : Int) + 1), .int .i64 ((i.other : Nat) : Int), .pointer ep] := by
    unfold icells; rw [hn, show ((is.length + 1 : Nat) : Int) = (is.length : Int) + 1 by omega]
  have hl63 : is.length < 9223372036854775807 := by omega
  unfold ptr
  obtain ⟨N, hN⟩ : ∃ N, is.length = N := ⟨_, rfl⟩
  rw [hN]
  obtain ⟨xs, HX⟩ := H.snoc i ep he
  rw [hic, hN] at HX
  have HX := Lib.hid HX
  have hc0 : w.cell? ⟨P, 0, none⟩ = some (.slice a N c) := by rw [cell_of_row _ _ 0 _ _ _ H.cell, ← hN]; rfl
  have hPn : P ≠ w.heap.size := by omega
  have HLW := Lib.hid (show w0.heap.size ≤ w.heap.size from H.below.size)
  have HN := Lib.hid (show N + 1 ≤ maxLen ∧ (N + 1) * 88 ≤ 140737488355328 from ⟨by unfold maxLen; omega, by omega⟩)
  clear hL0 L0 hn he hic
  go_enter Tryd.func33, Tryd.ntmps33
  go_upto_region 3 with (fail)
  have hX := heap_alloc_new w (.cells #[.int .u8 ((i.kind : Nat) : Int), .int .u64 ((i.bytes.a : Nat) : Int), .int .u64 ((i.bytes.b : Nat) : Int), .int .u64 ((i.bytes.c : Nat) : Int), .int .u64 ((i.bytes.d : Nat) : Int), .int .u8 ((i.edge : Nat) : Int), .int .i64 ((i.slot : Nat) : Int), .bool i.lazy, .int .i64 ((N : Int) + 1), .int .i64 ((i.other : Nat) : Int), .pointer ep] 83)
  obtain ⟨W, hW⟩ : ∃ W, w.alloc (.cells #[.int .u8 ((i.kind : Nat) : Int), .int .u64 ((i.bytes.a : Nat) : Int), .int .u64 ((i.bytes.b : Nat) : Int), .int .u64 ((i.bytes.c : Nat) : Int), .int .u64 ((i.bytes.d : Nat) : Int), .int .u8 ((i.edge : Nat) : Int), .int .i64 ((i.slot : Nat) : Int), .bool i.lazy, .int .i64 ((N : Int) + 1), .int .i64 ((i.other : Nat) : Int), .pointer ep] 83) = W := ⟨_, rfl⟩
  have hbW : Below w.heap.size w W := by rw [← hW]; exact (Below.refl _ _).alloc (Nat.le_refl _) _
  have hcP : W.cell? ⟨P, 0, none⟩ = some (.slice a N c) := (hbW.cell (p := ⟨P, 0, none⟩) hlt).trans hc0
  rw [hW] at hX
  have hx := fun k => cell_of_row W w.heap.size k _ 83 (0, 0) hX
  have x0 := hx 0
  have x1 := hx 1
  have x2 := hx 2
  have x3 := hx 3
  have x4 := hx 4
  have x5 := hx 5
  have x6 := hx 6
  have x7 := hx 7
  have x8 := hx 8
  have x9 := hx 9
  have x10 := hx 10
  rw [hW]
  simp only [List.getElem?_toArray, List.getElem?_cons_zero, List.getElem?_cons_succ] at x0 x1 x2 x3 x4 x5 x6 x7 x8 x9 x10
  obtain ⟨X, hXX⟩ : ∃ X, w.heap.size = X := ⟨_, rfl⟩
  rw [hXX] at x0 x1 x2 x3 x4 x5 x6 x7 x8 x9 x10 hPn ⊢
  have HW := Lib.hid hbW
  clear hx hX hW hbW
  have HWd : Below w.heap.size w W.drew := ⟨HW.out.os, HW.out.tape, HW.out.output, HW.out.size, HW.out.block⟩
  have HB := Lib.hid (fun o => HWd.trans (((Below.refl W.drew.heap.size W.drew).alloc (Nat.le_refl _) o).mono HWd.size))
  have HOW := Lib.hid (fun o => (HX.out _ (HB.out o)).1)
  have HNX := Lib.hid (fun o => (HX.out _ (HB.out o)).2)
  have HBS := Lib.hid (fun o => show w0.heap.size ≤ (W.drew.alloc o).heap.size from Nat.le_trans HLW.out (HB.out o).size)
  have HONE := Lib.hid (show ∀ u ∈ ([.int .u8 ((i.kind : Nat) : Int), .int .u64 ((i.bytes.a : Nat) : Int), .int .u64 ((i.bytes.b : Nat) : Int), .int .u64 ((i.bytes.c : Nat) : Int), .int .u64 ((i.bytes.d : Nat) : Int), .int .u8 ((i.edge : Nat) : Int), .int .i64 ((i.slot : Nat) : Int), .bool i.lazy, .int .i64 ((N : Int) + 1), .int .i64 ((i.other : Nat) : Int), .pointer ep] : List Value), u.oneCell' = true by simp [Value.oneCell'])
  have HSRC := Lib.hid (World.news_of_block (w := W.drew.alloc (.cells #[.int .u8 ((i.kind : Nat) : Int), .int .u64 ((i.bytes.a : Nat) : Int), .int .u64 ((i.bytes.b : Nat) : Int), .int .u64 ((i.bytes.c : Nat) : Int), .int .u64 ((i.bytes.d : Nat) : Int), .int .u8 ((i.edge : Nat) : Int), .int .i64 ((i.slot : Nat) : Int), .bool i.lazy, .int .i64 ((N : Int) + 1), .int .i64 ((i.other : Nat) : Int), .pointer ep] 83)) (heap_alloc_new W.drew (.cells #[.int .u8 ((i.kind : Nat) : Int), .int .u64 ((i.bytes.a : Nat) : Int), .int .u64 ((i.bytes.b : Nat) : Int), .int .u64 ((i.bytes.c : Nat) : Int), .int .u64 ((i.bytes.d : Nat) : Int), .int .u8 ((i.edge : Nat) : Int), .int .i64 ((i.slot : Nat) : Int), .bool i.lazy, .int .i64 ((N : Int) + 1), .int .i64 ((i.other : Nat) : Int), .pointer ep] 83)))
  have HCF := Lib.hid (fun (w1 : World) (h : w1.heap[P]? = some (.cells #[.slice a N c] 73 (0, 0))) => show w1.cell? ⟨P, 0, none⟩ = some (.slice a N c) ∧ w1.frozen? ⟨P, 0, none⟩ = false from ⟨cell_of_row _ _ 0 _ _ _ h, frozen_of_row _ _ _ _ _ h⟩)
  have hcP2 : (W.drew.alloc (.cells #[.int .u8 ((i.kind : Nat) : Int), .int .u64 ((i.bytes.a : Nat) : Int), .int .u64 ((i.bytes.b : Nat) : Int), .int .u64 ((i.bytes.c : Nat) : Int), .int .u64 ((i.bytes.d : Nat) : Int), .int .u8 ((i.edge : Nat) : Int), .int .i64 ((i.slot : Nat) : Int), .bool i.lazy, .int .i64 ((N : Int) + 1), .int .i64 ((i.other : Nat) : Int), .pointer ep] 83)).cell? ⟨P, 0, none⟩ = some (.slice a N c) := ((HB.out _).cell (p := ⟨P, 0, none⟩) hlt).trans hc0
  have hPW : P < W.heap.size := Nat.lt_of_lt_of_le hlt HW.out.size
  clear HWd
  go_region_law (refine step_append_lies _ (by rfl) (.tmp 16) (.tmp 18) 73 (by rfl) w0.heap.size 83 i0 (.agg #[.int .u8 0, .int .u64 0, .int .u64 0, .int .u64 0, .int .u64 0, .int .u8 0, .int .i64 0, .bool false, .int .i64 0, .int .i64 0, .pointer none]) 11 88 Tryd.underlying73 hi0 hz0 hz1 hz2 (by rfl) (by decide) (.slice a N c) N xs (by simp [Act.eval, Act.put]) (HOW.out _) ⟨W.heap.size, 0, none⟩ 1 1 [.int .u8 ((i.kind : Nat) : Int), .int .u64 ((i.bytes.a : Nat) : Int), .int .u64 ((i.bytes.b : Nat) : Int), .int .u64 ((i.bytes.c : Nat) : Int), .int .u64 ((i.bytes.d : Nat) : Int), .int .u8 ((i.edge : Nat) : Int), .int .i64 ((i.slot : Nat) : Int), .bool i.lazy, .int .i64 ((N : Int) + 1), .int .i64 ((i.other : Nat) : Int), .pointer ep] (by simp [Act.eval, Act.put]) (by rfl) HSRC.out HONE.out (by decide) HN.out.1 HN.out.2 (HBS.out _) _ (by rfl) ?_; intro g cap w1 h1 h2 h3 h4; obtain ⟨hPc, hPR⟩ := HNX.out _ g cap w1 h1 h2; obtain ⟨k1, k2⟩ := HCF.out w1 hPc; have HPR := Lib.hid hPR; clear h1 h2 h3 h4 hPc hPR)
  all_goals
    go_wp2
    go_ret
    exact ⟨rfl, HPR.out⟩
end Go.Proofs.YtphighddlfabbaaDoor
namespace Go.Proofs.YtphighddlfabbaaDoor
set_option linter.unusedVariables false
set_option linter.unusedSimpArgs false
open Go.RowKit Go.PlainAid Go.Shelf
open Rx (Set4 RS Instr)
mutual
/-- groups' numbers are bounded -/
def NumB : Rx.Node → Prop
  | .byte _ => True
  | .edge _ => True
  | .seq ks => NumBAll ks
  | .alt ks => NumBAll ks
  | .group n t => n ≤ 100000 ∧ NumB t
  | .count _ _ _ _ t => NumB t
def NumBAll : List Rx.Node → Prop
  | [] => True
  | t :: ts => NumB t ∧ NumBAll ts
end
/-- what 'add' does for a node -/
def AddC (w0 : World) (P : Nat) (t : Rx.Node) (b : Nat) : Prop := ∀ (is : List Instr) (w : World), is.length + Rx.size t ≤ 100000 → PR w0 w P is →
  Calls Tryd.prog 32 #[ptr P, ptr b] w fun e w' => e = .returned (.tuple #[]) ∧ PR w0 w' P (is ++ Rx.code t is.length) ∧ K3 w w'
theorem PR.below {w0 w : World} {P : Nat} {is : List Instr} (h : PR w0 w P is) : Below w0.heap.size w0 w := by obtain ⟨v, h⟩ := h; exact h.below
theorem PR.node {w0 w : World} {P : Nat} {is : List Instr} (h : PR w0 w P is) {b : Nat} {cs : Array Value} {t : TypeId} (hr : w0.heap[b]? = some (.cells cs t (0, 0))) : w.heap[b]? = some (.cells cs t (0, 0)) :=
  (h.below.block b (Array.getElem?_eq_some_iff.1 hr).1).trans hr
theorem kid_shape {w : World} {S : Nat → Prop} {ks : List Rx.Node} {kv : Value} (h : KidV w S ks kv) : ∃ a c, kv = .slice a ks.length c ∧ ks.length ≤ c ∧ ∀ k (hk : k < ks.length), ∃ g i, a = some ⟨g, 0, none⟩ ∧ g < w.heap.size ∧ w.cell? ⟨g, k, none⟩ = some (ptr i) ∧ IsN w S ks[k] i := by
  rcases h with ⟨rfl, rfl⟩ | ⟨g, c, cur, rfl, h1, h2, h3⟩
  · exact ⟨none, 0, rfl, Nat.le_refl _, fun k hk => by simp at hk⟩
  · refine ⟨_, _, rfl, Nat.le_add_right _ _, fun k hk => ?_⟩
    obtain ⟨i, h4, h5⟩ := KidsIn.get ks cur 0 h3 k hk
    rw [Nat.zero_add] at h4
    exact ⟨g, i, rfl, (Array.getElem?_eq_some_iff.1 h2).1, (cell_of_row _ _ k _ _ _ h2).trans h4, h5⟩
theorem codeSeq_drop (ks : List Rx.Node) (k : Nat) (hk : k < ks.length) (b : Nat) : Rx.codeSeq (ks.drop k) b = Rx.code ks[k] b ++ Rx.codeSeq (ks.drop (k + 1)) (b + Rx.size ks[k]) := by
  rw [List.drop_eq_getElem_cons hk]
  conv => lhs; unfold Rx.codeSeq
theorem sizeAll_drop (ks : List Rx.Node) (k : Nat) (hk : k < ks.length) : Rx.sizeAll (ks.drop k) = Rx.size ks[k] + Rx.sizeAll (ks.drop (k + 1)) := by
  rw [List.drop_eq_getElem_cons hk]
  conv => lhs; unfold Rx.sizeAll
theorem wfAll_mem : ∀ (ks : List Rx.Node), Rx.WfAll ks → ∀ k (hk : k < ks.length), Rx.Wf ks[k]
  | [], _, k, hk => by simp at hk
  | t :: ts, h, k, hk => by
    unfold Rx.WfAll at h
    cases k with
    | zero => exact h.1
    | succ k => exact wfAll_mem ts h.2 k (by simpa using hk)
theorem opening_any (n : Nat) (hn : n ≤ 100000) (w : World) : Calls Tryd.prog 41 #[.int .i64 ((n : Nat) : Int)] w fun e w' => e = .returned (.int .i64 ((2 * n : Nat) : Int)) ∧ w' = w := by
  rw [show ((2 * n : Nat) : Int) = 2 * (n : Int) by omega]
  go_enter Tryd.func41, Tryd.ntmps41
  go_wp2
  go_ret
  exact ⟨rfl, rfl⟩
theorem closing_any (n : Nat) (hn : n ≤ 100000) (w : World) : Calls Tryd.prog 42 #[.int .i64 ((n : Nat) : Int)] w fun e w' => e = .returned (.int .i64 ((2 * n + 1 : Nat) : Int)) ∧ w' = w := by
  rw [show ((2 * n + 1 : Nat) : Int) = 2 * (n : Int) + 1 by omega]
  go_enter Tryd.func42, Tryd.ntmps42
  go_wp2
  go_ret
  exact ⟨rfl, rfl⟩
set_option maxHeartbeats 4000000 in
set_option maxRecDepth 100000 in
theorem add_byte (w0 : World) (P : Nat) (S : Nat → Prop) (x : Set4) (b : Nat) (H0 : IsN w0 S (.byte x) b) : AddC w0 P (.byte x) b := by
  intro is w hs HP
  unfold IsN at H0
  have hN : NodeAt w b 0 x 0 0 0 0 false false nilP nilS 1 := ⟨HP.node H0.2.2⟩
  have c0 : w.cell? ⟨b, 0, none⟩ = some (.int .u8 0) := hN.c 0
  have c1 : w.cell? ⟨b, 1, none⟩ = some (.int .u64 ((x.a : Nat) : Int)) := hN.c 1
  have c2 : w.cell? ⟨b, 2, none⟩ = some (.int .u64 ((x.b : Nat) : Int)) := hN.c 2
  have c3 : w.cell? ⟨b, 3, none⟩ = some (.int .u64 ((x.c : Nat) : Int)) := hN.c 3
  have c4 : w.cell? ⟨b, 4, none⟩ = some (.int .u64 ((x.d : Nat) : Int)) := hN.c 4
  have CE := Lib.hid (emit_any w0 P is (Rx.iFit x is.length) none rfl (.inl ⟨rfl, rfl⟩) (by omega) w HP)
  unfold Rx.code
  obtain ⟨TT, hTT⟩ : ∃ T, is ++ [Rx.iFit x is.length] = T := ⟨_, rfl⟩
  rw [hTT] at CE ⊢
  simp only [Rx.iFit] at CE
  unfold ptr at CE ⊢
  clear hN H0 HP hs hTT
  go_enter Tryd.func32, Tryd.ntmps32
  go_wp2_with fail
  refine CE.out.mono ?_
  rintro e w2 ⟨rfl, h2⟩
  have P2 := Lib.hid h2
  clear h2
  go_wp2
  exact bodyPost_end (results_none rfl _ _ _) rfl ⟨rfl, P2.out⟩
set_option maxHeartbeats 4000000 in
set_option maxRecDepth 100000 in
theorem add_edge (w0 : World) (P : Nat) (S : Nat → Prop) (x : Nat) (b : Nat) (H0 : IsN w0 S (.edge x) b) : AddC w0 P (.edge x) b := by
  intro is w hs HP
  unfold IsN at H0
  have hN : NodeAt w b 1 Set4.none x 0 0 0 false false nilP nilS 1 := ⟨HP.node H0.2.2⟩
  have c0 : w.cell? ⟨b, 0, none⟩ = some (.int .u8 1) := hN.c 0
  have c5 : w.cell? ⟨b, 5, none⟩ = some (.int .u8 ((x : Nat) : Int)) := hN.c 5
  have CE := Lib.hid (emit_any w0 P is (Rx.iEdge x is.length) none rfl (.inl ⟨rfl, rfl⟩) (by omega) w HP)
  unfold Rx.code
  obtain ⟨TT, hTT⟩ : ∃ T, is ++ [Rx.iEdge x is.length] = T := ⟨_, rfl⟩
  rw [hTT] at CE ⊢
  simp only [Rx.iEdge, Set4.none] at CE
  unfold ptr at CE ⊢
  clear hN H0 HP hs hTT
  go_enter Tryd.func32, Tryd.ntmps32
  go_wp2_with fail
  refine CE.out.mono ?_
  rintro e w2 ⟨rfl, h2⟩
  have P2 := Lib.hid h2
  clear h2
  go_wp2
  exact bodyPost_end (results_none rfl _ _ _) rfl ⟨rfl, P2.out⟩
set_option maxHeartbeats 4000000 in
set_option maxRecDepth 100000 in
theorem add_seq (w0 : World) (P : Nat) (S : Nat → Prop) (ks : List Rx.Node) (b : Nat) (H0 : IsN w0 S (.seq ks) b) (hw : Rx.Wf (.seq ks)) (hlen : ks.length ≤ 1000) (CK : ∀ k (hk : k < ks.length) i, IsN w0 S ks[k] i → AddC w0 P ks[k] i) : AddC w0 P (.seq ks) b := by
  intro is w hs HP
  unfold IsN at H0
  unfold Rx.Wf at hw
  obtain ⟨hS, kv, hrow, hkv⟩ := H0
  obtain ⟨a, c, rfl, _, HK⟩ := kid_shape (show KidV w0 S ks kv from hkv)
  have hN : NodeAt w b 2 Set4.none 0 0 0 0 false false nilP _ _ := ⟨HP.node hrow⟩
  have c0 : w.cell? ⟨b, 0, none⟩ = some (.int .u8 2) := hN.c 0
  have cc : w.cell? ⟨b, 12, none⟩ = some (.slice a ks.length c) := hN.c 12
  have HK := Lib.hid HK
  have CK := Lib.hid CK
  unfold Rx.code
  unfold Rx.size at hs
  obtain ⟨TT, hTT⟩ : ∃ T, is ++ Rx.codeSeq ks is.length = T := ⟨_, rfl⟩
  have H00 := Lib.hid (show is ++ Rx.codeSeq (ks.drop 0) is.length = TT ∧ is.length + Rx.sizeAll (ks.drop 0) ≤ 100000 from ⟨hTT, hs⟩)
  rw [hTT]
  have HP0 := Lib.hid (And.intro HP (K3.refl w))
  have HST := Lib.hid (fun k hk m => codeSeq_drop ks k hk m)
  have HSZ := Lib.hid (fun k hk => sizeAll_drop ks k hk)
  have HWF := Lib.hid (fun k hk => Rx.code_length ks[k] (wfAll_mem ks hw k hk))
  obtain ⟨L, hL⟩ : ∃ L, ks.length = L := ⟨_, rfl⟩
  have HEND := Lib.hid (show ∀ m, Rx.codeSeq (ks.drop L) m = [] by intro m; rw [← hL, List.drop_length]; rfl)
  have HL := Lib.hid hL
  rw [hL] at cc hlen
  unfold ptr
  clear hN hrow hkv hw hTT hs hS HP hL
  go_enter Tryd.func32, Tryd.ntmps32
  go_wp2
  go_loopw [5, 74] (fun _ i wr => ∃ (k : Nat) (is' : List Instr), k ≤ L ∧ i = .int .i64 ((k : Nat) : Int) ∧ Hid (PR w0 wr P is' ∧ K3 w wr) ∧ Hid (is' ++ Rx.codeSeq (ks.drop k) is'.length = TT ∧ is'.length + Rx.sizeAll (ks.drop k) ≤ 100000)) (fun _ i _ => L - (intOf i).toNat)
  case atStart => exact ⟨0, is, Nat.zero_le _, rfl, HP0, H00⟩
  case round =>
    obtain ⟨k, is', hk, rfl, HP, HI⟩ := hrel
    by_cases hlt : k < L
    · have hd : decide (k < L) = true := decide_eq_true hlt
      have hlt' : k < ks.length := by have := HL.out; omega
      obtain ⟨g, i, rfl, hg, h1, h2⟩ := HK.out k hlt'
      have h1' : wr.cell? ⟨g, k, none⟩ = some (ptr i) := (HP.out.1.below.cell (p := ⟨g, k, none⟩) hg).trans h1
      have h3 := HSZ.out k hlt'
      have h4 := HST.out k hlt' is'.length
      have h5 := HI.out
      rw [h3, h4, ← List.append_assoc] at h5
      have h6 := HWF.out k hlt' is'.length
      have CA := Lib.hid (CK.out k hlt' i h2 is' wr (by omega) HP.out.1)
      have HNX := Lib.hid (show (is' ++ Rx.code ks[k] is'.length) ++ Rx.codeSeq (ks.drop (k + 1)) (is' ++ Rx.code ks[k] is'.length).length = TT ∧ (is' ++ Rx.code ks[k] is'.length).length + Rx.sizeAll (ks.drop (k + 1)) ≤ 100000 from by rw [List.length_append, h6]; exact ⟨h5.1, by omega⟩)
      obtain ⟨is2, his2⟩ : ∃ x, is' ++ Rx.code ks[k] is'.length = x := ⟨_, rfl⟩
      rw [his2] at CA HNX
      unfold ptr at h1' CA
      clear h1 h2 h3 h4 h5 h6 his2 hlt' hg
      go_wp2_with fail
      refine CA.out.mono ?_
      rintro e w2 ⟨rfl, hp⟩
      have P2 := Lib.hid (And.intro hp.1 (HP.out.2.trans hp.2))
      clear hp
      go_wp2
      go_roundw
      case rel => exact ⟨k + 1, is2, by omega, by go_num, P2, HNX⟩
      case measure => simp [intOf]; omega
    · obtain rfl : k = L := by omega
      have hd : decide (k < k) = false := decide_eq_false (by omega)
      have hqq := HI.out.1
      rw [HEND.out, List.append_nil] at hqq
      subst hqq
      go_wp2
      exact bodyPost_end (results_none rfl _ _ _) rfl ⟨rfl, HP.out⟩
set_option maxHeartbeats 4000000 in
set_option maxRecDepth 100000 in
theorem add_group (w0 : World) (P : Nat) (S : Nat → Prop) (n : Nat) (t : Rx.Node) (b : Nat) (H0 : IsN w0 S (.group n t) b) (hw : Rx.Wf t) (hn : n ≤ 100000) (CK : ∀ i, IsN w0 S t i → AddC w0 P t i) : AddC w0 P (.group n t) b := by
  intro is w hs HP
  unfold IsN at H0
  obtain ⟨hS, g, cur, i, hrow, hSg, hg, hc, hi⟩ := H0
  unfold Rx.size at hs
  have HN := Lib.hid (fun w (HP : ∃ is, PR w0 w P is) => show NodeAt w b 4 Set4.none 0 n 0 0 false false nilP (.slice (some ⟨g, 0, none⟩) 1 1) (Rx.states (.group n t)) from ⟨by obtain ⟨is, HP⟩ := HP; exact HP.node hrow⟩)
  have c0 : w.cell? ⟨b, 0, none⟩ = some (.int .u8 4) := (HN.out w ⟨is, HP⟩).c 0
  have c6 : w.cell? ⟨b, 6, none⟩ = some (.int .i64 ((n : Nat) : Int)) := (HN.out w ⟨is, HP⟩).c 6
  have HC12 := Lib.hid (fun w HP => show w.cell? ⟨b, 12, none⟩ = some (.slice (some ⟨g, 0, none⟩) 1 1) from (HN.out w HP).c 12)
  have HC6 := Lib.hid (fun w HP => show w.cell? ⟨b, 6, none⟩ = some (.int .i64 ((n : Nat) : Int)) from (HN.out w HP).c 6)
  have HCG := Lib.hid (fun w (HP : ∃ is, PR w0 w P is) => show w.cell? ⟨g, 0, none⟩ = some (ptr i) from by obtain ⟨is, HP⟩ := HP; exact (cell_of_row _ _ 0 _ _ _ (HP.node hg)).trans hc)
  have CE1 := Lib.hid (emit_any w0 P is (Rx.iSave (2 * n) is.length) none rfl (.inl ⟨rfl, rfl⟩) (by omega) w HP)
  have CO := Lib.hid (fun w => opening_any n hn w)
  have CC := Lib.hid (fun w => closing_any n hn w)
  obtain ⟨A, hA⟩ : ∃ A, is ++ [Rx.iSave (2 * n) is.length] = A := ⟨_, rfl⟩
  have hAl : A.length = is.length + 1 := by rw [← hA]; simp
  have CK1 := Lib.hid (fun w (HP : PR w0 w P A) => CK i hi A w (by omega) HP)
  obtain ⟨B, hB⟩ : ∃ B, A ++ Rx.code t A.length = B := ⟨_, rfl⟩
  have hBl : B.length = is.length + 1 + Rx.size t := by rw [← hB, List.length_append, Rx.code_length t hw, hAl]
  have CE2 := Lib.hid (fun w HP => emit_any w0 P B (Rx.iSave (2 * n + 1) B.length) none rfl (.inl ⟨rfl, rfl⟩) (by omega) w HP)
  have hT : is ++ Rx.code (.group n t) is.length = B ++ [Rx.iSave (2 * n + 1) B.length] := by
    unfold Rx.code
    rw [← hB, ← hA]
    simp only [List.length_append, List.length_cons, List.length_nil, List.append_assoc, List.cons_append, List.nil_append, Rx.code_length t hw]
    simp only [show is.length + 1 + Rx.size t = is.length + (Rx.size t + 1) by omega, show is.length + (0 + 1) + Rx.size t = is.length + (Rx.size t + 1) by omega, Nat.zero_add]
  rw [hT]
  rw [hA] at CE1
  rw [hB] at CK1
  obtain ⟨T, hT2⟩ : ∃ T, B ++ [Rx.iSave (2 * n + 1) B.length] = T := ⟨_, rfl⟩
  rw [hT2] at CE2 ⊢
  simp only [Rx.iSave, Set4.none] at CE1 CE2
  unfold ptr at CE1 CE2 CK1 HCG ⊢
  have HPh := Lib.hid HP
  clear HP hrow hg hc hi hS hSg hs hA hAl hB hBl hT hT2 CK hw
  go_enter Tryd.func32, Tryd.ntmps32
  go_wp2_with fail
  refine (CO.out _).mono ?_
  rintro e w1 ⟨rfl, rfl⟩
  go_wp2_with fail
  refine CE1.out.mono ?_
  rintro e w2 ⟨rfl, h2, k2⟩
  have P2 := Lib.hid h2
  have K2 := Lib.hid k2
  have d12 := HC12.out w2 ⟨_, h2⟩
  have dg := HCG.out w2 ⟨_, h2⟩
  clear h2 k2 c0 c6
  go_wp2_with fail
  refine (CK1.out _ P2.out).mono ?_
  rintro e w3 ⟨rfl, h3, k3⟩
  have P3 := Lib.hid h3
  have K3' := Lib.hid (K2.out.trans k3)
  have d6 := HC6.out w3 ⟨_, h3⟩
  clear h3 k3 d12 dg
  go_wp2_with fail
  refine (CC.out _).mono ?_
  rintro e w4 ⟨rfl, rfl⟩
  go_wp2_with fail
  refine (CE2.out _ P3.out).mono ?_
  rintro e w5 ⟨rfl, h5⟩
  have P5 := Lib.hid (And.intro h5.1 (K3'.out.trans h5.2))
  clear h5
  go_wp2
  exact bodyPost_end (results_none rfl _ _ _) rfl ⟨rfl, P5.out⟩
end Go.Proofs.YtphighddlfabbaaDoor
namespace Go.Proofs.YtphighddlfabbaaDoor
set_option linter.unusedVariables false
set_option linter.unusedSimpArgs false
open Go.RowKit Go.PlainAid Go.Shelf
open Rx (Set4 RS Instr)
theorem flat_set : ∀ (xs : List (List Value)) (k j : Nat) (u : Value), (∀ l ∈ xs, l.length = 11) → j < 11 → ∀ (hk : k < xs.length), xs.flatten.set (k * 11 + j) u = (xs.set k (xs[k].set j u)).flatten
  | [], k, j, u, _, _, hk => by simp at hk
  | x :: xs, 0, j, u, h, hj, hk => by
    have hx := h x (by simp)
    simp only [List.flatten_cons, Nat.zero_mul, Nat.zero_add, List.getElem_cons_zero, List.set_cons_zero]
    rw [List.set_append_left _ _ (by omega)]
  | x :: xs, k + 1, j, u, h, hj, hk => by
    have hx := h x (by simp)
    simp only [List.flatten_cons, List.getElem_cons_succ, List.set_cons_succ]
    rw [List.set_append_right _ _ (by omega), show (k + 1) * 11 + j - x.length = k * 11 + j by omega, flat_set xs k j u (fun l hl => h l (by simp [hl])) hj (by simpa using hk)]
theorem flat_get : ∀ (xs : List (List Value)) (k j : Nat), (∀ l ∈ xs, l.length = 11) → j < 11 → ∀ (hk : k < xs.length), xs.flatten[k * 11 + j]? = xs[k][j]?
  | [], k, j, _, _, hk => by simp at hk
  | x :: xs, 0, j, h, hj, hk => by
    have hx := h x (by simp)
    simp only [List.flatten_cons, Nat.zero_mul, Nat.zero_add, List.getElem_cons_zero]
    rw [List.getElem?_append_left (by omega)]
  | x :: xs, k + 1, j, h, hj, hk => by
    have hx := h x (by simp)
    simp only [List.flatten_cons, List.getElem_cons_succ]
    rw [List.getElem?_append_right (by omega), show (k + 1) * 11 + j - x.length = k * 11 + j by omega, flat_get xs k j (fun l hl => h l (by simp [hl])) hj (by simpa using hk)]
theorem flat_len (xs : List (List Value)) (is : List Instr) (hx : xs.length = is.length) (h : ∀ k (hk : k < is.length), ∃ ep, xs[k]? = some (icells is[k] ep)) : ∀ l ∈ xs, l.length = 11 := by
  intro l hl
  obtain ⟨k, hk, rfl⟩ := List.mem_iff_getElem.1 hl
  obtain ⟨ep, he⟩ := h k (by omega)
  rw [List.getElem?_eq_getElem hk, Option.some.injEq] at he
  rw [he]
  rfl
theorem PR.drew {w0 w : World} {P : Nat} {is : List Instr} (h : PR w0 w P is) : PR w0 w.drew P is := by
  obtain ⟨v, h⟩ := h
  exact ⟨v, h.move ⟨rfl, rfl, rfl, Nat.le_refl _, fun _ _ => rfl⟩⟩
theorem PR.move {w0 w w' : World} {P : Nat} {is : List Instr} (h : PR w0 w P is) (hb : Below w.heap.size w w') : PR w0 w' P is := by
  obtain ⟨v, h⟩ := h
  exact ⟨v, h.move hb⟩
/-- a step's number is turned -/
theorem PRv.put {w0 w : World} {P : Nat} {v : Value} {is : List Instr} (h : PRv w0 w P v is) (k : Nat) (hk : k < is.length) : ∃ g c ep, v = .slice (some ⟨g, 0, none⟩) is.length c ∧ (∃ cur, w.heap[g]? = some (.cells cur 83 (0, 0))) ∧ w.cell? ⟨P, 0, none⟩ = some v ∧
    (∀ j, j < 11 → w.cell? ⟨g, k * 11 + j, none⟩ = (icells is[k] ep)[j]? ∧ w.frozen? ⟨g, k * 11 + j, none⟩ = false) ∧
    ∀ (j n : Nat) (i' : Instr), j < 11 → (∀ ep, icells i' ep = (icells is[k] ep).set j (.int .i64 ((n : Nat) : Int))) → i'.empty = is[k].empty → PRv w0 (w.setCell ⟨g, k * 11 + j, none⟩ (.int .i64 ((n : Nat) : Int))) P v (is.set k i') := by
  obtain ⟨h1, h2, h3, xs, h4, h5, h6⟩ := h
  have hlen := flat_len xs is h4 (fun k hk => by obtain ⟨ep, h, _⟩ := h6 k hk; exact ⟨ep, h⟩)
  have hkx : k < xs.length := by omega
  obtain ⟨ep, hxk, hek⟩ := h6 k hk
  have hxk' : xs[k] = icells is[k] ep := by rw [List.getElem?_eq_getElem hkx, Option.some.injEq] at hxk; exact hxk
  obtain ⟨hl, hr⟩ := h5
  rcases hr with ⟨_, h0⟩ | ⟨g, cap, cur, hv, hg, hc, hn, hm, hcs, ht⟩
  · omega
  have hgP : P ≠ g := by intro e; subst e; rw [h3] at hc; cases hc
  refine ⟨g, cap, ep, hv, ⟨cur, hc⟩, cell_of_row _ _ 0 _ _ _ h3, fun j hj => ⟨?_, frozen_of_row _ _ _ _ _ hc⟩, fun j n i' hj hi hemp => ?_⟩
  · rw [cell_of_row _ _ _ _ _ _ hc, ← Array.getElem?_toList, ← hxk', ← flat_get xs k j hlen hj hkx, ← ht, List.getElem?_take, if_pos (by omega)]
  · refine ⟨h1.setCell (p := ⟨g, k * 11 + j, none⟩) hg _, h2, (heap_setCell_other _ _ _ _ (by first | exact hgP | exact fun e => hgP e.symm)).trans h3, xs.set k (xs[k].set j (.int .i64 ((n : Nat) : Int))), by simp [h4], ?_, fun q hq => ?_⟩
    · refine ⟨by rw [← flat_set xs k j _ hlen hj hkx, List.length_set, List.length_set]; exact hl, .inr ⟨g, cap, cur.setIfInBounds (k * 11 + j) (.int .i64 ((n : Nat) : Int)), by rw [List.length_set]; exact hv, hg, heap_setCell_same _ _ _ _ _ _ hc, by rw [List.length_set]; exact hn, hm, by simp [hcs], ?_⟩⟩
      rw [← flat_set xs k j _ hlen hj hkx, ← ht, List.length_set]
      simp [List.take_set]
    · rw [List.length_set] at hq
      by_cases hqk : k = q
      · subst hqk
        refine ⟨ep, ?_, ?_⟩
        · rw [List.getElem?_set_self (by omega), List.getElem_set_self, hi ep, hxk']
        · rw [List.getElem_set_self]
          rcases hek with ⟨e1, e2⟩ | ⟨t, S, e1, e2⟩
          · exact .inl ⟨hemp.trans e1, e2⟩
          · exact .inr ⟨t, S, hemp.trans e1, e2⟩
      · obtain ⟨ep', e1, e2⟩ := h6 q hq
        refine ⟨ep', ?_, ?_⟩
        · rw [List.getElem?_set_ne hqk, List.getElem_set_ne hqk]; exact e1
        · rw [List.getElem_set_ne hqk]; exact e2
end Go.Proofs.YtphighddlfabbaaDoor
namespace Go.Proofs.YtphighddlfabbaaDoor
set_option linter.unusedVariables false
set_option linter.unusedSimpArgs false
open Go.RowKit Go.PlainAid Go.Shelf
open Rx (Set4 RS Instr)
/-- the step at a loop's head, behind it -/
def iHead (kd : Nat) (z : Bool) (n o : Nat) (em : List (Bool × List Nat)) : Instr := ⟨kd, Set4.none, 0, 0, z, n, o, em⟩
theorem patch_two (is cd : List Instr) (h0 l0 : Instr) (n o N Q : Nat) (hN : is.length = N) (hQ : N + 1 + cd.length = Q) (C : List Instr) (hC : C = is ++ (h0 :: (cd ++ [l0]))) (h1 : N < C.length) (h2 : Q < (C.set N { C[N] with next := n, other := o }).length) :
    (C.set N { C[N] with next := n, other := o }).set Q { (C.set N { C[N] with next := n, other := o })[Q] with next := n, other := o } = is ++ ({ h0 with next := n, other := o } :: (cd ++ [{ l0 with next := n, other := o }])) := by
  subst hN hQ hC
  have g1 : (is ++ (h0 :: (cd ++ [l0])))[is.length] = h0 := by simp
  have e1 : ∀ X, (is ++ (h0 :: (cd ++ [l0]))).set is.length X = is ++ (X :: (cd ++ [l0])) := by intro X; rw [List.set_append_right _ _ (Nat.le_refl _)]; simp
  have g2 : ∀ (X : Instr) (h : is.length + 1 + cd.length < (is ++ (X :: (cd ++ [l0]))).length), (is ++ (X :: (cd ++ [l0])))[is.length + 1 + cd.length] = l0 := by
    intro X h
    rw [List.getElem_append_right (by omega)]
    simp only [show is.length + 1 + cd.length - is.length = cd.length + 1 by omega, List.getElem_cons_succ]
    rw [List.getElem_append_right (by omega)]
    simp
  have e2 : ∀ X Y, (is ++ (X :: (cd ++ [l0]))).set (is.length + 1 + cd.length) Y = is ++ (X :: (cd ++ [Y])) := by
    intro X Y
    rw [List.set_append_right _ _ (by omega), show is.length + 1 + cd.length - is.length = cd.length + 1 by omega, List.set_cons_succ, List.set_append_right _ _ (Nat.le_refl _)]
    simp
  simp only [g1, e1, g2, e2]
theorem PR.put2 {w0 w : World} {P : Nat} {is : List Instr} (h : PR w0 w P is) (k : Nat) (hk : k < is.length) : ∃ g c ep, w.cell? ⟨P, 0, none⟩ = some (.slice (some ⟨g, 0, none⟩) is.length c) ∧ (∀ (b : Nat) (cs : Array Value) (u1 u2 : Value), w.heap[b]? = some (.cells cs 3 (0, 0)) → ((w.drew.setCell ⟨g, k * 11 + 8, none⟩ u1).setCell ⟨g, k * 11 + 9, none⟩ u2).heap[b]? = some (.cells cs 3 (0, 0))) ∧
    (∀ j, j < 11 → w.cell? ⟨g, k * 11 + j, none⟩ = (icells is[k] ep)[j]? ∧ w.frozen? ⟨g, k * 11 + j, none⟩ = false) ∧
    ∀ n o, PR w0 ((w.drew.setCell ⟨g, k * 11 + 8, none⟩ (.int .i64 ((n : Nat) : Int))).setCell ⟨g, k * 11 + 9, none⟩ (.int .i64 ((o : Nat) : Int))) P (is.set k { is[k] with next := n, other := o }) := by
  obtain ⟨v, h⟩ := h
  obtain ⟨g, c, ep, rfl, ⟨cur, hcur⟩, h1, h2, h3⟩ := h.put k hk
  refine ⟨g, c, ep, h1, fun b cs u1 u2 hb => ?_, h2, fun n o => ?_⟩
  · have hne : b ≠ g := by intro e; subst e; rw [hb] at hcur; cases hcur
    rw [heap_setCell_other _ _ _ _ (by first | exact hne | exact fun e => hne e.symm), heap_setCell_other _ _ _ _ (by first | exact hne | exact fun e => hne e.symm)]
    exact hb
  have hd := h.move (w' := w.drew) ⟨rfl, rfl, rfl, Nat.le_refl _, fun _ _ => rfl⟩
  obtain ⟨g', c', _, hv, _, _, _, h3⟩ := hd.put k hk
  injection hv with hv _ _
  injection hv with hv
  injection hv with hv
  subst hv
  have k1 := h3 8 n { is[k] with next := n } (by decide) (fun ep => rfl) rfl
  obtain ⟨g', c', _, hv, _, _, _, h4⟩ := k1.put k (by rw [List.length_set]; exact hk)
  injection hv with hv _ _
  injection hv with hv
  injection hv with hv
  subst hv
  have k2 := h4 9 o { is[k] with next := n, other := o } (by decide) (fun ep => by rw [List.getElem_set_self]; rfl) (by rw [List.getElem_set_self])
  rw [List.set_set] at k2
  exact ⟨_, k2⟩
set_option maxHeartbeats 4000000 in
set_option maxRecDepth 100000 in
theorem loop_any (w0 : World) (P : Nat) (S : Nat → Prop) (l : Nat) (m : Option Nat) (p z : Bool) (t : Rx.Node) (b kd : Nat) (hkd : kd < 256) (H0 : IsN w0 S (.count l m p z t) b) (hw : Rx.Wf t) (CK : ∀ i, IsN w0 S t i → AddC w0 P t i)
    (is : List Instr) (w : World) (hs : is.length + Rx.size t + 2 ≤ 100000) (HP : PR w0 w P is) :
    Calls Tryd.prog 53 #[ptr P, .int .u8 ((kd : Nat) : Int), ptr b] w fun e w' => e = .returned (.tuple #[]) ∧ PR w0 w' P (is ++ (iHead kd z (is.length + Rx.size t + 2) (is.length + 1) (if p then Rx.emptiesOf t else []) :: (Rx.code t (is.length + 1) ++ [Rx.iAgain z (is.length + Rx.size t + 2) (is.length + 1)]))) ∧ K3 w w' := by
  unfold IsN at H0
  obtain ⟨hS, em, g, cur, i, hrow, hem, hSg, hg, hc, hi⟩ := H0
  obtain ⟨ep, rfl, hemi⟩ : ∃ ep, em = .pointer ep ∧ EmI w0 (iHead kd z (is.length + 1) 0 (if p then Rx.emptiesOf t else [])) ep := by
    cases p with
    | true =>
      simp only [if_true] at hem
      obtain ⟨eb, ec, e1, e2, e3, e4⟩ := hem
      exact ⟨_, e1, .inr ⟨t, S, rfl, eb, ec, rfl, e2, e3, e4⟩⟩
    | false =>
      simp only [Bool.false_eq_true, if_false] at hem
      exact ⟨none, hem, .inl ⟨rfl, rfl⟩⟩
  have HN := Lib.hid (fun w (HP : ∃ is, PR w0 w P is) => show NodeAt w b 5 Set4.none 0 0 l (mostI m) p z (.pointer ep) (.slice (some ⟨g, 0, none⟩) 1 1) (Rx.states (.count l m p z t)) from ⟨by obtain ⟨is, HP⟩ := HP; exact HP.node hrow⟩)
  have c10 : w.cell? ⟨b, 10, none⟩ = some (.bool z) := (HN.out w ⟨is, HP⟩).c 10
  have c11 : w.cell? ⟨b, 11, none⟩ = some (.pointer ep) := (HN.out w ⟨is, HP⟩).c 11
  have HC12 := Lib.hid (fun w HP => show w.cell? ⟨b, 12, none⟩ = some (.slice (some ⟨g, 0, none⟩) 1 1) from (HN.out w HP).c 12)
  have HC10 := Lib.hid (fun w HP => show w.cell? ⟨b, 10, none⟩ = some (.bool z) from (HN.out w HP).c 10)
  have HCG := Lib.hid (fun w (HP : ∃ is, PR w0 w P is) => show w.cell? ⟨g, 0, none⟩ = some (ptr i) from by obtain ⟨is, HP⟩ := HP; exact (cell_of_row _ _ 0 _ _ _ (HP.node hg)).trans hc)
  obtain ⟨EM, hEM⟩ : ∃ E, (if p then Rx.emptiesOf t else []) = E := ⟨_, rfl⟩
  rw [hEM] at hemi ⊢
  have CE1 := Lib.hid (fun w (HP : PR w0 w P is) => emit_any w0 P is (iHead kd z (is.length + 1) 0 EM) ep rfl hemi (by omega) w HP)
  obtain ⟨A, hA⟩ : ∃ A, is ++ [iHead kd z (is.length + 1) 0 EM] = A := ⟨_, rfl⟩
  have hAl : A.length = is.length + 1 := by rw [← hA]; simp
  have CK1 := Lib.hid (fun w (HP : PR w0 w P A) => CK i hi A w (by omega) HP)
  obtain ⟨B, hB⟩ : ∃ B, A ++ Rx.code t A.length = B := ⟨_, rfl⟩
  have hBl : B.length = is.length + 1 + Rx.size t := by rw [← hB, List.length_append, Rx.code_length t hw, hAl]
  have CE2 := Lib.hid (fun w HP => emit_any w0 P B (Rx.iAgain z (B.length + 1) 0) none rfl (.inl ⟨rfl, rfl⟩) (by omega) w HP)
  obtain ⟨C, hC⟩ : ∃ C, B ++ [Rx.iAgain z (B.length + 1) 0] = C := ⟨_, rfl⟩
  have hCl : C.length = is.length + Rx.size t + 2 := by rw [← hC]; simp [hBl]; omega
  have hC0 : C = is ++ (iHead kd z (is.length + 1) 0 EM :: (Rx.code t (is.length + 1) ++ [Rx.iAgain z (B.length + 1) 0])) := by
    rw [← hC, ← hB, ← hA]; simp
  rw [hA] at CE1
  rw [hB] at CK1
  rw [hC] at CE2
  obtain ⟨Q, hQ⟩ : ∃ Q, is.length + 1 + Rx.size t = Q := ⟨_, rfl⟩
  obtain ⟨T, hT⟩ : ∃ T, is ++ (iHead kd z (is.length + Rx.size t + 2) (is.length + 1) EM :: (Rx.code t (is.length + 1) ++ [Rx.iAgain z (is.length + Rx.size t + 2) (is.length + 1)])) = T := ⟨_, rfl⟩
  have hT2 : ∀ (h1 : is.length < C.length) (h2 : Q < (C.set is.length { C[is.length] with next := Q + 1, other := is.length + 1 }).length), (C.set is.length { C[is.length] with next := Q + 1, other := is.length + 1 }).set Q { (C.set is.length { C[is.length] with next := Q + 1, other := is.length + 1 })[Q] with next := Q + 1, other := is.length + 1 } = T := by
    intro h1 h2
    rw [patch_two is (Rx.code t (is.length + 1)) _ _ (Q + 1) (is.length + 1) is.length Q rfl (by rw [Rx.code_length t hw]; omega) C hC0 h1 h2, ← hT, show is.length + Rx.size t + 2 = Q + 1 by omega]
    rfl
  rw [hT]
  simp only [iHead, Rx.iAgain, Set4.none] at CE1 CE2
  unfold ptr at CE1 CE2 CK1 HCG ⊢
  have HPh := Lib.hid HP
  have hQ5 : Q ≤ 100000 := by omega
  have hn5 : is.length ≤ 100000 := by omega
  have HT2 := Lib.hid hT2
  have HCl := Lib.hid hCl
  have HBl := Lib.hid hBl
  have hq1 : B.length = Q := by omega
  rw [hq1] at CE2
  have HQl := Lib.hid (show is.length < Q ∧ C.length = Q + 1 from ⟨by omega, by omega⟩)
  obtain ⟨N, hN⟩ : ∃ N, is.length = N := ⟨_, rfl⟩
  rw [hN] at CE1 HT2 HQl hn5
  clear HP hrow hg hc hi hS hSg hs hA hAl hB hBl hC hCl hT hT2 CK hw hem hemi hEM hC0 hq1
  go_enter Tryd.func53, Tryd.ntmps53
  go_upto_region 0 with (fail)
  go_still_tail 12, (by kernel_rfl)
  change wpList _ _ _ _ _ w.drew
  have HPd := Lib.hid HPh.out.drew
  have KD := Lib.hid (show K3 w w.drew from ⟨Nat.le_refl _, fun _ _ h => h⟩)
  generalize w.drew = wd at HPd KD ⊢
  go_wp2_with fail
  refine (CE1.out _ HPd.out).mono ?_
  rintro e w1 ⟨rfl, h1, k1⟩
  have P1 := Lib.hid h1
  have KK1 := Lib.hid (KD.out.trans k1)
  clear k1
  have d12 := HC12.out w1 ⟨_, h1⟩
  have dg := HCG.out w1 ⟨_, h1⟩
  clear h1 c10 c11
  go_wp2_with fail
  refine (CK1.out _ P1.out).mono ?_
  rintro e w2 ⟨rfl, h2, k2⟩
  have P2 := Lib.hid h2
  have KK2 := Lib.hid (KK1.out.trans k2)
  clear k2
  have d10 := HC10.out w2 ⟨_, h2⟩
  clear h2 d12 dg
  go_wp2_with fail
  refine (CE2.out _ P2.out).mono ?_
  rintro e w3 ⟨rfl, h3, k3⟩
  have P3 := Lib.hid h3
  have KK3 := Lib.hid (KK2.out.trans k3)
  clear k3
  clear h3 d10
  have HY0 := Lib.hid (heap_alloc_new w3 (.cells #[.int .i64 ((N : Nat) : Int), .int .i64 ((Q : Nat) : Int)] 3))
  have KK4 := Lib.hid (KK3.out.trans (K3.below ((Below.refl _ _).alloc (Nat.le_refl _) (.cells #[.int .i64 ((N : Nat) : Int), .int .i64 ((Q : Nat) : Int)] 3))))
  have P4 := Lib.hid (P3.out.move ((Below.refl _ _).alloc (Nat.le_refl _) (.cells #[.int .i64 ((N : Nat) : Int), .int .i64 ((Q : Nat) : Int)] 3)))
  obtain ⟨Y, hY⟩ : ∃ Y, w3.heap.size = Y := ⟨_, rfl⟩
  have HYY := Lib.hid hY
  rw [hY] at HY0
  have hCN : N < C.length := by rw [HQl.out.2]; have := HQl.out.1; omega
  go_wp2
  try rw [HYY.out]
  clear hY
  go_loopw [9, 43] (fun _ i wr => ∃ (k : Nat) (is' : List Instr), k ≤ 2 ∧ i = .int .i64 ((k : Nat) : Int) ∧ Hid (PR w0 wr P is') ∧ Hid (K3 w wr) ∧ Hid (wr.heap[Y]? = some (.cells #[.int .i64 ((N : Nat) : Int), .int .i64 ((Q : Nat) : Int)] 3 (0, 0))) ∧ Hid ((k = 0 → is' = C) ∧ (k = 1 → is' = C.set N (C[N]'hCN |> fun i => { i with next := Q + 1, other := N + 1 })) ∧ (k = 2 → is' = T))) (fun _ i _ => 2 - (intOf i).toNat)
  case atStart => exact ⟨0, C, by omega, rfl, P4, KK4, HY0, Lib.hid ⟨fun _ => rfl, by simp, by simp⟩⟩
  case round =>
    obtain ⟨k, is', hk, rfl, HP, HK, HY, HD⟩ := hrel
    rcases (show k = 0 ∨ k = 1 ∨ k = 2 by omega) with rfl | rfl | rfl
    · skip
      have hD := HD.out.1 rfl
      rw [hD] at HP
      clear hD
      have hkl : N < (C).length := by rw [HQl.out.2]; have := HQl.out.1; omega
      obtain ⟨g5, c5, ep5, q1, qb, q2, q3⟩ := HP.out.put2 N hkl
      have s8 := q2 8 (by decide)
      have s9 := q2 9 (by decide)
      have c8 := s8.1
      have f8 := s8.2
      have c9 := s9.1
      have f9 := s9.2
      simp only [icells, List.getElem?_cons_succ, List.getElem?_cons_zero] at c8 c9
      have HP3 := Lib.hid (q3 (Q + 1) (N + 1))
      have HY3 := Lib.hid (fun u1 u2 => qb Y _ u1 u2 HY.out)
      have HK3 := Lib.hid (fun u1 u2 => HK.out.trans ⟨by rw [size_setCell, size_setCell]; exact Nat.le_refl _, fun b cs e => qb b cs u1 u2 e⟩)
      rw [show ((Q + 1 : Nat) : Int) = (Q : Int) + 1 by omega, show ((N + 1 : Nat) : Int) = (N : Int) + 1 by omega] at HP3
      have y0 : wr.cell? ⟨Y, 0, none⟩ = some (.int .i64 ((N : Nat) : Int)) := cell_of_row _ _ 0 _ _ _ HY.out
      rw [HQl.out.2] at q1
      have hb1 : (N : Int) < (Q : Int) + 1 := by have := HQl.out.1; omega
      have hb2 : N < Q + 1 := by have := HQl.out.1; omega
      clear q2 q3 qb s8 s9
      go_wp2
      go_region
      all_goals
        go_wp2
        go_roundw
        case rel => exact ⟨1, _, by omega, by go_num, HP3, Lib.hid (HK3.out _ _), Lib.hid (HY3.out _ _), Lib.hid ⟨by simp, fun _ => rfl, by simp⟩⟩
        case measure => simp [intOf]
    · skip
      have hD := HD.out.2.1 rfl
      rw [hD] at HP
      clear hD
      have hkl : Q < (C.set N { C[N] with next := Q + 1, other := N + 1 }).length := by rw [List.length_set, HQl.out.2]; omega
      obtain ⟨g5, c5, ep5, q1, qb, q2, q3⟩ := HP.out.put2 Q hkl
      have s8 := q2 8 (by decide)
      have s9 := q2 9 (by decide)
      have c8 := s8.1
      have f8 := s8.2
      have c9 := s9.1
      have f9 := s9.2
      simp only [icells, List.getElem?_cons_succ, List.getElem?_cons_zero] at c8 c9
      have HP3 := Lib.hid (q3 (Q + 1) (N + 1))
      have HY3 := Lib.hid (fun u1 u2 => qb Y _ u1 u2 HY.out)
      have HK3 := Lib.hid (fun u1 u2 => HK.out.trans ⟨by rw [size_setCell, size_setCell]; exact Nat.le_refl _, fun b cs e => qb b cs u1 u2 e⟩)
      rw [show ((Q + 1 : Nat) : Int) = (Q : Int) + 1 by omega, show ((N + 1 : Nat) : Int) = (N : Int) + 1 by omega] at HP3
      have y1 : wr.cell? ⟨Y, 1, none⟩ = some (.int .i64 ((Q : Nat) : Int)) := cell_of_row _ _ 1 _ _ _ HY.out
      rw [List.length_set, HQl.out.2] at q1
      have hb1 : (Q : Int) < (Q : Int) + 1 := by have := HQl.out.1; omega
      have hb2 : Q < Q + 1 := by have := HQl.out.1; omega
      clear q2 q3 qb s8 s9
      go_wp2
      go_region
      all_goals
        go_wp2
        go_roundw
        case rel => exact ⟨2, _, by omega, by go_num, HP3, Lib.hid (HK3.out _ _), Lib.hid (HY3.out _ _), Lib.hid ⟨by simp, by simp, fun _ => HT2.out _ _⟩⟩
        case measure => simp [intOf]
    · have hD := HD.out.2.2 rfl
      rw [hD] at HP
      clear hD
      go_wp2
      exact bodyPost_end (results_none rfl _ _ _) rfl ⟨rfl, HP.out, HK.out⟩
end Go.Proofs.YtphighddlfabbaaDoor
namespace Go.Proofs.YtphighddlfabbaaDoor
set_option linter.unusedVariables false
set_option linter.unusedSimpArgs false
open Go.RowKit Go.PlainAid Go.Shelf
open Rx (Set4 RS Instr)
def rawOpt (f : Nat → List Instr) (s : Nat) : Nat → Nat → List Instr
  | 0, _ => []
  | n + 1, b => Rx.iChoice (b + 1) 0 :: (f (b + 1) ++ rawOpt f s n (b + 1 + s))
theorem rawOpt_snoc (f : Nat → List Instr) (s : Nat) : ∀ n b, rawOpt f s (n + 1) b = rawOpt f s n b ++ (Rx.iChoice (b + n * (s + 1) + 1) 0 :: f (b + n * (s + 1) + 1))
  | 0, b => by simp [rawOpt]
  | n + 1, b => by
    rw [rawOpt, rawOpt_snoc f s n (b + 1 + s), rawOpt]
    have : b + 1 + s + n * (s + 1) = b + (n + 1) * (s + 1) := by rw [Nat.succ_mul]; omega
    rw [this]
    simp
theorem rawOpt_length (f : Nat → List Instr) (s : Nat) (hf : ∀ b, (f b).length = s) : ∀ n b, (rawOpt f s n b).length = n * (s + 1)
  | 0, b => by simp [rawOpt]
  | n + 1, b => by rw [rawOpt, List.length_cons, List.length_append, hf, rawOpt_length f s hf n, Nat.succ_mul]; omega
theorem optCode_snoc (f : Nat → List Instr) (s : Nat) (z : Bool) (E : Nat) : ∀ n b, Rx.optCode f s z E (n + 1) b = Rx.optCode f s z E n b ++ ((if z then Rx.iChoice E (b + n * (s + 1) + 1) else Rx.iChoice (b + n * (s + 1) + 1) E) :: f (b + n * (s + 1) + 1))
  | 0, b => by simp [Rx.optCode]
  | n + 1, b => by
    rw [Rx.optCode, optCode_snoc f s z E n (b + 1 + s), Rx.optCode]
    have : b + 1 + s + n * (s + 1) = b + (n + 1) * (s + 1) := by rw [Nat.succ_mul]; omega
    rw [this]
    simp
/-- the list when q choices are turned -/
def mixed (is : List Instr) (f : Nat → List Instr) (s : Nat) (z : Bool) (E M q : Nat) : List Instr := is ++ Rx.optCode f s z E q is.length ++ rawOpt f s (M - q) (is.length + q * (s + 1))
theorem mixed_step (is : List Instr) (f : Nat → List Instr) (s : Nat) (hf : ∀ b, (f b).length = s) (z : Bool) (E M q : Nat) (hq : q < M) : ∃ A R, A.length = is.length + q * (s + 1) ∧ mixed is f s z E M q = A ++ Rx.iChoice (is.length + q * (s + 1) + 1) 0 :: R ∧
    mixed is f s z E M (q + 1) = A ++ (if z then Rx.iChoice E (is.length + q * (s + 1) + 1) else Rx.iChoice (is.length + q * (s + 1) + 1) E) :: R := by
  refine ⟨is ++ Rx.optCode f s z E q is.length, f (is.length + q * (s + 1) + 1) ++ rawOpt f s (M - (q + 1)) (is.length + q * (s + 1) + 1 + s), by rw [List.length_append, Rx.optCode_length f s z E hf], ?_, ?_⟩
  · unfold mixed
    rw [show M - q = M - (q + 1) + 1 by omega, rawOpt]
  · unfold mixed
    rw [optCode_snoc, show is.length + q * (s + 1) + 1 + s = is.length + (q + 1) * (s + 1) by rw [Nat.succ_mul]; omega]
    simp
theorem set_at (A R : List Instr) (x y : Instr) (k : Nat) (hk : A.length = k) : (A ++ x :: R).set k y = A ++ y :: R := by
  subst hk
  rw [List.set_append_right _ _ (Nat.le_refl _)]
  simp
theorem get_at (A R : List Instr) (x : Instr) (k : Nat) (hk : A.length = k) (h : k < (A ++ x :: R).length) : (A ++ x :: R)[k] = x := by
  subst hk
  rw [List.getElem_append_right (Nat.le_refl _)]
  simp
theorem OwnI.k3 {w w' : World} {base : Nat} {v : Value} {gs : List Nat} (h : OwnI w base v gs) (hk : K3 w w') : OwnI w' base v gs := by
  obtain ⟨h1, h2⟩ := h
  refine ⟨h1, ?_⟩
  rcases h2 with h2 | ⟨g, cap, cur, hv, hg, hc, h3⟩
  · exact .inl h2
  · exact .inr ⟨g, cap, cur, hv, hg, hk.rows g cur hc, h3⟩
theorem K3.grown {w wr w' : World} {v : Value} {gs : List Nat} (h : K3 w wr) (ho : OwnI wr w.heap.size v gs) (hg : wr.grownBy w' v.ownBlock) : K3 w w' := ⟨Nat.le_trans h.size hg.size, fun k cs e => by
  have hlt := (Array.getElem?_eq_some_iff.1 e).1
  have e2 := h.rows k cs e
  rw [hg.block k (Array.getElem?_eq_some_iff.1 e2).1 (fun he => by have := (ho.block k he.symm).1; omega)]
  exact e2⟩
theorem PR.grown {w0 wr w' : World} {P base : Nat} {is : List Instr} {v : Value} {gs : List Nat} (h : PR w0 wr P is) (ho : OwnI wr base v gs) (hb : w0.heap.size ≤ base) (hg : wr.grownBy w' v.ownBlock) : PR w0 w' P is := by
  obtain ⟨u, h1, h2, h3, xs, h4, h5, h6⟩ := h
  have row : ∀ k, v.ownBlock = some k → ∃ cur, wr.heap[k]? = some (.cells cur 3 (0, 0)) := by
    intro k hk
    rcases ho.2 with ⟨rfl, _⟩ | ⟨g, cap, cur, rfl, hg, hc, _⟩
    · cases hk
    · simp only [Value.ownBlock, Option.some.injEq] at hk
      subst hk
      exact ⟨cur, hc⟩
  refine ⟨u, h1.grown hg h1.size (fun k hk => Nat.le_trans hb (ho.block k hk).1), h2, ?_, xs, h4, own75_move h5 (fun k hk => ?_), h6⟩
  · rw [hg.block P (Array.getElem?_eq_some_iff.1 h3).1 (fun e => by obtain ⟨cur, hc⟩ := row P e.symm; rw [h3] at hc; cases hc)]
    exact h3
  · obtain ⟨_, cur, hc⟩ := own75_block h5 k hk
    exact hg.block k (Array.getElem?_eq_some_iff.1 hc).1 (fun e => by obtain ⟨cur2, hc2⟩ := row k e.symm; rw [hc] at hc2; cases hc2)
theorem PR.put4 {w0 w : World} {P : Nat} {is : List Instr} (h : PR w0 w P is) (k : Nat) (hk : k < is.length) : ∃ g c ep, w.cell? ⟨P, 0, none⟩ = some (.slice (some ⟨g, 0, none⟩) is.length c) ∧ g ≠ P ∧
    (∀ j, j < 11 → w.cell? ⟨g, k * 11 + j, none⟩ = (icells is[k] ep)[j]? ∧ w.frozen? ⟨g, k * 11 + j, none⟩ = false) ∧
    (∀ u, K3 w (w.setCell ⟨g, k * 11 + 9, none⟩ u)) ∧ (∀ u1 u2 u3, K3 w (((w.setCell ⟨g, k * 11 + 9, none⟩ u1).drew.setCell ⟨g, k * 11 + 8, none⟩ u2).setCell ⟨g, k * 11 + 9, none⟩ u3)) ∧
    (∀ E : Nat, PR w0 (w.setCell ⟨g, k * 11 + 9, none⟩ (.int .i64 ((E : Nat) : Int))) P (is.set k { is[k] with other := E })) ∧
    ∀ E n : Nat, PR w0 (((w.setCell ⟨g, k * 11 + 9, none⟩ (.int .i64 ((E : Nat) : Int))).drew.setCell ⟨g, k * 11 + 8, none⟩ (.int .i64 ((E : Nat) : Int))).setCell ⟨g, k * 11 + 9, none⟩ (.int .i64 ((n : Nat) : Int))) P (is.set k { is[k] with next := E, other := n }) := by
  obtain ⟨v, h⟩ := h
  have hP := h.cell
  obtain ⟨g, c, ep, rfl, ⟨cur, hcur⟩, h1, h2, h3⟩ := h.put k hk
  have one : ∀ (w2 : World) (j : Nat) (u : Value), K3 w w2 → K3 w (w2.setCell ⟨g, j, none⟩ u) := by
    intro w2 j u hw2
    refine ⟨by rw [size_setCell]; exact hw2.size, fun b cs hb => ?_⟩
    have hne : b ≠ g := by intro e; subst e; rw [hb] at hcur; cases hcur
    rw [heap_setCell_other _ _ _ _ (by first | exact hne | exact fun e => hne e.symm)]
    exact hw2.rows b cs hb
  refine ⟨g, c, ep, h1, (by intro e; subst e; rw [hP] at hcur; cases hcur), h2, fun u => one _ _ _ (K3.refl w), fun u1 u2 u3 => one _ _ _ (one _ _ _ ((one w _ _ (K3.refl w)).trans ⟨Nat.le_refl _, fun _ _ e => e⟩)), fun E => ?_, fun E n => ?_⟩
  · exact ⟨_, h3 9 E { is[k] with other := E } (by decide) (fun ep => rfl) rfl⟩
  · have k0 := h3 9 E { is[k] with other := E } (by decide) (fun ep => rfl) rfl
    have kd := k0.move (w' := (w.setCell ⟨g, k * 11 + 9, none⟩ (.int .i64 ((E : Nat) : Int))).drew) ⟨rfl, rfl, rfl, Nat.le_refl _, fun _ _ => rfl⟩
    obtain ⟨g', c', _, hv, _, _, _, h4⟩ := kd.put k (by rw [List.length_set]; exact hk)
    injection hv with hv _ _
    injection hv with hv
    injection hv with hv
    subst hv
    have k1 := h4 8 E { is[k] with next := E, other := E } (by decide) (fun ep => by rw [List.getElem_set_self]; rfl) (by rw [List.getElem_set_self])
    obtain ⟨g', c', _, hv, _, _, _, h5⟩ := k1.put k (by rw [List.length_set, List.length_set]; exact hk)
    injection hv with hv _ _
    injection hv with hv
    injection hv with hv
    subst hv
    have k2 := h5 9 n { is[k] with next := E, other := n } (by decide) (fun ep => by rw [List.getElem_set_self]; rfl) (by rw [List.getElem_set_self])
    rw [List.set_set, List.set_set] at k2
    exact ⟨_, k2⟩
end Go.Proofs.YtphighddlfabbaaDoor
namespace Go.Proofs.YtphighddlfabbaaDoor
set_option linter.unusedVariables false
set_option linter.unusedSimpArgs false
open Go.RowKit Go.PlainAid Go.Shelf
open Rx (Set4 RS Instr)
def idxs (N s k : Nat) : List Nat := (List.range k).map fun q => N + q * (s + 1)
theorem idxs_succ (N s k : Nat) : idxs N s (k + 1) = idxs N s k ++ [N + k * (s + 1)] := by unfold idxs; rw [List.range_succ]; simp
theorem idxs_length (N s k : Nat) : (idxs N s k).length = k := by unfold idxs; simp
theorem mul_lt {q M s : Nat} (h : q < M) : q * (s + 1) + (s + 1) ≤ M * (s + 1) := by
  have := Nat.mul_le_mul_right (s + 1) (show q + 1 ≤ M from h)
  rw [Nat.succ_mul] at this
  exact this
theorem mul_ge {M s : Nat} : M ≤ M * (s + 1) := Nat.le_mul_of_pos_right M (Nat.succ_pos s)
set_option maxHeartbeats 4000000 in
set_option maxRecDepth 100000 in
theorem opt_any (w0 : World) (P : Nat) (S : Nat → Prop) (t : Rx.Node) (i M : Nat) (z : Bool) (hw : Rx.Wf t) (CK : AddC w0 P t i) (is : List Instr) (w : World) (hs : is.length + M * (Rx.size t + 1) ≤ 100000) (HP : PR w0 w P is) :
    Calls Tryd.prog 54 #[ptr P, ptr i, .int .i64 ((M : Nat) : Int), .bool z] w fun e w' => e = .returned (.tuple #[]) ∧ PR w0 w' P (is ++ Rx.optCode (Rx.code t) (Rx.size t) z (is.length + M * (Rx.size t + 1)) M is.length) ∧ K3 w w' := by
  obtain ⟨i0, hi0, hz0, hz1, hz2⟩ := info_parts infoI
  have hf := Rx.code_length t hw
  have CE := Lib.hid (fun (is' : List Instr) (hl : is'.length ≤ 100000) (w : World) (HP : PR w0 w P is') => emit_any w0 P is' (Rx.iChoice (is'.length + 1) 0) none rfl (.inl ⟨rfl, rfl⟩) hl w HP)
  simp only [Rx.iChoice, Set4.none] at CE
  have CK := Lib.hid CK
  obtain ⟨s, hsz⟩ : ∃ s, Rx.size t = s := ⟨_, rfl⟩
  have hCK := CK.out
  unfold AddC at hCK
  rw [hsz] at hCK hf hs ⊢
  obtain ⟨f, hff⟩ : ∃ f, Rx.code t = f := ⟨_, rfl⟩
  rw [hff] at hCK hf ⊢
  have CA := Lib.hid hCK
  obtain ⟨N, hN⟩ : ∃ N, is.length = N := ⟨_, rfl⟩
  rw [hN] at hs ⊢
  have HRL := Lib.hid (fun k => show (is ++ rawOpt f s k N).length = N + k * (s + 1) by rw [List.length_append, rawOpt_length f s hf, hN])
  have HRS := Lib.hid (fun k => show is ++ rawOpt f s (k + 1) N = (is ++ rawOpt f s k N ++ [Rx.iChoice (N + k * (s + 1) + 1) 0]) ++ f (N + k * (s + 1) + 1) by rw [rawOpt_snoc]; simp)
  obtain ⟨E, hE⟩ : ∃ E, N + M * (s + 1) = E := ⟨_, rfl⟩
  rw [hE] at hs ⊢
  have HMS := Lib.hid (fun q (hq : q < M) => mixed_step is f s hf z E M q hq)
  rw [hN] at HMS
  have HM0 := Lib.hid (show mixed is f s z E M 0 = is ++ rawOpt f s M N by unfold mixed; simp [Rx.optCode, hN])
  have HMM := Lib.hid (show mixed is f s z E M M = is ++ Rx.optCode f s z E M N by unfold mixed; simp [rawOpt, hN])
  have HML := Lib.hid (fun q (hq : q ≤ M) => show (mixed is f s z E M q).length = E by
    unfold mixed
    rw [List.length_append, List.length_append, Rx.optCode_length f s z E hf, rawOpt_length f s hf, hN, ← hE, Nat.add_assoc, ← Nat.add_mul]
    congr 2
    omega)
  obtain ⟨TT, hTT⟩ : ∃ T, is ++ Rx.optCode f s z E M N = T := ⟨_, rfl⟩
  rw [hTT] at HMM ⊢
  have HE := Lib.hid hE
  have HS := Lib.hid hs
  have hM5 : M ≤ 100000 := by have := @mul_ge M s; omega
  have HMB := Lib.hid (fun q (hq : q < M) => show N + q * (s + 1) + 1 + s ≤ E from by have := @mul_lt q M s hq; omega)
  have HB0 := Lib.hid HP.below.size
  have HP0 := Lib.hid (show PR w0 w P (is ++ rawOpt f s 0 N) by rw [rawOpt, List.append_nil]; exact HP)
  have OS0 := Lib.hid (OwnI.nil w w.heap.size)
  have HAW := Lib.hid (fun (k : Nat) w (h : PR w0 w P (is ++ rawOpt f s k N)) => h)
  unfold ptr at CA CE ⊢
  clear HP hE hN hsz hff hTT hf hCK CK hs hw
  go_enter Tryd.func54, Tryd.ntmps54
  go_wp2
  go_loopw [8, 13] (fun v8 i wr => ∃ (k : Nat), k ≤ M ∧ i = .int .i64 ((k : Nat) : Int) ∧ Hid (PR w0 wr P (is ++ rawOpt f s k N)) ∧ Hid (K3 w wr) ∧ Hid (OwnI wr w.heap.size v8 (idxs N s k))) (fun _ i _ => M - (intOf i).toNat)
  case atStart => exact ⟨0, Nat.zero_le _, rfl, HP0, Lib.hid (K3.refl w), OS0⟩
  case round =>
    obtain ⟨k, hk, rfl, HP, HK, HO⟩ := hrel
    obtain ⟨a8, c8, hv8⟩ := HO.out.shape
    rw [idxs_length] at hv8
    subst hv8
    by_cases hlt : k < M
    · have hd : decide (k < M) = true := decide_eq_true hlt
      have hmb := HMB.out k hlt
      have hs5 := HS.out
      have CE1 := Lib.hid (CE.out _ (by rw [HRL.out k]; omega) wr HP.out)
      rw [HRL.out k] at CE1
      have HI := Lib.hid (idxs_succ N s k)
      have hsk := HRS.out k
      simp only [Rx.iChoice, Set4.none] at hsk
      have hl1 := HRL.out k
      obtain ⟨L1, hL1⟩ : ∃ L, is ++ rawOpt f s k N = L := ⟨_, rfl⟩
      rw [hL1] at CE1 hsk hl1
      obtain ⟨A, hA⟩ : ∃ A, N + k * (s + 1) = A := ⟨_, rfl⟩
      rw [hA] at CE1 HI hl1 hmb hsk
      obtain ⟨L2, hL2⟩ : ∃ L, L1 ++ [({ kind := 5, bytes := { a := 0, b := 0, c := 0, d := 0 }, edge := 0, slot := 0, lazy := false, next := A + 1, other := 0, empty := [] } : Instr)] = L := ⟨_, rfl⟩
      rw [hL2] at CE1 hsk
      have hl2 : L2.length = A + 1 := by rw [← hL2]; simp [hl1]
      have CA1 := Lib.hid (fun w HP => CA.out L2 w (by omega) HP)
      rw [hl2, ← hsk] at CA1
      have HGL := Lib.hid (show (idxs N s k).length = k from idxs_length N s k)
      have hA5 : A ≤ 100000 := by omega
      have HMX := Lib.hid (show (idxs N s k).length + 1 ≤ maxLen ∧ ((idxs N s k).length + 1) * 8 ≤ 140737488355328 from ⟨by rw [HGL.out]; unfold maxLen; omega, by rw [HGL.out]; omega⟩)
      clear hl1 hl2 hsk hL1 hL2 hA hmb hs5
      go_wp2_with fail
      refine CE1.out.mono ?_
      rintro e w2 ⟨rfl, h2, k2⟩
      have P3 := Lib.hid (h2.move ((Below.refl _ _).alloc (Nat.le_refl _) (.cells #[.int .i64 ((A : Nat) : Int)] 3)))
      have K3' := Lib.hid (HK.out.trans (k2.trans (K3.below ((Below.refl _ _).alloc (Nat.le_refl _) (.cells #[.int .i64 ((A : Nat) : Int)] 3)))))
      have O3 := Lib.hid (HO.out.k3 (k2.trans (K3.below ((Below.refl _ _).alloc (Nat.le_refl _) (.cells #[.int .i64 ((A : Nat) : Int)] 3)))))
      have HSZ := Lib.hid K3'.out.size
      have HFIN := Lib.hid (fun (v2 : Value) w5 (h1 : w5.ownsRow w.heap.size 3 1 v2 ((idxs N s k).length + 1) (cellsI (idxs N s k) ++ [.int .i64 ((A : Nat) : Int)])) (hg : World.grownBy _ w5 _) => show OwnI w5 w.heap.size v2 (idxs N s (k + 1)) ∧ K3 w w5 ∧ PR w0 w5 P L2 from ⟨by rw [HI.out]; exact ownI_grow (es := [A]) h1, K3'.out.grown O3.out hg, P3.out.grown O3.out (HB0.out) hg⟩)
      clear h2 k2
      go_wp2_with (at_builtin; refine wpList_append_own _ rfl (.tmp 15) (.tmp 19) 85 rfl w.heap.size 3 i0 (.int .i64 0) 1 8 Tryd.underlying85 hi0 hz0 hz1 hz2 rfl (by decide) (.slice a8 k c8) (idxs N s k).length (cellsI (idxs N s k)) rfl O3.out ⟨w2.heap.size, 0, none⟩ 1 1 [.int .i64 ((A : Nat) : Int)] rfl rfl (one_new w2 _ 3) (by simp [Value.oneCell']) HMX.out.1 HMX.out.2 HSZ.out ?_; intro v5 w5 h1 h2 h3; obtain ⟨o5, k5, p5⟩ := HFIN.out v5 w5 h1 h2; have O5 := Lib.hid o5; have K5 := Lib.hid k5; have P5 := Lib.hid p5; clear h1 h2 h3 o5 k5 p5)
      refine (CA1.out _ P5.out).mono ?_
      rintro e w6 ⟨rfl, h6, k6⟩
      have P6 := Lib.hid h6
      have K6 := Lib.hid (K5.out.trans k6)
      have O6 := Lib.hid (O5.out.k3 k6)
      clear h6 k6
      go_wp2
      go_roundw
      case rel => exact ⟨k + 1, by omega, by go_num, P6, K6, O6⟩
      case measure => simp [intOf]; omega
    · obtain rfl : k = M := by omega
      have hd : decide (k < k) = false := decide_eq_false (by omega)
      have P0 := Lib.hid (show PR w0 wr P (mixed is f s z E k 0) from by rw [HM0.out]; exact HP.out)
      have KW := Lib.hid (K3.refl wr)
      clear CA CE HRL HRS HAW HM0 HP
      go_wp2
      go_loopw [10, 11, 27] (fun _ _ i w2 => ∃ (q : Nat), q ≤ k ∧ i = .int .i64 ((q : Nat) : Int) ∧ Hid (PR w0 w2 P (mixed is f s z E k q)) ∧ Hid (K3 wr w2)) (fun _ _ i _ => k - (intOf i).toNat)
      case atStart => exact ⟨0, Nat.zero_le _, rfl, P0, KW⟩
      case round =>
        obtain ⟨q, hq, rfl, HP2, HK2⟩ := hrel
        by_cases hql : q < k
        · have hd2 : decide (q < k) = true := decide_eq_true hql
          have hb0 := HMB.out q hql
          have hs5 := HS.out
          have hml := HML.out q (by omega)
          obtain ⟨A, R, hA, hm1, hm2⟩ := HMS.out q hql
          rw [← hA] at hb0
          rw [hm1] at HP2 hml
          have hkl : A.length < (A ++ Rx.iChoice (N + q * (s + 1) + 1) 0 :: R).length := by rw [hml]; omega
          obtain ⟨g, c, ep, q1, hgP, q2, kk1, kk2, p1, p2⟩ := HP2.out.put4 A.length hkl
          rw [get_at A R _ _ rfl] at q2 p1 p2
          have s8 := q2 8 (by decide)
          have s9 := q2 9 (by decide)
          have c8 := s8.1
          have f8 := s8.2
          have c9 := s9.1
          have f9 := s9.2
          simp only [icells, List.getElem?_cons_succ, List.getElem?_cons_zero, Rx.iChoice] at c8 c9
          rw [← hA, show ((A.length + 1 : Nat) : Int) = (A.length : Int) + 1 by omega] at c8
          rw [hml] at q1
          obtain ⟨g9, c9', hv9, hsrc⟩ := (HO.out.k3 HK2.out).src (by intro e; have := congrArg List.length e; rw [idxs_length] at this; simp at this; omega)
          injection hv9 with hv9 hv92 hv93
          subst hv9
          clear hv92 hv93
          have y := hsrc q (.int .i64 ((A.length : Nat) : Int)) (by unfold cellsI idxs; simp [hql, hA])
          rw [add_here] at y
          have hbE : A.length < E := by omega
          have hbI : (A.length : Int) < (E : Int) := by omega
          have hE5 : E ≤ 100000 := hs5
          rw [← hA] at p1 p2
          simp only [Rx.iChoice] at p1 p2
          clear s8 s9 hsrc hb0 hs5 HO
          cases z with
          | false =>
            have HP3 := Lib.hid (p1 E)
            have HK3 := Lib.hid (fun u1 => HK2.out.trans (kk1 u1))
            rw [set_at A R _ _ _ rfl] at HP3
            have HP4 := Lib.hid (fun w' (h : PR w0 w' P (A ++ Rx.iChoice (A.length + 1) E :: R)) => show PR w0 w' P (mixed is f s false E k (q + 1)) from by rw [hm2, ← hA]; exact h)
            skip
            obtain ⟨B, hB⟩ : ∃ B, A.length = B := ⟨_, rfl⟩
            have HBB := Lib.hid hB
            rw [hB] at c8 c9 f8 f9 y hbE hbI HP3 HP4 HK3
            clear q2 p1 p2 kk1 kk2 hm1 hm2 hA hB hkl hml
            go_wp2
            go_roundw
            all_goals first
              | exact ⟨q + 1, by omega, by go_num, Lib.hid (HP4.out _ HP3.out), Lib.hid (HK3.out _)⟩
              | (simp [intOf]; omega)
          | true =>
            have HP3 := Lib.hid (p2 E (A.length + 1))
            have HK3 := Lib.hid (fun u1 u2 u3 => HK2.out.trans (kk2 u1 u2 u3))
            rw [set_at A R _ _ _ rfl] at HP3
            have HP4 := Lib.hid (fun w' (h : PR w0 w' P (A ++ Rx.iChoice E (A.length + 1) :: R)) => show PR w0 w' P (mixed is f s true E k (q + 1)) from by rw [hm2, ← hA]; exact h)
            rw [show ((A.length + 1 : Nat) : Int) = (A.length : Int) + 1 by omega] at HP3
            obtain ⟨B, hB⟩ : ∃ B, A.length = B := ⟨_, rfl⟩
            have HBB := Lib.hid hB
            rw [hB] at c8 c9 f8 f9 y hbE hbI HP3 HP4 HK3
            clear q2 p1 p2 kk1 kk2 hm1 hm2 hA hB hkl hml
            go_wp2
            go_region
            all_goals go_wp2
            all_goals go_roundw
            all_goals first
              | exact ⟨q + 1, by omega, by go_num, Lib.hid (HP4.out _ HP3.out), Lib.hid (HK3.out _ _ _)⟩
              | (simp [intOf]; omega)
        · obtain rfl : q = k := by omega
          have hd2 : decide (q < q) = false := decide_eq_false (by omega)
          have P9 := Lib.hid (show PR w0 _ P TT from by rw [← HMM.out]; exact HP2.out)
          have K9 := Lib.hid (HK.out.trans HK2.out)
          go_wp2
          exact bodyPost_end (results_none rfl _ _ _) rfl ⟨rfl, P9.out, K9.out⟩
end Go.Proofs.YtphighddlfabbaaDoor
namespace Go.Proofs.YtphighddlfabbaaDoor
set_option linter.unusedVariables false
set_option linter.unusedSimpArgs false
open Go.RowKit Go.PlainAid Go.Shelf
open Rx (Set4 RS Instr)
theorem repCode_snoc (f : Nat → List Instr) (s : Nat) : ∀ n b, Rx.repCode f s (n + 1) b = Rx.repCode f s n b ++ f (b + n * s)
  | 0, b => by simp [Rx.repCode]
  | n + 1, b => by
    rw [Rx.repCode, repCode_snoc f s n (b + s), Rx.repCode]
    have : b + s + n * s = b + (n + 1) * s := by rw [Nat.succ_mul]; omega
    rw [this]
    simp
set_option maxHeartbeats 4000000 in
set_option maxRecDepth 100000 in
theorem cnt_plus (w0 : World) (P : Nat) (S : Nat → Prop) (l : Nat) (m : Option Nat) (z : Bool) (t : Rx.Node) (b : Nat) (H0 : IsN w0 S (.count l m true z t) b) (hw : Rx.Wf t) (CK : ∀ i, IsN w0 S t i → AddC w0 P t i)
    (is : List Instr) (w : World) (hs : is.length + Rx.size (.count l m true z t) ≤ 100000) (HP : PR w0 w P is) :
    Calls Tryd.prog 40 #[ptr P, ptr b] w fun e w' => e = .returned (.tuple #[]) ∧ PR w0 w' P (is ++ Rx.code (.count l m true z t) is.length) ∧ K3 w w' := by
  unfold Rx.size at hs
  simp only [if_true] at hs
  have CL := Lib.hid (loop_any w0 P S l m true z t b 6 (by decide) H0 hw CK is w (by omega) HP)
  have hc : Rx.code (.count l m true z t) is.length = iHead 6 z (is.length + Rx.size t + 2) (is.length + 1) (Rx.emptiesOf t) :: (Rx.code t (is.length + 1) ++ [Rx.iAgain z (is.length + Rx.size t + 2) (is.length + 1)]) := by
    conv => lhs; unfold Rx.code
    simp only [if_true]
    rfl
  rw [hc]
  simp only [if_true] at CL
  obtain ⟨T, hT⟩ : ∃ T, is ++ (iHead 6 z (is.length + Rx.size t + 2) (is.length + 1) (Rx.emptiesOf t) :: (Rx.code t (is.length + 1) ++ [Rx.iAgain z (is.length + Rx.size t + 2) (is.length + 1)])) = T := ⟨_, rfl⟩
  rw [hT] at CL ⊢
  unfold IsN at H0
  obtain ⟨hS, em, g, cur, i, hrow, hem, hSg, hg, hcc, hi⟩ := H0
  have hN : NodeAt w b 5 Set4.none 0 0 l (mostI m) true z em (.slice (some ⟨g, 0, none⟩) 1 1) (Rx.states (.count l m true z t)) := ⟨HP.node hrow⟩
  have c9 : w.cell? ⟨b, 9, none⟩ = some (.bool true) := hN.c 9
  have c12 : w.cell? ⟨b, 12, none⟩ = some (.slice (some ⟨g, 0, none⟩) 1 1) := hN.c 12
  have cg : w.cell? ⟨g, 0, none⟩ = some (ptr i) := (cell_of_row _ _ 0 _ _ _ (HP.node hg)).trans hcc
  unfold ptr at CL cg ⊢
  clear hT hc hs hN hrow hem hg hcc hi hS hSg HP CK hw
  go_enter Tryd.func40, Tryd.ntmps40
  go_wp2_with fail
  refine CL.out.mono ?_
  rintro e w2 ⟨rfl, h2⟩
  have P2 := Lib.hid h2
  clear h2
  go_wp2
  exact bodyPost_ret (results_none rfl _ _ _) rfl ⟨rfl, P2.out⟩
set_option maxHeartbeats 4000000 in
set_option maxRecDepth 100000 in
theorem cnt_none_zero (w0 : World) (P : Nat) (S : Nat → Prop) (l : Nat) (z : Bool) (t : Rx.Node) (b : Nat) (H0 : IsN w0 S (.count l none false z t) b) (hw : Rx.Wf t) (hl : l ≤ 1000) (CK : ∀ i, IsN w0 S t i → AddC w0 P t i)
    (is : List Instr) (w : World) (hs : is.length + Rx.size (.count l none false z t) ≤ 100000) (HP : PR w0 w P is) (hst : Rx.states t = 0) :
    Calls Tryd.prog 40 #[ptr P, ptr b] w fun e w' => e = .returned (.tuple #[]) ∧ PR w0 w' P (is ++ Rx.code (.count l none false z t) is.length) ∧ K3 w w' := by
  have hIsN := H0
  unfold Rx.size at hs
  simp only [Bool.false_eq_true, if_false, if_pos hst] at hs
  have hf := Rx.code_length t hw
  obtain ⟨B, hB⟩ : ∃ B, is ++ Rx.repCode (Rx.code t) (Rx.size t) 0 is.length = B := ⟨_, rfl⟩
  have hBl : B.length = is.length + 0 * Rx.size t := by rw [← hB, List.length_append, Rx.repCode_length _ _ hf]
  have hc : is ++ Rx.code (.count l none false z t) is.length = B ++ (iHead 7 z (B.length + Rx.size t + 2) (B.length + 1) [] :: (Rx.code t (B.length + 1) ++ [Rx.iAgain z (B.length + Rx.size t + 2) (B.length + 1)])) := by
    conv => lhs; unfold Rx.code
    simp only [Bool.false_eq_true, if_false, if_pos hst]
    rw [← List.append_assoc, hB, hBl]
    rfl
  unfold IsN at H0
  obtain ⟨hS, em, g, cur, i, hrow, hem, hSg, hg, hcc, hi⟩ := H0
  have H0 := hIsN
  have CT := Lib.hid (fun w (HP : PR w0 w P B) => loop_any w0 P S l none false z t b 7 (by decide) H0 hw CK B w (by rw [hBl]; omega) HP)
  simp only [Bool.false_eq_true, if_false] at CT
  rw [hc]
  obtain ⟨T, hT⟩ : ∃ T, B ++ (iHead 7 z (B.length + Rx.size t + 2) (B.length + 1) [] :: (Rx.code t (B.length + 1) ++ [Rx.iAgain z (B.length + Rx.size t + 2) (B.length + 1)])) = T := ⟨_, rfl⟩
  rw [hT] at CT ⊢
  have HN := Lib.hid (fun w (HP : ∃ is, PR w0 w P is) => show NodeAt w b 5 Set4.none 0 0 l (mostI none) false z em (.slice (some ⟨g, 0, none⟩) 1 1) (Rx.states (.count l none false z t)) from ⟨by obtain ⟨is, HP⟩ := HP; exact HP.node hrow⟩)
  have c9 : w.cell? ⟨b, 9, none⟩ = some (.bool false) := (HN.out w ⟨_, HP⟩).c 9
  have c7 : w.cell? ⟨b, 7, none⟩ = some (.int .i64 ((l : Nat) : Int)) := (HN.out w ⟨_, HP⟩).c 7
  have c12 : w.cell? ⟨b, 12, none⟩ = some (.slice (some ⟨g, 0, none⟩) 1 1) := (HN.out w ⟨_, HP⟩).c 12
  have cg : w.cell? ⟨g, 0, none⟩ = some (ptr i) := (cell_of_row _ _ 0 _ _ _ (HP.node hg)).trans hcc
  have ci : w.cell? ⟨i, 13, none⟩ = some (.int .i64 ((Rx.states t : Nat) : Int)) := by
    obtain ⟨_, k1, k2, k3, k4, k5, k6, k7, k8, k9, k10, hr⟩ := IsN.head t i hi
    rw [cell_of_row _ _ 13 _ _ _ (HP.node hr)]
    rfl
  have HC8 := Lib.hid (fun w HP => show w.cell? ⟨b, 8, none⟩ = some (.int .i64 (mostI none)) from (HN.out w HP).c 8)
  have HC7 := Lib.hid (fun w HP => show w.cell? ⟨b, 7, none⟩ = some (.int .i64 ((l : Nat) : Int)) from (HN.out w HP).c 7)
  have HCA := Lib.hid (fun w HP => show w.cell? ⟨b, 10, none⟩ = some (.bool z) from (HN.out w HP).c 10)
  simp only [mostI] at HC8
  have hst5 := states_le t
  have CA := Lib.hid (CK i hi)
  obtain ⟨st, hstt⟩ : ∃ st, Rx.states t = st := ⟨_, rfl⟩
  rw [hstt] at ci hst hst5
  have hdg : decide ((st : Int) > 0) = false := by simp; omega
  have hdg2 : decide ((0 : Int) < (st : Int)) = false := by simp; omega
  skip
  skip
  skip
  have P1 := Lib.hid (show PR w0 w P B by rw [← hB, Rx.repCode, List.append_nil]; exact HP)
  have K1 := Lib.hid (K3.refl w)
  have d8 := HC8.out w ⟨_, HP⟩
  have da := HCA.out w ⟨_, HP⟩
  unfold ptr at CT cg ⊢
  clear hT hc hs hrow hem hg hcc hi hS hSg HP CK hw hB hBl hIsN H0 hf CA hstt 
  go_enter Tryd.func40, Tryd.ntmps40
  go_wp2_with fail
  refine (CT.out _ P1.out).mono ?_
  rintro e w9 ⟨rfl, h9, k9⟩
  have P9 := Lib.hid (And.intro h9 (K1.out.trans k9))
  clear h9 k9
  go_wp2
  first | exact bodyPost_end (results_none rfl _ _ _) rfl ⟨rfl, P9.out⟩ | exact bodyPost_ret (results_none rfl _ _ _) rfl ⟨rfl, P9.out⟩
set_option maxHeartbeats 4000000 in
set_option maxRecDepth 100000 in
theorem cnt_none_pos (w0 : World) (P : Nat) (S : Nat → Prop) (l : Nat) (z : Bool) (t : Rx.Node) (b : Nat) (H0 : IsN w0 S (.count l none false z t) b) (hw : Rx.Wf t) (hl : l ≤ 1000) (CK : ∀ i, IsN w0 S t i → AddC w0 P t i)
    (is : List Instr) (w : World) (hs : is.length + Rx.size (.count l none false z t) ≤ 100000) (HP : PR w0 w P is) (hst : 0 < Rx.states t) :
    Calls Tryd.prog 40 #[ptr P, ptr b] w fun e w' => e = .returned (.tuple #[]) ∧ PR w0 w' P (is ++ Rx.code (.count l none false z t) is.length) ∧ K3 w w' := by
  have hIsN := H0
  unfold Rx.size at hs
  simp only [Bool.false_eq_true, if_false, if_neg (show ¬ Rx.states t = 0 by omega)] at hs
  have hf := Rx.code_length t hw
  obtain ⟨B, hB⟩ : ∃ B, is ++ Rx.repCode (Rx.code t) (Rx.size t) l is.length = B := ⟨_, rfl⟩
  have hBl : B.length = is.length + l * Rx.size t := by rw [← hB, List.length_append, Rx.repCode_length _ _ hf]
  have hc : is ++ Rx.code (.count l none false z t) is.length = B ++ (iHead 7 z (B.length + Rx.size t + 2) (B.length + 1) [] :: (Rx.code t (B.length + 1) ++ [Rx.iAgain z (B.length + Rx.size t + 2) (B.length + 1)])) := by
    conv => lhs; unfold Rx.code
    simp only [Bool.false_eq_true, if_false, if_neg (show ¬ Rx.states t = 0 by omega)]
    rw [← List.append_assoc, hB, hBl]
    rfl
  unfold IsN at H0
  obtain ⟨hS, em, g, cur, i, hrow, hem, hSg, hg, hcc, hi⟩ := H0
  have H0 := hIsN
  have CT := Lib.hid (fun w (HP : PR w0 w P B) => loop_any w0 P S l none false z t b 7 (by decide) H0 hw CK B w (by rw [hBl]; omega) HP)
  simp only [Bool.false_eq_true, if_false] at CT
  rw [hc]
  obtain ⟨T, hT⟩ : ∃ T, B ++ (iHead 7 z (B.length + Rx.size t + 2) (B.length + 1) [] :: (Rx.code t (B.length + 1) ++ [Rx.iAgain z (B.length + Rx.size t + 2) (B.length + 1)])) = T := ⟨_, rfl⟩
  rw [hT] at CT ⊢
  have HN := Lib.hid (fun w (HP : ∃ is, PR w0 w P is) => show NodeAt w b 5 Set4.none 0 0 l (mostI none) false z em (.slice (some ⟨g, 0, none⟩) 1 1) (Rx.states (.count l none false z t)) from ⟨by obtain ⟨is, HP⟩ := HP; exact HP.node hrow⟩)
  have c9 : w.cell? ⟨b, 9, none⟩ = some (.bool false) := (HN.out w ⟨_, HP⟩).c 9
  have c7 : w.cell? ⟨b, 7, none⟩ = some (.int .i64 ((l : Nat) : Int)) := (HN.out w ⟨_, HP⟩).c 7
  have c12 : w.cell? ⟨b, 12, none⟩ = some (.slice (some ⟨g, 0, none⟩) 1 1) := (HN.out w ⟨_, HP⟩).c 12
  have cg : w.cell? ⟨g, 0, none⟩ = some (ptr i) := (cell_of_row _ _ 0 _ _ _ (HP.node hg)).trans hcc
  have ci : w.cell? ⟨i, 13, none⟩ = some (.int .i64 ((Rx.states t : Nat) : Int)) := by
    obtain ⟨_, k1, k2, k3, k4, k5, k6, k7, k8, k9, k10, hr⟩ := IsN.head t i hi
    rw [cell_of_row _ _ 13 _ _ _ (HP.node hr)]
    rfl
  have HC8 := Lib.hid (fun w HP => show w.cell? ⟨b, 8, none⟩ = some (.int .i64 (mostI none)) from (HN.out w HP).c 8)
  have HC7 := Lib.hid (fun w HP => show w.cell? ⟨b, 7, none⟩ = some (.int .i64 ((l : Nat) : Int)) from (HN.out w HP).c 7)
  have HCA := Lib.hid (fun w HP => show w.cell? ⟨b, 10, none⟩ = some (.bool z) from (HN.out w HP).c 10)
  simp only [mostI] at HC8
  have hst5 := states_le t
  have CA := Lib.hid (CK i hi)
  obtain ⟨st, hstt⟩ : ∃ st, Rx.states t = st := ⟨_, rfl⟩
  rw [hstt] at ci hst hst5
  have hdg : decide ((st : Int) > 0) = true := by simp; omega
  have hdg2 : decide ((0 : Int) < (st : Int)) = true := by simp; omega
  skip
  skip
  skip
  have HS := Lib.hid (fun k (hk : k < l) => show is.length + k * Rx.size t + Rx.size t ≤ 100000 from by
    have := Nat.mul_le_mul_right (Rx.size t) (show k + 1 ≤ l from hk)
    rw [Nat.succ_mul] at this
    omega)
  have HRL := Lib.hid (fun k => show (is ++ Rx.repCode (Rx.code t) (Rx.size t) k is.length).length = is.length + k * Rx.size t by rw [List.length_append, Rx.repCode_length _ _ hf])
  have HRS := Lib.hid (fun k => show is ++ Rx.repCode (Rx.code t) (Rx.size t) (k + 1) is.length = (is ++ Rx.repCode (Rx.code t) (Rx.size t) k is.length) ++ Rx.code t (is.length + k * Rx.size t) by rw [repCode_snoc]; simp)
  have HB := Lib.hid hB
  have P0 := Lib.hid (show PR w0 w P (is ++ Rx.repCode (Rx.code t) (Rx.size t) 0 is.length) by rw [Rx.repCode, List.append_nil]; exact HP)
  have CA2 := Lib.hid (show ∀ k w, k < l → PR w0 w P (is ++ Rx.repCode (Rx.code t) (Rx.size t) k is.length) → Calls Tryd.prog 32 #[.pointer (some ⟨P, 0, none⟩), .pointer (some ⟨i, 0, none⟩)] w fun e w' => e = .returned (.tuple #[]) ∧ PR w0 w' P (is ++ Rx.repCode (Rx.code t) (Rx.size t) (k + 1) is.length) ∧ K3 w w' from fun k w hk HP => by
    have := CA.out _ w (by rw [HRL.out k]; exact HS.out k hk) HP
    rw [HRL.out k, ← HRS.out k] at this
    exact this)
  unfold ptr at CT cg ⊢
  clear hT hc hs hrow hem hg hcc hi hS hSg HP CK hw hB hBl hIsN H0 hf CA hstt HRS HRL HS 
  go_enter Tryd.func40, Tryd.ntmps40
  go_wp2
  go_loopw [29] (fun i wr => ∃ (k : Nat), k ≤ l ∧ i = .int .i64 ((k : Nat) : Int) ∧ Hid (PR w0 wr P (is ++ Rx.repCode (Rx.code t) (Rx.size t) k is.length)) ∧ Hid (K3 w wr)) (fun i _ => l - (intOf i).toNat)
  case atStart => exact ⟨0, Nat.zero_le _, rfl, P0, Lib.hid (K3.refl w)⟩
  case round =>
    obtain ⟨k, hk, rfl, HP, HK⟩ := hrel
    by_cases hlt : k < l
    · have hd : decide (k < l) = true := decide_eq_true hlt
      have CA3 := Lib.hid (CA2.out k _ hlt HP.out)
      go_wp2_with fail
      refine CA3.out.mono ?_
      rintro e w6 ⟨rfl, h6, k6⟩
      have P6 := Lib.hid h6
      have K6 := Lib.hid (HK.out.trans k6)
      clear h6 k6
      go_wp2
      go_roundw
      case rel => exact ⟨k + 1, by omega, by go_num, P6, K6⟩
      case measure => simp [intOf]; omega
    · obtain rfl : k = l := by omega
      have hd : decide (k < k) = false := decide_eq_false (by omega)
      have P1 := Lib.hid HP.out
      rw [HB.out] at P1
      have d8 := HC8.out _ ⟨_, P1.out⟩
      have da := HCA.out _ ⟨_, P1.out⟩
      have d7 := HC7.out _ ⟨_, P1.out⟩
      go_wp2_with fail
      refine (CT.out _ P1.out).mono ?_
      rintro e w9 ⟨rfl, h9, k9⟩
      have P9 := Lib.hid (And.intro h9 (HK.out.trans k9))
      clear h9 k9
      go_wp2
      first | exact bodyPost_end (results_none rfl _ _ _) rfl ⟨rfl, P9.out⟩ | exact bodyPost_ret (results_none rfl _ _ _) rfl ⟨rfl, P9.out⟩
set_option maxHeartbeats 4000000 in
set_option maxRecDepth 100000 in
theorem cnt_some_zero (w0 : World) (P : Nat) (S : Nat → Prop) (l : Nat) (m : Nat) (hlm : l ≤ m) (hm : m ≤ 1000) (z : Bool) (t : Rx.Node) (b : Nat) (H0 : IsN w0 S (.count l (some m) false z t) b) (hw : Rx.Wf t) (hl : l ≤ 1000) (CK : ∀ i, IsN w0 S t i → AddC w0 P t i)
    (is : List Instr) (w : World) (hs : is.length + Rx.size (.count l (some m) false z t) ≤ 100000) (HP : PR w0 w P is) (hst : Rx.states t = 0) :
    Calls Tryd.prog 40 #[ptr P, ptr b] w fun e w' => e = .returned (.tuple #[]) ∧ PR w0 w' P (is ++ Rx.code (.count l (some m) false z t) is.length) ∧ K3 w w' := by
  have hIsN := H0
  unfold Rx.size at hs
  simp only [Bool.false_eq_true, if_false, if_pos hst] at hs
  have hf := Rx.code_length t hw
  obtain ⟨B, hB⟩ : ∃ B, is ++ Rx.repCode (Rx.code t) (Rx.size t) 0 is.length = B := ⟨_, rfl⟩
  have hBl : B.length = is.length + 0 * Rx.size t := by rw [← hB, List.length_append, Rx.repCode_length _ _ hf]
  have hc : is ++ Rx.code (.count l (some m) false z t) is.length = B ++ (Rx.optCode (Rx.code t) (Rx.size t) z (B.length + (m - l) * (Rx.size t + 1)) (m - l) B.length) := by
    conv => lhs; unfold Rx.code
    simp only [Bool.false_eq_true, if_false, if_pos hst]
    rw [← List.append_assoc, hB, hBl]
    skip
  unfold IsN at H0
  obtain ⟨hS, em, g, cur, i, hrow, hem, hSg, hg, hcc, hi⟩ := H0
  have H0 := hIsN
  have CT := Lib.hid (fun w (HP : PR w0 w P B) => opt_any w0 P S t i (m - l) z hw (CK i hi) B w (by rw [hBl]; omega) HP)
  skip
  rw [hc]
  obtain ⟨T, hT⟩ : ∃ T, B ++ (Rx.optCode (Rx.code t) (Rx.size t) z (B.length + (m - l) * (Rx.size t + 1)) (m - l) B.length) = T := ⟨_, rfl⟩
  rw [hT] at CT ⊢
  have HN := Lib.hid (fun w (HP : ∃ is, PR w0 w P is) => show NodeAt w b 5 Set4.none 0 0 l (mostI (some m)) false z em (.slice (some ⟨g, 0, none⟩) 1 1) (Rx.states (.count l (some m) false z t)) from ⟨by obtain ⟨is, HP⟩ := HP; exact HP.node hrow⟩)
  have c9 : w.cell? ⟨b, 9, none⟩ = some (.bool false) := (HN.out w ⟨_, HP⟩).c 9
  have c7 : w.cell? ⟨b, 7, none⟩ = some (.int .i64 ((l : Nat) : Int)) := (HN.out w ⟨_, HP⟩).c 7
  have c12 : w.cell? ⟨b, 12, none⟩ = some (.slice (some ⟨g, 0, none⟩) 1 1) := (HN.out w ⟨_, HP⟩).c 12
  have cg : w.cell? ⟨g, 0, none⟩ = some (ptr i) := (cell_of_row _ _ 0 _ _ _ (HP.node hg)).trans hcc
  have ci : w.cell? ⟨i, 13, none⟩ = some (.int .i64 ((Rx.states t : Nat) : Int)) := by
    obtain ⟨_, k1, k2, k3, k4, k5, k6, k7, k8, k9, k10, hr⟩ := IsN.head t i hi
    rw [cell_of_row _ _ 13 _ _ _ (HP.node hr)]
    rfl
  have HC8 := Lib.hid (fun w HP => show w.cell? ⟨b, 8, none⟩ = some (.int .i64 (mostI (some m))) from (HN.out w HP).c 8)
  have HC7 := Lib.hid (fun w HP => show w.cell? ⟨b, 7, none⟩ = some (.int .i64 ((l : Nat) : Int)) from (HN.out w HP).c 7)
  have HCA := Lib.hid (fun w HP => show w.cell? ⟨b, 10, none⟩ = some (.bool z) from (HN.out w HP).c 10)
  simp only [mostI] at HC8
  have hst5 := states_le t
  have CA := Lib.hid (CK i hi)
  obtain ⟨st, hstt⟩ : ∃ st, Rx.states t = st := ⟨_, rfl⟩
  rw [hstt] at ci hst hst5
  have hdg : decide ((st : Int) > 0) = false := by simp; omega
  have hdg2 : decide ((0 : Int) < (st : Int)) = false := by simp; omega
  have hsub : ((m : Int) - (l : Int)) = ((m - l : Nat) : Int) := by omega
  have hne1 : (((m : Nat) : Int) == -1) = false := by first | (simp; done) | (simp; omega)
  rw [← hsub] at CT
  have P1 := Lib.hid (show PR w0 w P B by rw [← hB, Rx.repCode, List.append_nil]; exact HP)
  have K1 := Lib.hid (K3.refl w)
  have d8 := HC8.out w ⟨_, HP⟩
  have da := HCA.out w ⟨_, HP⟩
  unfold ptr at CT cg ⊢
  clear hT hc hs hrow hem hg hcc hi hS hSg HP CK hw hB hBl hIsN H0 hf CA hstt hsub
  go_enter Tryd.func40, Tryd.ntmps40
  go_upto_region 10 with (fail)
  go_still_tail 18, (by kernel_rfl)
  change wpList _ _ _ _ _ (World.drew _)
  have PD := Lib.hid P1.out.drew
  have KD := Lib.hid (K1.out.trans (show K3 w (World.drew w) from ⟨Nat.le_refl _, fun _ _ h => h⟩))
  generalize World.drew w = wd at PD KD ⊢
  go_wp2_with fail
  refine (CT.out _ PD.out).mono ?_
  rintro e w9 ⟨rfl, h9, k9⟩
  have P9 := Lib.hid (And.intro h9 (KD.out.trans k9))
  clear h9 k9
  go_wp2
  first | exact bodyPost_end (results_none rfl _ _ _) rfl ⟨rfl, P9.out⟩ | exact bodyPost_ret (results_none rfl _ _ _) rfl ⟨rfl, P9.out⟩
set_option maxHeartbeats 4000000 in
set_option maxRecDepth 100000 in
theorem cnt_some_pos (w0 : World) (P : Nat) (S : Nat → Prop) (l : Nat) (m : Nat) (hlm : l ≤ m) (hm : m ≤ 1000) (z : Bool) (t : Rx.Node) (b : Nat) (H0 : IsN w0 S (.count l (some m) false z t) b) (hw : Rx.Wf t) (hl : l ≤ 1000) (CK : ∀ i, IsN w0 S t i → AddC w0 P t i)
    (is : List Instr) (w : World) (hs : is.length + Rx.size (.count l (some m) false z t) ≤ 100000) (HP : PR w0 w P is) (hst : 0 < Rx.states t) :
    Calls Tryd.prog 40 #[ptr P, ptr b] w fun e w' => e = .returned (.tuple #[]) ∧ PR w0 w' P (is ++ Rx.code (.count l (some m) false z t) is.length) ∧ K3 w w' := by
  have hIsN := H0
  unfold Rx.size at hs
  simp only [Bool.false_eq_true, if_false, if_neg (show ¬ Rx.states t = 0 by omega)] at hs
  have hf := Rx.code_length t hw
  obtain ⟨B, hB⟩ : ∃ B, is ++ Rx.repCode (Rx.code t) (Rx.size t) l is.length = B := ⟨_, rfl⟩
  have hBl : B.length = is.length + l * Rx.size t := by rw [← hB, List.length_append, Rx.repCode_length _ _ hf]
  have hc : is ++ Rx.code (.count l (some m) false z t) is.length = B ++ (Rx.optCode (Rx.code t) (Rx.size t) z (B.length + (m - l) * (Rx.size t + 1)) (m - l) B.length) := by
    conv => lhs; unfold Rx.code
    simp only [Bool.false_eq_true, if_false, if_neg (show ¬ Rx.states t = 0 by omega)]
    rw [← List.append_assoc, hB, hBl]
    skip
  unfold IsN at H0
  obtain ⟨hS, em, g, cur, i, hrow, hem, hSg, hg, hcc, hi⟩ := H0
  have H0 := hIsN
  have CT := Lib.hid (fun w (HP : PR w0 w P B) => opt_any w0 P S t i (m - l) z hw (CK i hi) B w (by rw [hBl]; omega) HP)
  skip
  rw [hc]
  obtain ⟨T, hT⟩ : ∃ T, B ++ (Rx.optCode (Rx.code t) (Rx.size t) z (B.length + (m - l) * (Rx.size t + 1)) (m - l) B.length) = T := ⟨_, rfl⟩
  rw [hT] at CT ⊢
  have HN := Lib.hid (fun w (HP : ∃ is, PR w0 w P is) => show NodeAt w b 5 Set4.none 0 0 l (mostI (some m)) false z em (.slice (some ⟨g, 0, none⟩) 1 1) (Rx.states (.count l (some m) false z t)) from ⟨by obtain ⟨is, HP⟩ := HP; exact HP.node hrow⟩)
  have c9 : w.cell? ⟨b, 9, none⟩ = some (.bool false) := (HN.out w ⟨_, HP⟩).c 9
  have c7 : w.cell? ⟨b, 7, none⟩ = some (.int .i64 ((l : Nat) : Int)) := (HN.out w ⟨_, HP⟩).c 7
  have c12 : w.cell? ⟨b, 12, none⟩ = some (.slice (some ⟨g, 0, none⟩) 1 1) := (HN.out w ⟨_, HP⟩).c 12
  have cg : w.cell? ⟨g, 0, none⟩ = some (ptr i) := (cell_of_row _ _ 0 _ _ _ (HP.node hg)).trans hcc
  have ci : w.cell? ⟨i, 13, none⟩ = some (.int .i64 ((Rx.states t : Nat) : Int)) := by
    obtain ⟨_, k1, k2, k3, k4, k5, k6, k7, k8, k9, k10, hr⟩ := IsN.head t i hi
    rw [cell_of_row _ _ 13 _ _ _ (HP.node hr)]
    rfl
  have HC8 := Lib.hid (fun w HP => show w.cell? ⟨b, 8, none⟩ = some (.int .i64 (mostI (some m))) from (HN.out w HP).c 8)
  have HC7 := Lib.hid (fun w HP => show w.cell? ⟨b, 7, none⟩ = some (.int .i64 ((l : Nat) : Int)) from (HN.out w HP).c 7)
  have HCA := Lib.hid (fun w HP => show w.cell? ⟨b, 10, none⟩ = some (.bool z) from (HN.out w HP).c 10)
  simp only [mostI] at HC8
  have hst5 := states_le t
  have CA := Lib.hid (CK i hi)
  obtain ⟨st, hstt⟩ : ∃ st, Rx.states t = st := ⟨_, rfl⟩
  rw [hstt] at ci hst hst5
  have hdg : decide ((st : Int) > 0) = true := by simp; omega
  have hdg2 : decide ((0 : Int) < (st : Int)) = true := by simp; omega
  have hsub : ((m : Int) - (l : Int)) = ((m - l : Nat) : Int) := by omega
  have hne1 : (((m : Nat) : Int) == -1) = false := by first | (simp; done) | (simp; omega)
  rw [← hsub] at CT
  have HS := Lib.hid (fun k (hk : k < l) => show is.length + k * Rx.size t + Rx.size t ≤ 100000 from by
    have := Nat.mul_le_mul_right (Rx.size t) (show k + 1 ≤ l from hk)
    rw [Nat.succ_mul] at this
    omega)
  have HRL := Lib.hid (fun k => show (is ++ Rx.repCode (Rx.code t) (Rx.size t) k is.length).length = is.length + k * Rx.size t by rw [List.length_append, Rx.repCode_length _ _ hf])
  have HRS := Lib.hid (fun k => show is ++ Rx.repCode (Rx.code t) (Rx.size t) (k + 1) is.length = (is ++ Rx.repCode (Rx.code t) (Rx.size t) k is.length) ++ Rx.code t (is.length + k * Rx.size t) by rw [repCode_snoc]; simp)
  have HB := Lib.hid hB
  have P0 := Lib.hid (show PR w0 w P (is ++ Rx.repCode (Rx.code t) (Rx.size t) 0 is.length) by rw [Rx.repCode, List.append_nil]; exact HP)
  have CA2 := Lib.hid (show ∀ k w, k < l → PR w0 w P (is ++ Rx.repCode (Rx.code t) (Rx.size t) k is.length) → Calls Tryd.prog 32 #[.pointer (some ⟨P, 0, none⟩), .pointer (some ⟨i, 0, none⟩)] w fun e w' => e = .returned (.tuple #[]) ∧ PR w0 w' P (is ++ Rx.repCode (Rx.code t) (Rx.size t) (k + 1) is.length) ∧ K3 w w' from fun k w hk HP => by
    have := CA.out _ w (by rw [HRL.out k]; exact HS.out k hk) HP
    rw [HRL.out k, ← HRS.out k] at this
    exact this)
  unfold ptr at CT cg ⊢
  clear hT hc hs hrow hem hg hcc hi hS hSg HP CK hw hB hBl hIsN H0 hf CA hstt HRS HRL HS hsub
  go_enter Tryd.func40, Tryd.ntmps40
  go_wp2
  go_loopw [29] (fun i wr => ∃ (k : Nat), k ≤ l ∧ i = .int .i64 ((k : Nat) : Int) ∧ Hid (PR w0 wr P (is ++ Rx.repCode (Rx.code t) (Rx.size t) k is.length)) ∧ Hid (K3 w wr)) (fun i _ => l - (intOf i).toNat)
  case atStart => exact ⟨0, Nat.zero_le _, rfl, P0, Lib.hid (K3.refl w)⟩
  case round =>
    obtain ⟨k, hk, rfl, HP, HK⟩ := hrel
    by_cases hlt : k < l
    · have hd : decide (k < l) = true := decide_eq_true hlt
      have CA3 := Lib.hid (CA2.out k _ hlt HP.out)
      go_wp2_with fail
      refine CA3.out.mono ?_
      rintro e w6 ⟨rfl, h6, k6⟩
      have P6 := Lib.hid h6
      have K6 := Lib.hid (HK.out.trans k6)
      clear h6 k6
      go_wp2
      go_roundw
      case rel => exact ⟨k + 1, by omega, by go_num, P6, K6⟩
      case measure => simp [intOf]; omega
    · obtain rfl : k = l := by omega
      have hd : decide (k < k) = false := decide_eq_false (by omega)
      have P1 := Lib.hid HP.out
      rw [HB.out] at P1
      have d8 := HC8.out _ ⟨_, P1.out⟩
      have da := HCA.out _ ⟨_, P1.out⟩
      have d7 := HC7.out _ ⟨_, P1.out⟩
      go_upto_region 10 with (fail)
      go_still_tail 18, (by kernel_rfl)
      change wpList _ _ _ _ _ (World.drew _)
      have PD := Lib.hid P1.out.drew
      have KD := Lib.hid (HK.out.trans (show K3 wr (World.drew wr) from ⟨Nat.le_refl _, fun _ _ h => h⟩))
      generalize World.drew wr = wd at PD KD ⊢
      go_wp2_with fail
      refine (CT.out _ PD.out).mono ?_
      rintro e w9 ⟨rfl, h9, k9⟩
      have P9 := Lib.hid (And.intro h9 (KD.out.trans k9))
      clear h9 k9
      go_wp2
      first | exact bodyPost_end (results_none rfl _ _ _) rfl ⟨rfl, P9.out⟩ | exact bodyPost_ret (results_none rfl _ _ _) rfl ⟨rfl, P9.out⟩
theorem cnt_any (w0 : World) (P : Nat) (S : Nat → Prop) (l : Nat) (m : Option Nat) (p z : Bool) (t : Rx.Node) (b : Nat) (H0 : IsN w0 S (.count l m p z t) b) (hw : Rx.Wf t) (hl : l ≤ 1000) (hm : ∀ M, m = some M → l ≤ M ∧ M ≤ 1000) (CK : ∀ i, IsN w0 S t i → AddC w0 P t i)
    (is : List Instr) (w : World) (hs : is.length + Rx.size (.count l m p z t) ≤ 100000) (HP : PR w0 w P is) :
    Calls Tryd.prog 40 #[ptr P, ptr b] w fun e w' => e = .returned (.tuple #[]) ∧ PR w0 w' P (is ++ Rx.code (.count l m p z t) is.length) ∧ K3 w w' := by
  cases p with
  | true => exact cnt_plus w0 P S l m z t b H0 hw CK is w hs HP
  | false =>
    rcases Nat.eq_zero_or_pos (Rx.states t) with hst | hst
    · cases m with
      | none => exact cnt_none_zero w0 P S l z t b H0 hw hl CK is w hs HP hst
      | some M => exact cnt_some_zero w0 P S l M (hm M rfl).1 (hm M rfl).2 z t b H0 hw hl CK is w hs HP hst
    · cases m with
      | none => exact cnt_none_pos w0 P S l z t b H0 hw hl CK is w hs HP hst
      | some M => exact cnt_some_pos w0 P S l M (hm M rfl).1 (hm M rfl).2 z t b H0 hw hl CK is w hs HP hst
end Go.Proofs.YtphighddlfabbaaDoor
namespace Go.Proofs.YtphighddlfabbaaDoor
set_option linter.unusedVariables false
set_option linter.unusedSimpArgs false
open Go.RowKit Go.PlainAid Go.Shelf
open Rx (Set4 RS Instr)
/-- branches of which q have their jumps turned to E -/
def mixAlt (E : Nat) : Nat → List Rx.Node → Nat → List Instr
  | _, [], _ => []
  | q, t :: ts, b => Rx.iChoice (b + 1) (b + 1 + Rx.size t + 1) :: (Rx.code t (b + 1) ++ (Rx.iJump (if q = 0 then b + 1 + Rx.size t + 1 else E) :: mixAlt E (q - 1) ts (b + 1 + Rx.size t + 1)))
/-- where the jumps stand -/
def jidx : List Rx.Node → Nat → List Nat
  | [], _ => []
  | t :: ts, b => (b + 1 + Rx.size t) :: jidx ts (b + 1 + Rx.size t + 1)
def altLen (ks : List Rx.Node) : Nat := Rx.sizeAll ks + 2 * ks.length
theorem altLen_cons (t : Rx.Node) (ts : List Rx.Node) : altLen (t :: ts) = Rx.size t + 2 + altLen ts := by unfold altLen; rw [Rx.sizeAll]; simp; omega
theorem jidx_length : ∀ ks b, (jidx ks b).length = ks.length
  | [], _ => rfl
  | t :: ts, b => by rw [jidx, List.length_cons, jidx_length ts, List.length_cons]
theorem mixAlt_snoc (E : Nat) : ∀ ks b t, mixAlt E 0 (ks ++ [t]) b = mixAlt E 0 ks b ++ (Rx.iChoice (b + altLen ks + 1) (b + altLen ks + 1 + Rx.size t + 1) :: (Rx.code t (b + altLen ks + 1) ++ [Rx.iJump (b + altLen ks + 1 + Rx.size t + 1)]))
  | [], b, t => by simp [mixAlt, altLen, Rx.sizeAll]
  | u :: us, b, t => by
    rw [List.cons_append, mixAlt, mixAlt_snoc E us, mixAlt, altLen_cons]
    rw [show b + 1 + Rx.size u + 1 + altLen us = b + (Rx.size u + 2 + altLen us) by omega]
    simp
theorem jidx_snoc : ∀ ks b t, jidx (ks ++ [t]) b = jidx ks b ++ [b + altLen ks + 1 + Rx.size t]
  | [], b, t => by simp [jidx, altLen, Rx.sizeAll]
  | u :: us, b, t => by
    rw [List.cons_append, jidx, jidx_snoc us, jidx, altLen_cons]
    rw [show b + 1 + Rx.size u + 1 + altLen us = b + (Rx.size u + 2 + altLen us) by omega]
    simp
theorem mixAlt_length (E : Nat) : ∀ q ks b, Rx.WfAll ks → (mixAlt E q ks b).length = altLen ks
  | q, [], b, _ => by simp [mixAlt, altLen, Rx.sizeAll]
  | q, t :: ts, b, h => by
    unfold Rx.WfAll at h
    rw [mixAlt, List.length_cons, List.length_append, List.length_cons, mixAlt_length E (q - 1) ts _ h.2, Rx.code_length t h.1, altLen_cons]
    omega
theorem mixAlt_step (E : Nat) : ∀ q ks b, Rx.WfAll ks → q < ks.length → ∃ A R j, (jidx ks b)[q]? = some j ∧ b + A.length = j ∧ j + 1 ≤ b + altLen ks ∧ mixAlt E q ks b = A ++ Rx.iJump (j + 1) :: R ∧ mixAlt E (q + 1) ks b = A ++ Rx.iJump E :: R
  | q, [], b, _, hq => by simp at hq
  | 0, t :: ts, b, h, hq => by
    unfold Rx.WfAll at h
    refine ⟨Rx.iChoice (b + 1) (b + 1 + Rx.size t + 1) :: Rx.code t (b + 1), mixAlt E 0 ts (b + 1 + Rx.size t + 1), b + 1 + Rx.size t, by simp [jidx], ?_, ?_, ?_, ?_⟩
    · rw [List.length_cons, Rx.code_length t h.1]; omega
    · rw [altLen_cons]; omega
    · rw [mixAlt]; simp
    · rw [mixAlt]; simp
  | q + 1, t :: ts, b, h, hq => by
    unfold Rx.WfAll at h
    obtain ⟨A, R, j, h1, h2, h3, h4, h5⟩ := mixAlt_step E q ts (b + 1 + Rx.size t + 1) h.2 (by simpa using hq)
    refine ⟨Rx.iChoice (b + 1) (b + 1 + Rx.size t + 1) :: (Rx.code t (b + 1) ++ (Rx.iJump E :: A)), R, j, by rw [jidx]; simpa using h1, ?_, ?_, ?_, ?_⟩
    · rw [List.length_cons, List.length_append, List.length_cons, Rx.code_length t h.1]; omega
    · rw [altLen_cons]; omega
    · rw [mixAlt]; simp [h4]
    · rw [mixAlt]; simp [h5]
theorem mixAlt_code (E : Nat) : ∀ (ks : List Rx.Node) (t : Rx.Node) (b q : Nat), ks.length ≤ q → mixAlt E q ks b ++ Rx.code t (b + altLen ks) = Rx.codeAlt (ks ++ [t]) b E
  | [], t, b, q, _ => by
    simp only [mixAlt, List.nil_append, altLen, Rx.sizeAll, List.length_nil, Nat.mul_zero, Nat.add_zero]
    conv => rhs; unfold Rx.codeAlt
  | u :: us, t, b, q, hq => by
    simp only [List.length_cons] at hq
    have hne : us ++ [t] ≠ [] := by simp
    obtain ⟨x, xs, hx⟩ := List.exists_cons_of_ne_nil hne
    have ih := mixAlt_code E us t (b + 1 + Rx.size u + 1) (q - 1) (by omega)
    show _ = Rx.codeAlt (u :: (us ++ [t])) b E
    rw [mixAlt, altLen_cons, hx, show b + (Rx.size u + 2 + altLen us) = b + 1 + Rx.size u + 1 + altLen us by omega]
    conv => rhs; unfold Rx.codeAlt
    rw [hx] at ih
    rw [← ih, if_neg (by omega)]
    simp
/-- one number of a step turned, behind a draw -/
theorem PR.put5 {w0 w : World} {P : Nat} {is : List Instr} (h : PR w0 w P is) (k : Nat) (hk : k < is.length) : ∃ g c ep, w.cell? ⟨P, 0, none⟩ = some (.slice (some ⟨g, 0, none⟩) is.length c) ∧ g ≠ P ∧
    (∀ j, j < 11 → w.cell? ⟨g, k * 11 + j, none⟩ = (icells is[k] ep)[j]? ∧ w.frozen? ⟨g, k * 11 + j, none⟩ = false) ∧
    (∀ j u, K3 w (w.drew.setCell ⟨g, k * 11 + j, none⟩ u)) ∧
    (∀ E : Nat, PR w0 (w.drew.setCell ⟨g, k * 11 + 9, none⟩ (.int .i64 ((E : Nat) : Int))) P (is.set k { is[k] with other := E })) ∧
    ∀ E : Nat, PR w0 (w.drew.setCell ⟨g, k * 11 + 8, none⟩ (.int .i64 ((E : Nat) : Int))) P (is.set k { is[k] with next := E }) := by
  obtain ⟨v, h⟩ := h
  have hP := h.cell
  have hd := h.move (w' := w.drew) ⟨rfl, rfl, rfl, Nat.le_refl _, fun _ _ => rfl⟩
  obtain ⟨g, c, ep, rfl, ⟨cur, hcur⟩, h1, h2, _⟩ := h.put k hk
  obtain ⟨g', c', _, hv, _, _, _, h3⟩ := hd.put k hk
  injection hv with hv _ _
  injection hv with hv
  injection hv with hv
  subst hv
  refine ⟨g, c, ep, h1, (by intro e; subst e; rw [hP] at hcur; cases hcur), h2, fun j u => ⟨by rw [size_setCell]; exact Nat.le_refl _, fun b cs hb => ?_⟩, fun E => ⟨_, h3 9 E { is[k] with other := E } (by decide) (fun ep => rfl) rfl⟩, fun E => ⟨_, h3 8 E { is[k] with next := E } (by decide) (fun ep => rfl) rfl⟩⟩
  have hne : b ≠ g := by intro e; subst e; rw [hb] at hcur; cases hcur
  rw [heap_setCell_other _ _ _ _ (by first | exact hne | exact fun e => hne e.symm)]
  exact hb
end Go.Proofs.YtphighddlfabbaaDoor
