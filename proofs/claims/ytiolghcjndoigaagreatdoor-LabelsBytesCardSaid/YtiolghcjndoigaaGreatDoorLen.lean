/-
  WALKS of what the statements lend, look at again, and write over.
-/
import Derived.Test.YtiolghcjndoigaaGreatDoorRde
import Derived.Test.YtiolghcjndoigaaGreatDoorRen
import Derived.Test.YtiolghcjndoigaaGreatDoorBcp
import Derived.Deep.DeepAppendRoom
import Derived.Deep.DeepMust
import Derived.Laws.DeepNot64
import Derived.Defers
namespace Go.Proofs.YtiolghcjndoigaaGreatDoor
set_option linter.unusedVariables false
set_option linter.unusedSimpArgs false
open Go.RowKit
/-- a slice's address leads to these bytes -/
def Bys (w : World) (a : Option Addr) (bs : List Nat) : Prop :=
  bs.length ≤ maxLen ∧ (∀ c ∈ bs, c < 256) ∧ (bs ≠ [] → ∃ b off, a = some ⟨b, off, none⟩ ∧ b < w.heap.size ∧ ∀ i (h : i < bs.length), w.cell? ⟨b, off + i, none⟩ = some (.int .u8 ((bs[i] : Nat) : Int)))
theorem Bys.below {w w' : World} {a : Option Addr} {bs : List Nat} (h : Bys w a bs) (hb : Below w.heap.size w w') : Bys w' a bs := by
  obtain ⟨h1, h2, h3⟩ := h
  refine ⟨h1, h2, fun hn => ?_⟩
  obtain ⟨b, off, ha, hlt, hc⟩ := h3 hn
  exact ⟨b, off, ha, Nat.lt_of_lt_of_le hlt hb.size, fun i hi => (hb.cell (p := ⟨b, off + i, none⟩) hlt).trans (hc i hi)⟩
theorem Bys.at {w : World} {a : Option Addr} {bs : List Nat} (h : Bys w a bs) (k : Nat) (hk : k < bs.length) :
    ∃ b off, a = some ⟨b, off, none⟩ ∧ b < w.heap.size ∧ w.cell? ⟨b, off + k, none⟩ = some (.int .u8 ((bs[k] : Nat) : Int)) := by
  obtain ⟨b, off, e, hb, hc⟩ := h.2.2 (by intro h0; rw [h0] at hk; simp at hk)
  exact ⟨b, off, e, hb, hc k hk⟩
theorem Bys.cells {w : World} {ad : Addr} {bs : List Nat} (h : Bys w (some ad) bs) : ∀ j u, (cellsOf bs)[j]? = some u → w.cell? (ad.add j) = some u := by
  intro j u hu
  have hj : j < bs.length := by
    have := (List.getElem?_eq_some_iff.1 hu).1
    rwa [cellsOf_length] at this
  obtain ⟨b, off, e, _, hc⟩ := h.at j hj
  cases e
  rw [add_at, hc]
  rw [cellsOf_get bs j hj] at hu
  exact hu
theorem Bys.nil (w : World) (a : Option Addr) : Bys w a [] := ⟨by simp, by simp, fun h => absurd rfl h⟩
theorem samebytes_any (a a2 : Option Addr) (bs : List Nat) (cap cap2 : Nat) (w : World) (H : Bys w a bs) (H2 : Bys w a2 bs) :
    Calls Tryz.prog 47 #[.slice a bs.length cap, .slice a2 bs.length cap2] w fun e w' => e = .returned (.bool true) ∧ Below w.heap.size w w' := by
  have hlen := H.1
  unfold maxLen at hlen
  have A1 := Lib.hid H
  have A2 := Lib.hid H2
  clear H H2
  go_enter Tryz.func47, Tryz.ntmps47
  go_wp2
  go_loopw [5] (fun i wr => ∃ k : Nat, k ≤ bs.length ∧ i = .int .i64 k ∧ Hid (Below w.heap.size w wr)) (fun i _ => bs.length - (intOf i).toNat)
  case atStart => exact ⟨0, Nat.zero_le _, rfl, Lib.hid (Below.refl _ _)⟩
  case round =>
    obtain ⟨k, hk, rfl, HB⟩ := hrel
    by_cases hlt : k < bs.length
    · obtain ⟨b, off, rfl, hb, hc⟩ := (A1.out.below HB.out).at k hlt
      obtain ⟨b2, off2, rfl, hb2, hc2⟩ := (A2.out.below HB.out).at k hlt
      generalize bs[k] = c at *
      have hi : (k : Int) < (bs.length : Int) := by omega
      have hd : decide ((k : Int) < (bs.length : Int)) = true := by simp; omega
      go_wp2
      go_quiet (fail)
      go_wp2
      go_roundw
      case rel => exact ⟨k + 1, by omega, by go_num, Lib.hid ((Only.of_below HB.out []).drewN _ |>.below (Nat.le_refl _) (by simp))⟩
      case measure => simp [intOf]; omega
    · obtain rfl : k = bs.length := by omega
      go_wp2
      go_ret
      exact ⟨rfl, HB.out⟩
theorem grown_below {B : Nat} {w0 w w' : World} {g : Nat} (h : Below B w0 w) (hg : w.grownBy w' (some g)) (hB : B ≤ w.heap.size) (hr : B ≤ g) : Below B w0 w' := h.grown hg hB (fun k hk => by cases hk; exact hr)
theorem grown_below0 {B : Nat} {w0 w w' : World} (h : Below B w0 w) (hg : w.grownBy w' none) (hB : B ≤ w.heap.size) : Below B w0 w' := h.grown hg hB (fun k hk => by cases hk)
/-- what is lent: a block of its own, the bytes and two marks behind them -/
def Lent (w : World) (g : Nat) (bs : List Nat) : Prop := w.heap[g]? = some (.cells (cellsOf (bs ++ [91, 92])).toArray 5 (0, 0))
/-- what a call of LentBytes comes to -/
def LentPost (w : World) (bs : List Nat) (e : Ending) (w' : World) : Prop :=
  ∃ g, w.heap.size ≤ g ∧ e = .returned (.slice (some ⟨g, 0, none⟩) bs.length (bs.length + 2)) ∧ Lent w' g bs ∧ Below w.heap.size w w'
theorem lent_of_owns {w : World} {base g n : Nat} {xs : List Value} (h : w.ownsRow base 5 1 (.slice (some ⟨g, 0, none⟩) n n) n xs) : w.heap[g]? = some (.cells xs.toArray 5 (0, 0)) := by
  obtain ⟨hl, h2⟩ := h
  rcases h2 with ⟨h0, _⟩ | ⟨g', cap, cur, hv, _, hg, _, _, hcs, ht⟩
  · cases h0
  · cases hv
    rw [hg]
    have : cur.toList = xs := by rw [← ht, List.take_of_length_le (by simp; omega)]
    rw [← this]
theorem marks_at (W : World) : ∀ (j : Nat) (u : Value), (cellsOf [91, 92])[j]? = some u → (W.alloc (.cells #[.int .u8 91, .int .u8 92] 5)).cell? ((⟨W.heap.size, 0, none⟩ : Addr).add j) = some u := by
  intro j u hu
  rw [show (⟨W.heap.size, 0, none⟩ : Addr).add j = ⟨W.heap.size, j, none⟩ by unfold Addr.add; split <;> simp_all, cell_of_row _ _ _ _ _ _ (heap_alloc_new W _)]
  rw [show (#[Value.int .u8 91, .int .u8 92] : Array Value) = (cellsOf [91, 92]).toArray from rfl, List.getElem?_toArray]
  exact hu
set_option maxRecDepth 100000 in
set_option maxHeartbeats 800000 in
theorem lent_any (a : Option Addr) (bs : List Nat) (cap : Nat) (w : World) (H : Bys w a bs) (hc0 : a = none → cap = 0) (hsm : bs.length ≤ 100000) :
    Calls Tryz.prog 42 #[.slice a bs.length cap] w (LentPost w bs) := by
  obtain ⟨i0, hi, hz0, hz1, hz2⟩ := info_parts info5
  have A1 := Lib.hid H
  clear H
  cases a with
  | none =>
    obtain rfl : cap = 0 := hc0 rfl
    have hbs : bs = [] := by
      refine Decidable.by_contra fun hn => ?_
      obtain ⟨b, off, e, _⟩ := A1.out.2.2 hn
      cases e
    subst hbs
    clear hc0 hsm
    go_enter Tryz.func42, Tryz.ntmps42
    go_wp2_with (first | (at_make; refine wpList_make_own _ rfl _ _ 83 rfl w.heap.size 5 i0 (.int .u8 0) 1 Tryz.underlying83 hi hz0 hz1 .i64 .i64 _ 2 rfl rfl (by rfl) (by rw [hz2]; omega) (by unfold maxLen; omega) (Nat.le_refl _) ?_; intro w1 hown1 hgr1) | (at_builtin; refine wpList_append_own_none rfl (.tmp 8) (.tmp 9) 83 rfl w.heap.size 5 i0 1 Tryz.underlying83 hi _ 0 [] rfl hown1 rfl ?_) | (at_builtin; refine wpList_append_own_spare _ rfl (.tmp 11) (.tmp 12) 83 rfl w.heap.size 5 i0 1 Tryz.underlying83 hi hz1 w.heap.size 0 2 [] rfl (hown1.alloc _) ⟨w1.heap.size, 0, none⟩ 2 2 (cellsOf [91, 92]) rfl rfl (marks_at w1) (cellsOf_one _) (by omega) ?_; intro w3 hown3 hgr3))
    go_ret
    have hz1' : w.heap.size ≤ w1.heap.size := hgr1.size
    exact ⟨w.heap.size, Nat.le_refl _, rfl, lent_of_owns hown3, grown_below ((grown_below0 (Below.refl _ _) hgr1 (Nat.le_refl _)).alloc hz1' _) hgr3 (by simp; omega) (Nat.le_refl _)⟩
  | some ad =>
    clear hc0
    go_enter Tryz.func42, Tryz.ntmps42
    go_wp2_with (first | (at_make; refine wpList_make_own _ rfl _ _ 83 rfl w.heap.size 5 i0 (.int .u8 0) 1 Tryz.underlying83 hi hz0 hz1 .i64 .i64 _ (bs.length + 2) rfl rfl (by simp) (by rw [hz2]; omega) (by unfold maxLen; omega) (Nat.le_refl _) ?_; intro w1 hown1 hgr1; have HB1 := Lib.hid (grown_below0 (Below.refl _ _) hgr1 (Nat.le_refl _)); have hsz : w.heap.size ≤ w1.heap.size := hgr1.size; clear hgr1) | (at_builtin; refine wpList_append_own_spare _ rfl (.tmp 8) (.tmp 9) 83 rfl w.heap.size 5 i0 1 Tryz.underlying83 hi hz1 w.heap.size 0 (bs.length + 2) [] rfl hown1 ad bs.length cap (cellsOf bs) rfl (by rw [cellsOf_length]; omega) ((A1.out.below HB1.out).cells) (cellsOf_one bs) (by omega) ?_; intro w2 hown2 hgr2; have hsz2 : w.heap.size ≤ w2.heap.size := Nat.le_trans hsz hgr2.size; have HB2 := Lib.hid (grown_below HB1.out hgr2 hsz (Nat.le_refl _)); clear hgr2 hown1; simp only [Nat.zero_add, List.nil_append] at hown2) | (at_builtin; refine wpList_append_own_spare _ rfl (.tmp 11) (.tmp 12) 83 rfl w.heap.size 5 i0 1 Tryz.underlying83 hi hz1 w.heap.size bs.length (bs.length + 2) (cellsOf bs) rfl (hown2.alloc _) ⟨w2.heap.size, 0, none⟩ 2 2 (cellsOf [91, 92]) rfl rfl (marks_at w2) (cellsOf_one _) (by omega) ?_; intro w3 hown3 hgr3))
    go_ret
    refine ⟨w.heap.size, Nat.le_refl _, rfl, ?_, grown_below (HB2.out.alloc hsz2 _) hgr3 (by simp; omega) (Nat.le_refl _)⟩
    unfold Lent
    rw [lent_of_owns hown3]
    simp [cellsOf]
theorem Lent.cell {w : World} {g : Nat} {bs : List Nat} (h : Lent w g bs) (j : Nat) : w.cell? ⟨g, j, none⟩ = (cellsOf (bs ++ [91, 92]))[j]? := by
  rw [cell_of_row _ _ _ _ _ _ h, List.getElem?_toArray]
theorem Lent.mark1 {w : World} {g : Nat} {bs : List Nat} (h : Lent w g bs) : w.cell? ⟨g, bs.length, none⟩ = some (.int .u8 91) := by
  rw [h.cell]; simp [cellsOf]
theorem Lent.mark2 {w : World} {g : Nat} {bs : List Nat} (h : Lent w g bs) : w.cell? ⟨g, bs.length + 1, none⟩ = some (.int .u8 92) := by
  rw [h.cell]; simp [cellsOf]
theorem Lent.bytes {w : World} {g : Nat} {bs : List Nat} (h : Lent w g bs) (hl : bs.length ≤ maxLen) (h8 : ∀ c ∈ bs, c < 256) : Bys w (some ⟨g, 0, none⟩) bs := by
  refine ⟨hl, h8, fun _ => ⟨g, 0, rfl, (Array.getElem?_eq_some_iff.1 h).1, fun i hi => ?_⟩⟩
  rw [Nat.zero_add, h.cell]
  unfold cellsOf; rw [List.getElem?_map, List.getElem?_append_left hi, List.getElem?_eq_getElem hi]; rfl
theorem Lent.below {w w' : World} {g : Nat} {bs : List Nat} (h : Lent w g bs) (hb : Below w.heap.size w w') : Lent w' g bs := (hb.block g (Array.getElem?_eq_some_iff.1 h).1).trans h
set_option maxRecDepth 100000 in
set_option maxHeartbeats 800000 in
theorem whole_any (g : Nat) (a : Option Addr) (bs : List Nat) (cap : Nat) (w : World) (L : Lent w g bs) (H : Bys w a bs) (hsm : bs.length ≤ 100000) :
    Calls Tryz.prog 44 #[.slice (some ⟨g, 0, none⟩) bs.length (bs.length + 2), .slice a bs.length cap] w fun e w' => e = .returned (.bool true) ∧ Below w.heap.size w w' := by
  have m1 := L.mark1
  have m2 := L.mark2
  have A1 := Lib.hid (L.bytes H.1 H.2.1)
  have A2 := Lib.hid H
  clear L H
  go_enter Tryz.func44, Tryz.ntmps44
  go_wp2_with (go_at_call 47; refine (samebytes_any _ _ bs _ _ _ A1.out A2.out).mono ?_; rintro e w' ⟨rfl, hb⟩; have HB := Lib.hid hb; clear hb)
  go_ret
  exact ⟨rfl, HB.out⟩
/-- while it is written over -/
def Spoilt (w : World) (g L : Nat) (wr : World) : Prop := (∃ cur, wr.heap[g]? = some (.cells cur 5 (0, 0)) ∧ cur.size = L) ∧ Only [g] w wr
theorem Spoilt.cell {w wr : World} {g L k : Nat} (h : Spoilt w g L wr) (hk : k < L) : (∃ u, wr.cell? ⟨g, k, none⟩ = some u) ∧ wr.frozen? ⟨g, k, none⟩ = false ∧ ∀ u, Spoilt w g L (wr.setCell ⟨g, k, none⟩ u) := by
  obtain ⟨⟨cur, h1, h2⟩, h3⟩ := h
  refine ⟨⟨cur[k]'(by omega), ?_⟩, frozen_of_row _ _ _ _ _ h1, fun u => ⟨⟨_, heap_setCell_same _ _ _ _ _ _ h1, by simpa using h2⟩, h3.setCell (p := ⟨g, k, none⟩) (.inl (by simp)) u⟩⟩
  rw [cell_of_row _ _ _ _ _ _ h1, Array.getElem?_eq_getElem (by omega)]
set_option maxRecDepth 100000 in
set_option maxHeartbeats 800000 in
theorem spoil_any (g n L : Nat) (w : World) (hnL : n ≤ L) (hL : L ≤ 1000000) (cur : Array Value) (h1 : w.heap[g]? = some (.cells cur 5 (0, 0))) (h2 : cur.size = L) :
    Calls Tryz.prog 45 #[.slice (some ⟨g, 0, none⟩) n L] w fun e w' => e = .returned (.tuple #[]) ∧ Only [g] w w' := by
  have H0 := Lib.hid (show Spoilt w g L w from ⟨⟨cur, h1, h2⟩, Only.refl _ _⟩)
  clear h1 h2
  go_enter Tryz.func45, Tryz.ntmps45
  go_wp2
  go_loopw [3] (fun i wr => ∃ k : Nat, k ≤ L ∧ i = .int .i64 (k : Nat) ∧ Hid (Spoilt w g L wr)) (fun i _ => L - (intOf i).toNat)
  case atStart => exact ⟨0, Nat.zero_le _, rfl, H0⟩
  case round =>
    obtain ⟨k, hk, rfl, HS⟩ := hrel
    by_cases hlt : k < L
    · obtain ⟨⟨u, hc⟩, hf, hset⟩ := HS.out.cell hlt
      have HN := Lib.hid (hset (.int .u8 238))
      have hi : (k : Int) < (L : Int) := by omega
      have hd : decide ((k : Int) < (L : Int)) = true := by simp; omega
      clear hset
      go_wp2
      go_roundw
      case rel => exact ⟨k + 1, by omega, by go_num, HN⟩
      case measure => simp [intOf]; omega
    · obtain rfl : k = L := by omega
      go_wp2
      go_end0
      exact ⟨rfl, HS.out.2⟩
end Go.Proofs.YtiolghcjndoigaaGreatDoor
