/-
  WALKS of what the statements lend, look at again, and write over.
-/
import Derived.Test.YtimmlnfoabbbjaaRefB
namespace Go.Proofs.Ytimmlnfoabbbjaa
open Go.RowKit
theorem grown_below {B : Nat} {w0 w w' : World} {g : Nat} (h : Below B w0 w) (hg : w.grownBy w' (some g)) (hB : B ≤ w.heap.size) (hr : B ≤ g) : Below B w0 w' := h.grown hg hB (fun k hk => by cases hk; exact hr)
theorem grown_below0 {B : Nat} {w0 w w' : World} (h : Below B w0 w) (hg : w.grownBy w' none) (hB : B ≤ w.heap.size) : Below B w0 w' := h.grown hg hB (fun k hk => by cases hk)
/-- what is lent: a block of its own, the bytes and two marks behind them -/
def Lent (w : World) (g : Nat) (bs : List Nat) : Prop := w.heap[g]? = some (.cells (cellsOf (bs ++ [91, 92])).toArray 5 (0, 0))
/-- what a call of LentBytes comes to -/
def LentPost (w : World) (bs : List Nat) (e : Ending) (w' : World) : Prop :=
  ∃ g, w.heap.size ≤ g ∧ e = .returned (.slice (some ⟨g, 0, none⟩) bs.length (bs.length + 2)) ∧ Lent w' g bs ∧ Below w.heap.size w w'
theorem lent_of_owns {w : World} {base g n : Nat} {xs : List Value} (h : w.ownsRow base 5 1 (.slice (some ⟨g, 0, none⟩) n n) n xs) : w.heap[g]? = some (.cells xs.toArray 5 (0, 0)) := by
  obtain ⟨hl, h2⟩ := h
  rcases h2 with ⟨h0, _⟩ | ⟨g', cap, cur, hv, _, hg, _, _, hcs, ht⟩
  · cases h0
  · cases hv
    rw [hg]
    have : cur.toList = xs := by rw [← ht, List.take_of_length_le (by simp; omega)]
    rw [← this]
theorem marks_at (W : World) : ∀ (j : Nat) (u : Value), (cellsOf [91, 92])[j]? = some u → (W.alloc (.cells #[.int .u8 91, .int .u8 92] 5)).cell? ((⟨W.heap.size, 0, none⟩ : Addr).add j) = some u := by
  intro j u hu
  rw [show (⟨W.heap.size, 0, none⟩ : Addr).add j = ⟨W.heap.size, j, none⟩ by unfold Addr.add; split <;> simp_all, cell_of_row _ _ _ _ _ _ (heap_alloc_new W _)]
  rw [show (#[Value.int .u8 91, .int .u8 92] : Array Value) = (cellsOf [91, 92]).toArray from rfl, List.getElem?_toArray]
  exact hu
set_option maxHeartbeats 400000 in
theorem lent_any (a : Option Addr) (bs : List Nat) (cap : Nat) (w : World) (H : Bys w a bs) (hc0 : a = none → cap = 0) (hsm : bs.length ≤ 100000) :
    Calls Try.prog 16 #[.slice a bs.length cap] w (LentPost w bs) := by
  obtain ⟨i0, hi, hz0, hz1, hz2⟩ := info_parts info5
  have A1 := Lib.hid H
  clear H
  cases a with
  | none =>
    obtain rfl : cap = 0 := hc0 rfl
    have hbs : bs = [] := by
      refine Decidable.by_contra fun hn => ?_
      obtain ⟨b, off, e, _⟩ := A1.out.2.2 hn
      cases e
    subst hbs
    clear hc0 hsm
    go_enter Try.func16, Try.ntmps16
    go_wp2_with (first | (at_make; refine wpList_make_own _ rfl _ _ 27 rfl w.heap.size 5 i0 (.int .u8 0) 1 Try.underlying27 hi hz0 hz1 .i64 .i64 _ 2 rfl rfl (by rfl) (by rw [hz2]; omega) (by unfold maxLen; omega) (Nat.le_refl _) ?_; intro w1 hown1 hgr1) | (at_builtin; refine wpList_append_own_none rfl (.tmp 8) (.tmp 9) 27 rfl w.heap.size 5 i0 1 Try.underlying27 hi _ 0 [] rfl hown1 rfl ?_) | (at_builtin; refine wpList_append_own_spare _ rfl (.tmp 11) (.tmp 12) 27 rfl w.heap.size 5 i0 1 Try.underlying27 hi hz1 w.heap.size 0 2 [] rfl (hown1.alloc _) ⟨w1.heap.size, 0, none⟩ 2 2 (cellsOf [91, 92]) rfl rfl (marks_at w1) (cellsOf_one _) (by omega) ?_; intro w3 hown3 hgr3))
    go_ret
    have hz1' : w.heap.size ≤ w1.heap.size := hgr1.size
    exact ⟨w.heap.size, Nat.le_refl _, rfl, lent_of_owns hown3, grown_below ((grown_below0 (Below.refl _ _) hgr1 (Nat.le_refl _)).alloc hz1' _) hgr3 (by simp; omega) (Nat.le_refl _)⟩
  | some ad =>
    clear hc0
    go_enter Try.func16, Try.ntmps16
    go_wp2_with (first | (at_make; refine wpList_make_own _ rfl _ _ 27 rfl w.heap.size 5 i0 (.int .u8 0) 1 Try.underlying27 hi hz0 hz1 .i64 .i64 _ (bs.length + 2) rfl rfl (by simp) (by rw [hz2]; omega) (by unfold maxLen; omega) (Nat.le_refl _) ?_; intro w1 hown1 hgr1; have HB1 := Lib.hid (grown_below0 (Below.refl _ _) hgr1 (Nat.le_refl _)); have hsz : w.heap.size ≤ w1.heap.size := hgr1.size; clear hgr1) | (at_builtin; refine wpList_append_own_spare _ rfl (.tmp 8) (.tmp 9) 27 rfl w.heap.size 5 i0 1 Try.underlying27 hi hz1 w.heap.size 0 (bs.length + 2) [] rfl hown1 ad bs.length cap (cellsOf bs) rfl (by rw [cellsOf_length]; omega) ((A1.out.below HB1.out).cells) (cellsOf_one bs) (by omega) ?_; intro w2 hown2 hgr2; have hsz2 : w.heap.size ≤ w2.heap.size := Nat.le_trans hsz hgr2.size; have HB2 := Lib.hid (grown_below HB1.out hgr2 hsz (Nat.le_refl _)); clear hgr2 hown1; simp only [Nat.zero_add, List.nil_append] at hown2) | (at_builtin; refine wpList_append_own_spare _ rfl (.tmp 11) (.tmp 12) 27 rfl w.heap.size 5 i0 1 Try.underlying27 hi hz1 w.heap.size bs.length (bs.length + 2) (cellsOf bs) rfl (hown2.alloc _) ⟨w2.heap.size, 0, none⟩ 2 2 (cellsOf [91, 92]) rfl rfl (marks_at w2) (cellsOf_one _) (by omega) ?_; intro w3 hown3 hgr3))
    go_ret
    refine ⟨w.heap.size, Nat.le_refl _, rfl, ?_, grown_below (HB2.out.alloc hsz2 _) hgr3 (by simp; omega) (Nat.le_refl _)⟩
    unfold Lent
    rw [lent_of_owns hown3]
    simp [cellsOf]
theorem Lent.cell {w : World} {g : Nat} {bs : List Nat} (h : Lent w g bs) (j : Nat) : w.cell? ⟨g, j, none⟩ = (cellsOf (bs ++ [91, 92]))[j]? := by
  rw [cell_of_row _ _ _ _ _ _ h, List.getElem?_toArray]
theorem Lent.mark1 {w : World} {g : Nat} {bs : List Nat} (h : Lent w g bs) : w.cell? ⟨g, bs.length, none⟩ = some (.int .u8 91) := by
  rw [h.cell]; simp [cellsOf]
theorem Lent.mark2 {w : World} {g : Nat} {bs : List Nat} (h : Lent w g bs) : w.cell? ⟨g, bs.length + 1, none⟩ = some (.int .u8 92) := by
  rw [h.cell]; simp [cellsOf]
theorem Lent.bytes {w : World} {g : Nat} {bs : List Nat} (h : Lent w g bs) (hl : bs.length ≤ maxLen) (h8 : ∀ c ∈ bs, c < 256) : Bys w (some ⟨g, 0, none⟩) bs := by
  refine ⟨hl, h8, fun _ => ⟨g, 0, rfl, (Array.getElem?_eq_some_iff.1 h).1, fun i hi => ?_⟩⟩
  rw [Nat.zero_add, h.cell]
  unfold cellsOf; rw [List.getElem?_map, List.getElem?_append_left hi, List.getElem?_eq_getElem hi]; rfl
theorem Lent.below {w w' : World} {g : Nat} {bs : List Nat} (h : Lent w g bs) (hb : Below w.heap.size w w') : Lent w' g bs := (hb.block g (Array.getElem?_eq_some_iff.1 h).1).trans h
set_option maxHeartbeats 400000 in
theorem whole_any (g : Nat) (a : Option Addr) (bs : List Nat) (cap : Nat) (w : World) (L : Lent w g bs) (H : Bys w a bs) (hsm : bs.length ≤ 100000) :
    Calls Try.prog 18 #[.slice (some ⟨g, 0, none⟩) bs.length (bs.length + 2), .slice a bs.length cap] w fun e w' => e = .returned (.bool true) ∧ Below w.heap.size w w' := by
  have m1 := L.mark1
  have m2 := L.mark2
  have A1 := Lib.hid (L.bytes H.1 H.2.1)
  have A2 := Lib.hid H
  clear L H
  go_enter Try.func18, Try.ntmps18
  go_wp2_with (go_at_call 13; refine (same_any _ _ bs _ _ _ A1.out A2.out).mono ?_; rintro e w' ⟨rfl, hb⟩; have HB := Lib.hid hb; clear hb)
  go_ret
  exact ⟨rfl, HB.out⟩
/-- while it is written over -/
def Spoilt (w : World) (g L : Nat) (wr : World) : Prop := (∃ cur, wr.heap[g]? = some (.cells cur 5 (0, 0)) ∧ cur.size = L) ∧ Only [g] w wr
theorem Spoilt.cell {w wr : World} {g L k : Nat} (h : Spoilt w g L wr) (hk : k < L) : (∃ u, wr.cell? ⟨g, k, none⟩ = some u) ∧ wr.frozen? ⟨g, k, none⟩ = false ∧ ∀ u, Spoilt w g L (wr.setCell ⟨g, k, none⟩ u) := by
  obtain ⟨⟨cur, h1, h2⟩, h3⟩ := h
  refine ⟨⟨cur[k]'(by omega), ?_⟩, frozen_of_row _ _ _ _ _ h1, fun u => ⟨⟨_, heap_setCell_same _ _ _ _ _ _ h1, by simpa using h2⟩, h3.setCell (p := ⟨g, k, none⟩) (.inl (by simp)) u⟩⟩
  rw [cell_of_row _ _ _ _ _ _ h1, Array.getElem?_eq_getElem (by omega)]
set_option maxHeartbeats 400000 in
theorem spoil_any (g n L : Nat) (w : World) (hnL : n ≤ L) (hL : L ≤ 1000000) (cur : Array Value) (h1 : w.heap[g]? = some (.cells cur 5 (0, 0))) (h2 : cur.size = L) :
    Calls Try.prog 19 #[.slice (some ⟨g, 0, none⟩) n L] w fun e w' => e = .returned (.tuple #[]) ∧ Only [g] w w' := by
  have H0 := Lib.hid (show Spoilt w g L w from ⟨⟨cur, h1, h2⟩, Only.refl _ _⟩)
  clear h1 h2
  go_enter Try.func19, Try.ntmps19
  go_wp2
  go_loopw [3] (fun i wr => ∃ k : Nat, k ≤ L ∧ i = .int .i64 (k : Nat) ∧ Hid (Spoilt w g L wr)) (fun i _ => L - (intOf i).toNat)
  case atStart => exact ⟨0, Nat.zero_le _, rfl, H0⟩
  case round =>
    obtain ⟨k, hk, rfl, HS⟩ := hrel
    by_cases hlt : k < L
    · obtain ⟨⟨u, hc⟩, hf, hset⟩ := HS.out.cell hlt
      have HN := Lib.hid (hset (.int .u8 238))
      have hi : (k : Int) < (L : Int) := by omega
      have hd : decide ((k : Int) < (L : Int)) = true := by simp; omega
      clear hset
      go_wp2
      go_roundw
      case rel => exact ⟨k + 1, by omega, by go_num, HN⟩
      case measure => simp [intOf]; omega
    · obtain rfl : k = L := by omega
      go_wp2
      go_end0
      exact ⟨rfl, HS.out.2⟩
end Go.Proofs.Ytimmlnfoabbbjaa
