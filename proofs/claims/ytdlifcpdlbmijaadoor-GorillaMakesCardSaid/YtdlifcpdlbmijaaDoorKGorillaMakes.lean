/-
  PROVED: an appender takes just the samples that it may, and has behind each the chunk that the chapter says; for every list of samples; it reads afterwards as it read before. Conditions: none.
-/
import Derived.Test.YtdlifcpdlbmijaaDoorK06
import Derived.Test.YtdlifcpdlbmijaaDoorKFGorillaMakes
import Derived.Test.YtdlifcpdlbmijaaDoorTie
import Derived.Test.YtdlifcpdlbmijaaDoorCards
import Derived.Deep.RegionHeld3
import Derived.OpenShut
import Derived.Deep.Slices
import Derived.Deep.DeepHandedRow
import Derived.SevenTiedAt
import Derived.WalkKit
import Derived.ProofKit
import Derived.ShutString
import Derived.ChangeOld
import Derived.Below
namespace Go.Proofs.YtdlifcpdlbmijaaDoor
set_option linter.unusedVariables false
set_option linter.unusedSimpArgs false
open Go.RowKit Go.PlainAid Go.Shelf
open B2 (Only Wr PutPost Bys Row cellsOf Rf RfPost BookAt BookPost Lots bk Places owns_only)
open Gm (St Smp)
/-- what an appender has behind one sample more -/
def stp (l : List Smp) (x : Smp) : List Smp := if apErr (Gm.run l) x = 0 then l ++ [x] else l
def acc (xs : List Smp) : List Smp := xs.foldl stp []
theorem acc_snoc (xs : List Smp) (x : Smp) : acc (xs ++ [x]) = stp (acc xs) x := by simp [acc, List.foldl_append]
theorem stp_len (l : List Smp) (x : Smp) (h : l.length ≤ 120) : (stp l x).length ≤ 120 := by
  unfold stp
  split
  · rename_i h0
    have : l.length ≠ 120 := by
      intro h1
      unfold apErr at h0
      rw [Gm.run_n] at h0
      split at h0 <;> (try split at h0) <;> (try split at h0) <;> omega
    rw [List.length_append, List.length_singleton]; omega
  · exact h
theorem stp_ok (l : List Smp) (x : Smp) (h : ∀ a ∈ l, Gm.OkS a) (hx : Gm.OkS x) : ∀ a ∈ stp l x, Gm.OkS a := by
  unfold stp
  split
  · intro a ha
    rcases List.mem_append.1 ha with ha | ha
    · exact h a ha
    · rw [List.mem_singleton.1 ha]; exact hx
  · exact h
theorem acc_take (xs : List Smp) (hx : ∀ a ∈ xs, Gm.OkS a) (k : Nat) : (acc (xs.take k)).length ≤ 120 ∧ ∀ a ∈ acc (xs.take k), Gm.OkS a := by
  induction k with
  | zero => exact ⟨by simp [acc], fun a ha => by simp [acc] at ha⟩
  | succ k ih =>
    by_cases hk : k < xs.length
    · rw [List.take_succ_eq_append_getElem hk, acc_snoc]
      exact ⟨stp_len _ _ ih.1, stp_ok _ _ ih.2 (hx _ (List.getElem_mem hk))⟩
    · rw [List.take_of_length_le (by omega)]
      rw [List.take_of_length_le (by omega)] at ih
      exact ih
theorem out_small (l : List Smp) (h : l.length ≤ 120) (hl : ∀ a ∈ l, Gm.OkS a) : (Gm.run l).out.length ≤ 19200 := by
  have h1 := out_len l hl l.length (Nat.le_refl _)
  rw [List.take_length] at h1
  omega
/-- the state, its blocks unnamed -/
def StM (w : World) (a p r pb : Nat) (l m : List Smp) (n : Nat) (wr : World) : Prop := ∃ d g bh X C, Inv w a p r pb l m n d g bh X C wr
theorem StM.still {w wr w' : World} {a p r pb n : Nat} {l m : List Smp} (h : StM w a p r pb l m n wr) (hb : Below wr.heap.size wr w') : StM w a p r pb l m n w' := by
  obtain ⟨d, g, bh, X, C, I⟩ := h
  exact ⟨d, g, bh, X, C, I.still hb⟩
theorem StM.below {w wr : World} {a p r pb n : Nat} {l m : List Smp} (h : StM w a p r pb l m n wr) : Below w.heap.size w wr := by
  obtain ⟨d, g, bh, X, C, I⟩ := h
  exact I.below
theorem m_append {w : World} {a p r pb n : Nat} {l m : List Smp} (F : Seats w.heap.size a p r pb) (hl : l.length ≤ 120) (hlo : ∀ x ∈ l, Gm.OkS x) (x : Smp) (hx : Gm.OkS x) (hT : TabAt w) (W : World) (h : StM w a p r pb l m n W) :
    Calls Tryd.prog 9 #[pt a, smV x] W fun e w' => e = .returned (.int .u16 ((apErr (Gm.run l) x : Nat) : Int)) ∧ StM w a p r pb (stp l x) m n w' := by
  obtain ⟨d, g, bh, X, C, I⟩ := h
  have ht := hT.lt
  have ho := out_small l hl hlo
  refine (append_any a p d (Gm.run l) x hx (Gm.inv_run l hlo) (by rw [Gm.run_n]; omega) (by omega) W I.ap (hT.below I.below ht) ⟨by have := F.np; omega, by have := I.base.1; omega, by have := F.na; omega⟩).mono ?_
  rintro e w' ⟨rfl, h1, h2⟩
  refine ⟨rfl, ?_⟩
  unfold stp
  by_cases h0 : apErr (Gm.run l) x = 0
  · rw [if_pos h0]
    have h3 := h1 h0
    rw [← Gm.run_snoc] at h3
    obtain ⟨d', I'⟩ := I.app F h3
    exact ⟨d', g, bh, X, C, I'⟩
  · rw [if_neg h0]
    exact ⟨d, g, bh, X, C, I.still (h2 h0)⟩
theorem m_rappend {w : World} {a p r pb n : Nat} {l m : List Smp} (F : Seats w.heap.size a p r pb) (hm : m.length ≤ 120) (x : Smp) (W : World) (h : StM w a p r pb l m n W) :
    Calls Tryd.prog 10 #[pt r, smV x] W fun e w' => e = .returned (.int .u16 ((apErr (Gm.run m) x : Nat) : Int)) ∧ StM w a p r pb l (stp m x) n w' := by
  obtain ⟨d, g, bh, X, C, I⟩ := h
  refine (rappend_any r g m x hm W I.ra).mono ?_
  rintro e w' ⟨rfl, h1⟩
  obtain ⟨g', I'⟩ := I.rap F h1
  exact ⟨rfl, d, g', bh, X, C, I'⟩
/-- the program's chunk -/
theorem m_chunk {w : World} {a p r pb n : Nat} {l m : List Smp} (hl : l.length ≤ 120) (hlo : ∀ x ∈ l, Gm.OkS x) (W : World) (h : StM w a p r pb l m n W) :
    Calls Tryd.prog 11 #[pt a] W (ChPost W (Gm.run l).frm (Gm.run l).last.t (Gm.run l).n (Gm.run l).out) := by
  obtain ⟨d, g, bh, X, C, I⟩ := h
  exact chunk_any a p d _ (by have := out_small l hl hlo; omega) W I.ap
/-- the document's -/
theorem m_rchunk {w : World} {a p r pb n : Nat} {l m : List Smp} (hm : m.length ≤ 120) (hmo : ∀ x ∈ m, Gm.OkS x) {q p0 p1 p2 c c0 c1 c2 o9 oa oc od : Nat} (HT : TabB w q p0 p1 p2 c c0 c1 c2 o9 oa oc od) (W : World) (h : StM w a p r pb l m n W) :
    Calls Tryd.prog 14 #[pt r] W (ChPost W (Gm.run m).frm (Gm.run m).last.t (Gm.run m).n (Gm.run m).out) := by
  obtain ⟨d, g, bh, X, C, I⟩ := h
  exact rchunk_ra r g m (by omega) hmo q p0 p1 p2 c c0 c1 c2 o9 oa oc od W I.ra (HT.below I.below)
/-- a chunk's bytes put into the book -/
theorem m_book {w : World} {a p r pb n u k cap : Nat} {l m : List Smp} {b : Option Addr} {bs : List Nat} {B : List Bool} (F : Seats w.heap.size a p r pb) (hn : n ≤ 900) (W W1 : World) (h : StM w a p r pb l m n W) (hb : Below W.heap.size W W1) (hR : Row W1 u (.slice b bs.length cap) bs) (hg : b = none ∨ W.heap.size ≤ u) (hP : B2.Bt.Packs k bs B) (hk : k < 8) (hB : B.length ≤ 19200) :
    Calls Tryd.prog 12 #[pt pb, .slice b bs.length cap] W1 fun e w' => e = .returned (.tuple #[]) ∧ StM w a p r pb l m (n + 1) w' ∧ Row w' u (.slice b bs.length cap) bs ∧ W1.heap.size ≤ w'.heap.size ∧ ∀ i, W.heap.size ≤ i → i < W1.heap.size → w'.heap[i]? = W1.heap[i]? := by
  obtain ⟨d, g, bh, X, C, I⟩ := h
  have hbl : bs.length ≤ 1000000 := by have := hP.length; omega
  have hK : BookAt W1 pb bh n (more n (.slice b bs.length cap) X) := (I.still hb).bk.congr (fun j hj => more_low n _ X j hj)
  refine (B2.bookbytes_any pb bh n bs.length cap b (more n (.slice b bs.length cap) X) (more_at _ _ _) W1 hK (by omega)).mono ?_
  rintro e w' ⟨rfl, hbp⟩
  have hlt := I.bk.lt
  obtain ⟨⟨bh', X', C', I'⟩, hR'⟩ := I.row F hR (hg.imp (fun h => by rw [h]; rfl) id) hb hbl hbp
  obtain ⟨bh2, _, _, ho⟩ := hbp
  exact ⟨rfl, ⟨d, g, bh', X', C', I'⟩, hR', ho.size, fun i h1 h2 => ho.block i h2 (by simp; omega)⟩
theorem m_own {w : World} {a p r pb n : Nat} {l m : List Smp} (F : Seats w.heap.size a p r pb) (hn : n ≤ 1000) (W : World) (h : StM w a p r pb l m n W) : Calls Tryd.prog 15 #[pt pb] W fun e w' => e = .returned (.bool true) ∧ Below w.heap.size w w' := by
  obtain ⟨d, g, bh, X, C, I⟩ := h
  exact I.own (by have := F.np; have := F.pr; have := F.rb; omega) hn
end Go.Proofs.YtdlifcpdlbmijaaDoor
namespace Go.Proofs.YtdlifcpdlbmijaaDoor
set_option linter.unusedVariables false
set_option linter.unusedSimpArgs false
open Go.RowKit Go.PlainAid Go.Shelf
open B2 (Only Wr PutPost Bys Row cellsOf Rf RfPost BookAt BookPost Lots bk Places owns_only)
open Gm (St Smp)
/-- samples that came in -/
def Ins (w : World) (a : Option Addr) (xs : List Smp) : Prop := (∀ x ∈ xs, Gm.OkS x) ∧ (xs ≠ [] → ∃ b off, a = some ⟨b, off, none⟩ ∧ b < w.heap.size ∧ ∀ k (h : k < xs.length), w.cell? ⟨b, off + k * 2, none⟩ = some (.int .i64 xs[k].t) ∧ w.cell? ⟨b, off + k * 2 + 1, none⟩ = some (.int .u64 ((xs[k].v : Nat) : Int)))
def cnt (k n : Nat) : Nat := if k = n then (n + 7) / 8 else k / 8
theorem ch_alloc {W : World} {s : Nat} {x y z u : Value} (o : Obj) (h : W.cell? ⟨s, 0, none⟩ = some x ∧ W.cell? ⟨s, 1, none⟩ = some y ∧ W.cell? ⟨s, 2, none⟩ = some z ∧ W.cell? ⟨s, 3, none⟩ = some u) : (W.alloc o).cell? ⟨s, 0, none⟩ = some x ∧ (W.alloc o).cell? ⟨s, 1, none⟩ = some y ∧ (W.alloc o).cell? ⟨s, 2, none⟩ = some z ∧ (W.alloc o).cell? ⟨s, 3, none⟩ = some u := keepF h ((Below.refl _ _).alloc (Nat.le_refl _) o)
theorem ch_new (W : World) (x y z u : Value) (t : TypeId) (fr : Nat × Nat) : (W.alloc (.cells #[x, y, z, u] t fr)).cell? ⟨W.heap.size, 0, none⟩ = some x ∧ (W.alloc (.cells #[x, y, z, u] t fr)).cell? ⟨W.heap.size, 1, none⟩ = some y ∧ (W.alloc (.cells #[x, y, z, u] t fr)).cell? ⟨W.heap.size, 2, none⟩ = some z ∧ (W.alloc (.cells #[x, y, z, u] t fr)).cell? ⟨W.heap.size, 3, none⟩ = some u := by
  have h := heap_alloc_new W (.cells #[x, y, z, u] t fr)
  exact ⟨(cell_of_row _ _ 0 _ _ _ h).trans rfl, (cell_of_row _ _ 1 _ _ _ h).trans rfl, (cell_of_row _ _ 2 _ _ _ h).trans rfl, (cell_of_row _ _ 3 _ _ _ h).trans rfl⟩
theorem m_same {W : World} {s u u2 c1 c2 NN : Nat} {FR TT : Int} {b1 b2 : Option Addr} {bs : List Nat} (h : ChAt W s FR TT NN (.slice b1 bs.length c1)) (hR : Row W u (.slice b1 bs.length c1) bs) (hR2 : Row W u2 (.slice b2 bs.length c2) bs) (h8 : ∀ c ∈ bs, c < 256) :
    Calls Tryd.prog 13 #[.slice (some ⟨s, 0, none⟩) 1 1, .slice (some ⟨W.heap.size, 0, none⟩) 1 1] (W.alloc (.cells #[.int .i64 FR, .int .i64 TT, .int .i64 ((NN : Nat) : Int), .slice b2 bs.length c2] 73)) fun e w' => e = .returned (.bool true) ∧ Below W.heap.size W w' := by
  have hA := (Below.refl W.heap.size W).alloc (Nat.le_refl _) (.cells #[.int .i64 FR, .int .i64 TT, .int .i64 ((NN : Nat) : Int), .slice b2 bs.length c2] 73)
  refine (samech_one s W.heap.size bs.length c1 c2 NN FR TT b1 b2 _ (h.below hA) (ch_new W _ _ _ _ 73 (0, 0)) (fun W2 hb => ?_)).mono ?_
  · exact B2.same_any b1 b2 bs c1 c2 W2 (((hR.below hA).below hb).bys h8).2 (((hR2.below hA).below hb).bys h8).2
  · rintro e w' ⟨rfl, hb⟩
    exact ⟨rfl, hA.trans (hb.mono hA.size)⟩
/-- the two lists laid behind the chunk -/
theorem m_same2 {W : World} {u u2 c1 c2 NN : Nat} {FR TT : Int} {b1 b2 : Option Addr} {bs : List Nat} (hR : Row W u (.slice b1 bs.length c1) bs) (hR2 : Row W u2 (.slice b2 bs.length c2) bs) (h8 : ∀ c ∈ bs, c < 256) :
    Calls Tryd.prog 13 #[.slice (some ⟨W.heap.size, 0, none⟩) 1 1, .slice (some ⟨W.heap.size + 1, 0, none⟩) 1 1] ((W.alloc (.cells #[.int .i64 FR, .int .i64 TT, .int .i64 ((NN : Nat) : Int), .slice b1 bs.length c1] 73)).alloc (.cells #[.int .i64 FR, .int .i64 TT, .int .i64 ((NN : Nat) : Int), .slice b2 bs.length c2] 73)) fun e w' => e = .returned (.bool true) ∧ Below W.heap.size W w' := by
  have hA := (Below.refl W.heap.size W).alloc (Nat.le_refl _) (.cells #[.int .i64 FR, .int .i64 TT, .int .i64 ((NN : Nat) : Int), .slice b1 bs.length c1] 73)
  have hn := ch_new W (.int .i64 FR) (.int .i64 TT) (.int .i64 ((NN : Nat) : Int)) (.slice b1 bs.length c1) 73 (0, 0)
  have h := m_same (W := W.alloc (.cells #[.int .i64 FR, .int .i64 TT, .int .i64 ((NN : Nat) : Int), .slice b1 bs.length c1] 73)) (s := W.heap.size) (FR := FR) (TT := TT) (NN := NN) (c1 := c1) (c2 := c2) hn (hR.below hA) (hR2.below hA) h8
  rw [show (W.alloc (.cells #[.int .i64 FR, .int .i64 TT, .int .i64 ((NN : Nat) : Int), .slice b1 bs.length c1] 73)).heap.size = W.heap.size + 1 by simp] at h
  refine h.mono ?_
  rintro e w' ⟨rfl, hb⟩
  exact ⟨rfl, hA.trans (hb.mono (by omega))⟩
theorem m_same3 {W : World} {u u2 c1 c2 NN : Nat} {FR TT : Int} {b1 b2 : Option Addr} {bs : List Nat} (hR : Row W u (.slice b1 bs.length c1) bs) (hR2 : Row W u2 (.slice b2 bs.length c2) bs) (h8 : ∀ c ∈ bs, c < 256) :
    Calls Tryd.prog 13 #[.slice (some ⟨W.heap.size + 1, 0, none⟩) 1 1, .slice (some ⟨W.heap.size, 0, none⟩) 1 1] ((W.alloc (.cells #[.int .i64 FR, .int .i64 TT, .int .i64 ((NN : Nat) : Int), .slice b2 bs.length c2] 73)).alloc (.cells #[.int .i64 FR, .int .i64 TT, .int .i64 ((NN : Nat) : Int), .slice b1 bs.length c1] 73)) fun e w' => e = .returned (.bool true) ∧ Below W.heap.size W w' := by
  have hA := (Below.refl W.heap.size W).alloc (Nat.le_refl _) (.cells #[.int .i64 FR, .int .i64 TT, .int .i64 ((NN : Nat) : Int), .slice b2 bs.length c2] 73)
  have hA2 := hA.alloc hA.size (.cells #[.int .i64 FR, .int .i64 TT, .int .i64 ((NN : Nat) : Int), .slice b1 bs.length c1] 73)
  have hn := ch_new W (.int .i64 FR) (.int .i64 TT) (.int .i64 ((NN : Nat) : Int)) (.slice b2 bs.length c2) 73 (0, 0)
  have hn2 := ch_new (W.alloc (.cells #[.int .i64 FR, .int .i64 TT, .int .i64 ((NN : Nat) : Int), .slice b2 bs.length c2] 73)) (.int .i64 FR) (.int .i64 TT) (.int .i64 ((NN : Nat) : Int)) (.slice b1 bs.length c1) 73 (0, 0)
  rw [show (W.alloc (.cells #[.int .i64 FR, .int .i64 TT, .int .i64 ((NN : Nat) : Int), .slice b2 bs.length c2] 73)).heap.size = W.heap.size + 1 by simp] at hn2
  refine (samech_one (W.heap.size + 1) W.heap.size bs.length c1 c2 NN FR TT b1 b2 _ hn2 (ch_alloc _ hn) (fun W2 hb => ?_)).mono ?_
  · exact B2.same_any b1 b2 bs c1 c2 W2 (((hR.below hA2).below hb).bys h8).2 (((hR2.below hA2).below hb).bys h8).2
  · rintro e w' ⟨rfl, hb⟩
    exact ⟨rfl, hA2.trans (hb.mono hA2.size)⟩
theorem makes_many (a0 : Option Addr) (n cap : Nat) (hn : 2000 < n) (w : World) : Calls Tryd.prog 3 #[.slice a0 n cap] w fun e w' => e = .returned (.bool true) ∧ Below w.heap.size w w' := by
  have d1 : decide ((2000 : Int) < (n : Int)) = true := by simp; omega
  go_enter Tryd.func3, Tryd.ntmps3
  go_wp2_with fail
  go_ret
  exact ⟨rfl, Below.refl _ _⟩
set_option maxHeartbeats 8000000 in
set_option maxRecDepth 100000 in
theorem makes_law (a0 : Option Addr) (xs : List Smp) (n cap : Nat) (hn : xs.length = n) (hn2 : n ≤ 2000) (w : World) (H : Ins w a0 xs) (hT : TabAt w) {q p0 p1 p2 c c0 c1 c2 o9 oa oc od : Nat} (hTB : TabB w q p0 p1 p2 c c0 c1 c2 o9 oa oc od) :
    Calls Tryd.prog 3 #[.slice a0 n cap] w fun e w' => e = .returned (.bool true) ∧ Below w.heap.size w w' := by
  have HI := Lib.hid H
  have HT := Lib.hid hT
  have HTB := Lib.hid hTB
  have HAC := Lib.hid (acc_take xs H.1)
  have HNX := Lib.hid hn
  have d1 : decide ((2000 : Int) < (n : Int)) = false := by simp; omega
  have CN := Lib.hid (new_any w)
  clear H hT hTB hn
  unfold pt at *
  go_enter Tryd.func3, Tryd.ntmps3
  go_wp2_with fail
  go_at_call 7
  refine CN.out.mono ?_
  rintro e w1 ⟨rfl, hA1, hb1⟩
  have H1 := Lib.hid (And.intro hA1 hb1)
  clear hA1 hb1 CN
  go_wp2_with fail
  go_at_call 8
  refine (known_any w1 (HT.out.below H1.out.2 HT.out.lt)).mono ?_
  rintro e w2 ⟨rfl, hb2⟩
  have hbw2 := H1.out.2.trans (hb2.mono H1.out.2.size)
  have hA2 := H1.out.1.below hb2
  have HF := Lib.hid (show Seats w.heap.size (w.heap.size + 1) w.heap.size w2.heap.size (w2.heap.size + 1) from ⟨by omega, Nat.le_refl _, by have := hA2.lt; omega, by have := hA2.lt; omega, by omega⟩)
  have S0 := Lib.hid (show StM w (w.heap.size + 1) w.heap.size w2.heap.size (w2.heap.size + 1) [] [] 0 _ from ⟨_, _, _, _, _, inv_start hA2 hbw2 0 28 rfl⟩)
  clear hb2 hbw2 hA2 H1
  obtain ⟨a, ha⟩ : ∃ a, w.heap.size + 1 = a := ⟨_, rfl⟩
  obtain ⟨r, hr⟩ : ∃ r, w2.heap.size = r := ⟨_, rfl⟩
  obtain ⟨pb, hpb⟩ : ∃ pb, r + 1 = pb := ⟨_, rfl⟩
  rw [ha] at HF S0 ⊢
  rw [hr] at HF S0
  rw [hpb] at HF S0
  go_wp2_with fail
  clear ha hr hpb
  go_loopw [6] (fun i wr => ∃ k : Nat, k ≤ n ∧ i = .int .i64 k ∧ Hid (StM w a w.heap.size r pb (acc (xs.take k)) (acc (xs.take k)) (cnt k n) wr)) (fun i _ => n - (intOf i).toNat)
  case atStart =>
    refine ⟨0, Nat.zero_le _, rfl, ?_⟩
    have e : cnt 0 n = 0 := by unfold cnt; split <;> omega
    rw [e]
    exact S0
  case round =>
    clear S0
    obtain ⟨k, hk, rfl, HS⟩ := hrel
    by_cases hlt : k < n
    · have hd1 : decide ((k : Int) < (n : Int)) = true := by simp; omega
      have hd2 : decide (k < n) = true := by simp; omega
      have hkx : k < xs.length := by have := HNX.out; omega
      obtain ⟨b, off, rfl, hbl, hcs⟩ := HI.out.2 (by intro h; rw [h] at hkx; simp at hkx)
      obtain ⟨k1w, k2w⟩ := hcs k hkx
      have hok := HI.out.1 _ (List.getElem_mem hkx)
      have hsn : acc (xs.take (k + 1)) = stp (acc (xs.take k)) xs[k] := by rw [List.take_succ_eq_append_getElem hkx, acc_snoc]
      have hac1 := HAC.out (k + 1)
      rw [hsn] at hac1
      have hac := HAC.out k
      obtain ⟨⟨t, v⟩, hx⟩ : ∃ x, x = xs[k] := ⟨_, rfl⟩
      rw [← hx] at k1w k2w hok hsn hac1
      simp only at k1w k2w
      have HSN := Lib.hid hsn
      obtain ⟨l, hl⟩ : ∃ l, acc (xs.take k) = l := ⟨_, rfl⟩
      rw [hl] at HS HSN hac hac1
      have HCL := Lib.hid (fun (l m : List Smp) (c : Nat) (W : World) (h : StM w a w.heap.size r pb l m c W) => show W.cell? ⟨b, off + k * 2, none⟩ = some (.int .i64 t) ∧ W.cell? ⟨b, off + k * 2 + 1, none⟩ = some (.int .u64 ((v : Nat) : Int)) from ⟨(h.below.cell (p := ⟨b, off + k * 2, none⟩) hbl).trans k1w, (h.below.cell (p := ⟨b, off + k * 2 + 1, none⟩) hbl).trans k2w⟩)
      have C9 := Lib.hid (fun m c W h => m_append (m := m) (n := c) HF.out hac.1 hac.2 ⟨t, v⟩ hok HT.out W h)
      have C10 := Lib.hid (fun l0 c W h => m_rappend (l := l0) (n := c) HF.out hac.1 ⟨t, v⟩ W h)
      obtain ⟨E, hE⟩ : ∃ E, apErr (Gm.run l) ⟨t, v⟩ = E := ⟨_, rfl⟩
      obtain ⟨l2, hl2⟩ : ∃ l2, stp l ⟨t, v⟩ = l2 := ⟨_, rfl⟩
      rw [hE, hl2] at C9 C10
      rw [hl2] at HSN hac1
      unfold pt smV at C9 C10
      simp only at C9 C10
      have hne : ((E : Int) != (E : Int)) = false := by simp
      have HA2 := Lib.hid hac1
      have SD := HS.out.still (drew_below wr)
      have q := HCL.out _ _ _ _ SD
      clear hcs k1w k2w hok hsn hac1 hac hx hl hE hl2 hkx hbl HS
      go_wp2_with fail
      go_region_held3 (fun w' => w'.cell? ⟨b, off + k * 2, none⟩ = some (.int .i64 t) ∧ w'.cell? ⟨b, off + k * 2 + 1, none⟩ = some (.int .u64 ((v : Nat) : Int))) ((first | exact q | assumption))
        ((first | (go_at_call 9; refine (C9.out _ _ _ (by assumption)).mono ?_; rintro e w9 ⟨rfl, h9⟩; have q9 := HCL.out _ _ _ _ h9) | (go_at_call 10; refine (C10.out _ _ _ (by assumption)).mono ?_; rintro e w10 ⟨rfl, h10⟩; have q10 := HCL.out _ _ _ _ h10)))
      have HS10 := Lib.hid h10
      clear h9 q9 q10 h10 C9 C10 HCL SD q
      have hcn : cnt k n = k / 8 := by unfold cnt; rw [if_neg (by omega)]
      rw [hcn] at HS10
      by_cases hw : k % 8 = 7 ∨ k + 1 = n
      · have hcn1 : cnt (k + 1) n = k / 8 + 1 := by unfold cnt; split <;> omega
        have HCN := Lib.hid (And.intro hcn1 (show k / 8 ≤ 900 by omega))
        obtain ⟨FR, hFR⟩ : ∃ x, (Gm.run l2).frm = x := ⟨_, rfl⟩
        obtain ⟨TT, hTT⟩ : ∃ x, (Gm.run l2).last.t = x := ⟨_, rfl⟩
        obtain ⟨NN, hNN⟩ : ∃ x, (Gm.run l2).n = x := ⟨_, rfl⟩
        obtain ⟨BO, hBO⟩ : ∃ x, (Gm.run l2).out = x := ⟨_, rfl⟩
        have hBO2 := out_small l2 HA2.out.1 HA2.out.2
        have C11 := Lib.hid (m_chunk HA2.out.1 HA2.out.2 w10 HS10.out)
        have C14 := Lib.hid (fun c W (h : StM w a w.heap.size r pb l2 l2 c W) => m_rchunk HA2.out.1 HA2.out.2 HTB.out W h)
        rw [hFR, hTT, hNN, hBO] at C11 C14
        rw [hBO] at hBO2
        have HBO := Lib.hid hBO2
        clear hFR hTT hNN hBO hBO2 hcn1 hcn
        have hwb : (((k : Int) % 8 == 7) = true) ∨ (((k : Int) % 8 == 7) = false ∧ k + 1 = n) := by
          by_cases h7 : k % 8 = 7
          · exact .inl (by simp; omega)
          · exact .inr ⟨by simp; omega, by omega⟩
        clear hw
        unfold pt at C11 C14
        rcases hwb with hw7 | ⟨hw7, hwl⟩
        case inl =>
          go_wp2_with fail
          go_at_call 11
          refine C11.out.mono ?_
          rintro e w11 ⟨bs, kk, b1, cap1, u, hkk, hP, rfl, hR, hg, hb11⟩
          unfold chV
          have HC := Lib.hid (And.intro hkk (And.intro hP (And.intro hR (And.intro hg hb11))))
          clear hkk hP hR hg hb11 C11
          go_wp2_with fail
          have hA12 := (Below.refl w11.heap.size w11).alloc (Nat.le_refl _) (.cells #[.int .i64 FR, .int .i64 TT, .int .i64 ((NN : Nat) : Int), .slice b1 bs.length cap1] 73)
          have hrow := heap_alloc_new w11 (.cells #[.int .i64 FR, .int .i64 TT, .int .i64 ((NN : Nat) : Int), .slice b1 bs.length cap1] 73)
          have C12 := Lib.hid (m_book HF.out HCN.out.2 w10 _ HS10.out (HC.out.2.2.2.2.trans (hA12.mono HC.out.2.2.2.2.size)) (HC.out.2.2.1.below hA12) HC.out.2.2.2.1 HC.out.2.1 HC.out.1 HBO.out)
          have hz12 : w11.heap.size < (w11.alloc (.cells #[.int .i64 FR, .int .i64 TT, .int .i64 ((NN : Nat) : Int), .slice b1 bs.length cap1] 73)).heap.size := by simp
          have hz10 := HC.out.2.2.2.2.size
          obtain ⟨s, hs⟩ : ∃ s, w11.heap.size = s := ⟨_, rfl⟩
          rw [hs] at hrow hz12 hz10 ⊢
          clear hA12 hs
          generalize w11.alloc (.cells #[.int .i64 FR, .int .i64 TT, .int .i64 ((NN : Nat) : Int), .slice b1 bs.length cap1] 73) = W12 at hrow hz12 C12 ⊢
          unfold pt at C12
          go_at_call 12
          refine C12.out.mono ?_
          rintro e w12 ⟨rfl, h12, hR12, hsz12, hfr12⟩
          have hrow2 := (hfr12 s hz10 hz12).trans hrow
          have hD := drew_below w12
          have hrow3 := (hD.block s (Array.getElem?_eq_some_iff.1 hrow2).1).trans hrow2
          have q : w12.drew.cell? ⟨s, 0, none⟩ = some (.int .i64 FR) ∧ w12.drew.cell? ⟨s, 1, none⟩ = some (.int .i64 TT) ∧ w12.drew.cell? ⟨s, 2, none⟩ = some (.int .i64 ((NN : Nat) : Int)) ∧ w12.drew.cell? ⟨s, 3, none⟩ = some (.slice b1 bs.length cap1) := ⟨(cell_of_row _ _ 0 _ _ _ hrow3).trans rfl, (cell_of_row _ _ 1 _ _ _ hrow3).trans rfl, (cell_of_row _ _ 2 _ _ _ hrow3).trans rfl, (cell_of_row _ _ 3 _ _ _ hrow3).trans rfl⟩
          have HS12 := h12
          have HR12 := hR12
          have HP12 := Lib.hid (And.intro HC.out.1 HC.out.2.1)
          have hAA := ((Below.refl w12.heap.size w12).alloc (Nat.le_refl _) (.cells #[.int .i64 FR, .int .i64 TT, .int .i64 ((NN : Nat) : Int), .slice b1 bs.length cap1] 73)).drew
          have HSA := Lib.hid (h12.still hAA)
          have HRA := Lib.hid (hR12.below hAA)
          have HSD := Lib.hid (h12.still hD)
          have HRD := Lib.hid (hR12.below hD)
          have HCA := Lib.hid (keepF (ch_new w12 (.int .i64 FR) (.int .i64 TT) (.int .i64 ((NN : Nat) : Int)) (.slice b1 bs.length cap1) 73 (0, 0)) (drew_below _))
          clear hrow hrow2 hrow3 hsz12 hfr12 hz12 hz10 h12 hR12 HC C12 HS10 hD hAA HS12 HR12
          go_wp2_with fail
          go_region_held3 (fun w' => w'.cell? ⟨s, 0, none⟩ = some (.int .i64 FR) ∧ w'.cell? ⟨s, 1, none⟩ = some (.int .i64 TT) ∧ w'.cell? ⟨s, 2, none⟩ = some (.int .i64 ((NN : Nat) : Int)) ∧ w'.cell? ⟨s, 3, none⟩ = some (.slice b1 bs.length cap1)) ((first | exact q | assumption | (refine ch_alloc _ ?_; assumption) | (refine ch_alloc _ (ch_alloc _ ?_); assumption)))
            ((first
              | (go_at_call 14; (with_reducible refine (C14.out _ _ HSA.out).mono ?_); rintro e w14 ⟨bs2, k2, b2, cap2, u2, hk2, hP2, rfl, hR2, hg2, hb14⟩; obtain rfl := B2.Bt.packs_unique HP12.out.2 hP2 HP12.out.1 hk2; have hs14 := keepF (by assumption) hb14; have H14 := Lib.hid (And.intro (HSA.out.still hb14) (And.intro hR2 (And.intro (HRA.out.below hb14) (keepF HCA.out hb14)))); have h8 := hP2.1; have CS := Lib.hid (m_same (show ChAt w14 w12.heap.size FR TT NN (.slice b1 bs.length cap1) from H14.out.2.2.2) H14.out.2.2.1 H14.out.2.1 h8); have HSK := Lib.hid H14.out.1; unfold chV; clear hb14 hR2 hk2 hP2 hg2 h8)
              | (go_at_call 14; (with_reducible refine (C14.out _ _ HSD.out).mono ?_); rintro e w14 ⟨bs2, k2, b2, cap2, u2, hk2, hP2, rfl, hR2, hg2, hb14⟩; obtain rfl := B2.Bt.packs_unique HP12.out.2 hP2 HP12.out.1 hk2; have hs14 := keepF (by assumption) hb14; have H14 := Lib.hid (And.intro (HSD.out.still hb14) (And.intro hR2 (HRD.out.below hb14))); have h8 := hP2.1; have CS2 := Lib.hid (m_same2 (FR := FR) (TT := TT) (NN := NN) H14.out.2.2 H14.out.2.1 h8); have CS3 := Lib.hid (m_same3 (FR := FR) (TT := TT) (NN := NN) H14.out.2.2 H14.out.2.1 h8); have HSK := Lib.hid H14.out.1; unfold chV; clear hb14 hR2 hk2 hP2 hg2 h8)
              | (go_at_call 13; (first | (with_reducible refine CS.out.mono ?_) | (with_reducible refine CS2.out.mono ?_) | (with_reducible refine CS3.out.mono ?_)); rintro e w13 ⟨rfl, hb13⟩; have HS13 := Lib.hid (HSK.out.still hb13); have hs13 := keepF hs14 hb13; clear hb13)))
          all_goals
            have HN : Hid (StM w a w.heap.size r pb (acc (xs.take (k + 1))) (acc (xs.take (k + 1))) (cnt (k + 1) n) w13) := Lib.hid (by rw [HSN.out, HCN.out.1]; exact HS13.out)
            clear hs13 HS13 hs14 HSK H14
            go_wp2_with fail
            go_roundw
            case rel => exact ⟨k + 1, by omega, by go_num, HN⟩
            case measure => simp [intOf]; omega
        case inr =>
          have en1 : (n : Int) - 1 = (k : Int) := by omega
          clear hwl
          go_wp2_with fail
          go_at_call 11
          refine C11.out.mono ?_
          rintro e w11 ⟨bs, kk, b1, cap1, u, hkk, hP, rfl, hR, hg, hb11⟩
          unfold chV
          have HC := Lib.hid (And.intro hkk (And.intro hP (And.intro hR (And.intro hg hb11))))
          clear hkk hP hR hg hb11 C11
          go_wp2_with fail
          have hA12 := (Below.refl w11.heap.size w11).alloc (Nat.le_refl _) (.cells #[.int .i64 FR, .int .i64 TT, .int .i64 ((NN : Nat) : Int), .slice b1 bs.length cap1] 73)
          have hrow := heap_alloc_new w11 (.cells #[.int .i64 FR, .int .i64 TT, .int .i64 ((NN : Nat) : Int), .slice b1 bs.length cap1] 73)
          have C12 := Lib.hid (m_book HF.out HCN.out.2 w10 _ HS10.out (HC.out.2.2.2.2.trans (hA12.mono HC.out.2.2.2.2.size)) (HC.out.2.2.1.below hA12) HC.out.2.2.2.1 HC.out.2.1 HC.out.1 HBO.out)
          have hz12 : w11.heap.size < (w11.alloc (.cells #[.int .i64 FR, .int .i64 TT, .int .i64 ((NN : Nat) : Int), .slice b1 bs.length cap1] 73)).heap.size := by simp
          have hz10 := HC.out.2.2.2.2.size
          obtain ⟨s, hs⟩ : ∃ s, w11.heap.size = s := ⟨_, rfl⟩
          rw [hs] at hrow hz12 hz10 ⊢
          clear hA12 hs
          generalize w11.alloc (.cells #[.int .i64 FR, .int .i64 TT, .int .i64 ((NN : Nat) : Int), .slice b1 bs.length cap1] 73) = W12 at hrow hz12 C12 ⊢
          unfold pt at C12
          go_at_call 12
          refine C12.out.mono ?_
          rintro e w12 ⟨rfl, h12, hR12, hsz12, hfr12⟩
          have hrow2 := (hfr12 s hz10 hz12).trans hrow
          have hD := drew_below w12
          have hrow3 := (hD.block s (Array.getElem?_eq_some_iff.1 hrow2).1).trans hrow2
          have q : w12.drew.cell? ⟨s, 0, none⟩ = some (.int .i64 FR) ∧ w12.drew.cell? ⟨s, 1, none⟩ = some (.int .i64 TT) ∧ w12.drew.cell? ⟨s, 2, none⟩ = some (.int .i64 ((NN : Nat) : Int)) ∧ w12.drew.cell? ⟨s, 3, none⟩ = some (.slice b1 bs.length cap1) := ⟨(cell_of_row _ _ 0 _ _ _ hrow3).trans rfl, (cell_of_row _ _ 1 _ _ _ hrow3).trans rfl, (cell_of_row _ _ 2 _ _ _ hrow3).trans rfl, (cell_of_row _ _ 3 _ _ _ hrow3).trans rfl⟩
          have HS12 := h12
          have HR12 := hR12
          have HP12 := Lib.hid (And.intro HC.out.1 HC.out.2.1)
          have hAA := ((Below.refl w12.heap.size w12).alloc (Nat.le_refl _) (.cells #[.int .i64 FR, .int .i64 TT, .int .i64 ((NN : Nat) : Int), .slice b1 bs.length cap1] 73)).drew
          have HSA := Lib.hid (h12.still hAA)
          have HRA := Lib.hid (hR12.below hAA)
          have HSD := Lib.hid (h12.still hD)
          have HRD := Lib.hid (hR12.below hD)
          have HCA := Lib.hid (keepF (ch_new w12 (.int .i64 FR) (.int .i64 TT) (.int .i64 ((NN : Nat) : Int)) (.slice b1 bs.length cap1) 73 (0, 0)) (drew_below _))
          clear hrow hrow2 hrow3 hsz12 hfr12 hz12 hz10 h12 hR12 HC C12 HS10 hD hAA HS12 HR12
          go_wp2_with fail
          go_region_held3 (fun w' => w'.cell? ⟨s, 0, none⟩ = some (.int .i64 FR) ∧ w'.cell? ⟨s, 1, none⟩ = some (.int .i64 TT) ∧ w'.cell? ⟨s, 2, none⟩ = some (.int .i64 ((NN : Nat) : Int)) ∧ w'.cell? ⟨s, 3, none⟩ = some (.slice b1 bs.length cap1)) ((first | exact q | assumption | (refine ch_alloc _ ?_; assumption) | (refine ch_alloc _ (ch_alloc _ ?_); assumption)))
            ((first
              | (go_at_call 14; (with_reducible refine (C14.out _ _ HSA.out).mono ?_); rintro e w14 ⟨bs2, k2, b2, cap2, u2, hk2, hP2, rfl, hR2, hg2, hb14⟩; obtain rfl := B2.Bt.packs_unique HP12.out.2 hP2 HP12.out.1 hk2; have hs14 := keepF (by assumption) hb14; have H14 := Lib.hid (And.intro (HSA.out.still hb14) (And.intro hR2 (And.intro (HRA.out.below hb14) (keepF HCA.out hb14)))); have h8 := hP2.1; have CS := Lib.hid (m_same (show ChAt w14 w12.heap.size FR TT NN (.slice b1 bs.length cap1) from H14.out.2.2.2) H14.out.2.2.1 H14.out.2.1 h8); have HSK := Lib.hid H14.out.1; unfold chV; clear hb14 hR2 hk2 hP2 hg2 h8)
              | (go_at_call 14; (with_reducible refine (C14.out _ _ HSD.out).mono ?_); rintro e w14 ⟨bs2, k2, b2, cap2, u2, hk2, hP2, rfl, hR2, hg2, hb14⟩; obtain rfl := B2.Bt.packs_unique HP12.out.2 hP2 HP12.out.1 hk2; have hs14 := keepF (by assumption) hb14; have H14 := Lib.hid (And.intro (HSD.out.still hb14) (And.intro hR2 (HRD.out.below hb14))); have h8 := hP2.1; have CS2 := Lib.hid (m_same2 (FR := FR) (TT := TT) (NN := NN) H14.out.2.2 H14.out.2.1 h8); have CS3 := Lib.hid (m_same3 (FR := FR) (TT := TT) (NN := NN) H14.out.2.2 H14.out.2.1 h8); have HSK := Lib.hid H14.out.1; unfold chV; clear hb14 hR2 hk2 hP2 hg2 h8)
              | (go_at_call 13; (first | (with_reducible refine CS.out.mono ?_) | (with_reducible refine CS2.out.mono ?_) | (with_reducible refine CS3.out.mono ?_)); rintro e w13 ⟨rfl, hb13⟩; have HS13 := Lib.hid (HSK.out.still hb13); have hs13 := keepF hs14 hb13; clear hb13)))
          all_goals
            have HN : Hid (StM w a w.heap.size r pb (acc (xs.take (k + 1))) (acc (xs.take (k + 1))) (cnt (k + 1) n) w13) := Lib.hid (by rw [HSN.out, HCN.out.1]; exact HS13.out)
            clear hs13 HS13 hs14 HSK H14
            go_wp2_with fail
            go_roundw
            case rel => exact ⟨k + 1, by omega, by go_num, HN⟩
            case measure => simp [intOf]; omega
      · have hcn1 : cnt (k + 1) n = k / 8 := by unfold cnt; rw [if_neg (by omega)]; omega
        have HN : Hid (StM w a w.heap.size r pb (acc (xs.take (k + 1))) (acc (xs.take (k + 1))) (cnt (k + 1) n) w10) := Lib.hid (by rw [HSN.out, hcn1]; exact HS10.out)
        have hw7 : ((k : Int) % 8 == 7) = false := by simp; omega
        obtain ⟨n1, hn1⟩ : ∃ n1 : Nat, n - 1 = n1 := ⟨_, rfl⟩
        have en1 : (n : Int) - 1 = (n1 : Int) := by omega
        have en2 : ((k : Int) == (n1 : Int)) = false := by simp; omega
        have en3 : ¬ k = n1 := by omega
        clear hw hn1 hcn1 hcn
        go_wp2_with fail
        go_roundw
        case rel => exact ⟨k + 1, by omega, by go_num, HN⟩
        case measure => simp [intOf]; omega
    · obtain rfl : k = n := by omega
      have hd : decide ((k : Int) < (k : Int)) = false := by simp
      have hc9 : cnt k k ≤ 1000 := by unfold cnt; rw [if_pos rfl]; omega
      have CO := Lib.hid (m_own HF.out hc9 wr HS.out)
      have HB9 := Lib.hid HS.out.below
      unfold pt at CO
      clear HS hc9
      go_wp2_with fail
      go_at_call 15
      refine CO.out.mono ?_
      rintro e w9 ⟨rfl, hb9⟩
      have HE := Lib.hid hb9
      clear hb9
      go_wp2_with fail
      go_ret
      exact ⟨rfl, HE.out⟩
end Go.Proofs.YtdlifcpdlbmijaaDoor
namespace Go.Proofs.YtdlifcpdlbmijaaDoor
set_option linter.unusedVariables false
set_option linter.unusedSimpArgs false
open Go.RowKit Go.ChangeShapes Go.WideShapes
open Gm (St Smp)
theorem two_cells {cs : List Value} (h : cs.length = 2) : ∃ c0 c1, cs = [c0, c1] := by
  rcases cs with _ | ⟨c0, _ | ⟨c1, _ | ⟨c2, t⟩⟩⟩
  · cases h
  · cases h
  · exact ⟨c0, c1, rfl⟩
  · simp at h
theorem cells2 : Tryd.prog.cellsOf 2 = 1 := by kernel_rfl
theorem cells65n : Tryd.prog.cellsOf 68 = 1 := by kernel_rfl
theorem cells70 : Tryd.prog.cellsOf 70 = 2 := by kernel_rfl
/-- one sample's cells -/
theorem smp_cells {H : Type} {enc : TypeId × Value → H} {w : World} {base fuel : Nat} {spare : Nat → Bool} {held : Bool} {cs : List Value} {a : Addr} {d : DataW H} {pl : List MemPlace}
    (hc : w.cells? base a 2 = some cs) (ht : DataW.trod enc Tryd.prog w base spare held fuel 70 cs = some (d, pl)) :
    ∃ o : Smp, Gm.OkS o ∧ w.cell? (a.add 0) = some (.int .i64 o.t) ∧ w.cell? (a.add 1) = some (.int .u64 ((o.v : Nat) : Int)) := by
  obtain ⟨ys, n, _, _, _, hyl, hf⟩ := DataW.trod_struct Tryd.underlying70 ht
  obtain ⟨_, hcl, hat⟩ := World.cells?_some hc
  obtain ⟨c0, c1, rfl⟩ := two_cells hcl
  have t0 : DataW.trod enc Tryd.prog w base spare held n 2 (([c0, c1].drop 0).take (Tryd.prog.cellsOf 2)) = ys[0]? := hf 0 _ rfl
  have t1 : DataW.trod enc Tryd.prog w base spare held n 68 (([c0, c1].drop 1).take (Tryd.prog.cellsOf 68)) = ys[1]? := hf 1 _ rfl
  have y0 : ys[0]? = some (ys[0]'(by rw [hyl]; decide)) := List.getElem?_eq_getElem _
  have y1 : ys[1]? = some (ys[1]'(by rw [hyl]; decide)) := List.getElem?_eq_getElem _
  rw [y0, cells2] at t0
  rw [y1, cells65n] at t1
  obtain ⟨n0, e0, _, f0⟩ := DataW.trod_int Tryd.underlying2 t0
  obtain ⟨n1, e1, _, f1⟩ := DataW.trod_int Tryd.underlying68 t1
  have a0 : c0 = .int .i64 n0 := by simpa using e0
  have a1 : c1 = .int .u64 n1 := by simpa using e1
  subst a0 a1
  have b0 := bounds_i64 f0
  have b1 := bounds_u64 f1
  obtain ⟨m1, rfl⟩ := Int.eq_ofNat_of_zero_le b1.1
  exact ⟨⟨n0, m1⟩, ⟨b0.1, b0.2, by show m1 < _; omega⟩, hat 0 (by decide), hat 1 (by decide)⟩
/-- a slice of samples that came in -/
theorem smps_of_trod {H : Type} {enc : TypeId × Value → H} {w : World} {base fuel : Nat} {spare : Nat → Bool} {held : Bool} {a : Option Addr} {len cap : Nat} {x : DataW H × List MemPlace}
    (h : DataW.trod enc Tryd.prog w base spare held fuel 22 [.slice a len cap] = some x) : ∃ xs : List Smp, xs.length = len ∧ len ≤ maxLen ∧ Ins w a xs := by
  rcases Go.Deep.open_slice Tryd.underlying22 h with ⟨hcs, _⟩ | ⟨ad, l, c, m, n, D, Pl, hcs, _, hl, hm, hmm, _, hi⟩
  · simp at hcs
    obtain ⟨rfl, rfl, rfl⟩ := hcs
    exact ⟨[], rfl, Nat.zero_le _, fun _ h => absurd h (by simp), fun h => absurd rfl h⟩
  · simp at hcs
    obtain ⟨rfl, rfl, rfl⟩ := hcs
    have hlm : len ≤ m := by rw [hmm]; split <;> omega
    have hone : ∀ i, i < len → ∃ o : Smp, Gm.OkS o ∧ w.cell? ((ad.add (i * 2)).add 0) = some (.int .i64 o.t) ∧ w.cell? ((ad.add (i * 2)).add 1) = some (.int .u64 ((o.v : Nat) : Int)) := by
      intro i hil
      obtain ⟨cs', hc, ht⟩ := hi i (by omega)
      rw [cells70] at hc
      exact smp_cells hc ht
    have hall : ∀ k, k ≤ len → ∃ os : List Smp, os.length = k ∧ ∀ i (hi : i < os.length), Gm.OkS os[i] ∧ w.cell? ((ad.add (i * 2)).add 0) = some (.int .i64 os[i].t) ∧ w.cell? ((ad.add (i * 2)).add 1) = some (.int .u64 ((os[i].v : Nat) : Int)) := by
      intro k hk
      induction k with
      | zero => exact ⟨[], rfl, fun i hi => absurd hi (by simp)⟩
      | succ k ih =>
        obtain ⟨os, hl, ho⟩ := ih (by omega)
        obtain ⟨o, h1⟩ := hone k (by omega)
        refine ⟨os ++ [o], by simp [hl], fun i hi => ?_⟩
        by_cases hik : i < os.length
        · rw [List.getElem_append_left hik]; exact ho i hik
        · have : i = k := by simp [hl] at hi; omega
          subst this
          have e : (os ++ [o])[i] = o := by rw [List.getElem_append_right (by omega)]; simp [hl]
          rw [e]; exact h1
    obtain ⟨os, hl2, ho⟩ := hall len (Nat.le_refl _)
    refine ⟨os, hl2, Nat.le_trans hl hm, ?_, fun hn => ?_⟩
    · intro o ho2
      obtain ⟨i, hi, rfl⟩ := List.getElem_of_mem ho2
      exact (ho i hi).1
    · have h0 : 0 < os.length := List.length_pos_iff.2 hn
      obtain ⟨b, off, spot⟩ := ad
      have hc0 := (ho 0 h0).2.1
      have hspot : spot = none := by simpa [Addr.add] using World.cell?_spot hc0
      subst hspot
      refine ⟨b, off, rfl, ?_, fun i hi => ?_⟩
      · have := World.block_lt_of_cell? _ _ hc0
        simpa [Addr.add] using this
      · obtain ⟨_, k1, k2⟩ := ho i hi
        rw [B2.add_at, B2.add_at] at k1 k2
        exact ⟨k1, k2⟩
end Go.Proofs.YtdlifcpdlbmijaaDoor
namespace Go.Proofs.YtdlifcpdlbmijaaDoor.gorillaMakes
open Go.ChangeShapes Go.WideShapes Go.ChangeAt Go.RowKit
open Go.ChangeMaps (open_string shut_string)
set_option linter.unusedVariables false
theorem own : ownKnob Tryd.prog.godebug = none := by kernel_rfl
theorem laidOut : laidOutB Tryd.prog = true := by kernel_rfl
set_option maxRecDepth 100000 in
theorem lifted (os : Os) (started : os.Started) (H : Type) (enc : TypeId × Value → H) (F : Stop.Interp) :
    ReturnsInHanded {} Tryd.checked os 3 .any ((OpenSpec.ofChange Rows.gorillaMakesSpec).preRow enc Tryd.prog Tryd.f3 [] false laid1) (((OpenSpec.ofChange Rows.gorillaMakesSpec).at F).post enc Tryd.prog Tryd.f3 false true false false) := by
  refine returnsInHanded_of_row (C := Tryd.checked) (s := OpenSpec.ofChange Rows.gorillaMakesSpec) (F := F) (laid := laid1) own started (by kernel_rfl) Tryd.func3
    (ChangeSpec.witness_shaped (enc := enc) (C := Tryd.checked) (os := os) (s := Rows.gorillaMakesSpec) (X := fun w _ => laidMetH Tryd.prog laid1 w) false (startWorld os) #[.slice none 0 0] 8 (startWorld_os os) (start_shaped os _) (by kernel_rfl) (by kernel_rfl) (by kernel_rfl) (door_met os _)) ?_
  intro W base args ds gs before hval0 hW hcnd _ _ hL hsh _
  have hval : ∀ (j : Nat) t v, Tryd.f3.params[j]? = some t → args[j]? = some v → Value.okWide Tryd.prog W .any base t v := hval0
  have hW' := hW
  obtain ⟨p, q, hA0, hV, rfl, hfz, hnd⟩ := hW
  have hA : DataW.TrodAll enc Tryd.prog W 0 (fun _ => true) true Tryd.f3.params.toList args.toList ds p := hA0
  rw [Tryd.params3] at hA hval
  obtain ⟨v0, vs0, d0, ds0, p0, q0, hargs, rfl, rfl, h0, r0⟩ := trodAll_cons hA
  obtain ⟨rfl, rfl, rfl⟩ := trodAll_nil r0
  obtain rfl : args = #[v0] := by cases args; simp_all
  obtain ⟨rfl, rfl⟩ := trodVars_none hV
  obtain ⟨a0, len0, cap0, rfl⟩ := okWide_slice Tryd.underlying22 (hval 0 22 v0 rfl rfl)
  have k0 := h0
  have lt0 : ∀ x ∈ p0, x.block < W.heap.size := by obtain ⟨m, hm⟩ := k0; exact DataW.trod_lt m _ _ _ hm
  obtain ⟨fuel, hf⟩ := h0
  obtain ⟨l, hl, hm, HO⟩ := smps_of_trod hf
  have hT : TabAt W := laid_tab hL
  obtain ⟨q9, b0, b1, b2, c, c0, c1, c2, o9, oa, oc, od, hTB⟩ := laid_rows hL
  clear hA0 hval0 hf hL hsh
  refine (show Calls Tryd.prog 3 #[.slice a0 len0 cap0] W fun e w' => e = .returned (.bool true) ∧ Below W.heap.size W w' from by
    by_cases h2 : len0 ≤ 2000
    · exact makes_law a0 l len0 cap0 hl h2 W HO hT hTB
    · exact makes_many a0 len0 cap0 (by omega) W).mono fun e W' ⟨he, bel⟩ => ?_
  subst he
  exact ⟨_, rfl, _, _, _, [], _, [], hW', trodAll_mk1 (shut_bool Tryd.underlying4 _), (trodAll_cons_mk (Below.trod laidOut (by kernel_rfl) (of_decide_eq_true (by kernel_rfl)) k0 bel lt0) trodAll_mk0), rfl, bel.frame _, fun h => by cases h⟩
theorem over : Rows.gorillaMakesRow.holds Tryd.pinned (OpenSpec.ofChange Rows.gorillaMakesSpec) :=
  OpenClaim.holds_of_cond 3 Tryd.f3 rfl rfl rfl rfl rfl rfl rfl ⟨rfl, rfl, rfl, rfl, rfl⟩ rfl rfl rfl rfl rfl f1 Tryd.func3 f2 f3 f4
    (fun os started H enc _ F => by rw [OpenClaim.pre_eq_preRow]; exact lifted os started H enc F)
theorem proved : Rows.GorillaMakesSaid := over
/-- the tied card -/
theorem card : Rows.GorillaMakesCardSaid :=
  Claim7.holds_tied_plain_at .later [] [.data, .widerDeep] true (true, "4c488f6300586be83fdabe05b71e34cd2b865f58dfdb8a9afce37ced25a0800f") false
    proved (fun _ h => by cases h) (by kernel_rfl) (fun _ h => by cases h) gorillaMakes_row_tie rfl ⟨rfl, rfl⟩ (by kernel_rfl) rfl
    (fun f fn hf hfn => by
      obtain rfl : f = 3 := Option.some.inj ((show Tryd.prog.funcNamed "barograph/barographlaw10.GorillaMakes" = some 3 by kernel_rfl).symm.trans hf) |>.symm
      obtain rfl : fn = Tryd.f3 := (Option.some.inj (Tryd.func3.symm.trans hfn)).symm
      exact ⟨by kernel_rfl, fun j t ht => by
        rw [Tryd.params3] at ht
        have hm : t ∈ [22] := by simpa using Array.mem_of_getElem? ht
        have hall : ([22].all fun u => !Tryd.prog.wantsStandIn u) = true := by kernel_rfl
        exact (show Tryd.prog.wantsStandIn t = false by simpa using List.all_eq_true.1 hall t hm)⟩)
    (by kernel_rfl)
#print axioms card
end Go.Proofs.YtdlifcpdlbmijaaDoor.gorillaMakes
