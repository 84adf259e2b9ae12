/-
  PROVED: samples are made chunks of 120, and chunks samples, or refused, as the document says, of any samples and any chunks, which stay as they were; what comes out is its owner's; for every list of samples and every list of chunks, both of which read afterwards as they read before. Conditions: none.
-/
import Derived.Test.YtdlifcpdlbmijaaGreatDoorK09
import Derived.Test.YtdlifcpdlbmijaaGreatDoorK10
import Derived.Test.YtdlifcpdlbmijaaGreatDoorK12
import Derived.Test.YtdlifcpdlbmijaaGreatDoorK03
import Derived.Test.YtdlifcpdlbmijaaGreatDoorK04
import Derived.Test.YtdlifcpdlbmijaaGreatDoorKFGorillaLists
import Derived.Test.YtdlifcpdlbmijaaGreatDoorTie
import Derived.Test.YtdlifcpdlbmijaaGreatDoorCards
import Derived.OwnWalk
import Derived.OpenShut
import Derived.Deep.Slices
import Derived.SizedLaws
import Derived.Deep.DeepHandedRow
import Derived.SevenTiedAt
import Derived.WalkKit
import Derived.ProofKit
import Derived.ShutString
import Derived.ChangeOld
import Derived.Below
set_option linter.unusedVariables false
set_option linter.unusedSimpArgs false
namespace Go.Proofs.YtdlifcpdlbmijaaGreatDoor
set_option linter.unusedVariables false
set_option linter.unusedSimpArgs false
open Go.RowKit Go.PlainAid Go.Shelf
open B2 (Only Bys Row cellsOf owns_only Lent)
open Gm (St Smp Chk)
/-- what Encode tells, both sides -/
def EncSays (base : Nat) (l : List Smp) (e : Ending) (w' : World) : Prop :=
  ∃ v cs ds, e = .returned (.tuple #[v, .int .u16 ((fitE l : Nat) : Int)]) ∧ OwnC w' base v cs ds ∧ ((fitE l = 0 ∧ Gm.Enc l cs) ∨ (fitE l ≠ 0 ∧ cs = []))
theorem code_enc (a : Option Addr) (n c : Nat) (l : List Smp) (hn : l.length = n) (hc : n ≤ c) (hz : n ≤ 2000) (hok : ∀ x ∈ l, Gm.OkS x) (w : World) (H : Sms w a l) (hT : TabAt w) :
    Calls Tryz.prog 6 #[.slice a n c] w fun e w' => EncSays w.heap.size l e w' ∧ Below w.heap.size w w' := by
  have he : fitE l = if inTo l = true then (if upTo l = true then 0 else 100) else 2 := rfl
  by_cases h1 : inTo l = true
  · by_cases h2 : upTo l = true
    · rw [if_pos h1, if_pos h2] at he
      refine (encode_any a n c l hn hc ⟨by omega, hok, (inTo_iff l).1 h1, (upTo_iff l).1 h2⟩ w H hT).mono ?_
      rintro e w' ⟨v, cs, ds, rfl, hE, hC, hb⟩
      exact ⟨⟨v, cs, ds, by rw [he]; rfl, hC, .inl ⟨he, hE⟩⟩, hb⟩
    · rw [if_pos h1, if_neg h2] at he
      refine (encode_old a n c l (fun h => h2 ((upTo_iff l).2 h)) hn (by omega) ((inTo_iff l).1 h1) w H).mono ?_
      rintro e w' ⟨rfl, hb⟩
      exact ⟨⟨_, [], [], by rw [he]; rfl, OwnC.nil _ _, .inr ⟨by omega, rfl⟩⟩, hb⟩
  · rw [if_neg h1] at he
    refine (encode_far a n c l hn (by omega) (fun h => h1 ((inTo_iff l).2 h)) w H).mono ?_
    rintro e w' ⟨rfl, hb⟩
    exact ⟨⟨_, [], [], by rw [he]; rfl, OwnC.nil _ _, .inr ⟨by omega, rfl⟩⟩, hb⟩
theorem ref_enc (a : Option Addr) (n c : Nat) (l : List Smp) (hn : l.length = n) (hc : n ≤ c) (hz : n ≤ 2000) (hok : ∀ x ∈ l, Gm.OkS x) (k0 p0 p1 p2 cc c0 c1 c2 o9 oa oc od : Nat) (w : World) (H : Sms w a l) (HT : TabB w k0 p0 p1 p2 cc c0 c1 c2 o9 oa oc od) :
    Calls Tryz.prog 12 #[.slice a n c] w fun e w' => EncSays w.heap.size l e w' ∧ Below w.heap.size w w' := by
  by_cases h : fitE l = 0
  · refine (refenc_ok a n c l hn hc hz hok h k0 p0 p1 p2 cc c0 c1 c2 o9 oa oc od w H HT).mono ?_
    rintro e w' ⟨v, cs, ds, rfl, hE, hC, hb⟩
    exact ⟨⟨v, cs, ds, by rw [h]; rfl, hC, .inl ⟨h, hE⟩⟩, hb⟩
  · refine (refenc_no a n c l hn hz _ rfl h w H).mono ?_
    rintro e w' ⟨rfl, hb⟩
    exact ⟨⟨_, [], [], rfl, OwnC.nil _ _, .inr ⟨h, rfl⟩⟩, hb⟩
open Classical in
noncomputable def decE (cs : List Cin) : Int := if ∀ r ∈ cs, GoodI r then (if upsC cs then 0 else 100) else 101
open Classical in
noncomputable def decL (cs : List Cin) : List Smp := if ∀ r ∈ cs, GoodI r then (if upsC cs then cs.flatMap smpOf else []) else []
theorem dec_one {base : Nat} {cs : List Cin} {e : Ending} {w' : World} (h : DecSays base cs e w') : ∃ v, e = .returned (.tuple #[v, .int .u16 (decE cs)]) ∧ OwnS w' base v (decL cs) := by
  have hnil : OwnS w' base (.slice none 0 0) [] := by simpa [OwnS, smC] using World.ownsRow_nil w' base 79 2
  unfold decE decL
  rcases h with ⟨rfl, h⟩ | ⟨rfl, h, h2⟩ | ⟨v, rfl, hO, h, h2⟩
  · rw [if_neg h, if_neg h]; exact ⟨_, rfl, hnil⟩
  · rw [if_pos h, if_pos h, if_neg h2, if_neg h2]; exact ⟨_, rfl, hnil⟩
  · rw [if_pos h, if_pos h, if_pos h2, if_pos h2]; exact ⟨_, rfl, hO⟩
theorem decL_len (cs : List Cin) : (decL cs).length ≤ 120 * cs.length := by
  unfold decL
  split
  · rename_i h
    split
    · have := smps_len cs h cs.length (Nat.le_refl _)
      rwa [List.take_length] at this
    · simp
  · simp
/-- lent chunks are chunks that come in -/
theorem LentL.cin {w0 w : World} {g : Nat} {G : Nat → Nat} {Ls : List Cin} (H : LentL w0 w g G Ls) (hl : ∀ r ∈ Ls, r.bs.length ≤ 100000 ∧ ∀ c ∈ r.bs, c < 256) : CinAt w (some ⟨g, 0, none⟩) Ls := fun hn => by
  refine ⟨g, 0, rfl, (Array.getElem?_eq_some_iff.1 H.row).1, fun i hi => ?_⟩
  obtain ⟨c0, c1, c2, c3⟩ := H.cells i hi
  obtain ⟨h1, h2⟩ := hl _ (List.getElem_mem hi)
  have h3 := (H.each i hi).1
  rw [show Ls.getD i cin0 = Ls[i] by simp [List.getD, List.getElem?_eq_getElem hi]] at h3
  rw [Nat.zero_add]
  exact ⟨_, _, c0, c1, c2, c3, fun h => (by cases h), h3.bytes (by unfold maxLen; omega) h2⟩
/-- the rows of the book -/
theorem outer_of {w : World} {te n pb : Nat} {v : Value} {xs : List Value} {X : Nat → Value} (h : w.ownsRow 0 te 1 v n xs) (hX : ∀ j, j < n → xs[j]? = some (X j)) :
    ∃ a c h0, v = .slice a n c ∧ Bk.Outer w a h0 n X ∧ ((n = 0 ∧ h0 = pb) ∨ (∃ cur : Array Value, w.heap[h0]? = some (.cells cur te (0, 0)))) := by
  rcases h.2 with ⟨hv, h0⟩ | ⟨g, c2, cur, hv, _, hh, _⟩
  · exact ⟨none, 0, pb, by rw [hv, h0], fun h => by omega, .inl ⟨h0, rfl⟩⟩
  · refine ⟨some ⟨g, 0, none⟩, c2, g, hv, fun _ => ⟨rfl, (Array.getElem?_eq_some_iff.1 hh).1, fun i hi => ?_⟩, .inr ⟨cur, hh⟩⟩
    have q := h.cells (g := g) (by rw [hv]; rfl) i (X i) (hX i hi)
    rwa [B2.add_here] at q
theorem apart_nil {f : Nat → Value} {v : Value} (hf : ∀ j, f j = if j = 0 then v else .slice none 0 0) : ∀ i j, i ≠ j → (f i).ownBlock = none ∨ (f i).ownBlock ≠ (f j).ownBlock := fun i j hij => by
  rw [hf, hf]
  by_cases h : i = 0
  · rw [if_pos h, if_neg (by omega)]
    cases e : v.ownBlock with
    | none => exact .inl rfl
    | some g => exact .inr (fun h => by cases h)
  · rw [if_neg h]; exact .inl rfl
theorem three_b {w : World} {pb n base : Nat} {v vx : Value} {cs : List Chk} {ds : List Value} {F : Nat → Value} (hB : BG w pb F) (hC : OwnC w base vx cs ds) (hn : cs.length = n) (hz : n ≤ 1000) (hl : ∀ c ∈ cs, c.bs.length ≤ 1000000) (h : w.ownsRow 0 24 1 v n ds) :
    ∃ a c h0, v = .slice a n c ∧ ThreeB w a h0 n (fun j => ds.getD j (.slice none 0 0)) (fun j => (cs.getD j ⟨0, 0, 0, []⟩).bs.length) (ds.filterMap Value.ownBlock) := by
  have hdl : ds.length = n := by rw [hC.len, hn]
  obtain ⟨a, c, h0, hv, hO, hh⟩ := outer_of (pb := pb) (X := fun j => ds.getD j (.slice none 0 0)) h (fun j hj => by simp [List.getD, List.getElem?_eq_getElem (show j < ds.length by omega)])
  have hblk : ∀ j g, (ds.getD j (.slice none 0 0)).ownBlock = some g → ∃ cur : Array Value, w.heap[g]? = some (.cells cur 5 (0, 0)) := fun j g hg => by
    by_cases hj : j < cs.length
    · obtain ⟨ad, cap, k1, k2, _⟩ := hC.each j hj
      simp only [List.getD, k1, Option.getD_some] at hg
      exact owns_cells k2 hg
    · have : ds[j]? = none := List.getElem?_eq_none (by omega)
      simp only [List.getD, this, Option.getD_none] at hg
      cases hg
  refine ⟨a, c, h0, hv, ⟨fun j g hg => ⟨hC.lt j g hg, Nat.zero_le _⟩, fun j g hg e => ?_, ?_, hC.apart, Nat.zero_le _⟩, hO, ⟨fun j => (cs.getD j ⟨0, 0, 0, []⟩).bs, ⟨fun i => ?_, hC.apart⟩, fun j => rfl⟩, hz, fun j => ?_, fun j hj => ?_, fun j g hg => ?_⟩
  · subst e
    obtain ⟨cur, hc⟩ := hblk j g hg
    rcases hh with ⟨_, h2⟩ | ⟨cur2, h2⟩
    · subst h2; exact unlike hc hB (by decide) rfl
    · exact unlike hc h2 (by decide) rfl
  · rcases hh with ⟨_, h2⟩ | ⟨cur2, h2⟩
    · rw [h2]; exact hB.lt
    · exact (Array.getElem?_eq_some_iff.1 h2).1
  · by_cases hi : i < cs.length
    · obtain ⟨ad, cap, k1, k2, _⟩ := hC.each i hi
      simp only [List.getD, k1, Option.getD_some, List.getElem?_eq_getElem hi]
      exact k2
    · have e1 : ds[i]? = none := List.getElem?_eq_none (by omega)
      have e2 : cs[i]? = none := List.getElem?_eq_none (by omega)
      simp only [List.getD, e1, e2, Option.getD_none]
      exact World.ownsRow_nil _ _ _ _
  · by_cases hi : j < cs.length
    · simp only [List.getD, List.getElem?_eq_getElem hi, Option.getD_some]
      exact hl _ (List.getElem_mem hi)
    · simp only [List.getD, List.getElem?_eq_none (show cs.length ≤ j by omega), Option.getD_none]
      exact Nat.zero_le _
  · simp only [List.getD, List.getElem?_eq_none (show cs.length ≤ j by omega), Option.getD_none]
    rfl
  · by_cases hi : j < ds.length
    · simp only [List.getD, List.getElem?_eq_getElem hi, Option.getD_some] at hg
      exact List.mem_filterMap.2 ⟨_, List.getElem_mem hi, hg⟩
    · simp only [List.getD, List.getElem?_eq_none (show ds.length ≤ j by omega), Option.getD_none] at hg
      cases hg
/-- the blocks of data are of bytes -/
theorem data_ty {w : World} {base : Nat} {vx : Value} {cs : List Chk} {ds : List Value} (hC : OwnC w base vx cs ds) (g : Nat) (hg : g ∈ ds.filterMap Value.ownBlock) : ∃ cur : Array Value, w.heap[g]? = some (.cells cur 5 (0, 0)) := by
  obtain ⟨v, hv, h2⟩ := List.mem_filterMap.1 hg
  obtain ⟨j, hj, rfl⟩ := List.getElem_of_mem hv
  obtain ⟨ad, cap, k1, k2, _⟩ := hC.each j (by rw [← hC.len]; exact hj)
  rw [List.getElem?_eq_getElem hj] at k1
  injection k1 with k1
  rw [k1] at h2
  exact owns_cells k2 h2
theorem three_s {w : World} {pb base : Nat} {v y : Value} {L : List Smp} {F : Nat → Value} (hB : BG w pb F) (hY : OwnS w base y L) (hl : L.length ≤ 100000000) (h : w.ownsRow 0 22 1 v 1 [y]) :
    ∃ a c h0, v = .slice a 1 c ∧ ThreeS w a h0 1 (fun j => if j = 0 then y else .slice none 0 0) (fun j => if j = 0 then L.length else 0) y.ownBlock.toList ∧ ∃ cur : Array Value, w.heap[h0]? = some (.cells cur 22 (0, 0)) := by
  have hX : ∀ j, j < 1 → [y][j]? = some (if j = 0 then y else .slice none 0 0) := fun j hj => by
    have : j = 0 := by omega
    subst this
    rfl
  obtain ⟨a, c, h0, hv, hO, hh⟩ := outer_of (pb := pb) (X := fun j => if j = 0 then y else .slice none 0 0) h hX
  rcases hh with ⟨h2, _⟩ | ⟨cur, hh⟩
  · omega
  have hblk : ∀ j g, (if j = 0 then y else .slice none 0 0 : Value).ownBlock = some g → y.ownBlock = some g := fun j g hg => by
    by_cases hj : j = 0
    · rw [if_pos hj] at hg; exact hg
    · rw [if_neg hj] at hg; cases hg
  refine ⟨a, c, h0, hv, ⟨⟨fun j g hg => ⟨(World.ownsRow.lt hY g (hblk j g hg)).2, Nat.zero_le _⟩, fun j g hg e => ?_, (Array.getElem?_eq_some_iff.1 hh).1, apart_nil (fun j => rfl), Nat.zero_le _⟩, hO, ⟨fun j => if j = 0 then smC L else [], fun i => ?_, apart_nil (fun j => rfl)⟩, by decide, fun j => ?_, fun j hj => if_neg (by omega), fun j g hg => by simpa using hblk j g hg⟩, cur, hh⟩
  · subst e
    obtain ⟨cur2, hc⟩ := owns_cells hY (hblk j g hg)
    exact unlike hc hh (by decide) rfl
  · by_cases hi : i = 0
    · simp only [hi, if_true]; exact Bk.owns_lower hY (Nat.zero_le _)
    · simp only [hi, if_false]; exact World.ownsRow_nil _ _ _ _
  · by_cases hj : j = 0
    · simp only [hj, if_true]; exact hl
    · simp only [hj, if_false]; exact Nat.zero_le _
theorem three_c {w : World} {pb base : Nat} {v x : Value} {cs : List Chk} {ds : List Value} {F : Nat → Value} (hB : BG w pb F) (hC : OwnC w base x cs ds) (hl : cs.length ≤ 100000000) (h : w.ownsRow 0 23 1 v 1 [x]) :
    ∃ a c h0, v = .slice a 1 c ∧ ThreeC w a h0 1 (fun j => if j = 0 then x else .slice none 0 0) (fun j => if j = 0 then cs.length else 0) x.ownBlock.toList ∧ ∃ cur : Array Value, w.heap[h0]? = some (.cells cur 23 (0, 0)) := by
  have hX : ∀ j, j < 1 → [x][j]? = some (if j = 0 then x else .slice none 0 0) := fun j hj => by
    have : j = 0 := by omega
    subst this
    rfl
  obtain ⟨a, c, h0, hv, hO, hh⟩ := outer_of (pb := pb) (X := fun j => if j = 0 then x else .slice none 0 0) h hX
  rcases hh with ⟨h2, _⟩ | ⟨cur, hh⟩
  · omega
  have hblk : ∀ j g, (if j = 0 then x else .slice none 0 0 : Value).ownBlock = some g → x.ownBlock = some g := fun j g hg => by
    by_cases hj : j = 0
    · rw [if_pos hj] at hg; exact hg
    · rw [if_neg hj] at hg; cases hg
  refine ⟨a, c, h0, hv, ⟨⟨fun j g hg => ⟨(hC.row.lt g (hblk j g hg)).2, Nat.zero_le _⟩, fun j g hg e => ?_, (Array.getElem?_eq_some_iff.1 hh).1, apart_nil (fun j => rfl), Nat.zero_le _⟩, hO, ⟨fun j => if j = 0 then chC cs ds else [], fun i => ?_, apart_nil (fun j => rfl)⟩, by decide, fun j => ?_, fun j hj => if_neg (by omega), fun j g hg => by simpa using hblk j g hg⟩, cur, hh⟩
  · subst e
    obtain ⟨cur2, hc⟩ := owns_cells hC.row (hblk j g hg)
    exact unlike hc hh (by decide) rfl
  · by_cases hi : i = 0
    · simp only [hi, if_true]; exact Bk8.owns_lower hC.row (Nat.zero_le _)
    · simp only [hi, if_false]; exact World.ownsRow_nil _ _ _ _
  · by_cases hj : j = 0
    · simp only [hj, if_true]; exact hl
    · simp only [hj, if_false]; exact Nat.zero_le _
/-- the book's look at the chunks, their bytes and the samples -/
theorem own_three {w : World} {pb n base base2 : Nat} {x y : Value} {cs : List Chk} {ds : List Value} {L : List Smp} {F : Nat → Value} (hB : BG w pb F) (hC : OwnC w base x cs ds) (hn : cs.length = n) (hz : n ≤ 1000) (hl : ∀ c ∈ cs, c.bs.length ≤ 1000000) (hY : OwnS w base2 y L) (hL : L.length ≤ 100000000)
    (h0 : w.ownsRow 0 24 1 (F 0) n ds) (h1 : w.ownsRow 0 22 1 (F 10) 1 [y]) (h2 : w.ownsRow 0 23 1 (F 26) 1 [x]) (er : ∀ k, k ≠ 0 → k ≠ 10 → k ≠ 26 → F k = .slice none 0 0) :
    Calls Tryz.prog 19 #[.pointer (some ⟨pb, 0, none⟩)] w fun e w' => e = .returned (.bool true) ∧ Only (ds.filterMap Value.ownBlock ++ (y.ownBlock.toList ++ x.ownBlock.toList)) w w' := by
  obtain ⟨a0, c0, b0, e0, T0⟩ := three_b hB hC hn hz hl h0
  obtain ⟨a1, c1, b1, e1, T1, cur1, k1⟩ := three_s hB hY hL h1
  obtain ⟨a2, c2, b2, e2, T2, cur2, k2⟩ := three_c hB hC (by omega) h2
  have t5 := data_ty hC
  have t79 : ∀ g, g ∈ y.ownBlock.toList → ∃ cur : Array Value, w.heap[g]? = some (.cells cur 79 (0, 0)) := fun g hg => owns_cells hY (by simpa using hg)
  have t26 : ∀ g, g ∈ x.ownBlock.toList → ∃ cur : Array Value, w.heap[g]? = some (.cells cur 26 (0, 0)) := fun g hg => owns_cells hC.row (by simpa using hg)
  refine bgown_any pb F w hB a0 a1 a2 b0 b1 b2 n 1 1 c0 c1 c2 _ _ _ _ _ _ _ _ _ e0 e1 e2 er T0 T1 T2 ⟨fun h => ?_, fun h => ?_, fun h => ?_⟩ ⟨fun h => ?_, fun h => ?_, fun h => ?_⟩ (fun z hz => ⟨fun h => ?_, fun h => ?_⟩) (fun z hz h => ?_)
  · obtain ⟨c, hc⟩ := t5 _ h; exact unlike hc hB (by decide) rfl
  · obtain ⟨c, hc⟩ := t79 _ h; exact unlike hc hB (by decide) rfl
  · obtain ⟨c, hc⟩ := t26 _ h; exact unlike hc hB (by decide) rfl
  · obtain ⟨c, hc⟩ := t5 _ h; exact unlike hc k1 (by decide) rfl
  · obtain ⟨c, hc⟩ := t5 _ h; exact unlike hc k2 (by decide) rfl
  · obtain ⟨c, hc⟩ := t79 _ h; exact unlike hc k2 (by decide) rfl
  · obtain ⟨c, hc⟩ := t5 _ hz; obtain ⟨d, hd⟩ := t79 _ h; exact unlike hc hd (by decide) rfl
  · obtain ⟨c, hc⟩ := t5 _ hz; obtain ⟨d, hd⟩ := t26 _ h; exact unlike hc hd (by decide) rfl
  · obtain ⟨c, hc⟩ := t79 _ hz; obtain ⟨d, hd⟩ := t26 _ h; exact unlike hc hd (by decide) rfl
theorem fit_zero {l : List Smp} (hz : l.length ≤ 2000) (hok : ∀ x ∈ l, Gm.OkS x) (h : fitE l = 0) : Gm.Rising l := by
  have he : fitE l = if inTo l = true then (if upTo l = true then 0 else 100) else 2 := rfl
  by_cases h1 : inTo l = true
  · by_cases h2 : upTo l = true
    · exact ⟨hz, hok, (inTo_iff l).1 h1, (upTo_iff l).1 h2⟩
    · rw [if_pos h1, if_neg h2] at he; omega
  · rw [if_neg h1] at he; omega
theorem enc_sz {l : List Smp} {cs : List Chk} (hz : l.length ≤ 2000) (hok : ∀ x ∈ l, Gm.OkS x) (h : (fitE l = 0 ∧ Gm.Enc l cs) ∨ (fitE l ≠ 0 ∧ cs = [])) : cs.length ≤ 1000 ∧ ∀ c ∈ cs, c.bs.length ≤ 1000000 := by
  rcases h with ⟨h1, h2⟩ | ⟨_, rfl⟩
  · have R := fit_zero hz hok h1
    refine ⟨by rw [h2.len]; unfold Gm.cnt; omega, fun c hc => ?_⟩
    obtain ⟨g, G, C⟩ := goods_enc R h2 c hc
    exact one_bs G C
  · exact ⟨Nat.zero_le _, fun c hc => by cases hc⟩
theorem enc_eq {l : List Smp} {cs cs2 : List Chk} (hok : ∀ x ∈ l, Gm.OkS x) (h : (fitE l = 0 ∧ Gm.Enc l cs) ∨ (fitE l ≠ 0 ∧ cs = [])) (h2 : (fitE l = 0 ∧ Gm.Enc l cs2) ∨ (fitE l ≠ 0 ∧ cs2 = [])) : cs = cs2 := by
  rcases h with ⟨h1, E1⟩ | ⟨h1, rfl⟩
  · rcases h2 with ⟨_, E2⟩ | ⟨h3, _⟩
    · exact (Gm.enc_same hok hok E1 E2).2 rfl
    · exact absurd h1 h3
  · rcases h2 with ⟨h3, _⟩ | ⟨_, rfl⟩
    · exact absurd h3 h1
    · rfl
end Go.Proofs.YtdlifcpdlbmijaaGreatDoor
namespace Go.Proofs.YtdlifcpdlbmijaaGreatDoor
set_option linter.unusedVariables false
set_option linter.unusedSimpArgs false
open Go.RowKit Go.PlainAid Go.Shelf
open B2 (Only Bys Row cellsOf owns_only grown_below grown_below0)
open Gm (St Smp Chk)
theorem smC_lenA (l : List Smp) : (smC l).length = l.length * 2 := by
  induction l with
  | nil => rfl
  | cons a l ih => rw [show smC (a :: l) = .int .i64 a.t :: .int .u64 ((a.v : Nat) : Int) :: smC l from rfl]; simp only [List.length_cons, ih]; omega
theorem smC_oneA (l : List Smp) : ∀ u ∈ smC l, u.oneCell' = true := by
  intro u hu
  unfold smC at hu
  rw [List.mem_flatMap] at hu
  obtain ⟨a, _, ha⟩ := hu
  simp only [List.mem_cons, List.not_mem_nil, or_false] at ha
  rcases ha with rfl | rfl <;> rfl
theorem sms_cells {w : World} {ad : Addr} {l : List Smp} (H : Sms w (some ad) l) : ∀ j u, (smC l)[j]? = some u → w.cell? (ad.add j) = some u := by
  intro j u hj
  have hjl : j < (smC l).length := by
    rcases Nat.lt_or_ge j (smC l).length with h | h
    · exact h
    · rw [List.getElem?_eq_none h] at hj; cases hj
  rw [smC_lenA] at hjl
  obtain ⟨b, off, e, _, hc⟩ := H (by intro e; rw [e] at hjl; simp at hjl)
  injection e with e
  subst e
  rw [B2.add_at]
  obtain ⟨c0, c1⟩ := hc (j / 2) (by omega)
  obtain ⟨g0, g1⟩ := smC_get l (j / 2) (by omega)
  by_cases h2 : j % 2 = 0
  · rw [show j / 2 * 2 = j by omega] at c0 g0
    rw [g0] at hj
    injection hj with hj
    rw [← hj]; exact c0
  · rw [show off + j / 2 * 2 + 1 = off + j by omega] at c1
    rw [show j / 2 * 2 + 1 = j by omega] at g1
    rw [g1] at hj
    injection hj with hj
    rw [← hj]; exact c1
def mkS : List Value := [.int .i64 (-71), .int .u64 0, .int .i64 (-72), .int .u64 0]
/-- samples lent: a copy, two marks behind it -/
def LentS (w : World) (g : Nat) (l : List Smp) : Prop := w.heap[g]? = some (.cells (smC l ++ mkS).toArray 79 (0, 0))
theorem LentS.below {w w' : World} {g : Nat} {l : List Smp} (h : LentS w g l) (hb : Below w.heap.size w w') : LentS w' g l := (hb.block g (Array.getElem?_eq_some_iff.1 h).1).trans h
theorem row79_of_owns {w : World} {base g n : Nat} {xs : List Value} (h : w.ownsRow base 79 2 (.slice (some ⟨g, 0, none⟩) n n) n xs) : w.heap[g]? = some (.cells xs.toArray 79 (0, 0)) := by
  obtain ⟨hl, h2⟩ := h
  rcases h2 with ⟨h0, _⟩ | ⟨g', cap, cur, hv, _, hg, _, _, hcs, ht⟩
  · cases h0
  · cases hv
    rw [hg]
    have : cur.toList = xs := by rw [← ht, List.take_of_length_le (by simp; omega)]
    rw [← this]
theorem marksS (w : World) : ∀ j u, mkS[j]? = some u → (w.alloc (.cells #[.int .i64 (-71), .int .u64 0, .int .i64 (-72), .int .u64 0] 79)).cell? ((⟨w.heap.size, 0, none⟩ : Addr).add j) = some u := World.news_of_block (heap_alloc_new w _)
set_option maxHeartbeats 8000000 in
set_option maxRecDepth 100000 in
theorem lentsmp_any (a : Option Addr) (n cap : Nat) (l : List Smp) (hn : l.length = n) (hz : n ≤ 100000) (hc0 : a = none → cap = 0 ∧ n = 0) (w : World) (H : Sms w a l) :
    Calls Tryz.prog 4 #[.slice a n cap] w fun e w' => ∃ g, w.heap.size ≤ g ∧ e = .returned (.slice (some ⟨g, 0, none⟩) n (n + 2)) ∧ LentS w' g l ∧ Below w.heap.size w w' := by
  obtain ⟨i0, hi, hz0, hz1, hz2⟩ := info_parts info70'
  have A1 := Lib.hid H
  have HONE := Lib.hid (show ∀ u ∈ mkS, u.oneCell' = true by intro u hu; simp [mkS] at hu; rcases hu with rfl | rfl | rfl | rfl <;> rfl)
  clear H
  cases a with
  | none =>
    obtain ⟨rfl, rfl⟩ := hc0 rfl
    obtain rfl : l = [] := List.eq_nil_of_length_eq_zero hn
    clear hn hz hc0
    go_enter Tryz.func4, Tryz.ntmps4
    go_wp2_with (first | (at_make; refine wpList_make_own _ rfl _ _ 22 rfl w.heap.size 79 i0 (.agg #[.int .i64 0, .int .u64 0]) 2 Tryz.underlying22 hi hz0 hz1 .i64 .i64 _ 2 rfl rfl (by rfl) (by rw [hz2]; omega) (by unfold maxLen; omega) (Nat.le_refl _) ?_; intro w1 hown1 hgr1) | (at_builtin; refine wpList_append_own_none rfl (.tmp 8) (.tmp 9) 22 rfl w.heap.size 79 i0 2 Tryz.underlying22 hi _ 0 [] rfl hown1 rfl ?_) | (at_builtin; refine wpList_append_own_spare _ rfl (.tmp 11) (.tmp 14) 22 rfl w.heap.size 79 i0 2 Tryz.underlying22 hi hz1 w.heap.size 0 2 [] rfl (hown1.alloc _) ⟨w1.heap.size, 0, none⟩ 2 2 mkS rfl rfl (marksS w1) HONE.out (by omega) ?_; intro w3 hown3 hgr3))
    go_ret
    have hz1' : w.heap.size ≤ w1.heap.size := hgr1.size
    exact ⟨w.heap.size, Nat.le_refl _, rfl, row79_of_owns hown3, grown_below ((grown_below0 (Below.refl _ _) hgr1 (Nat.le_refl _)).alloc hz1' _) hgr3 (by simp; omega) (Nat.le_refl _)⟩
  | some ad =>
    clear hc0
    have HLN := Lib.hid (show (smC l).length = n * 2 by rw [smC_lenA, hn])
    go_enter Tryz.func4, Tryz.ntmps4
    go_wp2_with (first | (at_make; refine wpList_make_own _ rfl _ _ 22 rfl w.heap.size 79 i0 (.agg #[.int .i64 0, .int .u64 0]) 2 Tryz.underlying22 hi hz0 hz1 .i64 .i64 _ (n + 2) rfl rfl (by simp) (by rw [hz2]; omega) (by unfold maxLen; omega) (Nat.le_refl _) ?_; intro w1 hown1 hgr1; have HB1 := Lib.hid (grown_below0 (Below.refl _ _) hgr1 (Nat.le_refl _)); have hsz : w.heap.size ≤ w1.heap.size := hgr1.size; clear hgr1) | (at_builtin; refine wpList_append_own_spare _ rfl (.tmp 8) (.tmp 9) 22 rfl w.heap.size 79 i0 2 Tryz.underlying22 hi hz1 w.heap.size 0 (n + 2) [] rfl hown1 ad n cap (smC l) rfl HLN.out (sms_cells (A1.out.below HB1.out)) (smC_oneA l) (by omega) ?_; intro w2 hown2 hgr2; have hsz2 : w.heap.size ≤ w2.heap.size := Nat.le_trans hsz hgr2.size; have HB2 := Lib.hid (grown_below HB1.out hgr2 hsz (Nat.le_refl _)); clear hgr2 hown1; simp only [Nat.zero_add, List.nil_append] at hown2) | (at_builtin; refine wpList_append_own_spare _ rfl (.tmp 11) (.tmp 14) 22 rfl w.heap.size 79 i0 2 Tryz.underlying22 hi hz1 w.heap.size n (n + 2) (smC l) rfl (hown2.alloc _) ⟨w2.heap.size, 0, none⟩ 2 2 mkS rfl rfl (marksS w2) HONE.out (by omega) ?_; intro w3 hown3 hgr3))
    go_ret
    refine ⟨w.heap.size, Nat.le_refl _, rfl, ?_, grown_below (HB2.out.alloc hsz2 _) hgr3 (by simp; omega) (Nat.le_refl _)⟩
    unfold LentS
    rw [row79_of_owns hown3]
theorem eq79 (t : Int) (W : World) : (binOp .eql 79 (.agg #[.int .i64 t, .int .u64 0]) (.agg #[.int .i64 t, .int .u64 0])).run Tryz.prog W = .ok (.bool true) W := by
  have u2 := Tryz.underlying2
  have u68 := Tryz.underlying77
  have hS : Tryz.prog.underlying 79 = some (.struct (Tryz.prog.fieldsOf 79)) := by kernel_rfl
  have hp : Tryz.prog.stoodInHeld 79 = false := by kernel_rfl
  rw [run_eql_struct, show (10000 : Nat) = 9999 + 1 from rfl, run_equalIn_agg W 9999 79 _ _ hS hp]
  simp only [Program.fieldsOf, Tryz.underlying79]
  go_simp
theorem LentS.at {w : World} {g : Nat} {l : List Smp} (h : LentS w g l) (j : Nat) : w.cell? ⟨g, j, none⟩ = (smC l ++ mkS)[j]? := by
  rw [cell_of_row _ _ _ _ _ _ h, List.getElem?_toArray]
theorem LentS.mark {w : World} {g n : Nat} {l : List Smp} (h : LentS w g l) (hn : l.length = n) : w.cell? ⟨g, n * 2, none⟩ = some (.int .i64 (-71)) ∧ w.cell? ⟨g, n * 2 + 1, none⟩ = some (.int .u64 0) ∧ w.cell? ⟨g, (n + 1) * 2, none⟩ = some (.int .i64 (-72)) ∧ w.cell? ⟨g, (n + 1) * 2 + 1, none⟩ = some (.int .u64 0) := by
  have hl := smC_lenA l
  rw [hn] at hl
  refine ⟨?_, ?_, ?_, ?_⟩ <;> rw [h.at, List.getElem?_append_right (by omega), hl]
  · rw [Nat.sub_self]; rfl
  · rw [show n * 2 + 1 - n * 2 = 1 by omega]; rfl
  · rw [show (n + 1) * 2 - n * 2 = 2 by omega]; rfl
  · rw [show (n + 1) * 2 + 1 - n * 2 = 3 by omega]; rfl
theorem LentS.smps {w : World} {g : Nat} {l : List Smp} (h : LentS w g l) : Sms w (some ⟨g, 0, none⟩) l := fun _ => by
  refine ⟨g, 0, rfl, (Array.getElem?_eq_some_iff.1 h).1, fun k hk => ?_⟩
  obtain ⟨g0, g1⟩ := smC_get l k hk
  have hl := smC_lenA l
  rw [Nat.zero_add, h.at, h.at, List.getElem?_append_left (by omega), List.getElem?_append_left (by omega)]
  exact ⟨g0, g1⟩
set_option maxHeartbeats 8000000 in
set_option maxRecDepth 100000 in
theorem wholesmp_any (g : Nat) (a : Option Addr) (n cap : Nat) (l : List Smp) (hn : l.length = n) (hz : n ≤ 100000) (w : World) (HL : LentS w g l) (H : Sms w a l) :
    Calls Tryz.prog 8 #[.slice (some ⟨g, 0, none⟩) n (n + 2), .slice a n cap] w fun e w' => e = .returned (.bool true) ∧ Below w.heap.size w w' := by
  obtain ⟨m0, m1, m2, m3⟩ := HL.mark hn
  have CS := Lib.hid (samesmp_any (some ⟨g, 0, none⟩) a (n + 2) cap n n l l hn hn w HL.smps H (by omega) (by omega))
  rw [show decide (l = l) = true from decide_eq_true rfl] at CS
  have e1 := fun W => eq79 (-71) W
  have e2 := fun W => eq79 (-72) W
  clear HL H hn
  go_enter Tryz.func8, Tryz.ntmps8
  go_wp2_with (go_at_call 18; refine CS.out.mono ?_; rintro e w' ⟨rfl, hb⟩; have HB := Lib.hid hb; clear hb)
  go_ret
  exact ⟨rfl, HB.out⟩
end Go.Proofs.YtdlifcpdlbmijaaGreatDoor
namespace Go.Proofs.YtdlifcpdlbmijaaGreatDoor
set_option linter.unusedVariables false
set_option linter.unusedSimpArgs false
open Go.RowKit Go.PlainAid Go.Shelf
open B2 (Only Bys Row cellsOf owns_only grown_below grown_below0)
open Gm (St Smp Chk)
/-- while it is written over -/
def SpoiltS (w : World) (g L : Nat) (wr : World) : Prop := (∃ cur, wr.heap[g]? = some (.cells cur 79 (0, 0)) ∧ cur.size = L) ∧ Only [g] w wr
theorem SpoiltS.cell {w wr : World} {g L k : Nat} (h : SpoiltS w g L wr) (hk : k < L) : (∃ u, wr.cell? ⟨g, k, none⟩ = some u) ∧ wr.frozen? ⟨g, k, none⟩ = false ∧ ∀ u, SpoiltS w g L (wr.setCell ⟨g, k, none⟩ u) := by
  obtain ⟨⟨cur, h1, h2⟩, h3⟩ := h
  refine ⟨⟨cur[k]'(by omega), ?_⟩, frozen_of_row _ _ _ _ _ h1, fun u => ⟨⟨_, heap_setCell_same _ _ _ _ _ _ h1, by simpa using h2⟩, h3.setCell (p := ⟨g, k, none⟩) (.inl (by simp)) u⟩⟩
  rw [cell_of_row _ _ _ _ _ _ h1, Array.getElem?_eq_getElem (by omega)]
set_option maxHeartbeats 8000000 in
set_option maxRecDepth 100000 in
theorem spoilsmp_any (g n : Nat) (l : List Smp) (hn : l.length = n) (hz : n ≤ 100000) (w : World) (HL : LentS w g l) :
    Calls Tryz.prog 10 #[.slice (some ⟨g, 0, none⟩) n (n + 2)] w fun e w' => e = .returned (.tuple #[]) ∧ Only [g] w w' := by
  obtain ⟨n2, hn2⟩ : ∃ n2, n + 2 = n2 := ⟨_, rfl⟩
  have H0 := Lib.hid (show SpoiltS w g (n2 * 2) w from ⟨⟨_, HL, by rw [List.size_toArray, List.length_append, smC_lenA, hn]; show n * 2 + 4 = _; omega⟩, Only.refl _ _⟩)
  have hb0 : (0 : Int) ≤ (n2 : Int) := by omega
  have hb1 : (n2 : Int) ≤ (n2 : Int) := by omega
  have hz2 : n2 ≤ 100002 := by omega
  rw [hn2]
  clear HL hn hz hn2
  go_enter Tryz.func10, Tryz.ntmps10
  go_wp2_with fail
  go_loopw [3] (fun i wr => ∃ k : Nat, k ≤ n2 ∧ i = .int .i64 (k : Nat) ∧ Hid (SpoiltS w g (n2 * 2) wr)) (fun i _ => n2 - (intOf i).toNat)
  case atStart => exact ⟨0, Nat.zero_le _, rfl, H0⟩
  case round =>
    obtain ⟨k, hk, rfl, HS⟩ := hrel
    by_cases hlt : k < n2
    · have da : decide ((k : Int) < (n2 : Int)) = true := decide_eq_true (by omega)
      have da2 : decide (k < n2) = true := decide_eq_true hlt
      obtain ⟨⟨u0, c0⟩, f0, h1⟩ := HS.out.cell (k := k * 2) (by omega)
      have HS1 := Lib.hid (h1 (.int .i64 (-5)))
      obtain ⟨⟨u1, c1⟩, f1, h2⟩ := HS1.out.cell (k := k * 2 + 1) (by omega)
      have HS2 := Lib.hid (h2 (.int .u64 0))
      clear h1 h2
      go_wp2_with fail
      go_roundw
      case rel => exact ⟨k + 1, by omega, by go_num, HS2⟩
      case measure => simp [intOf]; omega
    · obtain rfl : k = n2 := by omega
      have da : decide ((k : Int) < (k : Int)) = false := decide_eq_false (by omega)
      have da2 : decide (k < k) = false := decide_eq_false (by omega)
      go_wp2_with fail
      exact bodyPost_end (results_none rfl _ _ _) rfl ⟨rfl, HS.out.2⟩
end Go.Proofs.YtdlifcpdlbmijaaGreatDoor
namespace Go.Proofs.YtdlifcpdlbmijaaGreatDoor
set_option linter.unusedVariables false
set_option linter.unusedSimpArgs false
open Go.RowKit Go.PlainAid Go.Shelf
open B2 (Only Bys Row cellsOf owns_only Lent)
open Gm (St Smp Chk)
/-- what is counted of the first chunks -/
def wtC (Ls : List Cin) (k : Nat) : Nat := ((Ls.take k).map fun r => r.bs.length + 1).sum
theorem wtC_succ (Ls : List Cin) (k : Nat) (h : k < Ls.length) : wtC Ls (k + 1) = wtC Ls k + (Ls[k].bs.length + 1) := by
  unfold wtC
  rw [List.take_succ_eq_append_getElem h, List.map_append, List.sum_append]
  simp only [List.map_cons, List.map_nil, List.sum_cons, List.sum_nil, Nat.add_zero]
theorem addN (N L : Nat) (h1 : N ≤ 100000) (h2 : L ≤ 140737488355328) : wrap64 ((N : Int) + ((L : Int) + 1)) = ((N + (L + 1) : Nat) : Int) ∧ wrap64 ((L : Int) + 1) = (L : Int) + 1 ∧ IntKind.i64.wrap ((L : Int) + 1) = (L : Int) + 1 ∧ IntKind.i64.wrap ((N : Int) + ((L : Int) + 1)) = ((N + (L + 1) : Nat) : Int) := ⟨by unfold wrap64; omega, by unfold wrap64; omega, by rw [IntKind.wrap_i64]; omega, by rw [IntKind.wrap_i64]; omega⟩
theorem max_nat {m : Nat} (h : m ≤ maxLen) : m ≤ 9223372036854775807 := by unfold maxLen at h; omega
theorem wtC_all (Ls : List Cin) (N : Nat) (h : wtC Ls Ls.length ≤ N) : Ls.length ≤ N ∧ ∀ r ∈ Ls, r.bs.length ≤ N := by
  unfold wtC at h
  rw [List.take_length] at h
  induction Ls with
  | nil => exact ⟨Nat.zero_le _, fun r hr => by cases hr⟩
  | cons r Ls ih =>
    simp only [List.map_cons, List.sum_cons] at h
    have h2 : ∀ M, (Ls.map fun r => r.bs.length + 1).sum ≤ M → Ls.length ≤ M ∧ ∀ r ∈ Ls, r.bs.length ≤ M := by
      intro M hM
      clear ih h
      induction Ls generalizing M with
      | nil => exact ⟨Nat.zero_le _, fun r hr => by cases hr⟩
      | cons q Ls ih2 =>
        simp only [List.map_cons, List.sum_cons] at hM
        obtain ⟨a1, a2⟩ := ih2 (M - (q.bs.length + 1)) (by omega)
        refine ⟨by simp only [List.length_cons]; omega, fun r hr => ?_⟩
        rcases List.mem_cons.1 hr with rfl | hr
        · omega
        · have := a2 r hr; omega
    obtain ⟨a1, a2⟩ := h2 (N - (r.bs.length + 1)) (by omega)
    refine ⟨by simp only [List.length_cons]; omega, fun q hq => ?_⟩
    rcases List.mem_cons.1 hq with rfl | hq
    · omega
    · have := a2 q hq; omega
theorem LentL.only {w0 w w' : World} {g : Nat} {G : Nat → Nat} {Ls : List Cin} (H : LentL w0 w g G Ls) {S : List Nat} (ho : Only S w w') (h1 : g ∉ S) (h2 : ∀ i, i < Ls.length → G i ∉ S) : LentL w0 w' g G Ls :=
  ⟨(ho.block g (Array.getElem?_eq_some_iff.1 H.row).1 h1).trans H.row, fun i hi => ⟨(ho.block (G i) (Array.getElem?_eq_some_iff.1 (H.each i hi).1).1 (h2 i hi)).trans (H.each i hi).1, (H.each i hi).2⟩, H.apart, H.low⟩
/-- what the two that lend leave when they spoil what they lent -/
structure Spoilt (w w1 w2 : World) (g1 g2 : Nat) (G : Nat → Nat) (n k : Nat) (l : List Smp) (Ls : List Cin) : Prop where
  hg : w.heap.size ≤ g1 ∧ g1 < w1.heap.size
  l1 : LentS w1 g1 l
  b1 : Below w.heap.size w w1
  l2 : LentL w1 w2 g2 G Ls
  b2 : Below w1.heap.size w1 w2
  hk : Ls.length = k
theorem Spoilt.two {w w1 w2 w6 w7 : World} {g1 g2 n k : Nat} {G : Nat → Nat} {l : List Smp} {Ls : List Cin} (H : Spoilt w w1 w2 g1 g2 G n k l Ls) (h : Below w2.heap.size w2 w6) (h7 : Only [g1] w6 w7) : LentL w1 w7 g2 G Ls := by
  have a1 := H.hg
  have a2 := H.l2.low
  refine (H.l2.below h).only h7 (fun hm => ?_) (fun i hi hm => ?_)
  · simp only [List.mem_singleton] at hm; omega
  · have := (H.l2.each i hi).2
    simp only [List.mem_singleton] at hm; omega
theorem Spoilt.low {w w1 w2 : World} {g1 g2 n k : Nat} {G : Nat → Nat} {l : List Smp} {Ls : List Cin} (H : Spoilt w w1 w2 g1 g2 G n k l Ls) : (∀ g, w2.heap.size ≤ g → g ∉ [g1]) ∧ (∀ g, w2.heap.size ≤ g → g ∉ g2 :: (List.range k).map G) ∧ (∀ g ∈ [g1], w.heap.size ≤ g) ∧ (∀ g ∈ g2 :: (List.range k).map G, w.heap.size ≤ g) := by
  have a1 := H.hg
  have a2 := H.l2.low
  have a3 := H.b2.size
  have a4 := H.b1.size
  have a5 : g2 < w2.heap.size := (Array.getElem?_eq_some_iff.1 H.l2.row).1
  have a6 : ∀ g ∈ (List.range k).map G, g < w2.heap.size ∧ w.heap.size ≤ g := fun g hg => by
    obtain ⟨i, hi, rfl⟩ := List.mem_map.1 hg
    have h1 := H.l2.each i (by rw [H.hk]; exact List.mem_range.1 hi)
    exact ⟨(Array.getElem?_eq_some_iff.1 h1.1).1, by omega⟩
  refine ⟨fun g hg hm => ?_, fun g hg hm => ?_, fun g hm => ?_, fun g hm => ?_⟩
  · simp only [List.mem_singleton] at hm; omega
  · rcases List.mem_cons.1 hm with rfl | hm
    · omega
    · have := a6 g hm; omega
  · simp only [List.mem_singleton] at hm; omega
  · rcases List.mem_cons.1 hm with rfl | hm
    · omega
    · exact (a6 g hm).2
theorem chs_pb {w w' : World} {pb base : Nat} {F : Nat → Value} {v : Value} {cs : List Chk} {ds : List Value} (hB : BG w pb F) (H : OwnC w base v cs ds) (ho : Only [pb] w w') : OwnC w' base v cs ds :=
  H.only ho (fun g hg hm => by
    obtain ⟨cur, hc⟩ := owns_cells H.row hg
    exact unlike hc hB (by decide) (by simpa using hm)) (fun g cur hc hm => unlike hc hB (by decide) (by simpa using hm))
theorem smp_pb {w w' : World} {pb base : Nat} {F : Nat → Value} {v : Value} {l : List Smp} (hB : BG w pb F) (H : OwnS w base v l) (ho : Only [pb] w w') : OwnS w' base v l :=
  owns_only H ho (fun g hg hm => by
    obtain ⟨cur, hc⟩ := owns_cells H hg
    exact unlike hc hB (by decide) (by simpa using hm))
theorem row_pb {w w' : World} {pb te n : Nat} {F : Nat → Value} {v : Value} {xs : List Value} (hB : BG w pb F) (hte : te ≠ 73) (H : w.ownsRow 0 te 1 v n xs) (ho : Only [pb] w w') : w'.ownsRow 0 te 1 v n xs :=
  owns_only H ho (fun g hg hm => by
    obtain ⟨cur, hc⟩ := owns_cells H hg
    exact unlike hc hB hte (by simpa using hm))
theorem data_low {w : World} {base : Nat} {vx : Value} {cs : List Chk} {ds : List Value} (hC : OwnC w base vx cs ds) (g : Nat) (hg : g ∈ ds.filterMap Value.ownBlock) : base ≤ g := by
  obtain ⟨v, hv, h2⟩ := List.mem_filterMap.1 hg
  obtain ⟨j, hj, rfl⟩ := List.getElem_of_mem hv
  exact hC.low j g (by simp only [List.getD, List.getElem?_eq_getElem hj, Option.getD_some]; exact h2)
theorem row_below {w w' : World} {te n : Nat} {v : Value} {xs : List Value} (H : w.ownsRow 0 te 1 v n xs) (hb : Below w.heap.size w w') : w'.ownsRow 0 te 1 v n xs := owns_only H (Only.of_below hb []) (fun _ _ => by simp)
theorem book_new (W : World) : BG (W.alloc (.cells (bkg fun _ => .slice none 0 0) 73)) W.heap.size (fun _ => .slice none 0 0) := heap_alloc_new W _
set_option maxRecDepth 100000 in
set_option maxHeartbeats 8000000 in
theorem lists_law (a : Option Addr) (n c : Nat) (l : List Smp) (hn : l.length = n) (hnc : n ≤ c) (hn9 : n ≤ maxLen) (hok : ∀ x ∈ l, Gm.OkS x) (hc0 : a = none → c = 0 ∧ n = 0) (a2 : Option Addr) (m c2 : Nat) (Ls : List Cin) (hm : Ls.length = m) (hm9 : m ≤ maxLen)
    (hLs : ∀ r ∈ Ls, r.bs.length ≤ 140737488355328 ∧ r.N ≤ 9223372036854775807 ∧ ∀ c ∈ r.bs, c < 256) (k0 p0 p1 p2 cc b0 b1 b2 o9 oa oc od : Nat) (w : World) (H : Sms w a l) (H2 : CinAt w a2 Ls) (hT : TabAt w) (HT : TabB w k0 p0 p1 p2 cc b0 b1 b2 o9 oa oc od) :
    Calls Tryz.prog 3 #[.slice a n c, .slice a2 m c2] w fun e w' => e = .returned (.bool true) ∧ Below w.heap.size w w' := by
  have HS := Lib.hid (And.intro H (And.intro hn (And.intro hnc (And.intro hok hc0))))
  have HC := Lib.hid (And.intro H2 (And.intro hm hLs))
  have HTT := Lib.hid (And.intro hT HT)
  replace hn9 := max_nat hn9
  replace hm9 := max_nat hm9
  clear H hn hnc hok hc0 H2 hm hLs hT HT
  go_enter Tryz.func3, Tryz.ntmps3
  go_wp2_with fail
  go_loopw [5, 6] (fun v i wr => ∃ k : Nat, k ≤ m ∧ v = .int .i64 ((n + wtC Ls k : Nat) : Int) ∧ i = .int .i64 (k : Nat) ∧ wr = w) (fun _ i _ => m - (intOf i).toNat)
  case atStart => exact ⟨0, Nat.zero_le _, by simp [wtC], rfl, rfl⟩
  case round =>
    obtain ⟨k, hk, rfl, rfl, rfl⟩ := hrel
    obtain ⟨N, hN⟩ : ∃ N, n + wtC Ls k = N := ⟨_, rfl⟩
    have HN := Lib.hid hN
    rw [hN]
    clear hN
    by_cases hbig : 100000 < N
    · have d1 : decide ((N : Int) ≤ 100000) = false := decide_eq_false (by omega)
      have d2 : decide ((N : Int) > 100000) = true := decide_eq_true (by omega)
      have d3 : decide ((100000 : Int) < (N : Int)) = true := decide_eq_true (by omega)
      by_cases hkm : k < m
      · have da : decide ((k : Int) < (m : Int)) = true := decide_eq_true (by omega)
        have da2 : decide (k < m) = true := decide_eq_true hkm
        go_wp2_with fail
        go_ret
        exact ⟨rfl, Below.refl _ _⟩
      · have da : decide ((k : Int) < (m : Int)) = false := decide_eq_false (by omega)
        have da2 : decide (k < m) = false := decide_eq_false hkm
        go_wp2_with fail
        go_ret
        exact ⟨rfl, Below.refl _ _⟩
    · have d1 : decide ((N : Int) ≤ 100000) = true := decide_eq_true (by omega)
      have d2 : decide ((N : Int) > 100000) = false := decide_eq_false (by omega)
      have d3 : decide ((100000 : Int) < (N : Int)) = false := decide_eq_false (by omega)
      by_cases hkm : k < m
      · have da : decide ((k : Int) < (m : Int)) = true := decide_eq_true (by omega)
        have da2 : decide (k < m) = true := decide_eq_true hkm
        have hkl : k < Ls.length := by rw [HC.out.2.1]; exact hkm
        have hkx : (k : Int) < (m : Int) := by omega
        obtain ⟨q1, o1, rfl, hl1, hc1⟩ := HC.out.1 (by intro e; rw [e] at hkl; simp at hkl)
        obtain ⟨ad, cp, y0, y1, y2, y3, _, hB⟩ := hc1 k hkl
        have hlen := (HC.out.2.2 _ (List.getElem_mem hkl)).1
        have hw := wtC_succ Ls k hkl
        obtain ⟨L, hL⟩ : ∃ L, Ls[k].bs.length = L := ⟨_, rfl⟩
        rw [hL] at y3 hlen hw
        have HW := Lib.hid (show n + wtC Ls (k + 1) = N + (L + 1) by have := HN.out; omega)
        obtain ⟨s1, s2, s3, s4⟩ := addN N L (by omega) hlen
        clear hc1 hB y0 y1 y2 hkl hL hlen hw
        go_wp2_with fail
        exact ⟨⟨k + 1, by omega, by rw [HW.out]; exact congrArg (Value.int IntKind.i64) (by omega), by simp, trivial⟩, by simp [intOf]; omega⟩
      · have hke : k = m := by omega
        subst hke
        have da : decide ((k : Int) < (k : Int)) = false := by simp
        have da2 : decide (k < k) = false := by simp
        by_cases h2 : 2000 < n
        · have e1 : decide ((n : Int) > 2000) = true := decide_eq_true (by omega)
          have e2 : decide ((2000 : Int) < (n : Int)) = true := decide_eq_true (by omega)
          go_wp2_with fail
          go_ret
          exact ⟨rfl, Below.refl _ _⟩
        have e1 : decide ((n : Int) > 2000) = false := decide_eq_false (by omega)
        have e2 : decide ((2000 : Int) < (n : Int)) = false := decide_eq_false (by omega)
        have hWT := wtC_all Ls N (by have h1 := HN.out; have h2 := HC.out.2.1; rw [← h2] at h1; omega)
        rw [HC.out.2.1] at hWT
        have HB := Lib.hid (show ∀ r ∈ Ls, r.bs.length ≤ 100000 from fun r hr => Nat.le_trans (hWT.2 r hr) (by omega))
        have hk1 : k ≤ 100000 := Nat.le_trans hWT.1 (by omega)
        have hn2 : n ≤ 2000 := by omega
        obtain ⟨w, hw⟩ : ∃ w, w = wr := ⟨_, rfl⟩
        subst hw
        clear hWT HN hbig hkm hk h2
        have CLS := Lib.hid (lentsmp_any a n c l HS.out.2.1 (by omega) HS.out.2.2.2.2 w HS.out.1)
        go_wp2_with fail
        go_at_call 4
        refine CLS.out.mono ?_
        rintro e w1 ⟨g1, hg1, rfl, hL1, hb1⟩
        have HL1 := Lib.hid (And.intro hg1 (And.intro hL1 hb1))
        have CLC := Lib.hid (lentchunks_any a2 Ls k c2 HC.out.2.1 hk1 HB.out w1 (HC.out.1.below hb1))
        clear hg1 hL1 hb1 CLS
        go_wp2_with fail
        go_at_call 5
        refine CLC.out.mono ?_
        rintro e w2 ⟨g2, G, rfl, hL2, hb2⟩
        have HL2 := Lib.hid (And.intro hL2 hb2)
        have CE := Lib.hid (code_enc (some ⟨g1, 0, none⟩) n (n + 2) l HS.out.2.1 (by omega) hn2 HS.out.2.2.2.1 w2 (HL1.out.2.1.below hb2).smps (HTT.out.1.below (HL1.out.2.2.trans (hb2.mono HL1.out.2.2.size)) HTT.out.1.lt))
        clear hL2 hb2 CLC
        go_wp2_with fail
        go_at_call 6
        refine CE.out.mono ?_
        rintro e w3 ⟨⟨x, cs, ds, rfl, hX, hE⟩, hb3⟩
        have HX := Lib.hid (And.intro hX (And.intro hE hb3))
        have hb02 : Below w.heap.size w w2 := HL1.out.2.2.trans (HL2.out.2.mono HL1.out.2.2.size)
        have hb03 : Below w.heap.size w w3 := hb02.trans (hb3.mono hb02.size)
        have HB3 := Lib.hid (And.intro hb02 hb03)
        have CD := Lib.hid (decode_all (some ⟨g2, 0, none⟩) k (k + 1) Ls HC.out.2.1 hk1 (fun r hr => ⟨Nat.le_trans (HB.out r hr) (by omega), (HC.out.2.2 r hr).2.1⟩) w3 ((HL2.out.1.below hb3).cin (fun r hr => ⟨HB.out r hr, (HC.out.2.2 r hr).2.2⟩)) (HTT.out.1.below hb03 HTT.out.1.lt))
        clear hX hE hb3 CE hb02 hb03
        go_wp2_with fail
        go_at_call 7
        refine CD.out.mono ?_
        rintro e w4 ⟨h4, hb4⟩
        obtain ⟨y, rfl, hY⟩ := dec_one h4
        have HY := Lib.hid (And.intro hY hb4)
        clear h4 hY hb4 CD
        have HSP := Lib.hid (show Spoilt w w1 w2 g1 g2 G n k l Ls from ⟨⟨HL1.out.1, (Array.getElem?_eq_some_iff.1 HL1.out.2.1).1⟩, HL1.out.2.1, HL1.out.2.2, HL2.out.1, HL2.out.2, HC.out.2.1⟩)
        have hb24 : Below w2.heap.size w2 w4 := HX.out.2.2.trans (HY.out.2.mono HX.out.2.2.size)
        have hb04 : Below w.heap.size w w4 := HB3.out.2.trans (HY.out.2.mono HB3.out.2.size)
        have CW := Lib.hid (wholesmp_any g1 a n c l HS.out.2.1 (by omega) w4 ((HL1.out.2.1.below HL2.out.2).below hb24) (HS.out.1.below hb04))
        have HB4 := Lib.hid (And.intro hb24 hb04)
        clear hb24 hb04
        go_wp2_with fail
        go_at_call 8
        refine CW.out.mono ?_
        rintro e w5 ⟨rfl, hb5⟩
        have hb25 : Below w2.heap.size w2 w5 := HB4.out.1.trans (hb5.mono HB4.out.1.size)
        have hb05 : Below w.heap.size w w5 := HB4.out.2.trans (hb5.mono HB4.out.2.size)
        have CW2 := Lib.hid (wholechunks_any g2 G a2 Ls k c2 HC.out.2.1 hk1 HB.out w1 w5 (HL2.out.1.below hb25) (HC.out.1.below hb05))
        have HB5 := Lib.hid (And.intro hb25 (And.intro hb05 hb5))
        clear hb25 hb05 hb5 CW
        go_wp2_with fail
        go_at_call 9
        refine CW2.out.mono ?_
        rintro e w6 ⟨rfl, hb6⟩
        have hb26 : Below w2.heap.size w2 w6 := HB5.out.1.trans (hb6.mono HB5.out.1.size)
        have hb06 : Below w.heap.size w w6 := HB5.out.2.1.trans (hb6.mono HB5.out.2.1.size)
        have CSS := Lib.hid (spoilsmp_any g1 n l HS.out.2.1 (by omega) w6 ((HL1.out.2.1.below HL2.out.2).below hb26))
        have HB6 := Lib.hid (And.intro hb26 (And.intro hb06 (show Below w4.heap.size w4 w6 from HB5.out.2.2.trans (hb6.mono HB5.out.2.2.size))))
        clear hb26 hb06 hb6 CW2
        go_wp2_with fail
        go_at_call 10
        refine CSS.out.mono ?_
        rintro e w7 ⟨rfl, ho7⟩
        have CSC := Lib.hid (spoilchunks_any g2 G Ls k HC.out.2.1 hk1 HB.out w1 w7 (HSP.out.two HB6.out.1 ho7))
        have HO7 := Lib.hid ho7
        clear ho7 CSS
        go_wp2_with fail
        go_at_call 11
        refine CSC.out.mono ?_
        rintro e w8 ⟨rfl, ho8⟩
        obtain ⟨q1, q2, q3, q4⟩ := HSP.out.low
        have hb08 : Below w.heap.size w w8 := (HB6.out.2.1.trans (HO7.out.below HB6.out.2.1.size q3)).trans (ho8.below (Nat.le_trans HB6.out.2.1.size HO7.out.size) q4)
        have hX8 : OwnC w8 w2.heap.size x cs ds := by
          have h1 : OwnC w6 w2.heap.size x cs ds := HX.out.1.below (HY.out.2.trans (HB6.out.2.2.mono HY.out.2.size))
          have hv : ∀ g, x.ownBlock = some g → w2.heap.size ≤ g := fun g hg => owns_base h1.row g hg
          exact (h1.only2 HO7.out (fun g hg => q1 g (hv g hg)) (fun g hg => q1 g hg)).only2 ho8 (fun g hg => q2 g (hv g hg)) (fun g hg => q2 g hg)
        have hY8 : OwnS w8 w3.heap.size y (decL Ls) := by
          have h1 : OwnS w6 w3.heap.size y (decL Ls) := HY.out.1.below HB6.out.2.2
          have hv : ∀ g, y.ownBlock = some g → w2.heap.size ≤ g := fun g hg => Nat.le_trans HX.out.2.2.size (owns_base h1 g hg)
          exact owns_only (owns_only h1 HO7.out (fun g hg => q1 g (hv g hg))) ho8 (fun g hg => q2 g (hv g hg))
        have HK := Lib.hid (And.intro hX8 (And.intro hY8 hb08))
        have CE := Lib.hid (ref_enc a n c l HS.out.2.1 HS.out.2.2.1 hn2 HS.out.2.2.2.1 k0 p0 p1 p2 cc b0 b1 b2 o9 oa oc od w8 (HS.out.1.below hb08) (HTT.out.2.below hb08))
        clear q1 q2 q3 q4 hb08 hX8 hY8 ho8 CSC
        go_wp2_with fail
        go_at_call 12
        refine CE.out.mono ?_
        rintro e w9 ⟨⟨x2, cs2, ds2, rfl, hX2, hE2⟩, hb9⟩
        have HX2 := Lib.hid (And.intro hX2 (And.intro hE2 hb9))
        have hb09 : Below w.heap.size w w9 := HK.out.2.2.trans (hb9.mono HK.out.2.2.size)
        have CD := Lib.hid (refdec_all a2 k c2 Ls HC.out.2.1 hk1 (fun r hr => Nat.le_trans (HB.out r hr) (by omega)) k0 p0 p1 p2 cc b0 b1 b2 o9 oa oc od w9 (HC.out.1.below hb09) (HTT.out.2.below hb09))
        have HB9 := Lib.hid hb09
        clear hX2 hE2 hb9 hb09 CE
        go_wp2_with fail
        go_at_call 13
        refine CD.out.mono ?_
        rintro e w10 ⟨h4, hb10⟩
        obtain ⟨y2, rfl, hY2⟩ := dec_one h4
        have HY2 := Lib.hid (And.intro hY2 hb10)
        clear h4 hY2 hb10 CD
        go_wp2_with fail
        obtain ⟨xa, xc, rfl⟩ := HX.out.1.shape
        obtain ⟨kx, hkx⟩ : ∃ kx, cs.length = kx := ⟨_, rfl⟩
        obtain ⟨z1, z2⟩ := enc_sz (by rw [HS.out.2.1]; exact hn2) HS.out.2.2.2.1 HX.out.2.1
        have hA := (Below.refl w10.heap.size w10).alloc (Nat.le_refl _) (.cells (bkg fun _ => .slice none 0 0) 73)
        have hb811 := ((HX2.out.2.2.trans (HY2.out.2.mono HX2.out.2.2.size)).trans (hA.mono (Nat.le_trans HX2.out.2.2.size HY2.out.2.size)))
        have hX11 := HK.out.1.below hb811
        have hY11 := HK.out.2.1.below hb811
        have HB11 := Lib.hid (HK.out.2.2.trans (hb811.mono HK.out.2.2.size))
        have CCH := bgchunks_any w10.heap.size kx xc w2.heap.size xa cs ds (fun _ => .slice none 0 0) _ (book_new w10) rfl rfl (by rw [hkx] at hX11; exact hX11) hkx (by omega)
        have HX11 := Lib.hid (And.intro hX11 (And.intro hY11 hA))
        obtain ⟨w11, hw11⟩ : ∃ w11, w10.alloc (.cells (bkg fun _ => .slice none 0 0) 73) = w11 := ⟨_, rfl⟩
        rw [hw11] at CCH HX11 HB11
        have HBG := Lib.hid (show BG w11 w10.heap.size (fun _ => .slice none 0 0) by rw [← hw11]; exact book_new w10)
        have hw11' : w10.alloc (.cells #[.slice none 0 0, .slice none 0 0, .slice none 0 0, .slice none 0 0, .slice none 0 0, .slice none 0 0, .slice none 0 0, .slice none 0 0, .slice none 0 0, .slice none 0 0, .slice none 0 0, .slice none 0 0, .slice none 0 0, .slice none 0 0, .slice none 0 0, .slice none 0 0, .slice none 0 0, .slice none 0 0, .slice none 0 0, .slice none 0 0, .slice none 0 0, .slice none 0 0, .slice none 0 0, .slice none 0 0, .slice none 0 0, .slice none 0 0, .slice none 0 0, .slice none 0 0, .slice none 0 0, .slice none 0 0, .slice none 0 0, .slice none 0 0] 73) = w11 := hw11
        rw [hw11', hkx]
        have HZ := Lib.hid (And.intro z1 (And.intro z2 (And.intro hkx (Nat.le_trans HB9.out.size HY2.out.2.size))))
        obtain ⟨pb, hpb⟩ : ∃ pb, w10.heap.size = pb := ⟨_, rfl⟩
        rw [hpb] at CCH HBG HZ ⊢
        clear hA hb811 hX11 hY11 hw11 hw11' z1 z2 hkx hpb
        refine CCH.mono ?_
        clear CCH
        rintro e w12 ⟨rfl, F1, f1, f2, f3, f4, f5, f6, f7⟩
        obtain ⟨ya, yc, rfl, _⟩ := HY.out.1.shape
        obtain ⟨ly, hly⟩ : ∃ ly, (decL Ls).length = ly := ⟨_, rfl⟩
        obtain ⟨x2a, x2c, rfl⟩ := HX2.out.1.shape
        obtain ⟨y2a, y2c, rfl, _⟩ := HY2.out.1.shape
        have hcc := enc_eq HS.out.2.2.2.1 HX2.out.2.1 HX.out.2.1
        subst hcc
        have e10 : F1 10 = .slice none 0 0 := f2 10 (by decide) (by decide)
        have CSM := Lib.hid (bgsamples_any pb 0 ly yc ya F1 [] w12 f1 (by rw [e10]; exact World.ownsRow_nil _ _ _ _) (by decide))
        have hlen := decL_len Ls
        rw [HC.out.2.1] at hlen
        have HLY := Lib.hid (show (decL Ls).length = ly ∧ (decL Ls).length ≤ 100000000 ∧ ly ≤ 1000000000 from ⟨hly, by omega, by omega⟩)
        have HF := Lib.hid (And.intro f1 (And.intro f2 (And.intro f3 (And.intro f4 (And.intro f5 e10)))))
        rw [hly, HZ.out.2.2.1]
        clear f1 f2 f3 f4 f5 f6 f7 e10 hly hlen
        go_wp2_with fail
        go_at_call 15
        refine CSM.out.mono ?_
        rintro e w13 ⟨rfl, v3, g1', g2', g3', g4'⟩
        rw [HF.out.2.2.2.2.2] at g3'
        have ho13 : Only [pb] w11 w13 := HF.out.2.2.2.2.1.trans g3' (fun x hx => .inl hx)
        have hpb : w.heap.size ≤ pb := HZ.out.2.2.2
        have hb013 : Below w.heap.size w w13 := HB11.out.trans (ho13.below HB11.out.size (fun x hx => by simp only [List.mem_singleton] at hx; omega))
        have HG := Lib.hid (And.intro g1' (And.intro g2' (And.intro ho13 hb013)))
        have HR := Lib.hid (And.intro (row_pb HF.out.1 (by decide) HF.out.2.2.1 g3') (row_pb HF.out.1 (by decide) HF.out.2.2.2.1 g3'))
        have HA := Lib.hid (And.intro (chs_pb HBG.out HX11.out.1 ho13) (And.intro (smp_pb HBG.out HX11.out.2.1 ho13) (And.intro (chs_pb HBG.out ((HX2.out.1.below HY2.out.2).below HX11.out.2.2) ho13) (smp_pb HBG.out (HY2.out.1.below HX11.out.2.2) ho13))))
        have CK := Lib.hid (known_any w13 (HTT.out.1.below hb013 HTT.out.1.lt))
        clear g1' g2' g3' g4' ho13 hpb hb013 CSM
        go_wp2_with fail
        go_at_call 16
        refine CK.out.mono ?_
        rintro e w14 ⟨rfl, hb14⟩
        have HB14 := Lib.hid (And.intro hb14 (HG.out.2.2.2.trans (hb14.mono HG.out.2.2.2.size)))
        have CS := Lib.hid (samechs_any xa x2a xc x2c kx kx cs2 cs2 HZ.out.2.2.1 HZ.out.2.2.1 w14 ((HA.out.1.below hb14).chs xa kx xc (by rw [HZ.out.2.2.1])) ((HA.out.2.2.1.below hb14).chs x2a kx x2c (by rw [HZ.out.2.2.1])) (by have h1 := HZ.out.1; have h2 := HZ.out.2.2.1; omega) (by have h1 := HZ.out.1; have h2 := HZ.out.2.2.1; omega) (fun c hc => Nat.le_trans (HZ.out.2.1 c hc) (by decide)) (fun c hc => Nat.le_trans (HZ.out.2.1 c hc) (by decide)))
        rw [decide_eq_true rfl] at CS
        clear hb14 CK
        go_wp2_with fail
        go_at_call 17
        refine CS.out.mono ?_
        rintro e w15 ⟨rfl, hb15⟩
        have hb1315 : Below w13.heap.size w13 w15 := HB14.out.1.trans (hb15.mono HB14.out.1.size)
        have HB15 := Lib.hid (And.intro hb1315 (HB14.out.2.trans (hb15.mono HB14.out.2.size)))
        obtain ⟨sa, sc, hsv, hsm⟩ := (HA.out.2.1.below hb1315).shape
        obtain ⟨ta, tc, htv, htm⟩ := (HA.out.2.2.2.below hb1315).shape
        rw [HLY.out.1] at hsv htv
        cases hsv
        cases htv
        have CT := Lib.hid (samesmp_any ya y2a yc y2c ly ly (decL Ls) (decL Ls) HLY.out.1 HLY.out.1 w15 hsm htm HLY.out.2.2 HLY.out.2.2)
        rw [decide_eq_true rfl] at CT
        clear hb15 hb1315 hsm htm CS
        go_wp2_with fail
        go_at_call 18
        refine CT.out.mono ?_
        rintro e w16 ⟨rfl, hb16⟩
        have hb1316 : Below w13.heap.size w13 w16 := HB15.out.1.trans (hb16.mono HB15.out.1.size)
        have hb016 : Below w.heap.size w w16 := HB15.out.2.trans (hb16.mono HB15.out.2.size)
        have hX16 := HA.out.1.below hb1316
        have hY16 := HA.out.2.1.below hb1316
        have hBG16 := HG.out.1.below hb1316
        rw [HZ.out.2.2.1] at hX16
        rw [HLY.out.1] at hY16
        have CO := Lib.hid (own_three (F := upd F1 10 v3) hBG16 hX16 HZ.out.2.2.1 (by have h1 := HZ.out.1; have h2 := HZ.out.2.2.1; omega) HZ.out.2.1 hY16 HLY.out.2.1
          (by rw [upd_rest _ _ _ _ (by decide)]; exact row_below HR.out.1 hb1316) (by rw [upd_here]; exact row_below HG.out.2.1 hb1316) (by rw [upd_rest _ _ _ _ (by decide)]; exact row_below HR.out.2 hb1316)
          (fun j h1 h2 h3 => by rw [upd_rest _ _ _ _ h2]; exact HF.out.2.1 j h1 h3))
        have HW := Lib.hid (show ∀ w', Only (ds.filterMap Value.ownBlock ++ ((Value.slice ya ly yc).ownBlock.toList ++ (Value.slice xa kx xc).ownBlock.toList)) w16 w' → Below w.heap.size w w' from fun w' ho => hb016.trans (ho.below hb016.size (fun g hg => by
          have hw2 := HB3.out.1.size
          have hw3 := HB3.out.2.size
          rcases List.mem_append.1 hg with hg | hg
          · have := data_low hX16 g hg; omega
          · rcases List.mem_append.1 hg with hg | hg
            · have := owns_base hY16 g (by simpa using hg); omega
            · have := owns_base hX16.row g (by simpa using hg); omega)))
        clear hb16 hb1316 hb016 hX16 hY16 hBG16 CT
        go_wp2_with fail
        go_at_call 19
        refine CO.out.mono ?_
        rintro e w17 ⟨rfl, ho17⟩
        have HE := Lib.hid (HW.out _ ho17)
        clear ho17
        go_wp2_with fail
        go_ret
        exact ⟨rfl, HE.out⟩
end Go.Proofs.YtdlifcpdlbmijaaGreatDoor
namespace Go.Proofs.YtdlifcpdlbmijaaGreatDoor
set_option linter.unusedVariables false
set_option linter.unusedSimpArgs false
open Go.RowKit Go.ChangeShapes Go.WideShapes
open Gm (St Smp)
theorem two_cellsO {cs : List Value} (h : cs.length = 2) : ∃ c0 c1, cs = [c0, c1] := by
  rcases cs with _ | ⟨c0, _ | ⟨c1, _ | ⟨c2, t⟩⟩⟩
  · cases h
  · cases h
  · exact ⟨c0, c1, rfl⟩
  · simp at h
theorem cells2O : Tryz.prog.cellsOf 2 = 1 := by kernel_rfl
theorem cells65nO : Tryz.prog.cellsOf 77 = 1 := by kernel_rfl
theorem cells70O : Tryz.prog.cellsOf 79 = 2 := by kernel_rfl
/-- one sample's cells -/
theorem smp_cellsO {H : Type} {enc : TypeId × Value → H} {w : World} {base fuel : Nat} {spare : Nat → Bool} {held : Bool} {cs : List Value} {a : Addr} {d : DataW H} {pl : List MemPlace}
    (hc : w.cells? base a 2 = some cs) (ht : DataW.trod enc Tryz.prog w base spare held fuel 79 cs = some (d, pl)) :
    ∃ o : Smp, Gm.OkS o ∧ w.cell? (a.add 0) = some (.int .i64 o.t) ∧ w.cell? (a.add 1) = some (.int .u64 ((o.v : Nat) : Int)) := by
  obtain ⟨ys, n, _, _, _, hyl, hf⟩ := DataW.trod_struct Tryz.underlying79 ht
  obtain ⟨_, hcl, hat⟩ := World.cells?_some hc
  obtain ⟨c0, c1, rfl⟩ := two_cellsO hcl
  have t0 : DataW.trod enc Tryz.prog w base spare held n 2 (([c0, c1].drop 0).take (Tryz.prog.cellsOf 2)) = ys[0]? := hf 0 _ rfl
  have t1 : DataW.trod enc Tryz.prog w base spare held n 77 (([c0, c1].drop 1).take (Tryz.prog.cellsOf 77)) = ys[1]? := hf 1 _ rfl
  have y0 : ys[0]? = some (ys[0]'(by rw [hyl]; decide)) := List.getElem?_eq_getElem _
  have y1 : ys[1]? = some (ys[1]'(by rw [hyl]; decide)) := List.getElem?_eq_getElem _
  rw [y0, cells2O] at t0
  rw [y1, cells65nO] at t1
  obtain ⟨n0, e0, _, f0⟩ := DataW.trod_int Tryz.underlying2 t0
  obtain ⟨n1, e1, _, f1⟩ := DataW.trod_int Tryz.underlying77 t1
  have a0 : c0 = .int .i64 n0 := by simpa using e0
  have a1 : c1 = .int .u64 n1 := by simpa using e1
  subst a0 a1
  have b0 := bounds_i64 f0
  have b1 := bounds_u64 f1
  obtain ⟨m1, rfl⟩ := Int.eq_ofNat_of_zero_le b1.1
  exact ⟨⟨n0, m1⟩, ⟨b0.1, b0.2, by show m1 < _; omega⟩, hat 0 (by decide), hat 1 (by decide)⟩
/-- a slice of samples that came in -/
theorem smps_of_trodO {H : Type} {enc : TypeId × Value → H} {w : World} {base fuel : Nat} {spare : Nat → Bool} {held : Bool} {a : Option Addr} {len cap : Nat} {x : DataW H × List MemPlace}
    (h : DataW.trod enc Tryz.prog w base spare held fuel 22 [.slice a len cap] = some x) : ∃ xs : List Smp, xs.length = len ∧ len ≤ maxLen ∧ (∀ x ∈ xs, Gm.OkS x) ∧ Sms w a xs := by
  rcases Go.Deep.open_slice Tryz.underlying22 h with ⟨hcs, _⟩ | ⟨ad, l, c, m, n, D, Pl, hcs, _, hl, hm, hmm, _, hi⟩
  · simp at hcs
    obtain ⟨rfl, rfl, rfl⟩ := hcs
    exact ⟨[], rfl, Nat.zero_le _, fun _ h => absurd h (by simp), fun h => absurd rfl h⟩
  · simp at hcs
    obtain ⟨rfl, rfl, rfl⟩ := hcs
    have hlm : len ≤ m := by rw [hmm]; split <;> omega
    have hone : ∀ i, i < len → ∃ o : Smp, Gm.OkS o ∧ w.cell? ((ad.add (i * 2)).add 0) = some (.int .i64 o.t) ∧ w.cell? ((ad.add (i * 2)).add 1) = some (.int .u64 ((o.v : Nat) : Int)) := by
      intro i hil
      obtain ⟨cs', hc, ht⟩ := hi i (by omega)
      rw [cells70O] at hc
      exact smp_cellsO hc ht
    have hall : ∀ k, k ≤ len → ∃ os : List Smp, os.length = k ∧ ∀ i (hi : i < os.length), Gm.OkS os[i] ∧ w.cell? ((ad.add (i * 2)).add 0) = some (.int .i64 os[i].t) ∧ w.cell? ((ad.add (i * 2)).add 1) = some (.int .u64 ((os[i].v : Nat) : Int)) := by
      intro k hk
      induction k with
      | zero => exact ⟨[], rfl, fun i hi => absurd hi (by simp)⟩
      | succ k ih =>
        obtain ⟨os, hl, ho⟩ := ih (by omega)
        obtain ⟨o, h1⟩ := hone k (by omega)
        refine ⟨os ++ [o], by simp [hl], fun i hi => ?_⟩
        by_cases hik : i < os.length
        · rw [List.getElem_append_left hik]; exact ho i hik
        · have : i = k := by simp [hl] at hi; omega
          subst this
          have e : (os ++ [o])[i] = o := by rw [List.getElem_append_right (by omega)]; simp [hl]
          rw [e]; exact h1
    obtain ⟨os, hl2, ho⟩ := hall len (Nat.le_refl _)
    refine ⟨os, hl2, Nat.le_trans hl hm, ?_, fun hn => ?_⟩
    · intro o ho2
      obtain ⟨i, hi, rfl⟩ := List.getElem_of_mem ho2
      exact (ho i hi).1
    · have h0 : 0 < os.length := List.length_pos_iff.2 hn
      obtain ⟨b, off, spot⟩ := ad
      have hc0 := (ho 0 h0).2.1
      have hspot : spot = none := by simpa [Addr.add] using World.cell?_spot hc0
      subst hspot
      refine ⟨b, off, rfl, ?_, fun i hi => ?_⟩
      · have := World.block_lt_of_cell? _ _ hc0
        simpa [Addr.add] using this
      · obtain ⟨_, k1, k2⟩ := ho i hi
        rw [B2.add_at, B2.add_at] at k1 k2
        exact ⟨k1, k2⟩
end Go.Proofs.YtdlifcpdlbmijaaGreatDoor
namespace Go.Proofs.YtdlifcpdlbmijaaGreatDoor
set_option linter.unusedVariables false
set_option linter.unusedSimpArgs false
open Go.RowKit Go.ChangeShapes Go.WideShapes
open B2 (Bys)
theorem add_atL (g o j : Nat) : (⟨g, o, none⟩ : Addr).add j = ⟨g, o + j, none⟩ := by unfold Addr.add; split <;> simp_all
theorem cellsL2 : Tryz.prog.cellsOf 2 = 1 := by kernel_rfl
theorem cellsL3 : Tryz.prog.cellsOf 3 = 1 := by kernel_rfl
theorem cellsL24 : Tryz.prog.cellsOf 24 = 1 := by kernel_rfl
theorem cellsL26 : Tryz.prog.cellsOf 26 = 4 := by kernel_rfl
theorem bytesL5 : Tryz.prog.bytesOf 5 = 1 := by kernel_rfl
theorem four_listL {cs : List Value} (h : cs.length = 4) : ∃ c0 c1 c2 c3, cs = [c0, c1, c2, c3] := by
  match cs, h with
  | [c0, c1, c2, c3], _ => exact ⟨c0, c1, c2, c3, rfl⟩
theorem weighs26 {H : Type} (parts : List (DataW H)) : DataW.weights Tryz.prog 26 (.agg parts) = DataW.weightsEach Tryz.prog [2, 2, 3, 24] parts := by
  unfold DataW.weights
  rw [Tryz.underlying26]
  rfl
theorem weighs24 {H : Type} (a b : List (DataW H)) : DataW.weights Tryz.prog 24 (.slice a b) = (a.length + b.length) * Tryz.prog.bytesOf 5 :: (DataW.weightsAll Tryz.prog 5 a ++ DataW.weightsAll Tryz.prog 5 b) := by
  rw [DataW.weights]
  rw [Tryz.underlying24]
theorem weighs23 {H : Type} (a b : List (DataW H)) : DataW.weights Tryz.prog 23 (.slice a b) = (a.length + b.length) * Tryz.prog.bytesOf 26 :: (DataW.weightsAll Tryz.prog 26 a ++ DataW.weightsAll Tryz.prog 26 b) := by
  rw [DataW.weights]
  rw [Tryz.underlying23]
theorem weighsAll_memL {H : Type} {P : Program} {e : TypeId} : ∀ {l : List (DataW H)} {d : DataW H}, d ∈ l → ∀ n ∈ d.weights P e, n ∈ DataW.weightsAll P e l
  | [], d, h, n, hn => by cases h
  | x :: l, d, h, n, hn => by
    unfold DataW.weightsAll
    rcases List.mem_cons.1 h with rfl | h
    · exact List.mem_append.2 (.inl hn)
    · exact List.mem_append.2 (.inr (weighsAll_memL h n hn))
/-- one chunk's cells -/
theorem chunk_cellw {H : Type} {enc : TypeId × Value → H} {w : World} {fuel : Nat} {held : Bool} {cs : List Value} {p : Addr} {d : DataW H} {pl : List MemPlace}
    (hc : w.cells? 0 p 4 = some cs) (h : DataW.trod enc Tryz.prog w 0 (fun _ => true) held fuel 26 cs = some (d, pl)) (hw : ∀ n ∈ d.weights Tryz.prog 26, n ≤ reachBytes) :
    ∃ (r : Cin) (a : Option Addr) (cap : Nat), w.cell? (p.add 0) = some (.int .i64 r.f) ∧ w.cell? (p.add 1) = some (.int .i64 r.t) ∧ w.cell? (p.add 2) = some (.int .i64 r.N) ∧ w.cell? (p.add 3) = some (.slice a r.bs.length cap) ∧ (a = none → cap = 0) ∧ Bys w a r.bs ∧ r.N ≤ 9223372036854775807 ∧ r.bs.length ≤ 140737488355328 := by
  obtain ⟨ys, n, _, hx, _, hyl, hf⟩ := DataW.trod_struct Tryz.underlying26 h
  obtain ⟨_, hcl, hat⟩ := World.cells?_some hc
  obtain ⟨c0, c1, c2, c3, rfl⟩ := four_listL hcl
  have t0 : DataW.trod enc Tryz.prog w 0 (fun _ => true) held n 2 (([c0, c1, c2, c3].drop 0).take (Tryz.prog.cellsOf 2)) = ys[0]? := hf 0 _ rfl
  have t1 : DataW.trod enc Tryz.prog w 0 (fun _ => true) held n 2 (([c0, c1, c2, c3].drop 1).take (Tryz.prog.cellsOf 2)) = ys[1]? := hf 1 _ rfl
  have t2 : DataW.trod enc Tryz.prog w 0 (fun _ => true) held n 3 (([c0, c1, c2, c3].drop 2).take (Tryz.prog.cellsOf 3)) = ys[2]? := hf 2 _ rfl
  have t3 : DataW.trod enc Tryz.prog w 0 (fun _ => true) held n 24 (([c0, c1, c2, c3].drop 3).take (Tryz.prog.cellsOf 24)) = ys[3]? := hf 3 _ rfl
  have z0 : ys[0]? = some (ys[0]'(by rw [hyl]; decide)) := List.getElem?_eq_getElem _
  have z1 : ys[1]? = some (ys[1]'(by rw [hyl]; decide)) := List.getElem?_eq_getElem _
  have z2 : ys[2]? = some (ys[2]'(by rw [hyl]; decide)) := List.getElem?_eq_getElem _
  have z3 : ys[3]? = some (ys[3]'(by rw [hyl]; decide)) := List.getElem?_eq_getElem _
  rw [z0, cellsL2] at t0
  rw [z1, cellsL2] at t1
  rw [z2, cellsL3] at t2
  rw [z3, cellsL24] at t3
  obtain ⟨n0, e0, _, _⟩ := DataW.trod_int Tryz.underlying2 t0
  obtain ⟨n1, e1, _, _⟩ := DataW.trod_int Tryz.underlying2 t1
  obtain ⟨n2, e2, _, f2⟩ := DataW.trod_int Tryz.underlying3 t2
  have a0 : c0 = .int .i64 n0 := by simpa using e0
  have a1 : c1 = .int .i64 n1 := by simpa using e1
  have a2 : c2 = .int .i64 n2 := by simpa using e2
  subst a0 a1 a2
  have b2 := bounds_i64 f2
  have hd : d = .agg (ys.map (·.1)) := congrArg Prod.fst hx
  subst hd
  rw [weighs26] at hw
  have t3 : DataW.trod enc Tryz.prog w 0 (fun _ => true) held n 24 [c3] = some (ys[3]'(by rw [hyl]; decide)) := t3
  obtain ⟨a, len, cap, zs, rfl, hrow, hlen⟩ : ∃ a len cap zs, c3 = .slice a len cap ∧ B2.IsRow .u8 w a len cap zs ∧ len ≤ reachBytes := by
    rcases open_ints Tryz.underlying24 Tryz.underlying5 (by kernel_rfl) t3 with ⟨hcs, _⟩ | ⟨x, l, c, zs, hcs, _, hl, hm, hz, hxx, hcell, hwz⟩
    · have hc : c3 = .slice none 0 0 := by simpa using hcs
      subst hc
      exact ⟨_, _, _, [], rfl, .inl ⟨rfl, rfl, rfl, rfl⟩, Nat.zero_le _⟩
    · have hc : c3 = .slice (some x) l c := by simpa using hcs
      subst hc
      have hz' : zs.length = c := by simpa using hz
      refine ⟨_, _, _, zs, rfl, .inr ⟨_, rfl, hl, hm, hz', hcell, hwz⟩, ?_⟩
      have y3 : (ys.map (·.1))[3]? = some (.slice (lits .u8 (zs.take l)) (lits .u8 (zs.drop l))) := by rw [List.getElem?_map, z3, hxx]; rfl
      have := hw _ (DataW.weights_mem_each (j := 3) (t := 24) rfl y3 _ (by rw [weighs24]; exact List.mem_cons_self ..))
      rw [bytesL5] at this
      have e1 : (lits (H := H) .u8 (zs.take l)).length + (lits (H := H) .u8 (zs.drop l)).length = zs.length := by
        simp only [lits, List.length_map, List.length_take, List.length_drop]; omega
      rw [e1] at this
      omega
  obtain ⟨bs, hbl, HB, hc0, _⟩ := B2.bys_of_row hrow
  subst hbl
  refine ⟨⟨n0, n1, n2, bs⟩, a, cap, hat 0 (by decide), hat 1 (by decide), hat 2 (by decide), hat 3 (by decide), hc0, HB, b2.2, ?_⟩
  unfold reachBytes at hlen
  exact Nat.le_trans hlen (by decide)
/-- a list of chunks that came in -/
theorem chunks_of_trod {H : Type} {enc : TypeId × Value → H} {w : World} {fuel : Nat} {held : Bool} {a : Option Addr} {len cap : Nat} {x : DataW H × List MemPlace}
    (h : DataW.trod enc Tryz.prog w 0 (fun _ => true) held fuel 23 [.slice a len cap] = some x) (hw : ∀ n ∈ x.1.weights Tryz.prog 23, n ≤ reachBytes) :
    ∃ l : List Cin, l.length = len ∧ len ≤ maxLen ∧ CinAt w a l ∧ ∀ r ∈ l, r.bs.length ≤ 140737488355328 ∧ r.N ≤ 9223372036854775807 ∧ ∀ c ∈ r.bs, c < 256 := by
  rcases Go.Deep.open_slice Tryz.underlying23 h with ⟨hcs, _⟩ | ⟨ad, l, c, m, n, D, Pl, hcs, _, hl, hm, hmm, hx, hi⟩
  · simp at hcs
    obtain ⟨rfl, rfl, rfl⟩ := hcs
    exact ⟨[], rfl, Nat.zero_le _, fun h => absurd rfl h, fun x hx => by cases hx⟩
  · simp at hcs
    obtain ⟨rfl, rfl, rfl⟩ := hcs
    have hlm : len ≤ m := by rw [hmm]; split <;> omega
    subst hx
    simp only [weighs23] at hw
    have hwd : ∀ i, i < len → ∀ n ∈ (D i).weights Tryz.prog 26, n ≤ reachBytes := fun i hil n hn =>
      hw n (List.mem_cons_of_mem _ (List.mem_append.2 (.inl (weighsAll_memL (List.mem_map.2 ⟨i, List.mem_range.2 hil, rfl⟩) n hn))))
    let Q : Nat → Cin → Prop := fun i r => ∃ (d : Option Addr) (cp : Nat), w.cell? ((ad.add (i * 4)).add 0) = some (.int .i64 r.f) ∧ w.cell? ((ad.add (i * 4)).add 1) = some (.int .i64 r.t) ∧ w.cell? ((ad.add (i * 4)).add 2) = some (.int .i64 r.N) ∧ w.cell? ((ad.add (i * 4)).add 3) = some (.slice d r.bs.length cp) ∧ (d = none → cp = 0) ∧ Bys w d r.bs ∧ r.N ≤ 9223372036854775807 ∧ r.bs.length ≤ 140737488355328
    have hone : ∀ i, i < len → ∃ o : Cin, Q i o := by
      intro i hil
      obtain ⟨cs', hc, ht⟩ := hi i (by omega)
      rw [cellsL26] at hc
      obtain ⟨r, d, cp, k⟩ := chunk_cellw hc ht (hwd i hil)
      exact ⟨r, d, cp, k⟩
    have hall : ∀ k, k ≤ len → ∃ os : List Cin, os.length = k ∧ ∀ i (hi : i < os.length), Q i os[i] := by
      intro k hk
      induction k with
      | zero => exact ⟨[], rfl, fun i hi => absurd hi (by simp)⟩
      | succ k ih =>
        obtain ⟨os, hl, ho⟩ := ih (by omega)
        obtain ⟨o, h1⟩ := hone k (by omega)
        refine ⟨os ++ [o], by simp [hl], fun i hi => ?_⟩
        by_cases hik : i < os.length
        · rw [List.getElem_append_left hik]; exact ho i hik
        · have : i = k := by simp [hl] at hi; omega
          subst this
          have e : (os ++ [o])[i] = o := by rw [List.getElem_append_right (by omega)]; simp [hl]
          rw [e]; exact h1
    obtain ⟨os, hl2, ho⟩ := hall len (Nat.le_refl _)
    refine ⟨os, hl2, Nat.le_trans hl hm, fun hn => ?_, fun x hx => ?_⟩
    · have h0 : 0 < os.length := List.length_pos_iff.2 hn
      obtain ⟨b, off, spot⟩ := ad
      obtain ⟨_, _, hc0, _⟩ := ho 0 h0
      have hspot : spot = none := by simpa [Addr.add] using World.cell?_spot hc0
      subst hspot
      refine ⟨b, off, rfl, ?_, fun i hi => ?_⟩
      · have := World.block_lt_of_cell? _ _ hc0
        simpa [Addr.add] using this
      · obtain ⟨d, cp, k0, k1, k2, k3, k4, k5, _⟩ := ho i hi
        rw [add_atL, add_atL] at k0 k1 k2 k3
        exact ⟨d, cp, k0, k1, k2, k3, k4, k5⟩
    · obtain ⟨i, hi, rfl⟩ := List.getElem_of_mem hx
      obtain ⟨d, cp, _, _, _, _, _, k5, k6, k7⟩ := ho i hi
      exact ⟨k7, k6, k5.2.1⟩
end Go.Proofs.YtdlifcpdlbmijaaGreatDoor
namespace Go.Proofs.YtdlifcpdlbmijaaGreatDoor.gorillaLists
open Go.ChangeShapes Go.WideShapes Go.ChangeAt Go.RowKit
open Go.ChangeMaps (open_string shut_string)
set_option linter.unusedVariables false
theorem own : ownKnob Tryz.prog.godebug = none := by kernel_rfl
theorem laidOut : laidOutB Tryz.prog = true := by kernel_rfl
theorem slice_cap {H : Type} {enc : TypeId × Value → H} {w : World} {base fuel : Nat} {spare : Nat → Bool} {held : Bool} {a : Option Addr} {len cap : Nat} {x : DataW H × List MemPlace}
    (h : DataW.trod enc Tryz.prog w base spare held fuel 22 [.slice a len cap] = some x) : len ≤ cap ∧ (a = none → cap = 0 ∧ len = 0) := by
  rcases Go.Deep.open_slice Tryz.underlying22 h with ⟨hcs, _⟩ | ⟨ad, l, c, m, n, D, Pl, hcs, _, hl, hm, hmm, _, hi⟩
  · simp at hcs
    obtain ⟨rfl, rfl, rfl⟩ := hcs
    exact ⟨Nat.le_refl _, fun _ => ⟨rfl, rfl⟩⟩
  · simp at hcs
    obtain ⟨rfl, rfl, rfl⟩ := hcs
    exact ⟨hl, fun h => by cases h⟩
set_option maxRecDepth 100000 in
theorem lifted (os : Os) (started : os.Started) (H : Type) (enc : TypeId × Value → H) (F : Stop.Interp) :
    ReturnsInHanded {} Tryz.checked os 3 .any ((OpenSpec.ofChange Rows.gorillaListsSpec).preRow enc Tryz.prog Tryz.f3 [] false laid1) (((OpenSpec.ofChange Rows.gorillaListsSpec).at F).post enc Tryz.prog Tryz.f3 false true false false) := by
  refine returnsInHanded_of_row (C := Tryz.checked) (s := OpenSpec.ofChange Rows.gorillaListsSpec) (F := F) (laid := laid1) own started (by kernel_rfl) Tryz.func3
    (ChangeSpec.witness_shaped (enc := enc) (C := Tryz.checked) (os := os) (s := Rows.gorillaListsSpec) (X := fun w _ => laidMetH Tryz.prog laid1 w) false (startWorld os) #[.slice none 0 0, .slice none 0 0] 8 (startWorld_os os) (start_shaped os _) (by kernel_rfl) (by kernel_rfl) (by kernel_rfl) (door_met os _)) ?_
  intro W base args ds gs before hval0 hW hcnd _ hsz0 hL hsh _
  have hsz : (DataW.weightsEach Tryz.prog (Tryz.f3.params.toList ++ []) (ds ++ gs)).all (· ≤ reachBytes) = true := hsz0
  clear hsz0
  have hval : ∀ (j : Nat) t v, Tryz.f3.params[j]? = some t → args[j]? = some v → Value.okWide Tryz.prog W .any base t v := hval0
  have hW' := hW
  obtain ⟨p, q, hA0, hV, rfl, hfz, hnd⟩ := hW
  have hA : DataW.TrodAll enc Tryz.prog W 0 (fun _ => true) true Tryz.f3.params.toList args.toList ds p := hA0
  rw [Tryz.params3] at hA hval hsz
  obtain ⟨v0, vs0, d0, ds0, p0, q0, hargs, rfl, rfl, h0, r0⟩ := trodAll_cons hA
  obtain ⟨v1, vs1, d1, ds1, p1, q1, rfl, rfl, rfl, h1, r1⟩ := trodAll_cons r0
  obtain ⟨rfl, rfl, rfl⟩ := trodAll_nil r1
  obtain rfl : args = #[v0, v1] := by cases args; simp_all
  obtain ⟨rfl, rfl⟩ := trodVars_none hV
  obtain ⟨a0, len0, cap0, rfl⟩ := okWide_slice Tryz.underlying22 (hval 0 22 v0 rfl rfl)
  obtain ⟨a1, len1, cap1, rfl⟩ := okWide_slice Tryz.underlying23 (hval 1 23 v1 rfl rfl)
  have k0 := h0
  have lt0 : ∀ x ∈ p0, x.block < W.heap.size := by obtain ⟨m, hm⟩ := k0; exact DataW.trod_lt m _ _ _ hm
  have k1 := h1
  have lt1 : ∀ x ∈ p1, x.block < W.heap.size := by obtain ⟨m, hm⟩ := k1; exact DataW.trod_lt m _ _ _ hm
  have hw1 : ∀ n ∈ d1.weights Tryz.prog 23, n ≤ reachBytes := fun n hn => by
    have h2 := List.all_eq_true.1 hsz n (DataW.weights_mem_each (j := 1) (t := 23) rfl rfl n hn)
    exact of_decide_eq_true h2
  obtain ⟨fuel, hf⟩ := h0
  obtain ⟨l, hl, hm, hlo, HO⟩ := smps_of_trodO hf
  obtain ⟨hc1, hc2⟩ := slice_cap hf
  obtain ⟨fuel1, hf1⟩ := h1
  obtain ⟨Ls, hl1, hm1, HO1, hsm⟩ := chunks_of_trod hf1 hw1
  have hT : TabAt W := laid_tab hL
  obtain ⟨q9, b0, b1', b2, c, c0, c1, c2, o9, oa, oc, od, hTB⟩ := laid_rows hL
  clear hA0 hval0 hf hf1 hL hsh hsz hw1
  refine (lists_law a0 len0 cap0 l hl hc1 hm hlo hc2 a1 len1 cap1 Ls hl1 hm1 hsm q9 b0 b1' b2 c c0 c1 c2 o9 oa oc od W HO HO1 hT hTB).mono fun e W' ⟨he, bel⟩ => ?_
  subst he
  exact ⟨_, rfl, _, _, _, [], _, [], hW', trodAll_mk1 (shut_bool Tryz.underlying4 _), (trodAll_cons_mk (Below.trod laidOut (by kernel_rfl) (of_decide_eq_true (by kernel_rfl)) k0 bel lt0) (trodAll_cons_mk (Below.trod laidOut (by kernel_rfl) (of_decide_eq_true (by kernel_rfl)) k1 bel lt1) trodAll_mk0)), rfl, bel.frame _, fun h => by cases h⟩
theorem over : Rows.gorillaListsRow.holds Tryz.pinned (OpenSpec.ofChange Rows.gorillaListsSpec) :=
  OpenClaim.holds_of_cond 3 Tryz.f3 rfl rfl rfl rfl rfl rfl rfl ⟨rfl, rfl, rfl, rfl, rfl⟩ rfl rfl rfl rfl rfl f1 Tryz.func3 f2 f3 f4
    (fun os started H enc _ F => by rw [OpenClaim.pre_eq_preRow]; exact lifted os started H enc F)
theorem proved : Rows.GorillaListsSaid := over
/-- the tied card -/
theorem card : Rows.GorillaListsCardSaid :=
  Claim7.holds_tied_plain_at .later [] [.data, .widerDeep] true (true, "f238a6525e9dae2663a7f6370808ce8dbe8cbbbf070850f54b09b93acbd84c47") false
    proved (fun _ h => by cases h) (by kernel_rfl) (fun _ h => by cases h) gorillaLists_row_tie rfl ⟨rfl, rfl⟩ (by kernel_rfl) rfl
    (fun f fn hf hfn => by
      obtain rfl : f = 3 := Option.some.inj ((show Tryz.prog.funcNamed "barograph/barographlaw10.GorillaLists" = some 3 by kernel_rfl).symm.trans hf) |>.symm
      obtain rfl : fn = Tryz.f3 := (Option.some.inj (Tryz.func3.symm.trans hfn)).symm
      exact ⟨by kernel_rfl, fun j t ht => by
        rw [Tryz.params3] at ht
        have hm : t ∈ [22, 23] := by simpa using Array.mem_of_getElem? ht
        have hall : ([22, 23].all fun u => !Tryz.prog.wantsStandIn u) = true := by kernel_rfl
        exact (show Tryz.prog.wantsStandIn t = false by simpa using List.all_eq_true.1 hall t hm)⟩)
    (by kernel_rfl)
#print axioms card
end Go.Proofs.YtdlifcpdlbmijaaGreatDoor.gorillaLists
