/-
  WALKS: the law of turns, walked.
-/
import Derived.Test.YtiolghcjndoigaaGreatDoorBokD
import Derived.Test.YtiolghcjndoigaaGreatDoorWit
import Derived.Test.YtiolghcjndoigaaGreatDoorRkp
import Derived.Test.YtiolghcjndoigaaGreatDoorLes
namespace Go.Proofs.YtiolghcjndoigaaGreatDoor
set_option linter.unusedVariables false
set_option linter.unusedSimpArgs false
open Go.RowKit Go.PlainAid Go.Shelf
theorem OwnL.onlyG {w w' : World} {base g : Nat} {v : Value} {l : List Lm.Lb} (h : OwnL w base v l) (ho : Only [g] w w') (hg : g < base) : OwnL w' base v l := h.only ho (fun k hk => by simp at hk; omega)
theorem OwnL.len {w : World} {base : Nat} {v : Value} {l : List Lm.Lb} (h : OwnL w base v l) : ∀ k, v.ownBlock = some k → base ≤ k ∧ k < w.heap.size := World.ownsRow.lt h
theorem book_new {w : World} (o : Obj) (ho : o = .cells (Bk.bkf 9 (.slice none 0 0)) 67 (0, 0)) (X : Nat → Value) : Bk.BookAt 67 22 9 (w.alloc o) w.heap.size w.heap.size 0 X :=
  ⟨.slice none 0 0, by rw [ho]; exact heap_alloc_new w _, World.ownsRow_nil _ _ _ _, rfl, by simp [Value.ownBlock]⟩
/-- three rows -/
def three (x y z : Value) (n : Nat) : Value := if n = 0 then x else if n = 1 then y else if n = 2 then z else .slice none 0 0
def threeL (k l m : Nat) (n : Nat) : Nat := if n = 0 then k else if n = 1 then l else if n = 2 then m else 0
/-- each between its bounds -/
structure Tri (b0 b1 b2 b3 : Nat) (x y z : Value) : Prop where
  x : ∀ g, x.ownBlock = some g → b0 ≤ g ∧ g < b1
  y : ∀ g, y.ownBlock = some g → b1 ≤ g ∧ g < b2
  z : ∀ g, z.ownBlock = some g → b2 ≤ g ∧ g < b3
  le : b0 ≤ b1 ∧ b1 ≤ b2 ∧ b2 ≤ b3
theorem Tri.at {b0 b1 b2 b3 : Nat} {x y z : Value} (h : Tri b0 b1 b2 b3 x y z) {i g : Nat} (hg : (three x y z i).ownBlock = some g) : (i = 0 ∧ b0 ≤ g ∧ g < b1) ∨ (i = 1 ∧ b1 ≤ g ∧ g < b2) ∨ (i = 2 ∧ b2 ≤ g ∧ g < b3) := by
  unfold three at hg
  split at hg
  · exact .inl ⟨by assumption, h.x g hg⟩
  · split at hg
    · exact .inr (.inl ⟨by assumption, h.y g hg⟩)
    · split at hg
      · exact .inr (.inr ⟨by assumption, h.z g hg⟩)
      · cases hg
theorem Tri.bounds {b0 b1 b2 b3 : Nat} {x y z : Value} (h : Tri b0 b1 b2 b3 x y z) {i g : Nat} (hg : (three x y z i).ownBlock = some g) : b0 ≤ g ∧ g < b3 := by
  have h1 := h.at hg
  have h2 := h.le
  omega
theorem Tri.apart {b0 b1 b2 b3 : Nat} {x y z : Value} (h : Tri b0 b1 b2 b3 x y z) : ∀ i j, i ≠ j → (three x y z i).ownBlock = none ∨ (three x y z i).ownBlock ≠ (three x y z j).ownBlock := by
  intro i j hij
  cases hi : (three x y z i).ownBlock with
  | none => exact .inl rfl
  | some g =>
    refine .inr fun e => ?_
    have h1 := h.at hi
    have h2 := h.at e.symm
    have h3 := h.le
    omega
theorem three_lots {w : World} {N b0 b1 b2 b3 : Nat} {x y z : Value} {k l m : List Lm.Lb} (h1 : OwnL w N x k) (h2 : OwnL w N y l) (h3 : OwnL w N z m) (h : Tri b0 b1 b2 b3 x y z) : ∃ C, Bk.Lots 94 2 w N (three x y z) (threeL k.length l.length m.length) C := by
  refine ⟨fun n => if n = 0 then k.flatMap enc2 else if n = 1 then l.flatMap enc2 else if n = 2 then m.flatMap enc2 else [], fun i => ?_, h.apart⟩
  match i with
  | 0 => exact h1
  | 1 => exact h2
  | 2 => exact h3
  | n + 3 => exact World.ownsRow_nil _ _ _ _
theorem three_places {b0 b1 b2 b3 M h : Nat} {x y z : Value} (T : Tri b0 b1 b2 b3 x y z) (hh : b3 ≤ h) (hM : h < M) : Bk.Places b0 M h (three x y z) := by
  have hle := T.le
  exact ⟨fun j g hg => by have := T.bounds hg; omega, fun j g hg => by have := T.bounds hg; omega, hM, T.apart, by omega⟩
theorem threeL_le (k l m : Nat) (B : Nat) (h1 : k ≤ B) (h2 : l ≤ B) (h3 : m ≤ B) (n : Nat) : threeL k l m n ≤ B := by
  unfold threeL
  split
  · exact h1
  · split
    · exact h2
    · split
      · exact h3
      · omega
theorem threeL_zero (k l m : Nat) (n : Nat) (h : 3 ≤ n) : threeL k l m n = 0 := by
  unfold threeL
  rw [if_neg (by omega), if_neg (by omega), if_neg (by omega)]
theorem withL_len (s v : ByteArray) (l : List Lm.Lb) : (withL s v l).length ≤ l.length + 1 := by
  have hf := List.length_filter_le (fun x : Lm.Lb => !hasB [s] x.1) l
  unfold withL
  split
  · omega
  · obtain ⟨r, hr⟩ : ∃ r, (l.filter fun x : Lm.Lb => !hasB [s] x.1) = r := ⟨_, rfl⟩
    rw [hr] at hf ⊢
    rcases firstL_ins s v r with ⟨_, h⟩ | ⟨k, _, _, h⟩
    · rw [h, List.length_append, List.length_cons, List.length_take, List.length_drop]; omega
    · rw [h, List.length_append, List.length_cons, List.length_take, List.length_drop]; omega
theorem parts_len (p : Lm.Lb → Bool) (l : List Lm.Lb) : (l.filter p).length + (l.filter fun x => !p x).length = l.length := by
  induction l with
  | nil => rfl
  | cons x t ih =>
    cases h : p x with
    | true => rw [List.filter_cons_of_pos h, List.filter_cons_of_neg (by simp [h]), List.length_cons, List.length_cons]; omega
    | false => rw [List.filter_cons_of_neg (by simp [h]), List.filter_cons_of_pos (by simp [h]), List.length_cons, List.length_cons]; omega
theorem LentT.off {w w' : World} {g k : Nat} {ss : List ByteArray} (h : LentT w g ss) (ho : Only [k] w w') (hk : g ≠ k) : LentT w' g ss := (ho.block g (Array.getElem?_eq_some_iff.1 h).1 (by simpa using hk)).trans h
set_option maxRecDepth 100000 in
set_option maxHeartbeats 16000000 in
theorem law_turns (a1 an : Option Addr) (c1 cn : Nat) (l : List Lm.Lb) (s v : ByteArray) (ss : List ByteArray) (w : World) (H1 : Labs w a1 l) (H2 : Strs w an ss) (l1 : l.length ≤ maxLen) (hc0 : a1 = none → c1 = 0) (hn0 : an = none → cn = 0) (hlz : ∀ x ∈ l, x.1.size ≤ maxLen) (hsz : ∀ x ∈ ss, x.size ≤ maxLen) (hsl : ss.length ≤ maxLen) :
    Calls Tryz.prog 4 #[.slice a1 l.length c1, .string s, .string v, .slice an ss.length cn] w (Gives w (.bool true)) := by
  have hmx : maxLen = 9223372036854775807 := rfl
  have M1 := Lib.hid (fun w H => much_any a1 c1 l w H l1)
  have CK := Lib.hid known_any
  have K1 := Lib.hid H1
  have K2 := Lib.hid H2
  have HC0 := Lib.hid hc0
  have HN0 := Lib.hid hn0
  have HLZ := Lib.hid hlz
  have HSZ := Lib.hid hsz
  have HMX := Lib.hid hmx
  obtain ⟨n1, hn1⟩ : ∃ n, l.length = n := ⟨_, rfl⟩
  obtain ⟨n2, hn2⟩ : ∃ n, ss.length = n := ⟨_, rfl⟩
  have HN1 := Lib.hid hn1
  have HN2 := Lib.hid hn2
  rw [hn1] at M1 ⊢
  rw [hn2] at hsl ⊢
  clear H1 H2 l1 hn1 hn2 hmx hc0 hn0 hlz hsz
  go_enter Tryz.func4, Tryz.ntmps4
  go_wp2_with fail
  refine (M1.out _ K1.out).mono ?_
  rintro e w1 ⟨b1, rfl, hbl, hfew⟩
  have B1 := Lib.hid hbl
  have HF1 := Lib.hid hfew
  clear hbl hfew
  cases b1 with
  | true =>
    go_wp2
    go_ret
    exact ⟨rfl, B1.out⟩
  | false =>
    have HS1 := Lib.hid (show l.length ≤ 300 from (HF1.out rfl).1)
    by_cases h2 : 300 < n2
    · have d3 : decide ((n2 : Int) > 300) = true := decide_eq_true (by omega)
      have d4 : decide (300 < (n2 : Int)) = true := decide_eq_true (by omega)
      have d5 : decide (300 < n2) = true := decide_eq_true h2
      go_wp2
      go_ret
      exact ⟨rfl, B1.out⟩
    have d3 : decide ((n2 : Int) > 300) = false := decide_eq_false (by omega)
    have d4 : decide (300 < (n2 : Int)) = false := decide_eq_false (by omega)
    have d5 : decide (300 < n2) = false := decide_eq_false h2
    by_cases h3 : 20000 < s.size
    · have e3 : decide ((s.size : Int) > 20000) = true := decide_eq_true (by omega)
      have e4 : decide (20000 < (s.size : Int)) = true := decide_eq_true (by omega)
      have e5 : decide (20000 < s.size) = true := decide_eq_true h3
      go_wp2
      go_ret
      exact ⟨rfl, B1.out⟩
    have e3 : decide ((s.size : Int) > 20000) = false := decide_eq_false (by omega)
    have e4 : decide (20000 < (s.size : Int)) = false := decide_eq_false (by omega)
    have e5 : decide (20000 < s.size) = false := decide_eq_false h3
    by_cases h4 : 20000 < v.size
    · have f3 : decide ((v.size : Int) > 20000) = true := decide_eq_true (by omega)
      have f4 : decide (20000 < (v.size : Int)) = true := decide_eq_true (by omega)
      have f5 : decide (20000 < v.size) = true := decide_eq_true h4
      go_wp2
      go_ret
      exact ⟨rfl, B1.out⟩
    have f3 : decide ((v.size : Int) > 20000) = false := decide_eq_false (by omega)
    have f4 : decide (20000 < (v.size : Int)) = false := decide_eq_false (by omega)
    have f5 : decide (20000 < v.size) = false := decide_eq_false h4
    have HS2 := Lib.hid (show ss.length ≤ 300 by rw [HN2.out]; omega)
    have HZ := Lib.hid (show s.size ≤ maxLen by rw [HMX.out]; omega)
    clear h2 h3 h4 hsl
    have CL := Lib.hid (fun w H => lentl_any a1 l c1 w H HC0.out (by have := HS1.out; omega))
    have CT := Lib.hid (fun w H => lentt_any an ss cn w H HN0.out (by have := HS2.out; omega))
    have CW := Lib.hid (fun a c w H => with_any a c l s v w H (by have := HS1.out; omega) HZ.out HLZ.out)
    have CKP := Lib.hid (fun a b c d w H H' => keep_any a b c d l ss w H H' (by have := HS1.out; omega) (by have := HS2.out; omega) HSZ.out HLZ.out)
    have CWO := Lib.hid (fun a b c d w H H' => without_any a b c d l ss w H H' (by have := HS1.out; omega) (by have := HS2.out; omega) HSZ.out HLZ.out)
    have CG := Lib.hid (fun a c w H => get_any a c l s w H (by have := HS1.out; have := HMX.out; omega))
    have CWL := Lib.hid (fun g w L H => wholel_any g a1 l c1 w L H (by have := HS1.out; omega))
    have CWT := Lib.hid (fun g w L H => wholet_any g an ss cn w L H (by have := HS2.out; omega))
    have CRW := Lib.hid (fun w H => rwith_any a1 c1 l s v w H (by have := HS1.out; omega))
    have CRK := Lib.hid (fun w H H' => rkeep_any a1 an c1 cn l ss w H H' (by have := HS1.out; omega) (by have := HS2.out; have := HMX.out; omega))
    have CRO := Lib.hid (fun w H H' => rwithout_any a1 an c1 cn l ss w H H' (by have := HS1.out; omega) (by have := HS2.out; have := HMX.out; omega))
    have CRG := Lib.hid (fun w H => rget_any a1 c1 l s w H (by have := HS1.out; have := HMX.out; omega))
    have HLW := Lib.hid (show (withL s v l).length ≤ 301 by have h1 := withL_len s v l; have h2 := HS1.out; omega)
    have HPL := Lib.hid (parts_len (fun x => hasB ss x.1) l)
    rw [HN1.out] at CL CW CKP CWO CG CWL CRW CRK CRO CRG HPL
    rw [HN2.out] at CT CKP CWO CWT CRK CRO
    obtain ⟨G, hG⟩ : ∃ G, getL s l = G := ⟨_, rfl⟩
    obtain ⟨X1, hX1⟩ : ∃ X, withL s v l = X := ⟨_, rfl⟩
    obtain ⟨X2, hX2⟩ : ∃ X, (l.filter fun x => hasB ss x.1) = X := ⟨_, rfl⟩
    obtain ⟨X3, hX3⟩ : ∃ X, (l.filter fun x => !hasB ss x.1) = X := ⟨_, rfl⟩
    simp only [hX1, hX2, hX3, hG] at CW CKP CWO CG CRW CRK CRO CRG HLW HPL
    have HL2 := Lib.hid (show X2.length ≤ 300 by have h1 := HPL.out; have h2 := HS1.out; have h3 := HN1.out; omega)
    have HL3 := Lib.hid (show X3.length ≤ 300 by have h1 := HPL.out; have h2 := HS1.out; have h3 := HN1.out; omega)
    clear hG hX1 hX2 hX3
    have CSM := Lib.hid (fun (X : List Lm.Lb) (hX : X.length ≤ 301) a b c d w1 H H' => show Calls Tryz.prog 18 #[.slice a X.length c, .slice b X.length d] w1 (Gives w1 (.bool true)) by
      have h := same_any a b c d X X w1 H H' (by have := HMX.out; omega)
      rw [decide_eq_true rfl] at h
      exact h)
    go_wp2_with fail
    refine (CL.out _ (K1.out.below B1.out)).mono ?_
    rintro e w2 ⟨g, hg, rfl, hL, hbl⟩
    clear d3 d4 d5 e3 e4 e5 f3 f4 f5
    rw [HN1.out]
    have L2 := Lib.hid hL
    have HG := Lib.hid (show w.heap.size ≤ g ∧ g < w2.heap.size by have := B1.out.size; exact ⟨by omega, (Array.getElem?_eq_some_iff.1 hL).1⟩)
    have B2 := Lib.hid (B1.out.trans (hbl.mono B1.out.size))
    clear hL hbl hg
    go_wp2_with fail
    refine (CT.out _ (K2.out.below B2.out)).mono ?_
    rintro e w3 ⟨gt, hgt, rfl, hL, hbl⟩
    rw [HN2.out]
    have T3 := Lib.hid hL
    have L3 := Lib.hid (L2.out.below hbl)
    have HGT := Lib.hid (show w.heap.size ≤ gt ∧ gt < w3.heap.size ∧ gt ≠ g ∧ g < w3.heap.size by have := B2.out.size; have h2 := HG.out; have h3 := hbl.size; exact ⟨by omega, (Array.getElem?_eq_some_iff.1 hL).1, by omega, by omega⟩)
    have B3 := Lib.hid (B2.out.trans (hbl.mono B2.out.size))
    clear hL hbl hgt
    obtain ⟨b0, hb0⟩ : ∃ n, w3.heap.size = n := ⟨_, rfl⟩
    have HB0 := Lib.hid (show w.heap.size ≤ b0 by rw [← hb0]; exact B3.out.size)
    rw [hb0] at HGT
    go_wp2_with fail
    refine (CW.out _ _ _ L3.out.labs).mono ?_
    rintro e w4 ⟨x, rfl, ho, hbl⟩
    rw [hb0] at ho
    have X4 := Lib.hid ho
    have L4 := Lib.hid (L3.out.below hbl)
    have T4 := Lib.hid (T3.out.below hbl)
    have B4 := Lib.hid (B3.out.trans (hbl.mono B3.out.size))
    have HXL := Lib.hid ho.len
    have hsz4 : b0 ≤ w4.heap.size := by rw [← hb0]; exact hbl.size
    clear ho hbl hb0
    obtain ⟨b1, hb1⟩ : ∃ n, w4.heap.size = n := ⟨_, rfl⟩
    rw [hb1] at hsz4 HXL
    have HB1 := Lib.hid hsz4
    clear hsz4
    go_wp2_with fail
    refine (CKP.out _ _ _ _ _ L4.out.labs T4.out.strs).mono ?_
    rintro e w5 ⟨y, rfl, ho, hbl⟩
    rw [hb1] at ho
    have Y5 := Lib.hid ho
    have X5 := Lib.hid (X4.out.below hbl)
    have L5 := Lib.hid (L4.out.below hbl)
    have T5 := Lib.hid (T4.out.below hbl)
    have B5 := Lib.hid (B4.out.trans (hbl.mono B4.out.size))
    have HYL := Lib.hid ho.len
    have hsz5 : b1 ≤ w5.heap.size := by rw [← hb1]; exact hbl.size
    clear ho hbl hb1
    obtain ⟨b2, hb2⟩ : ∃ n, w5.heap.size = n := ⟨_, rfl⟩
    rw [hb2] at hsz5 HYL
    have HB2 := Lib.hid hsz5
    clear hsz5
    go_wp2_with fail
    refine (CWO.out _ _ _ _ _ L5.out.labs T5.out.strs).mono ?_
    rintro e w6 ⟨z, rfl, ho, hbl⟩
    rw [hb2] at ho
    have Z6 := Lib.hid ho
    have X6 := Lib.hid (X5.out.below hbl)
    have Y6 := Lib.hid (Y5.out.below hbl)
    have L6 := Lib.hid (L5.out.below hbl)
    have T6 := Lib.hid (T5.out.below hbl)
    have B6 := Lib.hid (B5.out.trans (hbl.mono B5.out.size))
    have HZL := Lib.hid ho.len
    have hsz6 : b2 ≤ w6.heap.size := by rw [← hb2]; exact hbl.size
    clear ho hbl hb2
    obtain ⟨b3, hb3⟩ : ∃ n, w6.heap.size = n := ⟨_, rfl⟩
    rw [hb3] at hsz6 HZL
    have HB3 := Lib.hid hsz6
    have S6 := Lib.hid (show b3 ≤ w6.heap.size by omega)
    clear hsz6 hb3
    go_wp2_with fail
    refine (CG.out _ _ _ L6.out.labs).mono ?_
    rintro e w7 ⟨rfl, hbl⟩
    have X7 := Lib.hid (X6.out.below hbl)
    have Y7 := Lib.hid (Y6.out.below hbl)
    have Z7 := Lib.hid (Z6.out.below hbl)
    have L7 := Lib.hid (L6.out.below hbl)
    have T7 := Lib.hid (T6.out.below hbl)
    have B7 := Lib.hid (B6.out.trans (hbl.mono B6.out.size))
    have S7 := Lib.hid (Nat.le_trans S6.out hbl.size)
    clear hbl
    go_wp2_with fail
    refine (CWL.out g _ L7.out (K1.out.below B7.out)).mono ?_
    rintro e w8 ⟨rfl, hbl⟩
    have X8 := Lib.hid (X7.out.below hbl)
    have Y8 := Lib.hid (Y7.out.below hbl)
    have Z8 := Lib.hid (Z7.out.below hbl)
    have L8 := Lib.hid (L7.out.below hbl)
    have T8 := Lib.hid (T7.out.below hbl)
    have B8 := Lib.hid (B7.out.trans (hbl.mono B7.out.size))
    have S8 := Lib.hid (Nat.le_trans S7.out hbl.size)
    clear hbl
    go_wp2_with fail
    refine (CWT.out gt _ T8.out (K2.out.below B8.out)).mono ?_
    rintro e w9 ⟨rfl, hbl⟩
    have X9 := Lib.hid (X8.out.below hbl)
    have Y9 := Lib.hid (Y8.out.below hbl)
    have Z9 := Lib.hid (Z8.out.below hbl)
    have L9 := Lib.hid (L8.out.below hbl)
    have T9 := Lib.hid (T8.out.below hbl)
    have B9 := Lib.hid (B8.out.trans (hbl.mono B8.out.size))
    have S9 := Lib.hid (Nat.le_trans S8.out hbl.size)
    clear hbl
    have CP := Lib.hid (spoill_any g n1 (n1 + 2) w9 (by omega) (by have := HS1.out; have := HN1.out; omega) _ L9.out (by rw [List.size_toArray, flat2_len, List.length_append, HN1.out]; simp; omega))
    go_wp2_with fail
    refine CP.out.mono ?_
    rintro e w10 ⟨rfl, hon⟩
    have X10 := Lib.hid (X9.out.onlyG hon (by have := HGT.out; omega))
    have Y10 := Lib.hid (Y9.out.onlyG hon (by have := HGT.out; have := HB1.out; omega))
    have Z10 := Lib.hid (Z9.out.onlyG hon (by have := HGT.out; have := HB1.out; have := HB2.out; omega))
    have T10 := Lib.hid (T9.out.off hon HGT.out.2.2.1)
    have B10 := Lib.hid (show Below w.heap.size w w10 from B9.out.trans (hon.below B9.out.size (fun k hk => by simp at hk; have := HG.out.1; omega)))
    have S10 := Lib.hid (Nat.le_trans S9.out hon.size)
    clear hon CP
    have CP := Lib.hid (spoilt_any gt n2 (n2 + 2) w10 (by omega) (by have := HS2.out; have := HN2.out; omega) _ T10.out (by rw [List.size_toArray, txs_length, List.length_append, HN2.out]; rfl))
    go_wp2_with fail
    refine CP.out.mono ?_
    rintro e w11 ⟨rfl, hon⟩
    have X11 := Lib.hid (X10.out.onlyG hon HGT.out.2.1)
    have Y11 := Lib.hid (Y10.out.onlyG hon (by have := HGT.out; have := HB1.out; omega))
    have Z11 := Lib.hid (Z10.out.onlyG hon (by have := HGT.out; have := HB1.out; have := HB2.out; omega))
    have B11 := Lib.hid (show Below w.heap.size w w11 from B10.out.trans (hon.below B10.out.size (fun k hk => by simp at hk; have := HGT.out.1; omega)))
    have S11 := Lib.hid (Nat.le_trans S10.out hon.size)
    clear hon CP
    obtain ⟨ax, cx, rfl⟩ := ownL_shape X11.out
    obtain ⟨ay, cy, rfl⟩ := ownL_shape Y11.out
    obtain ⟨az, cz, rfl⟩ := ownL_shape Z11.out
    have TRI := Lib.hid (show Tri b0 b1 b2 b3 (.slice ax X1.length cx) (.slice ay X2.length cy) (.slice az X3.length cz) from ⟨fun g h => by have := HXL.out g h; omega, fun g h => by have := HYL.out g h; omega, fun g h => by have := HZL.out g h; omega, HB1.out, HB2.out, HB3.out⟩)
    clear X4 X5 X6 X7 X8 X9 X10 Y5 Y6 Y7 Y8 Y9 Y10 Z6 Z7 Z8 Z9 Z10 L2 L3 L4 L5 L6 L7 L8 L9 T3 T4 T5 T6 T7 T8 T9 T10 B1 B2 B3 B4 B5 B6 B7 B8 B9 B10 S6 S7 S8 S9 S10 HXL HYL HZL CL CT CW CKP CWO CG CWL CWT
    obtain ⟨PB, hPB⟩ : ∃ n, w11.heap.size = n := ⟨_, rfl⟩
    have HPB := Lib.hid (show b3 ≤ PB by rw [← hPB]; exact S11.out)
    have CB1 := Lib.hid (fun w1 H => booklabels_any PB PB 0 X1.length cx ax (three (.slice ax X1.length cx) (.slice ay X2.length cy) (.slice az X3.length cz)) rfl w1 H (by decide))
    have CB2 := Lib.hid (fun h w1 H => booklabels_any PB h 1 X2.length cy ay (three (.slice ax X1.length cx) (.slice ay X2.length cy) (.slice az X3.length cz)) rfl w1 H (by decide))
    have CB3 := Lib.hid (fun h w1 H => booklabels_any PB h 2 X3.length cz az (three (.slice ax X1.length cx) (.slice ay X2.length cy) (.slice az X3.length cz)) rfl w1 H (by decide))
    have CS1 := Lib.hid (CSM.out X1 HLW.out)
    have CS2 := Lib.hid (CSM.out X2 (by have := HL2.out; omega))
    have CS3 := Lib.hid (CSM.out X3 (by have := HL3.out; omega))
    obtain ⟨k1, hk1⟩ : ∃ k, X1.length = k := ⟨_, rfl⟩
    obtain ⟨k2, hk2⟩ : ∃ k, X2.length = k := ⟨_, rfl⟩
    obtain ⟨k3, hk3⟩ : ∃ k, X3.length = k := ⟨_, rfl⟩
    have HK1 := Lib.hid hk1
    have HK2 := Lib.hid hk2
    have HK3 := Lib.hid hk3
    have TRI0 := TRI
    rw [hk1] at CB1 CB2 CB3 CS1 TRI HLW ⊢
    rw [hk2] at CB1 CB2 CB3 CS2 TRI HL2 HPL ⊢
    rw [hk3] at CB1 CB2 CB3 CS3 TRI HL3 HPL ⊢
    have HBN := Lib.hid (show Bk.BookAt 67 22 9 (w11.alloc (.cells (Bk.bkf 9 (.slice none 0 0)) 67)) PB PB 0 (three (.slice ax k1 cx) (.slice ay k2 cy) (.slice az k3 cz)) by
      rw [← hPB]
      exact book_new _ rfl _)
    have HAL := Lib.hid ((Below.refl w11.heap.size w11).alloc (Nat.le_refl _) (.cells (Bk.bkf 9 (.slice none 0 0)) 67))
    have hbkf : Bk.bkf 9 (.slice none 0 0) = #[.slice none 0 0, .slice none 0 0, .slice none 0 0, .slice none 0 0, .slice none 0 0, .slice none 0 0, .slice none 0 0, .slice none 0 0, .slice none 0 0, .slice none 0 0, .slice none 0 0, .slice none 0 0, .slice none 0 0, .slice none 0 0, .slice none 0 0, .slice none 0 0, .slice none 0 0, .slice none 0 0, .slice none 0 0, .slice none 0 0, .slice none 0 0, .slice none 0 0, .slice none 0 0, .slice none 0 0, .slice none 0 0, .slice none 0 0, .slice none 0 0, .slice none 0 0, .slice none 0 0, .slice none 0 0, .slice none 0 0, .slice none 0 0] := rfl
    rw [hbkf] at HBN HAL
    rw [hPB] at HAL
    clear hk1 hk2 hk3 hbkf
    go_wp2_with fail
    refine (CB1.out _ HBN.out).mono ?_
    rintro e w12 ⟨rfl, h1, hbk, hh1, ho⟩
    have HH1 := Lib.hid (show PB ≤ h1 by
      rcases hh1 with h | h
      · omega
      · rw [World.size_alloc, hPB] at h; omega)
    have BK12 := Lib.hid hbk
    have T12 := Lib.hid (show Below PB w11 w12 from HAL.out.trans (ho.below (by simp; omega) (fun x hx => by simp at hx; omega)))
    clear hbk hh1 ho
    go_wp2_with fail
    refine (CB2.out _ _ BK12.out).mono ?_
    rintro e w13 ⟨rfl, h2, hbk, hh2, ho⟩
    have HH2 := Lib.hid (show PB ≤ h2 by
      rcases hh2 with h | h
      · have := HH1.out; omega
      · have := T12.out.size; omega)
    have BK13 := Lib.hid hbk
    have T13 := Lib.hid (show Below PB w11 w13 from T12.out.trans (ho.below (by have := T12.out.size; omega) (fun x hx => by simp at hx; have := HH1.out; omega)))
    clear hbk hh2 ho
    go_wp2_with fail
    refine (CB3.out _ _ BK13.out).mono ?_
    rintro e w14 ⟨rfl, h3, hbk, hh3, ho⟩
    have HH3 := Lib.hid (show PB ≤ h3 by
      rcases hh3 with h | h
      · have := HH2.out; omega
      · have := T13.out.size; omega)
    have BK14 := Lib.hid hbk
    have T14 := Lib.hid (show Below PB w11 w14 from T13.out.trans (ho.below (by have := T13.out.size; omega) (fun x hx => by simp at hx; have := HH2.out; omega)))
    clear hbk hh3 ho
    rw [← hPB] at T14
    have X14 := Lib.hid (X11.out.below T14.out)
    have Y14 := Lib.hid (Y11.out.below T14.out)
    have Z14 := Lib.hid (Z11.out.below T14.out)
    have B14 := Lib.hid (B11.out.trans (T14.out.mono B11.out.size))
    clear T12 T13 BK12 BK13 HBN HAL CB1 CB2 CB3 X11 Y11 Z11 B11
    go_wp2_with fail
    refine (CRW.out _ (K1.out.below B14.out)).mono ?_
    rintro e w15 ⟨v1, rfl, ho, hbl⟩
    obtain ⟨a1', c1', rfl, hl1, _⟩ := ho.labs
    have V1 := Lib.hid hl1
    have T15 := Lib.hid hbl
    have B15 := Lib.hid (B14.out.trans (hbl.mono B14.out.size))
    have XL := Lib.hid (show Labs w15 ax X1 by
      obtain ⟨a', c', he, hl, _⟩ := (X14.out.below hbl).labs
      cases he
      exact hl)
    clear ho hl1 hbl
    rw [HK1.out]
    go_wp2_with fail
    refine (CS1.out _ _ _ _ _ XL.out V1.out).mono ?_
    rintro e w16 ⟨rfl, hbl⟩
    have T16 := Lib.hid (T15.out.trans (hbl.mono T15.out.size))
    have B16 := Lib.hid (B15.out.trans (hbl.mono B15.out.size))
    clear hbl XL V1
    go_wp2_with fail
    refine (CRK.out _ (K1.out.below B16.out) (K2.out.below B16.out)).mono ?_
    rintro e w17 ⟨v2, rfl, ho, hbl⟩
    obtain ⟨a2', c2', rfl, hl2, _⟩ := ho.labs
    have V2 := Lib.hid hl2
    have T17 := Lib.hid (T16.out.trans (hbl.mono T16.out.size))
    have B17 := Lib.hid (B16.out.trans (hbl.mono B16.out.size))
    have YL := Lib.hid (show Labs w17 ay X2 by
      obtain ⟨a', c', he, hl, _⟩ := (Y14.out.below T17.out).labs
      cases he
      exact hl)
    clear ho hl2 hbl
    rw [HK2.out]
    go_wp2_with fail
    refine (CS2.out _ _ _ _ _ YL.out V2.out).mono ?_
    rintro e w18 ⟨rfl, hbl⟩
    have T18 := Lib.hid (T17.out.trans (hbl.mono T17.out.size))
    have B18 := Lib.hid (B17.out.trans (hbl.mono B17.out.size))
    clear hbl YL V2
    go_wp2_with fail
    refine (CRO.out _ (K1.out.below B18.out) (K2.out.below B18.out)).mono ?_
    rintro e w19 ⟨v3, rfl, ho, hbl⟩
    obtain ⟨a3', c3', rfl, hl3, _⟩ := ho.labs
    have V3 := Lib.hid hl3
    have T19 := Lib.hid (T18.out.trans (hbl.mono T18.out.size))
    have B19 := Lib.hid (B18.out.trans (hbl.mono B18.out.size))
    have ZL := Lib.hid (show Labs w19 az X3 by
      obtain ⟨a', c', he, hl, _⟩ := (Z14.out.below T19.out).labs
      cases he
      exact hl)
    clear ho hl3 hbl
    rw [HK3.out]
    go_wp2_with fail
    refine (CS3.out _ _ _ _ _ ZL.out V3.out).mono ?_
    rintro e w20 ⟨rfl, hbl⟩
    have T20 := Lib.hid (T19.out.trans (hbl.mono T19.out.size))
    have B20 := Lib.hid (B19.out.trans (hbl.mono B19.out.size))
    clear hbl ZL V3
    go_wp2_with fail
    refine (CK.out _).mono ?_
    rintro e w21 ⟨rfl, hbl⟩
    have T21 := Lib.hid (T20.out.trans (hbl.mono T20.out.size))
    have B21 := Lib.hid (B20.out.trans (hbl.mono B20.out.size))
    clear hbl
    go_wp2_with fail
    refine (CRG.out _ (K1.out.below B21.out)).mono ?_
    rintro e w22 ⟨rfl, hbl⟩
    have T22 := Lib.hid (T21.out.trans (hbl.mono T21.out.size))
    have B22 := Lib.hid (B21.out.trans (hbl.mono B21.out.size))
    clear hbl
    have X22 := Lib.hid (X14.out.below T22.out)
    have Y22 := Lib.hid (Y14.out.below T22.out)
    have Z22 := Lib.hid (Z14.out.below T22.out)
    have BK22 := Lib.hid (BK14.out.below T22.out)
    have HS22 := Lib.hid (show PB ≤ w22.heap.size by have h1 := T14.out.size; have h2 := T22.out.size; omega)
    clear T15 T16 T17 T18 T19 T20 T21 B15 B16 B17 B18 B19 B20 B21
    obtain ⟨C, hC⟩ := three_lots (X22.out.lower (b2 := b0) (Nat.le_refl _)) (Y22.out.lower HB1.out) (Z22.out.lower (Nat.le_trans HB1.out HB2.out)) TRI0.out
    rw [HK1.out, HK2.out, HK3.out] at hC
    have HRG := Lib.hid (show ∀ x ∈ List.range' b0 (PB - b0), b0 ≤ x ∧ x < PB by
      intro x hx
      have h1 := List.mem_range'_1.1 hx
      omega)
    have CO := Lib.hid (bown_any (List.range' b0 (PB - b0)) PB h3 3 b0 (three (.slice ax k1 cx) (.slice ay k2 cy) (.slice az k3 cz)) (threeL k1 k2 k3) w22 BK22.out
      (fun hm => by have := (HRG.out PB hm).2; omega)
      (three_places TRI.out (by have h1 := HPB.out; have h2 := HH3.out; omega) BK22.out.lt.2)
      ⟨_, hC⟩ (by decide) (threeL_le k1 k2 k3 1000000 (by have := HLW.out; omega) (by have := HL2.out; omega) (by have := HL3.out; omega))
      (fun j hj => threeL_zero k1 k2 k3 j hj)
      (fun j g hg => by
        have h1 := TRI.out.bounds hg
        have h2 := HPB.out
        exact List.mem_range'_1.2 (by omega)))
    clear hC
    have hadd : ((wrap64 ((k2 : Int) + (k3 : Int))) == (n1 : Int)) = true := by
      have h1 := HPL.out
      have h2 := HL2.out
      have h3 := HL3.out
      rw [wrap64_small (by omega) (by omega)]
      simp only [beq_iff_eq]
      omega
    have hgg : (G.toList == G.toList) = true := by simp
    go_wp2_with fail
    refine CO.out.mono ?_
    rintro e w23 ⟨rfl, hon⟩
    have B23 := Lib.hid (show Below w.heap.size w w23 from B22.out.trans (hon.below B22.out.size (fun k hk => by
      have h3 := HB0.out
      have h4 := HRG.out k hk
      omega)))
    clear hon
    go_wp2
    go_ret
    exact ⟨rfl, B23.out⟩
end Go.Proofs.YtiolghcjndoigaaGreatDoor
