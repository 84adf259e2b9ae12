/-
  WALKS: do the names rise.
-/
import Derived.Test.YtiolghcjndoigaaGreatDoorSet
namespace Go.Proofs.YtiolghcjndoigaaGreatDoor
set_option linter.unusedVariables false
set_option linter.unusedSimpArgs false
open Go.RowKit Go.PlainAid Go.Shelf
theorem less_lexC : ∀ a b : List UInt8, Op.bytesLess a b = decide (Lm.lexC Lm.byC a b < 0)
  | [], [] => by simp [Op.bytesLess, Lm.lexC]
  | [], _ :: _ => by simp [Op.bytesLess, Lm.lexC]
  | _ :: _, [] => by simp [Op.bytesLess, Lm.lexC]
  | x :: a, y :: b => by
    have ih := less_lexC a b
    have hs := Lm.byC_lin.same x y
    unfold Op.bytesLess Lm.lexC
    by_cases h : x = y
    · subst h
      rw [if_pos (hs.2 rfl)]
      simp [ih]
    · have hne : ¬ Lm.byC x y = 0 := fun e => h (hs.1 e)
      rw [if_neg hne]
      unfold Lm.byC at *
      by_cases h1 : x < y
      · simp [h1]
      · by_cases h2 : y < x
        · simp [h1, h2, h]
        · simp [h1, h2] at hne
theorem less_strC (a b : ByteArray) : Op.bytesLess a.toList b.toList = decide (Lm.strC a b < 0) := by
  rw [less_lexC, ByteArray.toList_eq, ByteArray.toList_eq]
  rfl
set_option maxHeartbeats 1000000 in
theorem rising_any (a : Option Addr) (c : Nat) (l : List Lm.Lb) (w : World) (H : Labs w a l) (hz : l.length ≤ maxLen) : Calls Tryz.prog 51 #[.slice a l.length c] w (Gives w (.bool (risesB l))) := by
  have HL := Lib.hid H
  have HI := Lib.hid (risesB_iff l)
  obtain ⟨n, hn⟩ : ∃ n, l.length = n := ⟨_, rfl⟩
  have HN := Lib.hid hn
  have hz' : n ≤ 9223372036854775807 := by rw [← hn]; exact hz
  rw [hn]
  clear H hz hn
  go_enter Tryz.func51, Tryz.ntmps51
  go_wp2
  go_loopw [3] (fun i wr => ∃ k : Nat, (k + 1 ≤ n ∨ k = 0) ∧ i = .int .i64 ((k : Int) + 1) ∧ Hid (Below w.heap.size w wr) ∧ Hid (∀ j (h : j + 1 < l.length), j < k → Lm.strC l[j].1 l[j + 1].1 < 0)) (fun i _ => (n + 1 - (intOf i).toNat))
  case atStart => exact ⟨0, .inr rfl, rfl, Lib.hid (Below.refl _ _), Lib.hid (fun j h hj => by omega)⟩
  case round =>
    obtain ⟨k, hk1, rfl, HB, HT⟩ := hrel
    by_cases hkn : k + 1 < n
    · have da : decide ((k : Int) + 1 < (n : Int)) = true := decide_eq_true (by omega)
      have da2 : decide (k + 1 < n) = true := decide_eq_true hkn
      have hkl : k + 1 < l.length := by rw [HN.out]; exact hkn
      obtain ⟨b1, o1, rfl, hb1, hc1⟩ := (HL.out.below HB.out) (by intro e; rw [e] at hkl; simp at hkl)
      obtain ⟨p1, p2⟩ := hc1 k (by omega)
      obtain ⟨q1, q2⟩ := hc1 (k + 1) hkl
      obtain ⟨x, hx⟩ : ∃ x, l[k].1 = x := ⟨_, rfl⟩
      obtain ⟨y, hy⟩ : ∃ x, l[k + 1].1 = x := ⟨_, rfl⟩
      rw [hx] at p1
      rw [hy] at q1
      have hl := less_strC y x
      have hq : (y.toList == x.toList) = decide (y = x) := by
        have := toList_iff y x
        by_cases e : y = x
        · rw [decide_eq_true e, e]; simp
        · rw [decide_eq_false e]; simpa using fun h => e (this.1 h)
      have hs := Lm.strC_lin.same y x
      have ha := Lm.strC_lin.anti y x
      by_cases hr : Lm.strC x y < 0
      · rw [decide_eq_false (by omega)] at hl
        rw [decide_eq_false (fun e => by have := hs.2 e; omega)] at hq
        have HT2 := Lib.hid (show ∀ j (h : j + 1 < l.length), j < k + 1 → Lm.strC l[j].1 l[j + 1].1 < 0 by
          intro j hj hjk
          by_cases e : j = k
          · subst e
            rw [hx, hy]; exact hr
          · exact HT.out j hj (by omega))
        clear hs ha hr hx hy hc1 p2 q2
        go_wp2_with (go_quiet (fail))
        go_roundw
        case rel => exact ⟨k + 1, by omega, by simp, Lib.hid (by have := HB.out; exact ⟨this.os, this.tape, this.output, this.size, this.block⟩), HT2⟩
        case measure => simp [intOf]; omega
      · have E := Lib.hid (show risesB l = false by
          cases hh : risesB l with
          | false => rfl
          | true =>
            have := HI.out.1 hh k hkl
            rw [hx, hy] at this
            exact absurd this hr)
        have hor : (Op.bytesLess y.toList x.toList || y.toList == x.toList) = true := by
          rw [hl, hq]
          by_cases e : Lm.strC y x < 0
          · rw [decide_eq_true e]; rfl
          · rw [decide_eq_true (hs.1 (by omega)), Bool.or_true]
        clear hs ha hr hx hy hc1 p2 q2 hl hq
        go_wp2_with (go_quiet (fail))
        go_ret
        exact ⟨congrArg (fun x => Ending.returned (.bool x)) E.out.symm, (by have := HB.out; exact ⟨this.os, this.tape, this.output, this.size, this.block⟩)⟩
    · have da : decide ((k : Int) + 1 < (n : Int)) = false := decide_eq_false (by omega)
      have da2 : decide (k + 1 < n) = false := decide_eq_false (by omega)
      have E := Lib.hid (show risesB l = true by
        refine HI.out.2 (fun i hi => HT.out i hi ?_)
        have := HN.out
        omega)
      go_wp2
      go_ret
      exact ⟨congrArg (fun x => Ending.returned (.bool x)) E.out.symm, HB.out⟩
end Go.Proofs.YtiolghcjndoigaaGreatDoor
