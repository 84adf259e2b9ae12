/-
  WALKS: the reference: is a name there twice.
-/
import Derived.Test.YtiolghcjndoigaaGreatDoorSam
namespace Go.Proofs.YtiolghcjndoigaaGreatDoor
set_option linter.unusedVariables false
set_option linter.unusedSimpArgs false
open Go.RowKit Go.PlainAid Go.Shelf
def TwiceP (l : List Lm.Lb) : Prop := ∃ (i j : Nat) (hi : i < l.length) (hj : j < i), l[i].1 = (l[j]'(by omega)).1
theorem twice_iff (l : List Lm.Lb) : TwiceP l ↔ ¬ (l.map Prod.fst).Nodup := by
  unfold TwiceP
  rw [List.nodup_iff_pairwise_ne, List.pairwise_iff_getElem]
  constructor
  · rintro ⟨i, j, hi, hj, e⟩ h
    refine h j i (by rw [List.length_map]; omega) (by rw [List.length_map]; omega) hj ?_
    rw [List.getElem_map, List.getElem_map]
    exact e.symm
  · intro h
    refine Classical.byContradiction fun hn => h fun i j hi hj hij e => hn ?_
    rw [List.length_map] at hi hj
    rw [List.getElem_map, List.getElem_map] at e
    exact ⟨j, i, hj, hij, e.symm⟩
def twiceB (l : List Lm.Lb) : Bool := !decide ((l.map Prod.fst).Nodup)
theorem twice_yes {l : List Lm.Lb} (h : TwiceP l) : twiceB l = true := by
  unfold twiceB
  rw [decide_eq_false ((twice_iff l).1 h)]; rfl
theorem twice_no {l : List Lm.Lb} (h : ¬ TwiceP l) : twiceB l = false := by
  unfold twiceB
  rw [decide_eq_true (Classical.byContradiction fun hn => h ((twice_iff l).2 hn))]; rfl
set_option maxHeartbeats 1000000 in
theorem rtwice_any (a : Option Addr) (c : Nat) (l : List Lm.Lb) (w : World) (H : Labs w a l) (hz : l.length ≤ maxLen) : Calls Tryz.prog 56 #[.slice a l.length c] w (Gives w (.bool (twiceB l))) := by
  have HL := Lib.hid H
  obtain ⟨n, hn⟩ : ∃ n, l.length = n := ⟨_, rfl⟩
  have HN := Lib.hid hn
  have hz' : n ≤ 9223372036854775807 := by rw [← hn]; exact hz
  rw [hn]
  clear H hz hn
  go_enter Tryz.func56, Tryz.ntmps56
  go_wp2
  go_loopw [3] (fun i wr => ∃ k : Nat, k ≤ n ∧ i = .int .i64 k ∧ Hid (Below w.heap.size w wr) ∧ Hid (∀ (p q : Nat) (hp : p < l.length) (hq : q < p), p < k → l[p].1 ≠ (l[q]'(by omega)).1)) (fun i _ => (n - (intOf i).toNat))
  case atStart => exact ⟨0, by omega, rfl, Lib.hid (Below.refl _ _), Lib.hid (fun p q hp hq h => by omega)⟩
  case round =>
    obtain ⟨k, hk1, rfl, HB, HT⟩ := hrel
    by_cases hkn : k < n
    · have da : decide ((k : Int) < (n : Int)) = true := decide_eq_true (by omega)
      have da2 : decide (k < n) = true := decide_eq_true hkn
      have hkl : k < l.length := by rw [HN.out]; exact hkn
      have HKL := Lib.hid hkl
      clear hkl
      go_wp2
      go_loopw [4] (fun i wr => ∃ j : Nat, j ≤ k ∧ i = .int .i64 j ∧ Hid (Below w.heap.size w wr) ∧ Hid (∀ (q : Nat) (hq : q < k), q < j → (l[k]'HKL.out).1 ≠ (l[q]'(by have := HKL.out; omega)).1)) (fun i _ => (k - (intOf i).toNat))
      case atStart => exact ⟨0, by omega, rfl, HB, Lib.hid (fun q hq h => by omega)⟩
      case round =>
        obtain ⟨j, hj1, rfl, HB2, HU⟩ := hrel
        by_cases hjk : j < k
        · have db : decide ((j : Int) < (k : Int)) = true := decide_eq_true (by omega)
          have db2 : decide (j < k) = true := decide_eq_true hjk
          have hkl := HKL.out
          have hjl : j < l.length := by omega
          have hjn : j < n := by omega
          have i1 : (j : Int) < (n : Int) := by omega
          have i2 : (k : Int) < (n : Int) := by omega
          obtain ⟨b1, o1, rfl, hb1, hc1⟩ := (HL.out.below HB2.out) (by intro e; rw [e] at hkl; simp at hkl)
          obtain ⟨p1, p2⟩ := hc1 k hkl
          obtain ⟨q1, q2⟩ := hc1 j hjl
          obtain ⟨x, hx⟩ : ∃ x, l[k].1 = x := ⟨_, rfl⟩
          obtain ⟨y, hy⟩ : ∃ x, l[j].1 = x := ⟨_, rfl⟩
          rw [hx] at p1
          rw [hy] at q1
          have hq : (x.toList == y.toList) = decide (x = y) := by
            have := toList_iff x y
            by_cases e : x = y
            · rw [decide_eq_true e, e]; simp
            · rw [decide_eq_false e]; simpa using fun h => e (this.1 h)
          by_cases hxy : x = y
          · have hq2 : x.toList = y.toList := by rw [hxy]
            rw [decide_eq_true hxy] at hq
            have E := Lib.hid (show twiceB l = true from twice_yes ⟨k, j, hkl, hjk, by rw [hx, hy, hxy]⟩)
            clear hxy hx hy hc1 p2 q2 hkl hjl
            go_wp2_with (go_quiet (fail))
            go_ret
            exact ⟨congrArg (fun x => Ending.returned (.bool x)) E.out.symm, (by have := HB2.out; exact ⟨this.os, this.tape, this.output, this.size, this.block⟩)⟩
          · have hq2 : ¬ x.toList = y.toList := fun e => hxy ((toList_iff x y).1 e)
            rw [decide_eq_false hxy] at hq
            have HU2 := Lib.hid (show ∀ (q : Nat) (hq : q < k), q < j + 1 → (l[k]'HKL.out).1 ≠ (l[q]'(by have := HKL.out; omega)).1 by
              intro q hq hqj
              by_cases e : q = j
              · subst e
                rw [hx, hy]; exact hxy
              · exact HU.out q hq (by omega))
            clear hxy hx hy hc1 p2 q2
            go_wp2_with (go_quiet (fail))
            go_roundw
            case rel => exact ⟨j + 1, by omega, by simp, Lib.hid (by have := HB2.out; exact ⟨this.os, this.tape, this.output, this.size, this.block⟩), HU2⟩
            case measure => simp [intOf]; omega
        · have hjk2 : j = k := by omega
          subst hjk2
          have db : decide ((j : Int) < (j : Int)) = false := decide_eq_false (by omega)
          have db2 : decide (j < j) = false := decide_eq_false (by omega)
          have HT2 := Lib.hid (show ∀ (p q : Nat) (hp : p < l.length) (hq : q < p), p < j + 1 → l[p].1 ≠ (l[q]'(by omega)).1 by
            intro p q hp hq hpk
            by_cases e : p = j
            · subst e
              exact HU.out q hq hq
            · exact HT.out p q hp hq (by omega))
          go_wp2
          go_roundw
          case rel => exact ⟨j + 1, by omega, by simp, HB2, HT2⟩
          case measure => simp [intOf]; omega
    · have da : decide ((k : Int) < (n : Int)) = false := decide_eq_false (by omega)
      have da2 : decide (k < n) = false := decide_eq_false (by omega)
      have E := Lib.hid (show twiceB l = false by
        refine twice_no ?_
        rintro ⟨i, j, hi, hj, e⟩
        exact HT.out i j hi hj (by have := HN.out; omega) e)
      go_wp2
      go_ret
      exact ⟨congrArg (fun x => Ending.returned (.bool x)) E.out.symm, HB.out⟩
end Go.Proofs.YtiolghcjndoigaaGreatDoor
