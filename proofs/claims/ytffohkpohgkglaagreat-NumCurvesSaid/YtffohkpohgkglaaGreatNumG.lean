/-
  THE LAWS of sums, signs and roots.
-/
import Derived.Test.YtffohkpohgkglaaGreatNumF
namespace Go.Proofs.YtffohkpohgkglaaGreat.Nm
open Ieee
def dNeg (x : Nat) : Nat := if isNaN x then nan else if neg x then x - 2 ^ 63 else x + 2 ^ 63
def dAbs (x : Nat) : Nat := if isNaN x then nan else x % 2 ^ 63
def dSub (a b : Nat) : Nat := dAdd a (dNeg b)
theorem word_lt (s : Bool) {r : Nat} (h : r ≤ inf) : word s r < 2 ^ 64 := by
  have : r < 2 ^ 63 := Nat.lt_of_le_of_lt h (by decide)
  unfold word; split <;> omega
theorem word_neg (s : Bool) {r : Nat} (h : r ≤ inf) : neg (word s r) = s := by
  have : r < 2 ^ 63 := Nat.lt_of_le_of_lt h (by decide)
  cases s
  · unfold neg word; simp; omega
  · unfold neg word; simp
theorem word_mod (s : Bool) {r : Nat} (h : r ≤ inf) : word s r % 2 ^ 63 = r := by
  have : r < 2 ^ 63 := Nat.lt_of_le_of_lt h (by decide)
  unfold word; cases s <;> simp <;> omega
theorem word_nan (s : Bool) {r : Nat} (h : r ≤ inf) : isNaN (word s r) = false := by
  unfold isNaN
  rw [word_mod s h]; simp; exact h
theorem refRung_le (n : Nat) (e : Int) (more : Bool) (h : n ≠ 0) : refRung n e more ≤ inf := by
  rw [refRung_kept n e more h]; exact Nat.min_le_right _ _
theorem round_le (n : Nat) (e : Int) (more : Bool) : (if n = 0 then 0 else refRung n e more) ≤ inf := by
  split
  · exact Nat.zero_le _
  · exact refRung_le _ _ _ (by assumption)
theorem round_nan (s : Bool) (n : Nat) (e : Int) (more : Bool) : isNaN (round s n e more) = false := word_nan s (round_le n e more)
theorem round_lt (s : Bool) (n : Nat) (e : Int) (more : Bool) : round s n e more < 2 ^ 64 := word_lt s (round_le n e more)
theorem nan_lt : nan < 2 ^ 64 := by decide
theorem nan_nan : isNaN nan = true := by decide
theorem word_self {x : Nat} (h : x < 2 ^ 64) : word (neg x) (x % 2 ^ 63) = x := by
  unfold word neg
  by_cases h1 : 2 ^ 63 ≤ x
  · simp only [h1, decide_true, if_true]; omega
  · simp only [h1, decide_false, Bool.false_eq_true, if_false]; omega
theorem neg_facts {x : Nat} (h : x < 2 ^ 64) (hn : isNaN x = false) : dNeg x < 2 ^ 64 ∧ neg (dNeg x) = !neg x ∧ dNeg x % 2 ^ 63 = x % 2 ^ 63 := by
  unfold dNeg
  rw [hn]
  unfold neg
  by_cases h1 : 2 ^ 63 ≤ x
  · simp only [h1, decide_true, Bool.false_eq_true, if_false, if_true]
    refine ⟨by omega, ?_, by omega⟩
    simp; omega
  · simp only [h1, decide_false, Bool.false_eq_true, if_false]
    refine ⟨by omega, ?_, by omega⟩
    simp
theorem isNaN_mod {x y : Nat} (h : x % 2 ^ 63 = y % 2 ^ 63) : isNaN x = isNaN y := by unfold isNaN; rw [h]
theorem isInf_mod {x y : Nat} (h : x % 2 ^ 63 = y % 2 ^ 63) : isInf x = isInf y := by unfold isInf; rw [h]
theorem mag_mod {x y : Nat} (h : x % 2 ^ 63 = y % 2 ^ 63) : mag x = mag y ∧ plc x = plc y := by
  have e1 : x / 2 ^ 52 % 2048 = y / 2 ^ 52 % 2048 := by omega
  have e2 : x % 2 ^ 52 = y % 2 ^ 52 := by omega
  unfold mag plc
  rw [e1, e2]; exact ⟨rfl, rfl⟩
theorem key_neg {x : Nat} (h : x < 2 ^ 64) (hn : isNaN x = false) : key (dNeg x) = -key x := by
  obtain ⟨_, h2, h3⟩ := neg_facts h hn
  unfold key sg
  rw [h2, h3]
  cases neg x <;> simp
theorem dNeg_neg {x : Nat} (h : x < 2 ^ 64) (hn : isNaN x = false) : dNeg (dNeg x) = x := by
  obtain ⟨h1, h2, h3⟩ := neg_facts h hn
  have hn2 : isNaN (dNeg x) = false := by rw [isNaN_mod h3, hn]
  obtain ⟨k1, k2, k3⟩ := neg_facts h1 hn2
  have e := word_self k1
  rw [k2, k3, h2, h3, Bool.not_not, word_self h] at e
  exact e.symm
theorem dAdd_comm (a b : Nat) (ha : a < 2 ^ 64) (hb : b < 2 ^ 64) : dAdd a b = dAdd b a := by
  unfold dAdd
  cases na : isNaN a <;> cases nb' : isNaN b <;> simp only [Bool.true_or, Bool.or_true, Bool.or_self, Bool.false_or, if_true]
  cases ia : isInf a <;> cases ib : isInf b <;> simp only [Bool.false_and, Bool.true_and, Bool.false_eq_true, if_false, if_true]
  · rw [Int.min_comm (plc b) (plc a)]
    generalize min (plc a) (plc b) = e
    generalize up (mag a) (plc a - e) = x
    generalize up (mag b) (plc b - e) = y
    by_cases hs : neg a = neg b
    · rw [if_pos hs, if_pos hs.symm, Nat.add_comm, hs]
    · rw [if_neg hs, if_neg (show ¬ neg b = neg a from fun h => hs h.symm)]
      by_cases hxy : x = y
      · rw [if_pos hxy, if_pos hxy.symm]
      · rw [if_neg hxy, if_neg (show ¬ y = x from fun h => hxy h.symm)]
        by_cases h3 : y < x
        · rw [if_pos h3, if_neg (by omega)]
        · rw [if_neg h3, if_pos (by omega)]
  · have h1 := inf_same ha hb ia ib
    have h2 := inf_same hb ha ib ia
    by_cases hn : neg a = neg b
    · have e : a = b := by rw [← inf_word ha ia, ← inf_word hb ib, hn]
      rw [e]
    · have e1 : (a != b) = true := by rw [h1]; simp [hn]
      have e2 : (b != a) = true := by rw [h2]; simp; exact fun h => hn h.symm
      rw [e1, e2]; rfl
theorem key_bd {x : Nat} (hn : isNaN x = false) : -(inf : Int) ≤ key x ∧ key x ≤ inf := by
  unfold isNaN at hn
  simp at hn
  unfold key sg
  split <;> omega
theorem key_inf {x : Nat} (hi : isInf x = true) : key x = if neg x then -(inf : Int) else inf := by
  unfold isInf at hi
  simp at hi
  unfold key sg
  rw [hi]
theorem dAdd_nan {a b : Nat} (na : isNaN a = false) (nb' : isNaN b = false) (h : (isInf a && isInf b && a != b) = false) : isNaN (dAdd a b) = false := by
  unfold dAdd
  rw [na, nb', h]
  simp only [Bool.or_self, Bool.false_eq_true, if_false]
  split
  · exact na
  · split
    · exact nb'
    · split
      · exact round_nan _ _ _ _
      · split
        · decide
        · split
          · exact round_nan _ _ _ _
          · exact round_nan _ _ _ _
/-- sums rise with what is added to -/
theorem add_mono {a b c : Nat} (na : isNaN a = false) (nb' : isNaN b = false) (nc : isNaN c = false) (h : key a ≤ key b) (r1 : isNaN (dAdd a c) = false) (r2 : isNaN (dAdd b c) = false) : key (dAdd a c) ≤ key (dAdd b c) := by
  have inl : ∀ x : Nat, isNaN x = false → isInf x = true → isNaN (dAdd x c) = false → dAdd x c = x := fun x nx ix r => by
    unfold dAdd at r ⊢
    rw [nx, nc, ix] at r ⊢
    simp only [Bool.or_self, Bool.false_or, Bool.true_and, if_true] at r ⊢
    split
    · rename_i h; rw [if_pos h, nan_nan] at r; cases r
    · rfl
  cases ia : isInf a
  · cases ib : isInf b
    · cases ic : isInf c
      · rw [dAdd_key a c na nc ia ic, dAdd_key b c nb' nc ib ic]
        have := vz_le_of_key h
        exact keyZ_mono (by omega)
      · have e : ∀ x : Nat, isNaN x = false → isInf x = false → dAdd x c = c := fun x nx ix => by
          unfold dAdd
          rw [nx, nc, ix, ic]; rfl
        rw [e a na ia, e b nb' ib]; exact Int.le_refl _
    · rw [inl b nb' ib r2, key_inf ib]
      by_cases hn : neg b = true
      · have hk := key_inf ib
        rw [if_pos hn] at hk
        have h1 := fin_lt na ia
        exfalso
        unfold key sg at h hk
        rw [hk] at h
        split at h <;> omega
      · rw [if_neg hn]; exact (key_bd r1).2
  · have hd := inl a na ia r1
    rw [hd]
    have hk := key_inf ia
    by_cases hn : neg a = true
    · rw [hk, if_pos hn]; exact (key_bd r2).1
    · rw [if_neg hn] at hk
      have h3 := (key_bd nb').2
      have h4 : key b = inf := by omega
      have ib : isInf b = true := by
        unfold isNaN at nb'
        simp at nb'
        unfold key sg at h4
        unfold isInf
        simp
        have : (0 : Int) < inf := by decide
        split at h4 <;> omega
      rw [inl b nb' ib r2]; exact h
end Go.Proofs.YtffohkpohgkglaaGreat.Nm
