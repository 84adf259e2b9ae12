/-
  THE PLAIN MATHEMATICS OF NUMBERS IN GROUPS OF SEVEN BITS: there and back, one form, never more groups for the smaller.
-/
import Derived.Test.YtimmlnfoabbbjaaMath
namespace Go.Proofs.Ytimmlnfoabbbjaa.Bt
/-- a number's groups, the lowest first; f is at least the number -/
def vgf : Nat → Nat → List Nat
  | 0, v => [v]
  | f + 1, v => if v < 128 then [v] else (v % 128 + 128) :: vgf f (v / 128)
theorem vgf_any (f g v : Nat) (hf : v ≤ f) (hg : v ≤ g) : vgf f v = vgf g v := by
  induction f generalizing g v with
  | zero =>
    obtain rfl : v = 0 := by omega
    cases g <;> rfl
  | succ f ih =>
    cases g with
    | zero =>
      obtain rfl : v = 0 := by omega
      rfl
    | succ g =>
      unfold vgf
      by_cases h : v < 128
      · rw [if_pos h, if_pos h]
      · rw [if_neg h, if_neg h, ih g (v / 128) (by omega) (by omega)]
/-- a number's groups, the lowest first -/
def vg (v : Nat) : List Nat := vgf v v
theorem vg_small {v : Nat} (h : v < 128) : vg v = [v] := by
  unfold vg
  cases v with
  | zero => rfl
  | succ v => rw [vgf, if_pos h]
theorem vg_big {v : Nat} (h : 128 ≤ v) : vg v = (v % 128 + 128) :: vg (v / 128) := by
  unfold vg
  cases v with
  | zero => omega
  | succ v => rw [vgf, if_neg (by omega), vgf_any v ((v + 1) / 128) _ (by omega) (Nat.le_refl _)]
def vb (v : Nat) : List Bool := unpack (vg v)
theorem vb_small {v : Nat} (h : v < 128) : vb v = top v 8 := by rw [vb, vg_small h, unpack_one]
theorem vb_big {v : Nat} (h : 128 ≤ v) : vb v = top (v % 128 + 128) 8 ++ vb (v / 128) := by rw [vb, vg_big h, unpack_cons]; rfl
theorem vg_lt (v : Nat) : ∀ c ∈ vg v, c < 256 := by
  induction v using Nat.strongRecOn with
  | _ v ih =>
    by_cases h : v < 128
    · rw [vg_small h]; intro c hc; simp at hc; omega
    · rw [vg_big (by omega)]
      intro c hc
      rcases List.mem_cons.1 hc with rfl | hc
      · omega
      · exact ih (v / 128) (by omega) c hc
theorem vg_pos (v : Nat) : 1 ≤ (vg v).length := by
  by_cases h : v < 128
  · rw [vg_small h]; simp
  · rw [vg_big (by omega)]; simp
theorem vg_le (v k : Nat) (h : v < 128 ^ (k + 1)) : (vg v).length ≤ k + 1 := by
  induction k generalizing v with
  | zero => rw [vg_small (by simpa using h)]; simp
  | succ k ih =>
    by_cases hs : v < 128
    · rw [vg_small hs]; simp
    · rw [vg_big (by omega), List.length_cons]
      have := ih (v / 128) (by rw [Nat.div_lt_iff_lt_mul (by decide)]; rw [Nat.pow_succ] at h; exact h)
      omega
theorem vg_ten (v : Nat) (h : v < 18446744073709551616) : (vg v).length ≤ 10 :=
  vg_le v 9 (Nat.lt_of_lt_of_le h (by decide))
theorem vg_mono (a b : Nat) (h : a ≤ b) : (vg a).length ≤ (vg b).length := by
  induction b using Nat.strongRecOn generalizing a with
  | _ b ih =>
    by_cases ha : a < 128
    · rw [vg_small ha]; exact vg_pos b
    · rw [vg_big (by omega), vg_big (v := b) (by omega), List.length_cons, List.length_cons]
      have := ih (b / 128) (by omega) (a / 128) (by omega)
      omega
theorem vb_length (v : Nat) : (vb v).length = 8 * (vg v).length := unpack_length _
/-- a number that may be below nought, as one that is not -/
def zz (v : Int) : Nat := if 0 ≤ v then (2 * v).toNat else (-2 * v - 1).toNat
def uz (t : Nat) : Int := if t % 2 = 1 then -((t / 2 : Nat) : Int) - 1 else ((t / 2 : Nat) : Int)
theorem uz_zz (v : Int) : uz (zz v) = v := by
  unfold uz zz
  by_cases h : 0 ≤ v
  · rw [if_pos h, if_neg (by omega)]; omega
  · rw [if_neg h, if_pos (by omega)]; omega
theorem zz_lt (v : Int) (h1 : -9223372036854775808 ≤ v) (h2 : v ≤ 9223372036854775807) : zz v < 18446744073709551616 := by
  unfold zz; split <;> omega
theorem uz_bd (t : Nat) (h : t < 18446744073709551616) : -9223372036854775808 ≤ uz t ∧ uz t ≤ 9223372036854775807 := by
  unfold uz; split <;> omega
/-- reading: the number, the error, how many bits were taken -/
def rvf : Nat → Nat → Nat → List Bool → Nat × Nat × Nat
  | 0, _, _, _ => (0, 21, 0)
  | f + 1, i, v, S =>
    if S.length < 8 then (0, 20, 0)
    else if i = 9 ∧ 1 < val (S.take 8) then (0, 21, 0)
    else if 128 ≤ val (S.take 8) then rvf f (i + 1) (v + val (S.take 8) % 128 * 2 ^ (7 * i)) (S.drop 8)
    else if val (S.take 8) = 0 ∧ 0 < i then (0, 21, 0)
    else (v + val (S.take 8) % 128 * 2 ^ (7 * i), 0, 8 * (i + 1))
def rv (S : List Bool) : Nat × Nat × Nat := rvf 10 0 0 S
theorem rvf_err (f i v : Nat) (S : List Bool) : (rvf f i v S).2.1 = 0 ∨ ((rvf f i v S).1 = 0 ∧ (rvf f i v S).2.2 = 0 ∧ ((rvf f i v S).2.1 = 20 ∨ (rvf f i v S).2.1 = 21)) := by
  induction f generalizing i v S with
  | zero => exact .inr ⟨rfl, rfl, .inr rfl⟩
  | succ f ih =>
    unfold rvf
    split
    · exact .inr ⟨rfl, rfl, .inl rfl⟩
    · split
      · exact .inr ⟨rfl, rfl, .inr rfl⟩
      · split
        · exact ih _ _ _
        · split
          · exact .inr ⟨rfl, rfl, .inr rfl⟩
          · exact .inl rfl
theorem val_head8 (c : Nat) (R : List Bool) (h : c < 256) : val ((top c 8 ++ R).take 8) = c := by
  rw [List.take_append_of_le_length (by rw [top_length]; omega), List.take_of_length_le (by rw [top_length]; omega), val_top]
  omega
theorem drop_head8 (c : Nat) (R : List Bool) : (top c 8 ++ R).drop 8 = R := by
  rw [List.drop_append_of_le_length (by rw [top_length]; omega), List.drop_of_length_le (by rw [top_length]; omega), List.nil_append]
theorem rvf_back (f i acc v : Nat) (R : List Bool) (hf : f + i = 10) (h0 : 0 < f) (hv : v < 2 ^ (64 - 7 * i)) (hi : i = 0 ∨ 0 < v) :
    rvf f i acc (vb v ++ R) = (acc + v * 2 ^ (7 * i), 0, 8 * (i + (vg v).length)) := by
  induction f generalizing i acc v with
  | zero => omega
  | succ f ih =>
    by_cases hs : v < 128
    · rw [vb_small hs, vg_small hs]
      unfold rvf
      rw [val_head8 v R (by omega), if_neg (by simp [top_length]), if_neg, if_neg (by omega), if_neg (by omega), Nat.mod_eq_of_lt hs]
      · rfl
      · rintro ⟨rfl, h⟩; simp at hv; omega
    · have hi9 : i < 9 := by
        refine Nat.lt_of_not_le fun h => ?_
        have : i = 9 := by omega
        subst this; simp at hv; omega
      rw [vb_big (by omega), vg_big (by omega), List.append_assoc]
      unfold rvf
      rw [val_head8 _ _ (by omega), drop_head8, if_neg (by simp [top_length]), if_neg (by omega), if_pos (by omega)]
      have e1 : (v % 128 + 128) % 128 = v % 128 := by omega
      have hp : 2 ^ (64 - 7 * i) = 2 ^ (64 - 7 * (i + 1)) * 128 := by
        rw [show 64 - 7 * i = (64 - 7 * (i + 1)) + 7 by omega, Nat.pow_add]
      rw [ih (i + 1) _ (v / 128) (by omega) (by omega) (by rw [Nat.div_lt_iff_lt_mul (by decide), ← hp]; exact hv) (.inr (by omega)), e1]
      simp only [Prod.mk.injEq, List.length_cons, true_and]
      refine ⟨?_, by omega⟩
      have hp2 : 2 ^ (7 * (i + 1)) = 128 * 2 ^ (7 * i) := by rw [show 7 * (i + 1) = 7 + 7 * i by omega, Nat.pow_add]
      rw [hp2, Nat.add_assoc, ← Nat.mul_assoc, ← Nat.add_mul]
      congr 2; omega
theorem rv_back (v : Nat) (R : List Bool) (h : v < 18446744073709551616) : rv (vb v ++ R) = (v, 0, (vb v).length) := by
  rw [rv, rvf_back 10 0 0 v R rfl (by decide) h (.inl rfl), vb_length]
  simp
theorem top8_val (S : List Bool) (h : 8 ≤ S.length) : top (val (S.take 8)) 8 = S.take 8 := by
  have := top_val (S.take 8)
  rwa [List.length_take, Nat.min_eq_left h] at this
theorem rvf_one (f i acc : Nat) (S : List Bool) (hf : f + i = 10) (h : (rvf f i acc S).2.1 = 0) :
    ∃ u, (rvf f i acc S).1 = acc + u * 2 ^ (7 * i) ∧ (rvf f i acc S).2.2 = 8 * (i + (vg u).length) ∧ 8 * (vg u).length ≤ S.length ∧ S.take (8 * (vg u).length) = vb u ∧ u < 2 ^ (64 - 7 * i) ∧ (i = 0 ∨ 0 < u) := by
  induction f generalizing i acc S with
  | zero => simp [rvf] at h
  | succ f ih =>
    have hl := val_lt (S.take 8)
    unfold rvf at h ⊢
    by_cases h1 : S.length < 8
    · simp [h1] at h
    · rw [if_neg h1] at h ⊢
      rw [List.length_take, Nat.min_eq_left (by omega)] at hl
      by_cases h2 : i = 9 ∧ 1 < val (S.take 8)
      · simp [h2] at h
      · rw [if_neg h2] at h ⊢
        have ht := top8_val S (by omega)
        by_cases h3 : 128 ≤ val (S.take 8)
        · rw [if_pos h3] at h ⊢
          have hi9 : i < 9 := by omega
          obtain ⟨u, e1, e2, e3, e4, e5, e6⟩ := ih (i + 1) _ (S.drop 8) (by omega) h
          have hu : 0 < u := by omega
          generalize hg : val (S.take 8) = g at *
          refine ⟨g % 128 + 128 * u, ?_, ?_, ?_, ?_, ?_, .inr (by omega)⟩
          · rw [e1, show 7 * (i + 1) = 7 + 7 * i by omega, Nat.pow_add, Nat.add_mul, Nat.add_assoc]
            congr 2
            rw [Nat.mul_comm 128 u, Nat.mul_assoc]
          · rw [e2, vg_big (v := g % 128 + 128 * u) (by omega), List.length_cons, show (g % 128 + 128 * u) / 128 = u by omega]; omega
          · rw [vg_big (by omega), List.length_cons, show (g % 128 + 128 * u) / 128 = u by omega]
            rw [List.length_drop] at e3; omega
          · rw [vb_big (by omega), vg_big (by omega), List.length_cons, show (g % 128 + 128 * u) / 128 = u by omega, show (g % 128 + 128 * u) % 128 + 128 = g by omega, ht, ← e4]
            rw [show 8 * ((vg u).length + 1) = 8 + 8 * (vg u).length by omega, List.take_add]
          · have hp : 2 ^ (64 - 7 * i) = 2 ^ (64 - 7 * (i + 1)) * 128 := by
              rw [show 64 - 7 * i = (64 - 7 * (i + 1)) + 7 by omega, Nat.pow_add]
            omega
        · rw [if_neg h3] at h ⊢
          by_cases h4 : val (S.take 8) = 0 ∧ 0 < i
          · simp [h4] at h
          · rw [if_neg h4] at h ⊢
            generalize hg : val (S.take 8) = g at *
            have hgl : g < 128 := by omega
            refine ⟨g, by rw [Nat.mod_eq_of_lt hgl], by rw [vg_small hgl]; rfl, by rw [vg_small hgl]; simp; omega, by rw [vb_small hgl, vg_small hgl, ht]; rfl, ?_, by omega⟩
            by_cases h9 : i = 9
            · subst h9; simp; omega
            · have : 2 ^ 8 ≤ 2 ^ (64 - 7 * i) := Nat.pow_le_pow_right (by decide) (by omega)
              omega
theorem rv_one (S : List Bool) (h : (rv S).2.1 = 0) : (rv S).1 < 18446744073709551616 ∧ (rv S).2.2 = 8 * (vg (rv S).1).length ∧ 8 * (vg (rv S).1).length ≤ S.length ∧ S.take (8 * (vg (rv S).1).length) = vb (rv S).1 := by
  obtain ⟨u, e1, e2, e3, e4, e5, _⟩ := rvf_one 10 0 0 S rfl h
  have e : (rv S).1 = u := by rw [rv, e1]; simp
  rw [e]
  exact ⟨by simpa using e5, by rw [rv, e2]; simp, e3, e4⟩
theorem rv_err (S : List Bool) : (rv S).2.1 = 0 ∨ ((rv S).1 = 0 ∧ (rv S).2.2 = 0 ∧ ((rv S).2.1 = 20 ∨ (rv S).2.1 = 21)) := rvf_err _ _ _ _
theorem rv_lt (S : List Bool) : (rv S).1 < 18446744073709551616 := by
  rcases rv_err S with h | h
  · exact (rv_one S h).1
  · rw [h.1]; decide
theorem rv_take (S : List Bool) : (rv S).2.2 ≤ S.length := by
  rcases rv_err S with h | h
  · have := rv_one S h; omega
  · rw [h.2.1]; exact Nat.zero_le _
end Go.Proofs.Ytimmlnfoabbbjaa.Bt
