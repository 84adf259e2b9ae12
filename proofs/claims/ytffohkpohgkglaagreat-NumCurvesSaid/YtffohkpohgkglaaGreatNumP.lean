/-
  WHOLE NUMBERS AS WORDS of 32 bits, the lowest first.
-/
import Derived.Test.YtffohkpohgkglaaGreatNumL
namespace Go.Proofs.YtffohkpohgkglaaGreat.Nm
set_option linter.unusedVariables false
set_option linter.unusedSimpArgs false
/-- the base, kept shut -/
def B : Nat := 4294967296
theorem B_eq : B = 4294967296 := rfl
theorem B_pow : B = 2 ^ 32 := rfl
theorem B_pos : 0 < B := by decide
theorem Bp_pos (i : Nat) : 0 < B ^ i := Nat.pow_pos B_pos
theorem Bp (i : Nat) : B ^ i = 2 ^ (32 * i) := by rw [B_pow, ← Nat.pow_mul]
def val : List Nat → Nat
  | [] => 0
  | d :: ds => d + B * val ds
theorem val_append (xs ys : List Nat) : val (xs ++ ys) = val xs + B ^ xs.length * val ys := by
  induction xs with
  | nil => simp [val]
  | cons d ds ih =>
    simp only [List.cons_append, val, ih, List.length_cons, Nat.pow_succ]
    rw [Nat.mul_add, ← Nat.mul_assoc, Nat.mul_comm B (B ^ ds.length), Nat.add_assoc]
theorem val_lt {ds : List Nat} (h : ∀ c ∈ ds, c < B) : val ds < B ^ ds.length := by
  induction ds with
  | nil => simp [val]
  | cons d ds ih =>
    have h1 := h d (by simp)
    have h2 := ih fun c hc => h c (by simp [hc])
    simp only [val, List.length_cons, Nat.pow_succ]
    have h3 : B * (val ds + 1) ≤ B * B ^ ds.length := Nat.mul_le_mul_left B h2
    rw [Nat.mul_add, Nat.mul_one] at h3
    rw [Nat.mul_comm (B ^ ds.length) B]
    omega
theorem val_get {ds : List Nat} (h : ∀ c ∈ ds, c < B) (i : Nat) (hi : i < ds.length) : ds[i] = val ds / B ^ i % B := by
  induction ds generalizing i with
  | nil => simp at hi
  | cons d ds ih =>
    have h1 := h d (by simp)
    cases i with
    | zero =>
      simp only [List.getElem_cons_zero, val, Nat.pow_zero, Nat.div_one]
      rw [Nat.add_mul_mod_self_left, Nat.mod_eq_of_lt h1]
    | succ i =>
      simp only [List.getElem_cons_succ, val]
      rw [ih (fun c hc => h c (by simp [hc])) i (by simpa using hi), Nat.pow_succ, Nat.mul_comm (B ^ i) B, ← Nat.div_div_eq_div_mul, Nat.add_mul_div_left _ _ B_pos, Nat.div_eq_of_lt h1, Nat.zero_add]
theorem val_take {ds : List Nat} (h : ∀ c ∈ ds, c < B) (k : Nat) (hk : k ≤ ds.length) : val (ds.take k) = val ds % B ^ k := by
  have e := val_append (ds.take k) (ds.drop k)
  rw [List.take_append_drop, List.length_take, Nat.min_eq_left hk] at e
  have hl := val_lt (ds := ds.take k) fun c hc => h c (List.mem_of_mem_take hc)
  rw [List.length_take, Nat.min_eq_left hk] at hl
  rw [e, Nat.add_mul_mod_self_left, Nat.mod_eq_of_lt hl]
/-- the words of a number, none 0 at the end -/
def wds (n : Nat) : List Nat := if h : n = 0 then [] else n % B :: wds (n / B)
termination_by n
decreasing_by exact Nat.div_lt_self (by omega) (by decide)
theorem wds_zero : wds 0 = [] := by rw [wds]; simp
theorem wds_pos {n : Nat} (h : n ≠ 0) : wds n = n % B :: wds (n / B) := by rw [wds]; simp [h]
theorem val_wds (n : Nat) : val (wds n) = n := by
  induction n using Nat.strongRecOn with
  | _ n ih =>
    by_cases h : n = 0
    · subst h; rw [wds_zero]; rfl
    · rw [wds_pos h]
      simp only [val]
      rw [ih (n / B) (Nat.div_lt_self (by omega) (by decide)), Nat.add_comm]
      exact Nat.div_add_mod n B
theorem wds_lt (n : Nat) : ∀ c ∈ wds n, c < B := by
  induction n using Nat.strongRecOn with
  | _ n ih =>
    by_cases h : n = 0
    · subst h; rw [wds_zero]; simp
    · rw [wds_pos h]
      intro c hc
      simp only [List.mem_cons] at hc
      rcases hc with rfl | hc
      · exact Nat.mod_lt _ B_pos
      · exact ih (n / B) (Nat.div_lt_self (by omega) (by decide)) c hc
theorem lt_wds (n : Nat) : n < B ^ (wds n).length := by
  have := val_lt (wds_lt n)
  rwa [val_wds] at this
theorem wds_le {n : Nat} (h : n ≠ 0) : B ^ ((wds n).length - 1) ≤ n := by
  induction n using Nat.strongRecOn with
  | _ n ih =>
    rw [wds_pos h]
    simp only [List.length_cons, Nat.add_sub_cancel]
    by_cases h2 : n / B = 0
    · rw [h2, wds_zero]; simp; omega
    · have := ih (n / B) (Nat.div_lt_self (by omega) (by decide)) h2
      have hl : (wds (n / B)).length = (wds (n / B)).length - 1 + 1 := by
        rw [wds_pos h2]; simp
      rw [hl, Nat.pow_succ]
      exact Nat.le_trans (Nat.mul_le_mul_right B this) (Nat.div_mul_le_self n B)
theorem wds_len {n k : Nat} (h : n < B ^ k) : (wds n).length ≤ k := by
  by_cases h0 : n = 0
  · subst h0; rw [wds_zero]; simp
  · have := wds_le h0
    refine Decidable.by_contra fun hk => ?_
    have := Nat.pow_le_pow_right B_pos (show k ≤ (wds n).length - 1 by omega)
    omega
theorem wds_len2 {n k : Nat} (h : n < 2 ^ (32 * k)) : (wds n).length ≤ k := wds_len (by rw [Bp]; exact h)
theorem wds_nil {n : Nat} : (wds n).length = 0 ↔ n = 0 := by
  constructor
  · intro h
    have := lt_wds n
    rw [h, Nat.pow_zero] at this
    omega
  · rintro rfl; rw [wds_zero]; rfl
theorem wds_get (n i : Nat) (h : i < (wds n).length) : (wds n)[i] = n / B ^ i % B := by
  rw [val_get (wds_lt n) i h, val_wds]
/-- none 0 at the end: the words of the value -/
theorem wds_of {ds : List Nat} (h : ∀ c ∈ ds, c < B) (hl : ∀ h0 : ds ≠ [], ds.getLast h0 ≠ 0) : wds (val ds) = ds := by
  induction ds with
  | nil => simp [val, wds_zero]
  | cons d ds ih =>
    have h1 := h d (by simp)
    have h2 := ih (fun c hc => h c (by simp [hc])) (fun h0 => by have := hl (by simp); rwa [List.getLast_cons h0] at this)
    have hne : val (d :: ds) ≠ 0 := by
      simp only [val]
      by_cases h0 : ds = []
      · subst h0
        have := hl (by simp)
        simp at this
        simp [val]; omega
      · intro e
        have hz : val ds = 0 := by
          have hB := B_pos
          have : B * val ds = 0 := by omega
          rcases Nat.mul_eq_zero.1 this with h | h
          · omega
          · exact h
        rw [hz, wds_zero] at h2
        exact h0 h2.symm
    rw [wds_pos hne]
    simp only [val]
    rw [Nat.add_mul_mod_self_left, Nat.mod_eq_of_lt h1, Nat.add_mul_div_left _ _ B_pos, Nat.div_eq_of_lt h1, Nat.zero_add, h2]
theorem take_drop_zero {ds : List Nat} {k : Nat} (hk : k + 1 ≤ ds.length) (h0 : ds[k]'(by omega) = 0) : val (ds.take (k + 1)) = val (ds.take k) := by
  rw [List.take_succ_eq_append_getElem (by omega), val_append, h0]
  simp [val]
/-- the next word -/
theorem mod_next (x i : Nat) : x % B ^ (i + 1) = x % B ^ i + B ^ i * (x / B ^ i % B) := by
  rw [Nat.pow_succ, Nat.mod_mul]
/-- a word that is not there is 0 -/
theorem word_zero {x i : Nat} (h : (wds x).length ≤ i) : x / B ^ i % B = 0 := by
  have h1 := lt_wds x
  have h2 := Nat.pow_le_pow_right B_pos h
  rw [Nat.div_eq_of_lt (by omega), Nat.zero_mod]
theorem mod_all {x i : Nat} (h : (wds x).length ≤ i) : x % B ^ i = x := by
  have h1 := lt_wds x
  have h2 := Nat.pow_le_pow_right B_pos h
  exact Nat.mod_eq_of_lt (by omega)
theorem wds_mono {x y : Nat} (h : x ≤ y) : (wds x).length ≤ (wds y).length := wds_len (Nat.lt_of_le_of_lt h (lt_wds y))
/-- compared from the top -/
theorem cmp_len {x y : Nat} (h : (wds x).length < (wds y).length) : x < y := by
  refine Decidable.by_contra fun hn => ?_
  have := wds_mono (show y ≤ x by omega)
  omega
/-- one word more of a sum -/
theorem plus_step (x y i V c : Nat) (h : V + B ^ i * c = x % B ^ i + y % B ^ i) :
    V + B ^ i * ((c + x / B ^ i % B + y / B ^ i % B) % B) + B ^ (i + 1) * ((c + x / B ^ i % B + y / B ^ i % B) / B) = x % B ^ (i + 1) + y % B ^ (i + 1) := by
  rw [mod_next x, mod_next y, Nat.pow_succ, Nat.mul_assoc]
  generalize x / B ^ i % B = p at *
  generalize y / B ^ i % B = q at *
  have e := Nat.div_add_mod (c + p + q) B
  have e2 : B ^ i * (c + p + q) = B ^ i * (B * ((c + p + q) / B)) + B ^ i * ((c + p + q) % B) := by rw [← Nat.mul_add, e]
  rw [Nat.mul_add, Nat.mul_add] at e2
  generalize B ^ i * ((c + p + q) % B) = s at *
  generalize B ^ i * (B * ((c + p + q) / B)) = t at *
  omega
/-- of a difference: b: what was borrowed -/
theorem minus_step (x y i V b : Nat) (h : V + y % B ^ i = x % B ^ i + B ^ i * b) :
    V + B ^ i * ((if x / B ^ i % B < b + y / B ^ i % B then x / B ^ i % B + B else x / B ^ i % B) - (b + y / B ^ i % B)) + y % B ^ (i + 1) = x % B ^ (i + 1) + B ^ (i + 1) * (if x / B ^ i % B < b + y / B ^ i % B then 1 else 0) ∨ B < b + y / B ^ i % B := by
  rw [mod_next x, mod_next y, Nat.pow_succ, Nat.mul_assoc]
  generalize x / B ^ i % B = p at *
  generalize y / B ^ i % B = q at *
  by_cases hb : B < b + q
  · exact .inr hb
  left
  generalize hP : B ^ i = P at *
  by_cases hl : p < b + q
  · rw [if_pos hl, if_pos hl, Nat.mul_one]
    obtain ⟨d, hd⟩ : ∃ d, p + B - (b + q) = d := ⟨_, rfl⟩
    rw [hd]
    have e : P * p + P * B = P * d + (P * b + P * q) := by
      rw [← Nat.mul_add, ← Nat.mul_add, ← Nat.mul_add]; congr 1; omega
    generalize P * d = pd at *
    generalize P * p = pp at *
    generalize P * q = pq at *
    generalize P * b = pb at *
    generalize P * B = pB at *
    omega
  · rw [if_neg hl, if_neg hl, Nat.mul_zero, Nat.mul_zero]
    obtain ⟨d, hd⟩ : ∃ d, p - (b + q) = d := ⟨_, rfl⟩
    rw [hd]
    have e : P * p = P * d + (P * b + P * q) := by
      rw [← Nat.mul_add, ← Nat.mul_add]; congr 1; omega
    generalize P * d = pd at *
    generalize P * p = pp at *
    generalize P * q = pq at *
    generalize P * b = pb at *
    omega
end Go.Proofs.YtffohkpohgkglaaGreat.Nm
