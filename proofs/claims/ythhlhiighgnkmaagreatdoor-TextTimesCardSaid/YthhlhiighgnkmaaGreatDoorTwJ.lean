/-
  MATHEMATICS: what the law asks of a duration and of a time, all cases at once.
-/
import Derived.Test.YthhlhiighgnkmaaGreatDoorTwD
import Derived.Test.YthhlhiighgnkmaaGreatDoorTwF
import Derived.Test.YthhlhiighgnkmaaGreatDoorTwG
import Derived.Test.YthhlhiighgnkmaaGreatDoorTwI
namespace Go.Proofs.YthhlhiighgnkmaaGreatDoor
set_option linter.unusedVariables false
set_option linter.unusedSimpArgs false
theorem durW_isB : ∀ (f r : Nat), IsB (durW f r) := by
  intro f
  induction f with
  | zero => intro r c hc; simp [durW] at hc
  | succ f ih =>
    intro r c hc
    rw [durW] at hc
    rcases List.mem_append.1 hc with h | h
    · by_cases hq : r / unitMs (7 - f) = 0
      · rw [if_pos hq] at h; simp at h
      · rw [if_neg hq] at h
        rcases List.mem_append.1 h with h | h
        · exact decN_isB _ c h
        · exact unl_isB _ c h
    · exact ih _ c h
theorem durW_len (k : Nat) : ∀ (f r : Nat), r < 10 ^ (k + 1) → (durW f r).length ≤ (k + 3) * f := by
  intro f
  induction f with
  | zero => intro r _; simp [durW]
  | succ f ih =>
    intro r hr
    rw [durW, List.length_append, Nat.mul_succ]
    have h1 := ih (r % unitMs (7 - f)) (Nat.lt_of_le_of_lt (Nat.mod_le _ _) hr)
    have h2 := decN_len k (r / unitMs (7 - f)) (Nat.lt_of_le_of_lt (Nat.div_le_self _ _) hr)
    have h3 := unl_len (6 - f)
    split <;> simp <;> omega
theorem durW_100 (r : Nat) (h : r ≤ 9007199254740992) : (durW 5 r).length ≤ 100 := by
  rw [durW, List.length_append]
  have h1 := durW_len 7 4 (r % unitMs (7 - 4)) (Nat.lt_of_lt_of_le (Nat.mod_lt _ (by decide)) (by decide))
  have h2 := decN_len19 (r / unitMs (7 - 4)) (Nat.lt_of_le_of_lt (Nat.div_le_self _ _) (by omega))
  have h3 := unl_len (6 - 4)
  rw [show (7 : Nat) - 4 = 3 from rfl] at *
  rw [show (6 : Nat) - 4 = 2 from rfl] at *
  split
  · rw [List.length_nil]; omega
  · rw [List.length_append]; omega
theorem durZero : DurRun [48, 115] 0 0 0 (some 0) := by
  refine DurRun.fin 0 0 0 6 0 ⟨?_, ?_, ?_, ?_, ?_, ?_⟩ <;> decide
theorem secT_isB (neg : Bool) (a : Nat) : IsB (secT neg a) := by
  intro c hc
  unfold secT at hc
  rcases List.mem_append.1 hc with h | h
  · rcases List.mem_append.1 h with h | h
    · cases neg <;> simp at h; omega
    · exact decN_isB _ c h
  · by_cases h0 : a % 1000 = 0
    · rw [if_pos h0] at h; simp at h
    · rw [if_neg h0] at h
      rcases List.mem_cons.1 h with h | h
      · omega
      · have := dig_lt ((fracT_ok (a % 1000) (by omega) (Nat.mod_lt _ (by decide))).1 c h); omega
theorem isB_nil : IsB [] := fun c hc => by simp at hc
theorem dur_case (v : Int) : ∃ (bs : List Nat) (E : Nat) (r : Option Nat), IsB bs ∧ E ≤ 41 ∧ bs.length ≤ 100 ∧
    (∀ w, PowT w → Calls Tryz.prog 18 #[.int .i64 v] w (Gives w (.tuple #[.string (strOf bs), .int .u16 (E : Int)]))) ∧
    (∀ w, Calls Tryz.prog 20 #[.int .i64 v] w (Gives w (.tuple #[.string (strOf bs), .int .i64 (E : Int)]))) ∧
    DurRun bs 0 0 0 r ∧ (E = 0 → natI r = some v) := by
  by_cases h1 : v < 0
  · obtain ⟨r, hr⟩ := dur_all [] 0 0 0 0 (Nat.zero_le _) (Nat.le_refl _)
    exact ⟨[], 41, r, isB_nil, by omega, by simp, fun w _ => duration_low v h1 w, fun w => rduration_low v h1 w, hr, by omega⟩
  by_cases h2 : 9007199254740992 < v
  · obtain ⟨r, hr⟩ := dur_all [] 0 0 0 0 (Nat.zero_le _) (Nat.le_refl _)
    exact ⟨[], 41, r, isB_nil, by omega, by simp, fun w _ => duration_high v h2 w, fun w => rduration_high v h2 w, hr, by omega⟩
  obtain ⟨n, rfl⟩ : ∃ n : Nat, v = (n : Int) := ⟨v.toNat, by omega⟩
  by_cases h3 : n = 0
  · subst h3
    exact ⟨[48, 115], 0, some 0, fun c hc => by simp at hc; omega, by omega, by simp, fun w _ => duration_zero w, fun w => rduration_zero w, durZero, fun _ => rfl⟩
  · have hb := durW_back n (by omega) (by omega)
    exact ⟨durW 5 n, 0, some n, durW_isB 5 n, by omega, durW_100 n (by omega), fun w ht => duration_write n (by omega) (by omega) w ht, fun w => rduration_write n (by omega) (by omega) w, hb.2, fun _ => rfl⟩
theorem time_case (v : Int) : ∃ (bs : List Nat) (E : Nat), IsB bs ∧ E ≤ 41 ∧ bs.length ≤ 100 ∧
    (∀ w, PowT w → Calls Tryz.prog 19 #[.int .i64 v] w (Gives w (.tuple #[.string (strOf bs), .int .u16 (E : Int)]))) ∧
    (∀ w, Calls Tryz.prog 21 #[.int .i64 v] w (Gives w (.tuple #[.string (strOf bs), .int .i64 (E : Int)]))) ∧
    (E = 0 → timeR bs = some v) := by
  by_cases h1 : v < (-9007199254740992)
  · exact ⟨[], 41, isB_nil, by omega, by simp, fun w _ => time_low v h1 w, fun w => rtimew_low v h1 w, by omega⟩
  by_cases h2 : 9007199254740992 < v
  · exact ⟨[], 41, isB_nil, by omega, by simp, fun w _ => time_high v h2 w, fun w => rtimew_high v h2 w, by omega⟩
  by_cases h3 : v < 0
  · obtain ⟨n, rfl⟩ : ∃ n : Nat, v = -(n : Int) := ⟨(-v).toNat, by omega⟩
    exact ⟨secT true n, 0, secT_isB _ _, by omega, Nat.le_trans (secT_len true n (by omega)) (by omega), fun w ht => time_neg n (by omega) (by omega) w ht, fun w => rtimew_neg n (by omega) (by omega) w, fun _ => secT_back true n (by omega)⟩
  · obtain ⟨n, rfl⟩ : ∃ n : Nat, v = (n : Int) := ⟨v.toNat, by omega⟩
    exact ⟨secT false n, 0, secT_isB _ _, by omega, Nat.le_trans (secT_len false n (by omega)) (by omega), fun w ht => time_pos n (by omega) w ht, fun w => rtimew_pos n (by omega) w, fun _ => secT_back false n (by omega)⟩
end Go.Proofs.YthhlhiighgnkmaaGreatDoor
