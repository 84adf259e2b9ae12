/-
  MATHEMATICS: a duration that is written is read again.
-/
import Derived.Test.YthhlhiighgnkmaaGreatDoorTwE
namespace Go.Proofs.YthhlhiighgnkmaaGreatDoor
set_option linter.unusedVariables false
set_option linter.unusedSimpArgs false
theorem decV_append (acc : Nat) (a b : List Nat) : decV acc (a ++ b) = decV (decV acc a) b := by unfold decV; rw [List.foldl_append]
theorem decV_decN : ∀ (n u : Nat), u ≤ n → decV 0 (decN u) = u := by
  intro n
  induction n with
  | zero =>
    intro u h
    rw [decN_small (by omega), decV_cons, decV_nil]; omega
  | succ n ih =>
    intro u h
    by_cases hu : u < 10
    · rw [decN_small hu, decV_cons, decV_nil]; omega
    · rw [decN_big hu, decV_append, ih (u / 10) (by omega), decV_cons, decV_nil]; omega
theorem decN_ne (u : Nat) : decN u ≠ [] := by
  by_cases hu : u < 10
  · rw [decN_small hu]; simp
  · rw [decN_big hu]; simp
theorem takeWhile_app (f : Nat → Bool) (a b : List Nat) (ha : ∀ c ∈ a, f c = true) (hb : ∀ c, b[0]? = some c → f c = false) : (a ++ b).takeWhile f = a := by
  induction a with
  | nil =>
    cases b with
    | nil => rfl
    | cons c b => rw [List.nil_append, List.takeWhile_cons_of_neg (by rw [hb c rfl]; simp)]
  | cons x a ih =>
    rw [List.cons_append, List.takeWhile_cons_of_pos (ha x (List.mem_cons_self ..)), ih (fun c hc => ha c (List.mem_cons_of_mem _ hc))]
theorem unl_nots (i : Nat) : unl i ≠ [] ∧ ∀ c ∈ unl i, (!dig c) = true := by
  match i with
  | 0 => decide
  | 1 => decide
  | 2 => decide
  | 3 => decide
  | 4 => decide
  | 5 => decide
  | i + 6 => exact (by decide : ([109, 115] : List Nat) ≠ [] ∧ ∀ c ∈ ([109, 115] : List Nat), (!dig c) = true)
theorem durW_head : ∀ (f r c : Nat), (durW f r)[0]? = some c → dig c = true := by
  intro f
  induction f with
  | zero => intro r c h; simp [durW] at h
  | succ f ih =>
    intro r c h
    rw [durW] at h
    by_cases hq : r / unitMs (7 - f) = 0
    · rw [if_pos hq, List.nil_append] at h
      exact ih _ _ h
    · rw [if_neg hq, List.append_assoc, List.getElem?_append_left (List.length_pos_iff.2 (decN_ne _))] at h
      exact dig_of _ c (List.mem_of_getElem? h)
theorem durW_run : ∀ (f : Nat), f ≤ 5 → ∀ (r : Nat) (pre : List Nat) (last sum : Nat), last + f < 8 → sum + r ≤ 9007199254740992 → (f = 0 → r = 0) →
    (durW f r = [] → r = 0) ∧ (durW f r ≠ [] → DurRun (pre ++ durW f r) pre.length last sum (some (sum + r))) := by
  intro f
  induction f with
  | zero => intro _ r pre last sum _ _ h0; exact ⟨fun _ => h0 rfl, fun h => absurd rfl h⟩
  | succ f ih =>
    intro hf r pre last sum hl hs _
    rw [durW]
    obtain ⟨u, hu⟩ : ∃ u, unitMs (7 - f) = u := ⟨_, rfl⟩
    have hu0 : 0 < u := by rw [← hu]; exact (unitMs_pos (7 - f) (by omega) (by omega)).1
    have hf0 : f = 0 → r % u = 0 := fun h => by
      subst h
      have : u = 1 := hu.symm
      subst this
      exact Nat.mod_one r
    rw [hu]
    have hdm := Nat.div_add_mod r u
    have htr : r % u ≤ r := Nat.mod_le _ _
    by_cases hq : r / u = 0
    · rw [if_pos hq, List.nil_append]
      have e : r % u = r := by rw [hq, Nat.mul_zero, Nat.zero_add] at hdm; exact hdm
      rw [e] at hf0 ⊢
      exact ih (by omega) r pre last sum (by omega) hs hf0
    · rw [if_neg hq]
      obtain ⟨q, hq2⟩ : ∃ q, r / u = q := ⟨_, rfl⟩
      obtain ⟨t, ht2⟩ : ∃ t, r % u = t := ⟨_, rfl⟩
      rw [hq2, ht2] at hdm
      rw [ht2] at hf0 htr
      rw [hq2, ht2]
      obtain ⟨T, hT⟩ : ∃ T, durW f t = T := ⟨_, rfl⟩
      have hTh : ∀ c, T[0]? = some c → dig c = true := fun c h => durW_head f t c (by rw [hT]; exact h)
      have hU := unl_nots (6 - f)
      have hk := unl_key (6 - f) (by omega)
      rw [show 6 - f + 1 = 7 - f by omega] at hk
      obtain ⟨U, hUe⟩ : ∃ U, unl (6 - f) = U := ⟨_, rfl⟩
      rw [hUe] at hU hk
      rw [hT, hUe]
      have h1 : digs (pre ++ (decN q ++ U ++ T)) pre.length = decN q := by
        unfold digs tw
        rw [List.drop_left, List.append_assoc]
        refine takeWhile_app _ _ _ (dig_of q) fun c hc => ?_
        rw [List.getElem?_append_left (List.length_pos_iff.2 hU.1)] at hc
        simpa using hU.2 c (List.mem_of_getElem? hc)
      have h2 : nots (pre ++ (decN q ++ U ++ T)) (pre.length + (decN q).length) = U := by
        unfold nots tw
        rw [show pre ++ (decN q ++ U ++ T) = (pre ++ decN q) ++ (U ++ T) by simp, ← List.length_append, List.drop_left]
        refine takeWhile_app _ _ _ hU.2 fun c hc => ?_
        simp [hTh c hc]
      have hms : sum + q * u + t = sum + r := by rw [← hdm, Nat.mul_comm q u]; omega
      have hstep : DurStep (pre ++ (decN q ++ U ++ T)) pre.length last sum (pre ++ (decN q ++ U)).length (7 - f) (sum + q * u) := by
        refine ⟨by rw [h1]; exact decN_ne q, by rw [h1, h2]; exact hk, by omega, by rw [h1, decV_decN q q (Nat.le_refl _), hu], by omega, ?_⟩
        rw [h1, h2]; simp [Nat.add_assoc]
      refine ⟨fun h => absurd h (by simp [decN_ne q]), fun _ => ?_⟩
      obtain ⟨i1, i2⟩ := ih (by omega) t (pre ++ (decN q ++ U)) (7 - f) (sum + q * u) (by omega) (by omega) hf0
      rw [hT] at i1 i2
      by_cases hTn : T = []
      · have ht0 := i1 hTn
        subst hTn
        rw [List.append_nil] at hstep ⊢
        rw [← hms, ht0, Nat.add_zero]
        exact DurRun.fin _ _ _ _ _ hstep
      · have i3 := i2 hTn
        rw [hms, List.append_assoc] at i3
        exact DurRun.more _ _ _ _ _ _ _ hstep (by have := List.length_pos_iff.2 hTn; simp; omega) i3
/-- what a duration reads as, once it is written -/
theorem durW_back (ms : Nat) (h0 : 0 < ms) (hm : ms ≤ 9007199254740992) : durW 5 ms ≠ [] ∧ DurRun (durW 5 ms) 0 0 0 (some ms) := by
  obtain ⟨a, b⟩ := durW_run 5 (by omega) ms [] 0 0 (by omega) (by omega) (by omega)
  have hne : durW 5 ms ≠ [] := fun h => by have := a h; omega
  have := b hne
  rw [List.nil_append, Nat.zero_add] at this
  exact ⟨hne, this⟩
end Go.Proofs.YthhlhiighgnkmaaGreatDoor
