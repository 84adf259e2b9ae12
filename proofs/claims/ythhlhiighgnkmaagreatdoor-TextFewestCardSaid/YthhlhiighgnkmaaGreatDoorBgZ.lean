/-
  Wo, BgA, BgB, BgC, BgD, BgG, BgH, BgI, put together (a claim holds at most 60 files).
-/
import Derived.Test.YthhlhiighgnkmaaGreatDoorBase
import Derived.Laws.Rows
import Derived.Laws.AppendOwnNone
import Derived.Deep.LoopGhost
import Derived.Deep.QuietTactic
import Derived.BigQuiet
import Derived.StillTailTactics
import Derived.IntWalk
/-! ## WHOLE NUMBERS AS WORDS of 32 bits, the lowest first. -/
namespace Go.Proofs.YthhlhiighgnkmaaGreatDoor.Nm
set_option linter.unusedVariables false
set_option linter.unusedSimpArgs false
/-- how many bits -/
def nb (n : Nat) : Nat := if n = 0 then 0 else n.log2 + 1
theorem nb_lt (n : Nat) : n < 2 ^ nb n := by
  unfold nb
  split
  · subst_vars; decide
  · exact Nat.lt_log2_self
theorem nb_le {n : Nat} (h : n ≠ 0) : 2 ^ (nb n - 1) ≤ n := by
  unfold nb
  rw [if_neg h, Nat.add_sub_cancel]
  exact Nat.log2_self_le h
theorem nb_le_iff (n k : Nat) : nb n ≤ k ↔ n < 2 ^ k := by
  constructor
  · intro h; exact Nat.lt_of_lt_of_le (nb_lt n) (Nat.pow_le_pow_right (by decide) h)
  · intro h
    by_cases h0 : n = 0
    · subst h0; simp [nb]
    · refine Decidable.by_contra fun hk => ?_
      have h1 := nb_le h0
      have h2 : 2 ^ k ≤ 2 ^ (nb n - 1) := Nat.pow_le_pow_right (by decide) (by omega)
      omega
def cmpN (x y : Nat) : Int := if x < y then -1 else if y < x then 1 else 0
/-- the base, kept shut -/
def B : Nat := 4294967296
theorem B_eq : B = 4294967296 := rfl
theorem B_pow : B = 2 ^ 32 := rfl
theorem B_pos : 0 < B := by decide
theorem Bp_pos (i : Nat) : 0 < B ^ i := Nat.pow_pos B_pos
theorem Bp (i : Nat) : B ^ i = 2 ^ (32 * i) := by rw [B_pow, ← Nat.pow_mul]
def val : List Nat → Nat
  | [] => 0
  | d :: ds => d + B * val ds
theorem val_append (xs ys : List Nat) : val (xs ++ ys) = val xs + B ^ xs.length * val ys := by
  induction xs with
  | nil => simp [val]
  | cons d ds ih =>
    simp only [List.cons_append, val, ih, List.length_cons, Nat.pow_succ]
    rw [Nat.mul_add, ← Nat.mul_assoc, Nat.mul_comm B (B ^ ds.length), Nat.add_assoc]
theorem val_lt {ds : List Nat} (h : ∀ c ∈ ds, c < B) : val ds < B ^ ds.length := by
  induction ds with
  | nil => simp [val]
  | cons d ds ih =>
    have h1 := h d (by simp)
    have h2 := ih fun c hc => h c (by simp [hc])
    simp only [val, List.length_cons, Nat.pow_succ]
    have h3 : B * (val ds + 1) ≤ B * B ^ ds.length := Nat.mul_le_mul_left B h2
    rw [Nat.mul_add, Nat.mul_one] at h3
    rw [Nat.mul_comm (B ^ ds.length) B]
    omega
theorem val_get {ds : List Nat} (h : ∀ c ∈ ds, c < B) (i : Nat) (hi : i < ds.length) : ds[i] = val ds / B ^ i % B := by
  induction ds generalizing i with
  | nil => simp at hi
  | cons d ds ih =>
    have h1 := h d (by simp)
    cases i with
    | zero =>
      simp only [List.getElem_cons_zero, val, Nat.pow_zero, Nat.div_one]
      rw [Nat.add_mul_mod_self_left, Nat.mod_eq_of_lt h1]
    | succ i =>
      simp only [List.getElem_cons_succ, val]
      rw [ih (fun c hc => h c (by simp [hc])) i (by simpa using hi), Nat.pow_succ, Nat.mul_comm (B ^ i) B, ← Nat.div_div_eq_div_mul, Nat.add_mul_div_left _ _ B_pos, Nat.div_eq_of_lt h1, Nat.zero_add]
theorem val_take {ds : List Nat} (h : ∀ c ∈ ds, c < B) (k : Nat) (hk : k ≤ ds.length) : val (ds.take k) = val ds % B ^ k := by
  have e := val_append (ds.take k) (ds.drop k)
  rw [List.take_append_drop, List.length_take, Nat.min_eq_left hk] at e
  have hl := val_lt (ds := ds.take k) fun c hc => h c (List.mem_of_mem_take hc)
  rw [List.length_take, Nat.min_eq_left hk] at hl
  rw [e, Nat.add_mul_mod_self_left, Nat.mod_eq_of_lt hl]
/-- the words of a number, none 0 at the end -/
def wds (n : Nat) : List Nat := if h : n = 0 then [] else n % B :: wds (n / B)
termination_by n
decreasing_by exact Nat.div_lt_self (by omega) (by decide)
theorem wds_zero : wds 0 = [] := by rw [wds]; simp
theorem wds_pos {n : Nat} (h : n ≠ 0) : wds n = n % B :: wds (n / B) := by rw [wds]; simp [h]
theorem val_wds (n : Nat) : val (wds n) = n := by
  induction n using Nat.strongRecOn with
  | _ n ih =>
    by_cases h : n = 0
    · subst h; rw [wds_zero]; rfl
    · rw [wds_pos h]
      simp only [val]
      rw [ih (n / B) (Nat.div_lt_self (by omega) (by decide)), Nat.add_comm]
      exact Nat.div_add_mod n B
theorem wds_lt (n : Nat) : ∀ c ∈ wds n, c < B := by
  induction n using Nat.strongRecOn with
  | _ n ih =>
    by_cases h : n = 0
    · subst h; rw [wds_zero]; simp
    · rw [wds_pos h]
      intro c hc
      simp only [List.mem_cons] at hc
      rcases hc with rfl | hc
      · exact Nat.mod_lt _ B_pos
      · exact ih (n / B) (Nat.div_lt_self (by omega) (by decide)) c hc
theorem lt_wds (n : Nat) : n < B ^ (wds n).length := by
  have := val_lt (wds_lt n)
  rwa [val_wds] at this
theorem wds_le {n : Nat} (h : n ≠ 0) : B ^ ((wds n).length - 1) ≤ n := by
  induction n using Nat.strongRecOn with
  | _ n ih =>
    rw [wds_pos h]
    simp only [List.length_cons, Nat.add_sub_cancel]
    by_cases h2 : n / B = 0
    · rw [h2, wds_zero]; simp; omega
    · have := ih (n / B) (Nat.div_lt_self (by omega) (by decide)) h2
      have hl : (wds (n / B)).length = (wds (n / B)).length - 1 + 1 := by
        rw [wds_pos h2]; simp
      rw [hl, Nat.pow_succ]
      exact Nat.le_trans (Nat.mul_le_mul_right B this) (Nat.div_mul_le_self n B)
theorem wds_len {n k : Nat} (h : n < B ^ k) : (wds n).length ≤ k := by
  by_cases h0 : n = 0
  · subst h0; rw [wds_zero]; simp
  · have := wds_le h0
    refine Decidable.by_contra fun hk => ?_
    have := Nat.pow_le_pow_right B_pos (show k ≤ (wds n).length - 1 by omega)
    omega
theorem wds_len2 {n k : Nat} (h : n < 2 ^ (32 * k)) : (wds n).length ≤ k := wds_len (by rw [Bp]; exact h)
theorem wds_nil {n : Nat} : (wds n).length = 0 ↔ n = 0 := by
  constructor
  · intro h
    have := lt_wds n
    rw [h, Nat.pow_zero] at this
    omega
  · rintro rfl; rw [wds_zero]; rfl
theorem wds_get (n i : Nat) (h : i < (wds n).length) : (wds n)[i] = n / B ^ i % B := by
  rw [val_get (wds_lt n) i h, val_wds]
/-- none 0 at the end: the words of the value -/
theorem wds_of {ds : List Nat} (h : ∀ c ∈ ds, c < B) (hl : ∀ h0 : ds ≠ [], ds.getLast h0 ≠ 0) : wds (val ds) = ds := by
  induction ds with
  | nil => simp [val, wds_zero]
  | cons d ds ih =>
    have h1 := h d (by simp)
    have h2 := ih (fun c hc => h c (by simp [hc])) (fun h0 => by have := hl (by simp); rwa [List.getLast_cons h0] at this)
    have hne : val (d :: ds) ≠ 0 := by
      simp only [val]
      by_cases h0 : ds = []
      · subst h0
        have := hl (by simp)
        simp at this
        simp [val]; omega
      · intro e
        have hz : val ds = 0 := by
          have hB := B_pos
          have : B * val ds = 0 := by omega
          rcases Nat.mul_eq_zero.1 this with h | h
          · omega
          · exact h
        rw [hz, wds_zero] at h2
        exact h0 h2.symm
    rw [wds_pos hne]
    simp only [val]
    rw [Nat.add_mul_mod_self_left, Nat.mod_eq_of_lt h1, Nat.add_mul_div_left _ _ B_pos, Nat.div_eq_of_lt h1, Nat.zero_add, h2]
theorem take_drop_zero {ds : List Nat} {k : Nat} (hk : k + 1 ≤ ds.length) (h0 : ds[k]'(by omega) = 0) : val (ds.take (k + 1)) = val (ds.take k) := by
  rw [List.take_succ_eq_append_getElem (by omega), val_append, h0]
  simp [val]
/-- the next word -/
theorem mod_next (x i : Nat) : x % B ^ (i + 1) = x % B ^ i + B ^ i * (x / B ^ i % B) := by
  rw [Nat.pow_succ, Nat.mod_mul]
/-- a word that is not there is 0 -/
theorem word_zero {x i : Nat} (h : (wds x).length ≤ i) : x / B ^ i % B = 0 := by
  have h1 := lt_wds x
  have h2 := Nat.pow_le_pow_right B_pos h
  rw [Nat.div_eq_of_lt (by omega), Nat.zero_mod]
theorem mod_all {x i : Nat} (h : (wds x).length ≤ i) : x % B ^ i = x := by
  have h1 := lt_wds x
  have h2 := Nat.pow_le_pow_right B_pos h
  exact Nat.mod_eq_of_lt (by omega)
theorem wds_mono {x y : Nat} (h : x ≤ y) : (wds x).length ≤ (wds y).length := wds_len (Nat.lt_of_le_of_lt h (lt_wds y))
/-- compared from the top -/
theorem cmp_len {x y : Nat} (h : (wds x).length < (wds y).length) : x < y := by
  refine Decidable.by_contra fun hn => ?_
  have := wds_mono (show y ≤ x by omega)
  omega
/-- one word more of a sum -/
theorem plus_step (x y i V c : Nat) (h : V + B ^ i * c = x % B ^ i + y % B ^ i) :
    V + B ^ i * ((c + x / B ^ i % B + y / B ^ i % B) % B) + B ^ (i + 1) * ((c + x / B ^ i % B + y / B ^ i % B) / B) = x % B ^ (i + 1) + y % B ^ (i + 1) := by
  rw [mod_next x, mod_next y, Nat.pow_succ, Nat.mul_assoc]
  generalize x / B ^ i % B = p at *
  generalize y / B ^ i % B = q at *
  have e := Nat.div_add_mod (c + p + q) B
  have e2 : B ^ i * (c + p + q) = B ^ i * (B * ((c + p + q) / B)) + B ^ i * ((c + p + q) % B) := by rw [← Nat.mul_add, e]
  rw [Nat.mul_add, Nat.mul_add] at e2
  generalize B ^ i * ((c + p + q) % B) = s at *
  generalize B ^ i * (B * ((c + p + q) / B)) = t at *
  omega
/-- of a difference: b: what was borrowed -/
theorem minus_step (x y i V b : Nat) (h : V + y % B ^ i = x % B ^ i + B ^ i * b) :
    V + B ^ i * ((if x / B ^ i % B < b + y / B ^ i % B then x / B ^ i % B + B else x / B ^ i % B) - (b + y / B ^ i % B)) + y % B ^ (i + 1) = x % B ^ (i + 1) + B ^ (i + 1) * (if x / B ^ i % B < b + y / B ^ i % B then 1 else 0) ∨ B < b + y / B ^ i % B := by
  rw [mod_next x, mod_next y, Nat.pow_succ, Nat.mul_assoc]
  generalize x / B ^ i % B = p at *
  generalize y / B ^ i % B = q at *
  by_cases hb : B < b + q
  · exact .inr hb
  left
  generalize hP : B ^ i = P at *
  by_cases hl : p < b + q
  · rw [if_pos hl, if_pos hl, Nat.mul_one]
    obtain ⟨d, hd⟩ : ∃ d, p + B - (b + q) = d := ⟨_, rfl⟩
    rw [hd]
    have e : P * p + P * B = P * d + (P * b + P * q) := by
      rw [← Nat.mul_add, ← Nat.mul_add, ← Nat.mul_add]; congr 1; omega
    generalize P * d = pd at *
    generalize P * p = pp at *
    generalize P * q = pq at *
    generalize P * b = pb at *
    generalize P * B = pB at *
    omega
  · rw [if_neg hl, if_neg hl, Nat.mul_zero, Nat.mul_zero]
    obtain ⟨d, hd⟩ : ∃ d, p - (b + q) = d := ⟨_, rfl⟩
    rw [hd]
    have e : P * p = P * d + (P * b + P * q) := by
      rw [← Nat.mul_add, ← Nat.mul_add]; congr 1; omega
    generalize P * d = pd at *
    generalize P * p = pp at *
    generalize P * q = pq at *
    generalize P * b = pb at *
    omega
end Go.Proofs.YthhlhiighgnkmaaGreatDoor.Nm
/-! ## WALKS of the document's whole numbers: what a list of words is; trim, Low, Bits, Bit, Less, From. -/
namespace Go.Proofs.YthhlhiighgnkmaaGreatDoor.Bg
set_option linter.unusedVariables false
set_option linter.unusedSimpArgs false
open Go.RowKit
/-- numbers as cells -/
def cells32 (ds : List Nat) : List Value := ds.map fun c => Value.int .u32 ((c : Nat) : Int)
theorem cells32_length (ds : List Nat) : (cells32 ds).length = ds.length := by simp [cells32]
theorem cells32_one (ds : List Nat) : ∀ u ∈ cells32 ds, u.oneCell' = true := by
  intro u hu
  obtain ⟨c, _, rfl⟩ := List.mem_map.1 hu
  rfl
theorem cells32_append (a b : List Nat) : cells32 (a ++ b) = cells32 a ++ cells32 b := by simp [cells32]
theorem cells32_get (ds : List Nat) (i : Nat) (h : i < ds.length) : (cells32 ds)[i]? = some (.int .u32 ((ds[i] : Nat) : Int)) := by
  simp [cells32, h]
/-- a slice's address leads to these words -/
def Wd (w : World) (a : Option Addr) (ds : List Nat) : Prop :=
  ds.length ≤ 1000000 ∧ (∀ c ∈ ds, c < Nm.B) ∧ (ds ≠ [] → ∃ b, a = some ⟨b, 0, none⟩ ∧ b < w.heap.size ∧ ∀ i (h : i < ds.length), w.cell? ⟨b, i, none⟩ = some (.int .u32 ((ds[i] : Nat) : Int)))
theorem Wd.below {w w' : World} {a : Option Addr} {ds : List Nat} (h : Wd w a ds) (hb : Below w.heap.size w w') : Wd w' a ds := by
  obtain ⟨h1, h2, h3⟩ := h
  refine ⟨h1, h2, fun hn => ?_⟩
  obtain ⟨b, ha, hlt, hc⟩ := h3 hn
  exact ⟨b, ha, Nat.lt_of_lt_of_le hlt hb.size, fun i hi => (hb.cell (p := ⟨b, i, none⟩) hlt).trans (hc i hi)⟩
theorem Wd.take {w : World} {a : Option Addr} {ds : List Nat} (h : Wd w a ds) (k : Nat) : Wd w a (ds.take k) := by
  obtain ⟨h1, h2, h3⟩ := h
  refine ⟨by rw [List.length_take]; omega, fun c hc => h2 c (List.mem_of_mem_take hc), fun hn => ?_⟩
  obtain ⟨b, ha, hlt, hc⟩ := h3 (by rintro rfl; simp at hn)
  refine ⟨b, ha, hlt, fun i hi => ?_⟩
  rw [List.length_take] at hi
  rw [hc i (by omega), List.getElem_take]
theorem Wd.at {w : World} {a : Option Addr} {ds : List Nat} (h : Wd w a ds) (k : Nat) (hk : k < ds.length) :
    ∃ b, a = some ⟨b, 0, none⟩ ∧ b < w.heap.size ∧ w.cell? ⟨b, k, none⟩ = some (.int .u32 ((ds[k] : Nat) : Int)) := by
  obtain ⟨b, e, hb, hc⟩ := h.2.2 (by intro h0; rw [h0] at hk; simp at hk)
  exact ⟨b, e, hb, hc k hk⟩
theorem Wd.nil (w : World) (a : Option Addr) : Wd w a [] := ⟨by simp, by simp, fun h => absurd rfl h⟩
/-- a value is a whole number -/
def Big (w : World) (v : Value) (n : Nat) : Prop := ∃ a cap, v = .slice a (Nm.wds n).length cap ∧ (Nm.wds n).length ≤ cap ∧ Wd w a (Nm.wds n)
theorem Big.below {w w' : World} {v : Value} {n : Nat} (h : Big w v n) (hb : Below w.heap.size w w') : Big w' v n := by
  obtain ⟨a, cap, h1, h2, h3⟩ := h
  exact ⟨a, cap, h1, h2, h3.below hb⟩
theorem Big.nil (w : World) : Big w (.slice none 0 0) 0 := ⟨none, 0, by rw [Nm.wds_zero]; rfl, by rw [Nm.wds_zero]; simp, by rw [Nm.wds_zero]; exact Wd.nil _ _⟩
/-- a word of it -/
theorem big_word {w : World} {a : Option Addr} {n : Nat} (h : Wd w a (Nm.wds n)) (i : Nat) (hi : i < (Nm.wds n).length) :
    ∃ b, a = some ⟨b, 0, none⟩ ∧ b < w.heap.size ∧ w.cell? ⟨b, i, none⟩ = some (.int .u32 ((n / Nm.B ^ i % Nm.B : Nat) : Int)) := by
  obtain ⟨b, h1, h2, h3⟩ := h.at i hi
  rw [Nm.wds_get n i hi] at h3
  exact ⟨b, h1, h2, h3⟩
def BigPost (w : World) (n : Nat) (e : Ending) (w' : World) : Prop := ∃ v, e = .returned v ∧ Big w' v n ∧ Below w.heap.size w w'
/-- its block is no elder one -/
def Fresh (N : Nat) (v : Value) : Prop := ∀ k, v.ownBlock = some k → N ≤ k
theorem fresh_len {N l c l2 c2 : Nat} {a : Option Addr} (h : Fresh N (.slice a l c)) : Fresh N (.slice a l2 c2) := by
  intro k hk
  cases a with
  | none => cases hk
  | some x => exact h k hk
theorem trim_new (a : Option Addr) (ds : List Nat) (cap : Nat) (w : World) (H : Wd w a ds) (hc : ds.length ≤ cap) :
    Calls Tryz.prog 129 #[.slice a ds.length cap] w fun e w' => (∃ v, e = .returned v ∧ Big w v (Nm.val ds) ∧ ∀ N, Fresh N (.slice a ds.length cap) → Fresh N v) ∧ w' = w := by
  have H0 := Lib.hid H
  have HC := Lib.hid hc
  have hl := H.1
  clear H
  go_enter Tryz.func129, Tryz.ntmps129
  go_wp2
  go_loop [0] (fun v => ∃ k : Nat, k ≤ ds.length ∧ v = .slice a k cap ∧ Hid (Nm.val (ds.take k) = Nm.val ds)) (fun v => match v with | .slice _ k _ => k | _ => 0)
  case atStart => exact ⟨ds.length, Nat.le_refl _, rfl, Lib.hid (by rw [List.take_length])⟩
  case round =>
    obtain ⟨k, hk, rfl, HV⟩ := hrel
    cases k with
    | zero =>
      go_wp2
      go_ret
      have hv := HV.out
      rw [List.take_zero] at hv
      refine ⟨⟨_, rfl, ?_, fun N h => fresh_len h⟩, rfl⟩
      rw [← hv]
      exact ⟨a, cap, by rw [show Nm.val [] = 0 from rfl, Nm.wds_zero]; rfl, by rw [show Nm.val [] = 0 from rfl, Nm.wds_zero]; simp, by rw [show Nm.val [] = 0 from rfl, Nm.wds_zero]; exact Wd.nil _ _⟩
    | succ m =>
      obtain ⟨b, rfl, hb, hcell⟩ := H0.out.at m (by omega)
      have he : ((m + 1 : Nat) : Int) - 1 = (m : Int) := by omega
      have hpos : decide ((0 : Int) < ((m + 1 : Nat) : Int)) = true := decide_eq_true (by omega)
      obtain ⟨c, hcc⟩ : ∃ c, ds[m] = c := ⟨_, rfl⟩
      rw [hcc] at hcell
      have hidx : m < ds.length := by omega
      have hle : (m : Int) ≤ (cap : Int) := by have := HC.out; omega
      by_cases h0 : c = 0
      · subst h0
        go_wp2
        go_round
        case rel => exact ⟨m, by omega, rfl, Lib.hid (by rw [← HV.out]; exact (Nm.take_drop_zero (by omega) hcc).symm)⟩
        case measure => simp
      · have hne : (((c : Nat) : Int) == 0) = false := by simpa using h0
        go_wp2
        go_ret
        refine ⟨⟨_, rfl, ?_, fun N h => fresh_len h⟩, rfl⟩
        have hW := H0.out.take (m + 1)
        have e : Nm.wds (Nm.val ds) = ds.take (m + 1) := by
          rw [← HV.out]
          refine Nm.wds_of hW.2.1 fun h => ?_
          rw [List.getLast_take]
          simp [hcc, h0, hidx]
        have el : (ds.take (m + 1)).length = m + 1 := by rw [List.length_take]; omega
        refine ⟨some ⟨b, 0, none⟩, cap, by rw [e, el]; rfl, by rw [e, el]; have := HC.out; omega, by rw [e]; exact hW⟩

theorem trim_any (a : Option Addr) (ds : List Nat) (cap : Nat) (w : World) (H : Wd w a ds) (hc : ds.length ≤ cap) :
    Calls Tryz.prog 129 #[.slice a ds.length cap] w fun e w' => (∃ v, e = .returned v ∧ Big w v (Nm.val ds)) ∧ w' = w :=
  (trim_new a ds cap w H hc).mono fun _ _ ⟨⟨v, h1, h2, _⟩, h3⟩ => ⟨⟨v, h1, h2⟩, h3⟩
def BigNew (w : World) (n : Nat) (e : Ending) (w' : World) : Prop := ∃ v, e = .returned v ∧ Big w' v n ∧ Below w.heap.size w w' ∧ Fresh w.heap.size v
theorem BigNew.post {w : World} {n : Nat} {e : Ending} {w' : World} (h : BigNew w n e w') : BigPost w n e w' := by
  obtain ⟨v, h1, h2, h3, _⟩ := h
  exact ⟨v, h1, h2, h3⟩
theorem big_len {w : World} {a : Option Addr} {n : Nat} (h : Wd w a (Nm.wds n)) : (Nm.wds n).length ≤ 1000000 := h.1
/-- the lowest 64 bits -/
theorem low_any (v : Value) (n : Nat) (w : World) (H : Big w v n) : Calls Tryz.prog 93 #[v] w fun e w' => e = .returned (.int .u64 ((n % 2 ^ 64 : Nat) : Int)) ∧ w' = w := by
  obtain ⟨a, cap, rfl, _, hW⟩ := H
  obtain ⟨L, hL⟩ : ∃ L, (Nm.wds n).length = L := ⟨_, rfl⟩
  by_cases h0 : L = 0
  · have hn : n = 0 := Nm.wds_nil.1 (by rw [hL]; exact h0)
    subst hn
    rw [hL, h0]
    clear hW hL h0
    go_enter Tryz.func93, Tryz.ntmps93
    go_wp2
    go_ret
    exact ⟨rfl, rfl⟩
  · obtain ⟨b, rfl, hb, hc0⟩ := big_word hW 0 (by omega)
    rw [Nat.pow_zero, Nat.div_one] at hc0
    have g0 : decide ((0 : Int) < (L : Int)) = true := decide_eq_true (by omega)
    have m0 : n % Nm.B < 4294967296 := Nat.mod_lt _ Nm.B_pos
    have hlo : n % 2 ^ 64 = n % Nm.B + 2 ^ 32 * (n / Nm.B % Nm.B) := by
      rw [show (2 : Nat) ^ 64 = Nm.B * Nm.B from rfl, Nat.mod_mul]; rfl
    obtain ⟨c0, hcc0⟩ : ∃ c, n % Nm.B = c := ⟨_, rfl⟩
    rw [hcc0] at hc0 hlo m0
    rw [hL]
    have hi0 : 0 < L := by omega
    by_cases h1 : L = 1
    · have z := Nm.word_zero (x := n) (i := 1) (by rw [hL]; omega)
      rw [Nat.pow_one] at z
      rw [z, Nat.mul_zero, Nat.add_zero] at hlo
      rw [hlo]
      subst h1
      clear hlo z hW
      go_enter Tryz.func93, Tryz.ntmps93
      go_wp2
      go_ret
      exact ⟨rfl, rfl⟩
    · obtain ⟨b', hbb, _, hc1⟩ := big_word hW 1 (by omega)
      cases hbb
      rw [Nat.pow_one] at hc1
      have m1 : n / Nm.B % Nm.B < 4294967296 := Nat.mod_lt _ Nm.B_pos
      obtain ⟨c1, hcc1⟩ : ∃ c, n / Nm.B % Nm.B = c := ⟨_, rfl⟩
      rw [hcc1] at hc1 hlo m1
      rw [hlo]
      have g1 : decide ((1 : Int) < (L : Int)) = true := decide_eq_true (by omega)
      have hi1 : 1 < L := by omega
      have e4 : bits .or .u64 (c0 : Int) ((c1 : Int) * 4294967296) = ((c0 + 2 ^ 32 * c1 : Nat) : Int) := by
        rw [show ((c1 : Int) * 4294967296) = ((c1 * 2 ^ 32 : Nat) : Int) by omega, u64_or_nat c0 (c1 * 2 ^ 32) (by omega) (by omega), Nat.or_comm, nat_join 32 (c1 * 2 ^ 32) c0 (Nat.mul_mod_left _ _) (by omega)]
        congr 1; omega
      obtain ⟨r, hr⟩ : ∃ r, c0 + 2 ^ 32 * c1 = r := ⟨_, rfl⟩
      rw [hr] at e4 ⊢
      clear hlo hW hr
      go_enter Tryz.func93, Tryz.ntmps93
      go_wp2
      go_ret
      exact ⟨rfl, rfl⟩
theorem nb_half {t : Nat} (h : 0 < t) : Nm.nb t = Nm.nb (t / 2) + 1 := by
  unfold Nm.nb
  rw [if_neg (by omega)]
  by_cases h1 : t / 2 = 0
  · rw [if_pos h1, show t = 1 by omega]; rfl
  · rw [if_neg h1, Nat.log2_def t, if_pos (by omega)]
theorem nb_top (n k : Nat) (h : n / 2 ^ k ≠ 0) : Nm.nb n = k + Nm.nb (n / 2 ^ k) := by
  induction k generalizing n with
  | zero => simp
  | succ k ih =>
    have e : n / 2 ^ (k + 1) = n / 2 / 2 ^ k := by rw [Nat.pow_succ, Nat.mul_comm, Nat.div_div_eq_div_mul]
    rw [e] at h ⊢
    have hn : 0 < n := by
      refine Nat.pos_of_ne_zero ?_
      rintro rfl
      simp at h
    rw [nb_half hn, ih (n / 2) h]
    omega
theorem nb_zero : Nm.nb 0 = 0 := by unfold Nm.nb; rw [if_pos rfl]
/-- how many bits -/
theorem bits_any (v : Value) (n : Nat) (w : World) (H : Big w v n) : Calls Tryz.prog 90 #[v] w fun e w' => e = .returned (.int .i64 ((Nm.nb n : Nat) : Int)) ∧ w' = w := by
  obtain ⟨a, cap, rfl, _, hW⟩ := H
  have hlen := hW.1
  obtain ⟨L, hL⟩ : ∃ L, (Nm.wds n).length = L := ⟨_, rfl⟩
  by_cases h0 : L = 0
  · have hn : n = 0 := Nm.wds_nil.1 (by rw [hL]; exact h0)
    have hz : Nm.nb n = 0 := by rw [hn]; exact nb_zero
    rw [hz, hL, h0]
    clear hW hL h0 hn hlen hz
    go_enter Tryz.func90, Tryz.ntmps90
    go_wp2
    go_ret
    exact ⟨rfl, rfl⟩
  · obtain ⟨M, rfl⟩ : ∃ M, L = M + 1 := ⟨L - 1, by omega⟩
    obtain ⟨b, rfl, hb, hc0⟩ := big_word hW M (by omega)
    have htop : n / Nm.B ^ M % Nm.B = n / Nm.B ^ M := by
      refine Nat.mod_eq_of_lt ?_
      rw [Nat.div_lt_iff_lt_mul (Nm.Bp_pos M), ← Nat.pow_succ', show M.succ = M + 1 from rfl, ← hL]
      exact Nm.lt_wds n
    have hn0 : n ≠ 0 := fun e => by subst e; rw [Nm.wds_zero] at hL; simp at hL
    have hge := Nm.wds_le hn0
    rw [hL, Nat.add_sub_cancel] at hge
    have hne : n / Nm.B ^ M ≠ 0 := by
      have := Nat.div_pos hge (Nm.Bp_pos M)
      omega
    have hnb := nb_top n (32 * M) (by rw [← Nm.Bp]; exact hne)
    rw [← Nm.Bp] at hnb
    have hlt : n / Nm.B ^ M % Nm.B < 4294967296 := Nat.mod_lt _ Nm.B_pos
    rw [htop] at hc0 hlt
    obtain ⟨t, ht⟩ : ∃ t, n / Nm.B ^ M = t := ⟨_, rfl⟩
    obtain ⟨N, hN⟩ : ∃ N, Nm.nb n = N := ⟨_, rfl⟩
    rw [ht] at hc0 hlt hnb
    rw [hN] at hnb ⊢
    rw [hL] at hlen ⊢
    have he : ((M + 1 : Nat) : Int) - 1 = (M : Int) := by omega
    have HN := Lib.hid hnb
    have hidx : M < M + 1 := by omega
    have hN2 : N ≤ 33000000 := by
      have : Nm.nb t ≤ 32 := (Nm.nb_le_iff t 32).2 (by omega)
      omega
    clear hnb hN ht hne hge htop hW hL hn0 h0
    go_enter Tryz.func90, Tryz.ntmps90
    go_wp2
    go_loop [3, 4] (fun k x => ∃ j s : Nat, k = .int .i64 j ∧ x = .int .u32 s ∧ s < 4294967296 ∧ Hid (N = j + Nm.nb s)) (fun _ x => (intOf x).toNat)
    case atStart => exact ⟨32 * M, t, by first | rfl | (simp), rfl, hlt, HN⟩
    case round =>
      obtain ⟨j, s, rfl, rfl, hs, HJ⟩ := hrel
      by_cases hs0 : 0 < s
      · have hd : decide ((0 : Int) < (s : Int)) = true := decide_eq_true (by omega)
        have hj : j ≤ 33000000 := by have := HJ.out; omega
        go_wp2
        go_round
        case rel => exact ⟨j + 1, s / 2, by first | rfl | simp, by first | rfl | simp, by omega, Lib.hid (by have := HJ.out; rw [nb_half hs0] at this; omega)⟩
        case measure => simp [intOf]; omega
      · obtain rfl : s = 0 := by omega
        have hj := HJ.out
        rw [nb_zero, Nat.add_zero] at hj
        subst hj
        go_wp2
        go_ret
        exact ⟨rfl, rfl⟩
/-- one bit -/
theorem bit_word (n i : Nat) : (n / Nm.B ^ (i / 32) % Nm.B) / 2 ^ (i % 32) % 2 = n / 2 ^ i % 2 := by
  rw [Nm.Bp, Nm.B_pow]
  have hi : i = 32 * (i / 32) + i % 32 := (Nat.div_add_mod i 32).symm
  have hr : i % 32 < 32 := Nat.mod_lt _ (by decide)
  generalize i / 32 = q at *
  generalize i % 32 = r at *
  subst hi
  rw [Nat.pow_add, ← Nat.div_div_eq_div_mul]
  generalize n / 2 ^ (32 * q) = m
  obtain ⟨k, hk⟩ : ∃ k, 32 = r + (k + 1) := ⟨31 - r, by omega⟩
  rw [hk, Nat.pow_add, Nat.mod_mul_right_div_self, Nat.pow_succ, Nat.mod_mul_left_mod]
theorem and1_spell (c r : Nat) (hc : c < 4294967296) : (bits .and .u32 ((c : Int) / 2 ^ r) 1 == 1) = decide (c / 2 ^ r % 2 = 1) := by
  have e : ((c : Int) / 2 ^ r) = ((c / 2 ^ r : Nat) : Int) := by
    simp only [Int.natCast_ediv, Int.natCast_pow, Int.cast_ofNat_Int]
  have hl : c / 2 ^ r < 4294967296 := Nat.lt_of_le_of_lt (Nat.div_le_self _ _) hc
  have h := u32_and_nat (c / 2 ^ r) 1 hl (by decide)
  rw [nat_mask1] at h
  rw [e, show (1 : Int) = ((1 : Nat) : Int) from rfl, h, Bool.eq_iff_iff]
  simp
  omega
theorem bit_any (v : Value) (n i : Nat) (w : World) (H : Big w v n) (hi : i ≤ 40000000) : Calls Tryz.prog 79 #[v, .int .i64 (i : Int)] w fun e w' => e = .returned (.bool (n.testBit i)) ∧ w' = w := by
  obtain ⟨a, cap, rfl, _, hW⟩ := H
  have hlen := hW.1
  obtain ⟨L, hL⟩ : ∃ L, (Nm.wds n).length = L := ⟨_, rfl⟩
  obtain ⟨q, hq⟩ : ∃ q, i / 32 = q := ⟨_, rfl⟩
  have hq1 : Int.tdiv (i : Int) 32 = (q : Int) := by rw [Int.tdiv_eq_ediv_of_nonneg (by omega)]; omega
  have hq2 : (i : Int) / 32 = (q : Int) := by omega
  by_cases h0 : q < L
  · obtain ⟨b, rfl, hb, hc0⟩ := big_word hW q (by omega)
    have hlt : n / Nm.B ^ q % Nm.B < 4294967296 := Nat.mod_lt _ Nm.B_pos
    have hbt := bit_word n i
    rw [hq] at hbt
    rw [Nat.testBit_eq_decide_div_mod_eq, ← hbt]
    obtain ⟨c, hc⟩ : ∃ c, n / Nm.B ^ q % Nm.B = c := ⟨_, rfl⟩
    rw [hc] at hc0 hlt ⊢
    rw [hL] at hlen ⊢
    have hsp := and1_spell c (i % 32) hlt
    obtain ⟨t, ht⟩ : ∃ t, decide (c / 2 ^ (i % 32) % 2 = 1) = t := ⟨_, rfl⟩
    rw [ht] at hsp ⊢
    clear hbt hW hL hc ht
    go_enter Tryz.func79, Tryz.ntmps79
    go_wp2
    go_ret
    exact ⟨rfl, rfl⟩
  · have hf : n.testBit i = false := by
      refine Nat.testBit_lt_two_pow ?_
      have h1 := Nm.lt_wds n
      rw [hL, Nm.Bp] at h1
      exact Nat.lt_of_lt_of_le h1 (Nat.pow_le_pow_right (by decide) (by omega))
    have hd : decide ((q : Int) < (L : Int)) = false := decide_eq_false (by omega)
    have hd2 : decide (q < L) = false := decide_eq_false h0
    rw [hf, hL]
    clear hW hf
    go_enter Tryz.func79, Tryz.ntmps79
    go_wp2
    go_ret
    exact ⟨rfl, rfl⟩
theorem below_drewN {B : Nat} {a b : World} (h : Below B a b) (n : Nat) : Below B a (b.drewN n) := ⟨h.os, h.tape, h.output, h.size, h.block⟩
/-- compared -/
theorem less_any (v1 v2 : Value) (x y : Nat) (w : World) (H1 : Big w v1 x) (H2 : Big w v2 y) : Calls Tryz.prog 128 #[v1, v2] w fun e w' => e = .returned (.int .i64 (Nm.cmpN x y)) ∧ Below w.heap.size w w' := by
  obtain ⟨a1, cap1, rfl, _, hW1⟩ := H1
  obtain ⟨a2, cap2, rfl, _, hW2⟩ := H2
  have hl1 := hW1.1
  have hl2 := hW2.1
  obtain ⟨L1, hL1⟩ : ∃ L, (Nm.wds x).length = L := ⟨_, rfl⟩
  obtain ⟨L2, hL2⟩ : ∃ L, (Nm.wds y).length = L := ⟨_, rfl⟩
  by_cases hne : L1 = L2
  · subst hne
    have W1 := Lib.hid hW1
    have W2 := Lib.hid hW2
    have X1 := Lib.hid hL1
    have X2 := Lib.hid hL2
    have S0 := Lib.hid (show x / Nm.B ^ L1 = y / Nm.B ^ L1 by
      rw [Nat.div_eq_of_lt (by rw [← hL1]; exact Nm.lt_wds x), Nat.div_eq_of_lt (by rw [← hL2]; exact Nm.lt_wds y)])
    rw [hL1, hL2]
    rw [hL1] at hl1
    obtain ⟨r, hr⟩ : ∃ r, Nm.cmpN x y = r := ⟨_, rfl⟩
    have HR := Lib.hid hr
    rw [hr]
    clear hW1 hW2 hL1 hL2 hl2 hr
    have hne : (((L1 : Nat) : Int) != (L1 : Int)) = false := by simp
    go_enter Tryz.func128, Tryz.ntmps128
    go_wp2
    go_loopw [5] (fun i wr => ∃ j : Nat, j ≤ L1 ∧ i = .int .i64 ((j : Int) - 1) ∧ Hid (x / Nm.B ^ j = y / Nm.B ^ j) ∧ Hid (Below w.heap.size w wr)) (fun i _ => (intOf i + 1).toNat)
    case atStart => exact ⟨L1, Nat.le_refl _, rfl, S0, Lib.hid (Below.refl _ _)⟩
    case round =>
      obtain ⟨j, hj, rfl, HS, HB⟩ := hrel
      cases j with
      | zero =>
        have hs := HS.out
        rw [Nat.pow_zero, Nat.div_one, Nat.div_one] at hs
        have hr := HR.out
        subst hs
        have h0 : r = 0 := by rw [← hr]; unfold Nm.cmpN; rw [if_neg (by omega), if_neg (by omega)]
        subst h0
        go_wp2
        go_ret
        exact ⟨rfl, HB.out⟩
      | succ m =>
        have he : ((m + 1 : Nat) : Int) - 1 = (m : Int) := by omega
        rw [he]
        obtain ⟨b1, rfl, hb1, hc1⟩ := big_word (W1.out.below HB.out) m (by have := X1.out; omega)
        obtain ⟨b2, rfl, hb2, hc2⟩ := big_word (W2.out.below HB.out) m (by have := X2.out; omega)
        have q1 := Nat.div_add_mod (x / Nm.B ^ m) Nm.B
        have q2 := Nat.div_add_mod (y / Nm.B ^ m) Nm.B
        have hs := HS.out
        rw [Nat.pow_succ, ← Nat.div_div_eq_div_mul, ← Nat.div_div_eq_div_mul] at hs
        rw [hs] at q1
        obtain ⟨c1, k1⟩ : ∃ c, x / Nm.B ^ m % Nm.B = c := ⟨_, rfl⟩
        obtain ⟨c2, k2⟩ : ∃ c, y / Nm.B ^ m % Nm.B = c := ⟨_, rfl⟩
        rw [k1] at hc1 q1
        rw [k2] at hc2 q2
        have hidx : m < L1 := by omega
        have hm63 : (m : Int) ≤ 1000000 := by omega
        have hlt : c1 < c2 → x < y := fun h => by
          refine Decidable.by_contra fun hn => ?_
          have := Nat.div_le_div_right (c := Nm.B ^ m) (show y ≤ x by omega)
          omega
        have hgt : c2 < c1 → y < x := fun h => by
          refine Decidable.by_contra fun hn => ?_
          have := Nat.div_le_div_right (c := Nm.B ^ m) (show x ≤ y by omega)
          omega
        have GL := Lib.hid hlt
        have GG := Lib.hid hgt
        have SS := Lib.hid (show c1 = c2 → x / Nm.B ^ m = y / Nm.B ^ m from fun h => by omega)
        clear hlt hgt q1 q2 hs k1 k2 he
        rcases Nat.lt_trichotomy c1 c2 with h | h | h
        · have d1 : decide (c1 < c2) = true := decide_eq_true h
          have hr := HR.out
          have h0 : r = -1 := by rw [← hr]; unfold Nm.cmpN; rw [if_pos (GL.out h)]
          subst h0
          go_wp2
          go_quiet (fail)
          go_wp2
          go_ret
          exact ⟨rfl, below_drewN HB.out _⟩
        · subst h
          have d1 : decide (c1 < c1) = false := decide_eq_false (by omega)
          go_wp2
          go_quiet (fail)
          go_wp2
          go_quiet (fail)
          go_wp2
          go_roundw
          case rel => exact ⟨m, by omega, rfl, Lib.hid (by first | exact SS.out rfl | exact SS.out trivial | simpa using SS.out), Lib.hid (by first | exact below_drewN HB.out _ | exact below_drewN (below_drewN HB.out _) _)⟩
          case measure => simp [intOf]
        · have d1 : decide (c1 < c2) = false := decide_eq_false (by omega)
          have d2 : decide (c2 < c1) = true := decide_eq_true h
          have hr := HR.out
          have h0 : r = 1 := by rw [← hr]; unfold Nm.cmpN; have := GG.out h; rw [if_neg (by omega), if_pos this]
          subst h0
          go_wp2
          go_quiet (fail)
          go_wp2
          go_quiet (fail)
          go_wp2
          go_ret
          exact ⟨rfl, by first | exact below_drewN HB.out _ | exact below_drewN (below_drewN HB.out _) _⟩
  · have hd0 : (((L1 : Nat) : Int) != (L2 : Int)) = true := by simp; omega
    by_cases hlt : L1 < L2
    · have hd1 : decide ((L1 : Int) < (L2 : Int)) = true := decide_eq_true (by omega)
      have hd2 : decide (L1 < L2) = true := decide_eq_true hlt
      have hx : x < y := Nm.cmp_len (by omega)
      rw [show Nm.cmpN x y = -1 by unfold Nm.cmpN; rw [if_pos hx], hL1, hL2]
      clear hx hW1 hW2 hL1 hL2
      go_enter Tryz.func128, Tryz.ntmps128
      go_wp2
      go_ret
      exact ⟨rfl, Below.refl _ _⟩
    · have hd1 : decide ((L1 : Int) < (L2 : Int)) = false := decide_eq_false (by omega)
      have hd2 : decide (L1 < L2) = false := decide_eq_false hlt
      have hx : y < x := Nm.cmp_len (by omega)
      rw [show Nm.cmpN x y = 1 by unfold Nm.cmpN; rw [if_neg (by omega), if_pos hx], hL1, hL2]
      clear hx hW1 hW2 hL1 hL2
      go_enter Tryz.func128, Tryz.ntmps128
      go_wp2
      go_ret
      exact ⟨rfl, Below.refl _ _⟩
end Go.Proofs.YthhlhiighgnkmaaGreatDoor.Bg
/-! ## WALKS of the document's whole numbers: From, Plus, Minus. -/
namespace Go.Proofs.YthhlhiighgnkmaaGreatDoor.Bg
set_option linter.unusedVariables false
set_option linter.unusedSimpArgs false
open Go.RowKit
theorem info165 : (Tryz.prog.info? 165).map (fun i => (i.zero, i.size, i.bytes)) = some (some (.int .u32 0), 1, 4) := by kernel_rfl
/-- a row of the call's own -/
def Own (w : World) (base : Nat) (v : Value) (ds : List Nat) : Prop := w.ownsRow base 165 1 v ds.length (cells32 ds)
theorem Own.nil (w : World) (base : Nat) : Own w base (.slice none 0 0) [] := World.ownsRow_nil w base 165 1
theorem Own.below {w w' : World} {base : Nat} {v : Value} {ds : List Nat} (h : Own w base v ds) (hb : Below w.heap.size w w') : Own w' base v ds := by
  obtain ⟨h1, h2⟩ := h
  refine ⟨h1, ?_⟩
  rcases h2 with h2 | ⟨g, cap, cur, hv, hg, hc, h3, h4, h5, h6⟩
  · exact .inl h2
  · exact .inr ⟨g, cap, cur, hv, hg, (hb.block g (Array.getElem?_eq_some_iff.1 hc).1).trans hc, h3, h4, h5, h6⟩
theorem Own.wd {w : World} {base : Nat} {v : Value} {ds : List Nat} (h : Own w base v ds) (hl : ds.length ≤ 1000000) (h32 : ∀ c ∈ ds, c < Nm.B) : ∃ a cap, v = .slice a ds.length cap ∧ ds.length ≤ cap ∧ Wd w a ds := by
  obtain ⟨h1, h2⟩ := h
  rcases h2 with ⟨rfl, h0⟩ | ⟨g, cap, cur, rfl, hg, hc, h3, h4, h5, h6⟩
  · have : ds = [] := List.eq_nil_of_length_eq_zero h0
    subst this
    exact ⟨none, 0, rfl, Nat.le_refl _, Wd.nil _ _⟩
  · refine ⟨_, cap, rfl, h3, hl, h32, fun _ => ⟨g, rfl, (Array.getElem?_eq_some_iff.1 hc).1, fun i hi => ?_⟩⟩
    rw [cell_of_row _ _ _ _ _ _ hc, ← Array.getElem?_toList]
    have := congrArg (fun l => l[i]?) h6
    simp only [Nat.mul_one, List.getElem?_take, if_pos hi, cells32_get ds i hi] at this
    exact this
theorem own_block {w : World} {base : Nat} {v : Value} {ds : List Nat} (h : Own w base v ds) : ∀ k, v.ownBlock = some k → base ≤ k := by
  intro k hk
  rcases h.2 with ⟨rfl, _⟩ | ⟨g, cap, cur, rfl, hg, _⟩
  · cases hk
  · simp only [Value.ownBlock, Option.some.injEq] at hk
    omega
theorem own_shape {w : World} {base : Nat} {v : Value} {ds : List Nat} (h : Own w base v ds) : ∃ a cap, v = .slice a ds.length cap := by
  rcases h.2 with ⟨rfl, h0⟩ | ⟨g, cap, cur, rfl, _⟩
  · exact ⟨none, 0, by rw [h0]⟩
  · exact ⟨_, _, rfl⟩
theorem alloc_row (W : World) (ds : List Nat) (j : Nat) (u : Value) (hu : (cells32 ds)[j]? = some u) : (W.alloc (.cells (cells32 ds).toArray 165)).cell? ((⟨W.heap.size, 0, none⟩ : Addr).add j) = some u := by
  have e : (⟨W.heap.size, 0, none⟩ : Addr).add j = ⟨W.heap.size, j, none⟩ := by unfold Addr.add; split <;> simp_all
  rw [e, cell_of_row _ _ _ _ _ _ (heap_alloc_new W _), List.getElem?_toArray]
  exact hu
theorem lo_bits (n : Nat) (h : n < 2 ^ 64) : bits .and .u64 (n : Int) 4294967295 = ((n % Nm.B : Nat) : Int) := by
  have := u64_and_nat n 4294967295 (by omega) (by decide)
  rw [show ((4294967295 : Nat) : Int) = 4294967295 from rfl] at this
  rw [this]
  congr 1
  exact Nat.and_two_pow_sub_one_eq_mod n 32
theorem from_val (n : Nat) (h : n < 2 ^ 64) : Nm.val [n % Nm.B, n / Nm.B] = n := by
  simp only [Nm.val, Nat.mul_zero, Nat.add_zero]
  rw [Nat.add_comm]
  exact Nat.div_add_mod n Nm.B
theorem from_any (n : Nat) (h : n < 2 ^ 64) (w : World) : Calls Tryz.prog 77 #[.int .u64 (n : Int)] w (BigPost w n) := by
  obtain ⟨i0, hi, hz0, hz1, hz2⟩ := info_parts info165
  have h1 := lo_bits n h
  have h2 : (n : Int) / 4294967296 = ((n / Nm.B : Nat) : Int) := by rw [Nm.B_eq]; omega
  have l1 : n % Nm.B < 4294967296 := Nat.mod_lt _ Nm.B_pos
  have l2 : n / Nm.B < 4294967296 := by rw [Nm.B_eq]; omega
  have hv := from_val n h
  obtain ⟨c, hc⟩ : ∃ c, n % Nm.B = c := ⟨_, rfl⟩
  obtain ⟨d, hd⟩ : ∃ d, n / Nm.B = d := ⟨_, rfl⟩
  rw [hc] at h1 l1 hv
  rw [hd] at h2 l2 hv
  have HV := Lib.hid hv
  clear h hc hd hv
  go_enter Tryz.func77, Tryz.ntmps77
  go_wp2_with (at_builtin; refine wpList_append_own _ rfl (.tmp 4) (.tmp 11) 72 rfl w.heap.size 165 i0 (.int .u32 0) 1 4 Tryz.underlying72 hi hz0 hz1 hz2 rfl (by decide) (.slice none 0 0) 0 [] rfl (World.ownsRow_nil _ _ 165 1) ⟨w.heap.size, 0, none⟩ 2 2 (cells32 [c, d]) rfl rfl (alloc_row w [c, d]) (cells32_one _) (by unfold maxLen; omega) (by omega) (by simp) ?_; intro v2 w2 hown2 hgr2 hne2)
  have hB2 := ((Below.refl w.heap.size w).alloc (Nat.le_refl _) (.cells (cells32 [c, d]).toArray 165)).grown hgr2 (by simp) (fun k hk => by cases hk)
  have ho : Own w2 w.heap.size v2 [c, d] := hown2
  obtain ⟨a2, cap2, rfl, hcap, hwd⟩ := ho.wd (by simp) (by simp [Nm.B_eq]; omega)
  have HB2 := Lib.hid hB2
  have HW := Lib.hid hwd
  clear hown2 hgr2 hne2 hB2 ho hwd
  go_wp2_with fail
  refine (trim_any a2 [c, d] cap2 _ HW.out hcap).mono ?_
  rintro e w3 ⟨⟨v, rfl, hbig⟩, rfl⟩
  have HG := Lib.hid hbig
  clear hbig
  go_wp2
  go_ret
  exact ⟨v, rfl, by rw [← HV.out]; exact HG.out, HB2.out⟩
end Go.Proofs.YthhlhiighgnkmaaGreatDoor.Bg
/-! ## WALKS of the document's whole numbers: Plus. -/
namespace Go.Proofs.YthhlhiighgnkmaaGreatDoor.Bg
set_option linter.unusedVariables false
set_option linter.unusedSimpArgs false
open Go.RowKit
theorem snoc_lt {ds : List Nat} {m : Nat} (h : ∀ c ∈ ds, c < Nm.B) (hm : m < Nm.B) : ∀ c ∈ ds ++ [m], c < Nm.B := by
  intro c hc
  rcases List.mem_append.1 hc with hc | hc
  · exact h c hc
  · rw [List.mem_singleton.1 hc]; exact hm
theorem snoc_val (ds : List Nat) (m : Nat) : Nm.val (ds ++ [m]) = Nm.val ds + Nm.B ^ ds.length * m := by
  rw [Nm.val_append]; simp [Nm.val]
/-- behind an append of one word -/
theorem own_grow {wr w2 : World} {base : Nat} {o v2 : Value} {ds : List Nat} {m : Nat} {wb : World} {ob : Obj} (h : w2.ownsRow base 165 1 v2 (ds.length + 1) (cells32 ds ++ cells32 [m])) (hO : Own wr base o ds) (hg : (wr.alloc ob).grownBy w2 o.ownBlock) (hB : Below base wb wr) (hs : base ≤ wr.heap.size) :
    Own w2 base v2 (ds ++ [m]) ∧ Below base wb w2 := by
  refine ⟨?_, (hB.alloc hs ob).grown hg (by simp; omega) (own_block hO)⟩
  unfold Own
  rw [List.length_append, cells32_append]
  exact h
set_option maxHeartbeats 1000000 in
theorem plus_new (v1 v2 : Value) (x y : Nat) (w : World) (H1 : Big w v1 x) (H2 : Big w v2 y) (hx : (Nm.wds x).length ≤ 900000) (hy : (Nm.wds y).length ≤ 900000) : Calls Tryz.prog 76 #[v1, v2] w (BigNew w (x + y)) := by
  obtain ⟨i0, hi, hz0, hz1, hz2⟩ := info_parts info165
  obtain ⟨a1, cap1, rfl, _, hW1⟩ := H1
  obtain ⟨a2, cap2, rfl, _, hW2⟩ := H2
  obtain ⟨L1, hL1⟩ : ∃ L, (Nm.wds x).length = L := ⟨_, rfl⟩
  obtain ⟨L2, hL2⟩ : ∃ L, (Nm.wds y).length = L := ⟨_, rfl⟩
  have W1 := Lib.hid hW1
  have W2 := Lib.hid hW2
  have X1 := Lib.hid hL1
  have X2 := Lib.hid hL2
  rw [hL1] at hx ⊢
  rw [hL2] at hy ⊢
  clear hW1 hW2 hL1 hL2
  have V0 := Lib.hid (show Nm.val [] + Nm.B ^ 0 * 0 = x % Nm.B ^ 0 + y % Nm.B ^ 0 by simp [Nm.val, Nat.mod_one])
  obtain ⟨M, hM⟩ : ∃ M, max L1 L2 = M := ⟨_, rfl⟩
  have hM1 : L1 ≤ M := by omega
  have hM2 : L2 ≤ M := by omega
  have hM3 : M ≤ 900000 := by omega
  have hM4 := Lib.hid (show M = L1 ∨ M = L2 by omega)
  clear hM
  go_enter Tryz.func76, Tryz.ntmps76
  go_wp2
  go_loopw [5, 6, 7] (fun o c i wr => ∃ (j k : Nat) (ds : List Nat), i = .int .i64 j ∧ c = .int .u64 k ∧ ds.length = j ∧ j ≤ M + 1 ∧ k ≤ 1 ∧ (j = M + 1 → k = 0) ∧ Hid (∀ d ∈ ds, d < Nm.B) ∧ Hid (Nm.val ds + Nm.B ^ j * k = x % Nm.B ^ j + y % Nm.B ^ j) ∧ Hid (Own wr w.heap.size o ds) ∧ Hid (Below w.heap.size w wr)) (fun _ _ i _ => (M + 2 - intOf i).toNat)
  case atStart => exact ⟨0, 0, [], rfl, rfl, rfl, by omega, by omega, fun _ => rfl, Lib.hid (by simp), V0, Lib.hid (Own.nil _ _), Lib.hid (Below.refl _ _)⟩
  case round =>
    obtain ⟨j, k, ds, rfl, rfl, hlen, hj, hk, hjk, HD, HV, HO, HB⟩ := hrel
    have HS := Lib.hid (Below.size HB.out)
    obtain ⟨ao, co, rfl⟩ := own_shape HO.out
    have PS := Nm.plus_step x y j (Nm.val ds) k HV.out
    by_cases hA : j < L1
    · by_cases hB : j < L2
      · have da : decide ((j : Int) < (L1 : Int)) = true := decide_eq_true (by omega)
        have da2 : decide (j < L1) = true := decide_eq_true hA
        obtain ⟨b1, rfl, hb1, hc1⟩ := big_word (W1.out.below HB.out) j (by have := X1.out; omega)
        have lp : x / Nm.B ^ j % Nm.B < 4294967296 := Nat.mod_lt _ Nm.B_pos
        obtain ⟨p, hp⟩ : ∃ p, x / Nm.B ^ j % Nm.B = p := ⟨_, rfl⟩
        rw [hp] at hc1 lp PS
        clear hp
        have db : decide ((j : Int) < (L2 : Int)) = true := decide_eq_true (by omega)
        have db2 : decide (j < L2) = true := decide_eq_true hB
        obtain ⟨b2, rfl, hb2, hc2⟩ := big_word (W2.out.below HB.out) j (by have := X2.out; omega)
        have lq : y / Nm.B ^ j % Nm.B < 4294967296 := Nat.mod_lt _ Nm.B_pos
        obtain ⟨q, hq⟩ : ∃ q, y / Nm.B ^ j % Nm.B = q := ⟨_, rfl⟩
        rw [hq] at hc2 lq PS
        clear hq
        have hlo := lo_bits (k + p + q) (by omega)
        obtain ⟨m, hm⟩ : ∃ m, (k + p + q) % Nm.B = m := ⟨_, rfl⟩
        obtain ⟨k2, hk2⟩ : ∃ t, (k + p + q) / Nm.B = t := ⟨_, rfl⟩
        have lm : m < 4294967296 := by rw [← hm]; exact Nat.mod_lt _ Nm.B_pos
        rw [hm] at hlo
        rw [hm, hk2] at PS
        try simp only [Int.natCast_add] at hlo
        have hcar : ((k : Int) + (p : Int) + (q : Int)) / 4294967296 = (k2 : Int) := by rw [Nm.B_eq] at hk2; omega
        have hk3 : k2 ≤ 1 ∧ (j + 1 = M + 1 → k2 = 0 ∨ (j < L1 ∨ j < L2)) := by
          rw [Nm.B_eq] at hk2
          have := hM4.out
          constructor
          · omega
          · intro hjm
            first | (right; left; assumption) | (right; right; assumption) | (left; omega)
        have HP := Lib.hid PS
        have HL := Lib.hid hlen
        have hjb : j ≤ M := by omega
        have HHK := Lib.hid hjk
        clear PS hm hk2 hlen hjk
        go_wp2_with (at_builtin; refine wpList_append_own _ rfl (.tmp 46) (.tmp 50) 72 rfl w.heap.size 165 i0 (.int .u32 0) 1 4 Tryz.underlying72 hi hz0 hz1 hz2 rfl (by decide) (.slice ao ds.length co) ds.length (cells32 ds) rfl (HO.out.below ((Below.refl _ _).alloc (Nat.le_refl _) _)) ⟨wr.heap.size, 0, none⟩ 1 1 (cells32 [m]) rfl rfl (alloc_row _ [m]) (cells32_one _) (by unfold maxLen; have := HL.out; omega) (by have := HL.out; omega) (by have := HS.out; simp; omega) ?_; intro v2 w2 hown2 hgr2 hne2)
        obtain ⟨g1, g2⟩ := own_grow hown2 HO.out hgr2 HB.out HS.out
        have G1 := Lib.hid g1
        have G2 := Lib.hid g2
        clear hown2 hgr2 hne2 g1 g2
        go_wp2
        go_roundw
        case rel => exact ⟨j + 1, k2, ds ++ [m], rfl, rfl, by rw [List.length_append, HL.out]; rfl, by omega, hk3.1, fun hjm => by have := hk3.2 hjm; omega, Lib.hid (snoc_lt HD.out lm), Lib.hid (by rw [snoc_val, HL.out]; exact HP.out), G1, G2⟩
        case measure => simp [intOf]; omega
      · have da : decide ((j : Int) < (L1 : Int)) = true := decide_eq_true (by omega)
        have da2 : decide (j < L1) = true := decide_eq_true hA
        obtain ⟨b1, rfl, hb1, hc1⟩ := big_word (W1.out.below HB.out) j (by have := X1.out; omega)
        have lp : x / Nm.B ^ j % Nm.B < 4294967296 := Nat.mod_lt _ Nm.B_pos
        obtain ⟨p, hp⟩ : ∃ p, x / Nm.B ^ j % Nm.B = p := ⟨_, rfl⟩
        rw [hp] at hc1 lp PS
        clear hp
        have db : decide ((j : Int) < (L2 : Int)) = false := decide_eq_false (by omega)
        have db2 : decide (j < L2) = false := decide_eq_false hB
        have hq : y / Nm.B ^ j % Nm.B = 0 := Nm.word_zero (by have := X2.out; omega)
        rw [hq, Nat.add_zero] at PS
        clear hq
        have hlo := lo_bits (k + p) (by omega)
        obtain ⟨m, hm⟩ : ∃ m, (k + p) % Nm.B = m := ⟨_, rfl⟩
        obtain ⟨k2, hk2⟩ : ∃ t, (k + p) / Nm.B = t := ⟨_, rfl⟩
        have lm : m < 4294967296 := by rw [← hm]; exact Nat.mod_lt _ Nm.B_pos
        rw [hm] at hlo
        rw [hm, hk2] at PS
        try simp only [Int.natCast_add] at hlo
        have hcar : ((k : Int) + (p : Int)) / 4294967296 = (k2 : Int) := by rw [Nm.B_eq] at hk2; omega
        have hk3 : k2 ≤ 1 ∧ (j + 1 = M + 1 → k2 = 0 ∨ (j < L1 ∨ j < L2)) := by
          rw [Nm.B_eq] at hk2
          have := hM4.out
          constructor
          · omega
          · intro hjm
            first | (right; left; assumption) | (right; right; assumption) | (left; omega)
        have HP := Lib.hid PS
        have HL := Lib.hid hlen
        have hjb : j ≤ M := by omega
        have HHK := Lib.hid hjk
        clear PS hm hk2 hlen hjk
        go_wp2_with (at_builtin; refine wpList_append_own _ rfl (.tmp 46) (.tmp 50) 72 rfl w.heap.size 165 i0 (.int .u32 0) 1 4 Tryz.underlying72 hi hz0 hz1 hz2 rfl (by decide) (.slice ao ds.length co) ds.length (cells32 ds) rfl (HO.out.below ((Below.refl _ _).alloc (Nat.le_refl _) _)) ⟨wr.heap.size, 0, none⟩ 1 1 (cells32 [m]) rfl rfl (alloc_row _ [m]) (cells32_one _) (by unfold maxLen; have := HL.out; omega) (by have := HL.out; omega) (by have := HS.out; simp; omega) ?_; intro v2 w2 hown2 hgr2 hne2)
        obtain ⟨g1, g2⟩ := own_grow hown2 HO.out hgr2 HB.out HS.out
        have G1 := Lib.hid g1
        have G2 := Lib.hid g2
        clear hown2 hgr2 hne2 g1 g2
        go_wp2
        go_roundw
        case rel => exact ⟨j + 1, k2, ds ++ [m], rfl, rfl, by rw [List.length_append, HL.out]; rfl, by omega, hk3.1, fun hjm => by have := hk3.2 hjm; omega, Lib.hid (snoc_lt HD.out lm), Lib.hid (by rw [snoc_val, HL.out]; exact HP.out), G1, G2⟩
        case measure => simp [intOf]; omega
    · by_cases hB : j < L2
      · have da : decide ((j : Int) < (L1 : Int)) = false := decide_eq_false (by omega)
        have da2 : decide (j < L1) = false := decide_eq_false hA
        have hp : x / Nm.B ^ j % Nm.B = 0 := Nm.word_zero (by have := X1.out; omega)
        rw [hp, Nat.add_zero] at PS
        clear hp
        have db : decide ((j : Int) < (L2 : Int)) = true := decide_eq_true (by omega)
        have db2 : decide (j < L2) = true := decide_eq_true hB
        obtain ⟨b2, rfl, hb2, hc2⟩ := big_word (W2.out.below HB.out) j (by have := X2.out; omega)
        have lq : y / Nm.B ^ j % Nm.B < 4294967296 := Nat.mod_lt _ Nm.B_pos
        obtain ⟨q, hq⟩ : ∃ q, y / Nm.B ^ j % Nm.B = q := ⟨_, rfl⟩
        rw [hq] at hc2 lq PS
        clear hq
        have hlo := lo_bits (k + q) (by omega)
        obtain ⟨m, hm⟩ : ∃ m, (k + q) % Nm.B = m := ⟨_, rfl⟩
        obtain ⟨k2, hk2⟩ : ∃ t, (k + q) / Nm.B = t := ⟨_, rfl⟩
        have lm : m < 4294967296 := by rw [← hm]; exact Nat.mod_lt _ Nm.B_pos
        rw [hm] at hlo
        rw [hm, hk2] at PS
        try simp only [Int.natCast_add] at hlo
        have hcar : ((k : Int) + (q : Int)) / 4294967296 = (k2 : Int) := by rw [Nm.B_eq] at hk2; omega
        have hk3 : k2 ≤ 1 ∧ (j + 1 = M + 1 → k2 = 0 ∨ (j < L1 ∨ j < L2)) := by
          rw [Nm.B_eq] at hk2
          have := hM4.out
          constructor
          · omega
          · intro hjm
            first | (right; left; assumption) | (right; right; assumption) | (left; omega)
        have HP := Lib.hid PS
        have HL := Lib.hid hlen
        have hjb : j ≤ M := by omega
        have HHK := Lib.hid hjk
        clear PS hm hk2 hlen hjk
        go_wp2_with (at_builtin; refine wpList_append_own _ rfl (.tmp 46) (.tmp 50) 72 rfl w.heap.size 165 i0 (.int .u32 0) 1 4 Tryz.underlying72 hi hz0 hz1 hz2 rfl (by decide) (.slice ao ds.length co) ds.length (cells32 ds) rfl (HO.out.below ((Below.refl _ _).alloc (Nat.le_refl _) _)) ⟨wr.heap.size, 0, none⟩ 1 1 (cells32 [m]) rfl rfl (alloc_row _ [m]) (cells32_one _) (by unfold maxLen; have := HL.out; omega) (by have := HL.out; omega) (by have := HS.out; simp; omega) ?_; intro v2 w2 hown2 hgr2 hne2)
        obtain ⟨g1, g2⟩ := own_grow hown2 HO.out hgr2 HB.out HS.out
        have G1 := Lib.hid g1
        have G2 := Lib.hid g2
        clear hown2 hgr2 hne2 g1 g2
        go_wp2
        go_roundw
        case rel => exact ⟨j + 1, k2, ds ++ [m], rfl, rfl, by rw [List.length_append, HL.out]; rfl, by omega, hk3.1, fun hjm => by have := hk3.2 hjm; omega, Lib.hid (snoc_lt HD.out lm), Lib.hid (by rw [snoc_val, HL.out]; exact HP.out), G1, G2⟩
        case measure => simp [intOf]; omega
      · by_cases hC : 0 < k
        · have da : decide ((j : Int) < (L1 : Int)) = false := decide_eq_false (by omega)
          have da2 : decide (j < L1) = false := decide_eq_false hA
          have hp : x / Nm.B ^ j % Nm.B = 0 := Nm.word_zero (by have := X1.out; omega)
          rw [hp, Nat.add_zero] at PS
          clear hp
          have db : decide ((j : Int) < (L2 : Int)) = false := decide_eq_false (by omega)
          have db2 : decide (j < L2) = false := decide_eq_false hB
          have hq : y / Nm.B ^ j % Nm.B = 0 := Nm.word_zero (by have := X2.out; omega)
          rw [hq, Nat.add_zero] at PS
          clear hq
          have dc : decide ((0 : Int) < (k : Int)) = true := decide_eq_true (by omega)
          have dc2 : decide (0 < k) = true := decide_eq_true hC
          have hlo := lo_bits (k) (by omega)
          obtain ⟨m, hm⟩ : ∃ m, (k) % Nm.B = m := ⟨_, rfl⟩
          obtain ⟨k2, hk2⟩ : ∃ t, (k) / Nm.B = t := ⟨_, rfl⟩
          have lm : m < 4294967296 := by rw [← hm]; exact Nat.mod_lt _ Nm.B_pos
          rw [hm] at hlo
          rw [hm, hk2] at PS
          try simp only [Int.natCast_add] at hlo
          have hcar : ((k : Int)) / 4294967296 = (k2 : Int) := by rw [Nm.B_eq] at hk2; omega
          have hk3 : k2 ≤ 1 ∧ (j + 1 = M + 1 → k2 = 0 ∨ (j < L1 ∨ j < L2)) := by
            rw [Nm.B_eq] at hk2
            have := hM4.out
            constructor
            · omega
            · intro hjm
              first | (right; left; assumption) | (right; right; assumption) | (left; omega)
          have HP := Lib.hid PS
          have HL := Lib.hid hlen
          have hjb : j ≤ M := by have := hjk; omega
          have HHK := Lib.hid hjk
          clear PS hm hk2 hlen hjk
          go_wp2_with (at_builtin; refine wpList_append_own _ rfl (.tmp 46) (.tmp 50) 72 rfl w.heap.size 165 i0 (.int .u32 0) 1 4 Tryz.underlying72 hi hz0 hz1 hz2 rfl (by decide) (.slice ao ds.length co) ds.length (cells32 ds) rfl (HO.out.below ((Below.refl _ _).alloc (Nat.le_refl _) _)) ⟨wr.heap.size, 0, none⟩ 1 1 (cells32 [m]) rfl rfl (alloc_row _ [m]) (cells32_one _) (by unfold maxLen; have := HL.out; omega) (by have := HL.out; omega) (by have := HS.out; simp; omega) ?_; intro v2 w2 hown2 hgr2 hne2)
          obtain ⟨g1, g2⟩ := own_grow hown2 HO.out hgr2 HB.out HS.out
          have G1 := Lib.hid g1
          have G2 := Lib.hid g2
          clear hown2 hgr2 hne2 g1 g2
          go_wp2
          go_roundw
          case rel => exact ⟨j + 1, k2, ds ++ [m], rfl, rfl, by rw [List.length_append, HL.out]; rfl, by omega, hk3.1, fun hjm => by have := hk3.2 hjm; omega, Lib.hid (snoc_lt HD.out lm), Lib.hid (by rw [snoc_val, HL.out]; exact HP.out), G1, G2⟩
          case measure => simp [intOf]; omega
        · have da : decide ((j : Int) < (L1 : Int)) = false := decide_eq_false (by omega)
          have da2 : decide (j < L1) = false := decide_eq_false hA
          have hp : x / Nm.B ^ j % Nm.B = 0 := Nm.word_zero (by have := X1.out; omega)
          rw [hp, Nat.add_zero] at PS
          clear hp
          have db : decide ((j : Int) < (L2 : Int)) = false := decide_eq_false (by omega)
          have db2 : decide (j < L2) = false := decide_eq_false hB
          have hq : y / Nm.B ^ j % Nm.B = 0 := Nm.word_zero (by have := X2.out; omega)
          rw [hq, Nat.add_zero] at PS
          clear hq
          have dc : decide ((0 : Int) < (k : Int)) = false := decide_eq_false (by omega)
          have dc2 : decide (0 < k) = false := decide_eq_false hC
          obtain rfl : k = 0 := by omega
          have hv := HV.out
          rw [Nat.mul_zero, Nat.add_zero, Nm.mod_all (by have := X1.out; omega), Nm.mod_all (by have := X2.out; omega)] at hv
          clear PS
          obtain ⟨a3, c3, he3, hcap3, hwd⟩ := HO.out.wd (by omega) HD.out
          cases he3
          have HW := Lib.hid hwd
          clear hwd
          subst hlen
          go_wp2_with fail
          refine (trim_new ao ds co _ HW.out hcap3).mono ?_
          rintro e w3 ⟨⟨v, rfl, hbig, hfr⟩, rfl⟩
          have HG := Lib.hid hbig
          have HF := Lib.hid (hfr _ (own_block HO.out))
          clear hbig hfr
          go_wp2
          go_ret
          exact ⟨v, rfl, by rw [← hv]; exact HG.out, HB.out, HF.out⟩
theorem plus_any (v1 v2 : Value) (x y : Nat) (w : World) (H1 : Big w v1 x) (H2 : Big w v2 y) (hx : (Nm.wds x).length ≤ 900000) (hy : (Nm.wds y).length ≤ 900000) : Calls Tryz.prog 76 #[v1, v2] w (BigPost w (x + y)) :=
  (plus_new v1 v2 x y w H1 H2 hx hy).mono fun _ _ h => h.post
end Go.Proofs.YthhlhiighgnkmaaGreatDoor.Bg
/-! ## WALKS of the document's whole numbers: Up. -/
namespace Go.Proofs.YthhlhiighgnkmaaGreatDoor.Bg
set_option linter.unusedVariables false
set_option linter.unusedSimpArgs false
open Go.RowKit
theorem zero_cells (n : Nat) : List.replicate n (Value.int .u32 0) = cells32 (List.replicate n 0) := by
  unfold cells32; rw [List.map_replicate]; rfl
theorem val_zeros (n : Nat) : Nm.val (List.replicate n 0) = 0 := by
  induction n with
  | zero => rfl
  | succ n ih => rw [List.replicate_succ]; simp [Nm.val, ih]
theorem up_step (x i q r V c : Nat) (h : V + Nm.B ^ (q + i) * c = x % Nm.B ^ i * (Nm.B ^ q * 2 ^ r)) :
    V + Nm.B ^ (q + i) * ((x / Nm.B ^ i % Nm.B * 2 ^ r + c) % Nm.B) + Nm.B ^ (q + (i + 1)) * ((x / Nm.B ^ i % Nm.B * 2 ^ r + c) / Nm.B) = x % Nm.B ^ (i + 1) * (Nm.B ^ q * 2 ^ r) := by
  rw [Nm.mod_next, ← Nat.add_assoc q i 1, Nat.pow_succ Nm.B (q + i), Nat.add_mul]
  generalize x / Nm.B ^ i % Nm.B = p at *
  have e : Nm.B ^ i * p * (Nm.B ^ q * 2 ^ r) = Nm.B ^ (q + i) * (p * 2 ^ r) := by
    rw [Nat.pow_add, Nat.mul_assoc, Nat.mul_comm (Nm.B ^ q) (Nm.B ^ i), Nat.mul_assoc, Nat.mul_left_comm p]
  rw [e, ← h]
  have e2 := Nat.div_add_mod (p * 2 ^ r + c) Nm.B
  generalize Nm.B ^ (q + i) = P at *
  have e3 : P * (p * 2 ^ r + c) = P * (Nm.B * ((p * 2 ^ r + c) / Nm.B)) + P * ((p * 2 ^ r + c) % Nm.B) := by rw [← Nat.mul_add, e2]
  rw [Nat.mul_add] at e3
  rw [Nat.mul_assoc P Nm.B]
  omega
theorem shl_or (p r c : Nat) (hp : p < 4294967296) (hr : r < 32) (hc : c < 2 ^ r) : IntKind.u64.wrap ((p : Int) * 2 ^ r) = ((p * 2 ^ r : Nat) : Int) ∧ bits .or .u64 ((p * 2 ^ r : Nat) : Int) (c : Int) = ((p * 2 ^ r + c : Nat) : Int) ∧ p * 2 ^ r + c < 2 ^ 64 ∧ (p * 2 ^ r + c) / Nm.B < 2 ^ r := by
  have h32 : (2 : Nat) ^ r ≤ 2 ^ 31 := Nat.pow_le_pow_right (by decide) (by omega)
  have hm : (p + 1) * 2 ^ r ≤ 4294967296 * 2 ^ r := Nat.mul_le_mul_right _ hp
  rw [Nat.add_mul, Nat.one_mul] at hm
  have hlt : p * 2 ^ r + c < 2 ^ 64 := by omega
  refine ⟨?_, ?_, hlt, ?_⟩
  · have e : (p : Int) * 2 ^ r = ((p * 2 ^ r : Nat) : Int) := by simp
    rw [e, IntKind.wrap_u64]; omega
  · rw [u64_or_nat _ _ (by omega) (by omega)]
    congr 1
    exact nat_join r (p * 2 ^ r) c (Nat.mul_mod_left _ _) hc
  · rw [Nat.div_lt_iff_lt_mul Nm.B_pos, Nm.B_eq]; omega
set_option maxRecDepth 100000 in
set_option maxHeartbeats 1000000 in
theorem up_new (v1 : Value) (x k : Nat) (w : World) (H1 : Big w v1 x) (hx : (Nm.wds x).length ≤ 400000) (hk : k ≤ 10000000) : Calls Tryz.prog 92 #[v1, .int .i64 (k : Int)] w (BigNew w (x * 2 ^ k)) := by
  obtain ⟨i0, hi, hz0, hz1, hz2⟩ := info_parts info165
  obtain ⟨a1, cap1, rfl, _, hW1⟩ := H1
  obtain ⟨L1, hL1⟩ : ∃ L, (Nm.wds x).length = L := ⟨_, rfl⟩
  have W1 := Lib.hid hW1
  have X1 := Lib.hid hL1
  rw [hL1] at hx ⊢
  clear hW1 hL1
  obtain ⟨q, hq⟩ : ∃ q, k / 32 = q := ⟨_, rfl⟩
  obtain ⟨r, hr⟩ : ∃ r, k % 32 = r := ⟨_, rfl⟩
  have hkq : 2 ^ k = Nm.B ^ q * 2 ^ r := by rw [Nm.Bp, ← Nat.pow_add]; congr 1; omega
  have hq1 : Int.tdiv (k : Int) 32 = (q : Int) := by rw [Int.tdiv_eq_ediv_of_nonneg (by omega)]; omega
  have hq2 : (k : Int) / 32 = (q : Int) := by omega
  have hq3 : q ≤ 400000 := by omega
  have V0 := Lib.hid (show Nm.val (List.replicate q 0) + Nm.B ^ (q + 0) * 0 = x % Nm.B ^ 0 * (Nm.B ^ q * 2 ^ r) by rw [val_zeros]; simp [Nat.mod_one])
  rw [hkq]
  have HR := Lib.hid (show r < 32 by omega)
  have HKR := Lib.hid hr
  clear hkq hq hr
  go_enter Tryz.func92, Tryz.ntmps92
  go_wp2_with (at_make; refine wpList_make_full _ rfl _ _ 72 rfl w.heap.size 165 i0 (.int .u32 0) 1 Tryz.underlying72 hi hz0 hz1 .i64 .i64 _ _ q rfl rfl rfl rfl (by rw [hz2]; omega) (by unfold maxLen; omega) (Nat.le_refl _) ?_; intro w1 hown1 hgr1)
  have hO1 : Own w1 w.heap.size (.slice (some ⟨w.heap.size, 0, none⟩) q q) (List.replicate q 0) := by
    unfold Own
    rw [← zero_cells, List.length_replicate]
    have := hown1
    rw [show (Value.int .u32 0).cells = #[Value.int .u32 0] from rfl, toList_madeCells_one, Nat.mul_one] at this
    exact this
  have O1 := Lib.hid hO1
  have B1 := Lib.hid ((Below.refl w.heap.size w).grown hgr1 (Nat.le_refl _) (fun k hk => by cases hk))
  clear hown1 hgr1 hO1
  go_wp2
  go_loopw [5, 6, 7, 8] (fun o c i _ wr => ∃ (j k : Nat) (ds : List Nat), i = .int .i64 j ∧ c = .int .u64 k ∧ ds.length = q + j ∧ j ≤ L1 ∧ Hid (k < 2 ^ r) ∧ Hid (∀ d ∈ ds, d < Nm.B) ∧ Hid (Nm.val ds + Nm.B ^ (q + j) * k = x % Nm.B ^ j * (Nm.B ^ q * 2 ^ r)) ∧ Hid (Own wr w.heap.size o ds) ∧ Hid (Below w.heap.size w wr)) (fun _ _ i _ _ => (L1 + 1 - intOf i).toNat)
  case atStart => exact ⟨0, 0, List.replicate q 0, rfl, rfl, by simp, by omega, Lib.hid (Nat.two_pow_pos r), Lib.hid (fun d hd => by rw [(List.mem_replicate.1 hd).2]; exact Nm.B_pos), V0, O1, B1⟩
  case round =>
    obtain ⟨j, c, ds, rfl, rfl, hlen, hj, HC, HD, HV, HO, HB⟩ := hrel
    have HS := Lib.hid (Below.size HB.out)
    obtain ⟨ao, co, rfl⟩ := own_shape HO.out
    have HL := Lib.hid hlen
    clear hlen
    by_cases hA : j < L1
    · have da : decide ((j : Int) < (L1 : Int)) = true := decide_eq_true (by omega)
      have da2 : decide (j < L1) = true := decide_eq_true hA
      obtain ⟨b1, rfl, hb1, hc1⟩ := big_word (W1.out.below HB.out) j (by have := X1.out; omega)
      have lp : x / Nm.B ^ j % Nm.B < 4294967296 := Nat.mod_lt _ Nm.B_pos
      have PS := up_step x j q r (Nm.val ds) c HV.out
      obtain ⟨p, hp⟩ : ∃ p, x / Nm.B ^ j % Nm.B = p := ⟨_, rfl⟩
      rw [hp] at hc1 lp PS
      obtain ⟨s1, s2, s3, s4⟩ := shl_or p r c lp HR.out HC.out
      rw [← HKR.out] at s1
      have hlo := lo_bits (p * 2 ^ r + c) s3
      obtain ⟨P, hP⟩ : ∃ P, p * 2 ^ (k % 32) = P := ⟨_, rfl⟩
      have hP2 : p * 2 ^ r = P := by rw [← hP, HKR.out]
      obtain ⟨T, hT⟩ : ∃ T, p * 2 ^ r + c = T := ⟨_, rfl⟩
      rw [hP] at s1
      rw [hT] at s2 s3 s4 hlo PS
      rw [hP2] at s2
      obtain ⟨m, hm⟩ : ∃ m, T % Nm.B = m := ⟨_, rfl⟩
      obtain ⟨c2, hc2⟩ : ∃ t, T / Nm.B = t := ⟨_, rfl⟩
      have lm : m < 4294967296 := by rw [← hm]; exact Nat.mod_lt _ Nm.B_pos
      rw [hm] at hlo PS
      rw [hc2] at PS s4
      have hcar : (T : Int) / 4294967296 = (c2 : Int) := by rw [Nm.B_eq] at hc2; omega
      have HP := Lib.hid PS
      have H4 := Lib.hid s4
      clear PS s4 hm hc2 hT hP hP2 hp
      go_wp2_with (at_builtin; refine wpList_append_own _ rfl (.tmp 29) (.tmp 33) 72 rfl w.heap.size 165 i0 (.int .u32 0) 1 4 Tryz.underlying72 hi hz0 hz1 hz2 rfl (by decide) (.slice ao ds.length co) ds.length (cells32 ds) rfl (HO.out.below ((Below.refl _ _).alloc (Nat.le_refl _) _)) ⟨wr.heap.size, 0, none⟩ 1 1 (cells32 [m]) rfl rfl (alloc_row _ [m]) (cells32_one _) (by unfold maxLen; have := HL.out; omega) (by have := HL.out; omega) (by have := HS.out; simp; omega) ?_; intro v2 w2 hown2 hgr2 hne2)
      obtain ⟨g1, g2⟩ := own_grow hown2 HO.out hgr2 HB.out HS.out
      have G1 := Lib.hid g1
      have G2 := Lib.hid g2
      clear hown2 hgr2 hne2 g1 g2
      go_wp2
      go_roundw
      case rel => exact ⟨j + 1, c2, ds ++ [m], rfl, rfl, by rw [List.length_append, HL.out]; rfl, by omega, H4, Lib.hid (snoc_lt HD.out lm), Lib.hid (by rw [snoc_val, HL.out]; exact HP.out), G1, G2⟩
      case measure => simp [intOf]; omega
    · have da : decide ((j : Int) < (L1 : Int)) = false := decide_eq_false (by omega)
      have da2 : decide (j < L1) = false := decide_eq_false hA
      obtain rfl : j = L1 := by omega
      have hv := HV.out
      rw [Nm.mod_all (by have := X1.out; omega)] at hv
      have hcl : c < 4294967296 := by
        have h1 := HC.out
        have h2 : (2 : Nat) ^ r ≤ 2 ^ 32 := Nat.pow_le_pow_right (by decide) (by have := HR.out; omega)
        omega
      go_wp2_with (at_builtin; refine wpList_append_own _ rfl (.tmp 37) (.tmp 40) 72 rfl w.heap.size 165 i0 (.int .u32 0) 1 4 Tryz.underlying72 hi hz0 hz1 hz2 rfl (by decide) (.slice ao ds.length co) ds.length (cells32 ds) rfl (HO.out.below ((Below.refl _ _).alloc (Nat.le_refl _) _)) ⟨wr.heap.size, 0, none⟩ 1 1 (cells32 [c]) rfl rfl (alloc_row _ [c]) (cells32_one _) (by unfold maxLen; have := HL.out; omega) (by have := HL.out; omega) (by have := HS.out; simp; omega) ?_; intro v2 w2 hown2 hgr2 hne2)
      obtain ⟨g1, g2⟩ := own_grow hown2 HO.out hgr2 HB.out HS.out
      obtain ⟨a3, c3, rfl, hcap3, hwd⟩ := g1.wd (by rw [List.length_append, HL.out]; simp; omega) (snoc_lt HD.out hcl)
      have HW := Lib.hid hwd
      have G2 := Lib.hid g2
      have FR := Lib.hid (show Fresh w.heap.size (.slice a3 (ds ++ [c]).length c3) from own_block g1)
      have HV2 := Lib.hid (show Nm.val (ds ++ [c]) = x * (Nm.B ^ q * 2 ^ r) by rw [snoc_val, HL.out]; exact hv)
      obtain ⟨es, hes⟩ : ∃ es, ds ++ [c] = es := ⟨_, rfl⟩
      rw [hes] at hcap3 HW HV2 FR ⊢
      clear hown2 hgr2 hne2 g1 g2 hwd hes hv
      go_wp2_with fail
      refine (trim_new a3 es c3 _ HW.out hcap3).mono ?_
      rintro e w3 ⟨⟨v, rfl, hbig, hfr⟩, rfl⟩
      have HG := Lib.hid hbig
      have HF := Lib.hid (hfr _ FR.out)
      clear hbig hfr
      go_wp2
      go_ret
      exact ⟨v, rfl, by rw [← HV2.out]; exact HG.out, G2.out, HF.out⟩
theorem up_any (v1 : Value) (x k : Nat) (w : World) (H1 : Big w v1 x) (hx : (Nm.wds x).length ≤ 400000) (hk : k ≤ 10000000) : Calls Tryz.prog 92 #[v1, .int .i64 (k : Int)] w (BigPost w (x * 2 ^ k)) :=
  (up_new v1 x k w H1 hx hk).mono fun _ _ h => h.post
end Go.Proofs.YthhlhiighgnkmaaGreatDoor.Bg
/-! ## WALKS of the document's whole numbers: Minus. -/
namespace Go.Proofs.YthhlhiighgnkmaaGreatDoor.Bg
set_option linter.unusedVariables false
set_option linter.unusedSimpArgs false
open Go.RowKit
set_option maxHeartbeats 1000000 in
theorem minus_new (v1 v2 : Value) (x y : Nat) (w : World) (H1 : Big w v1 x) (H2 : Big w v2 y) (hx : (Nm.wds x).length ≤ 900000) (hyx : y ≤ x) : Calls Tryz.prog 173 #[v1, v2] w (BigNew w (x - y)) := by
  obtain ⟨i0, hi, hz0, hz1, hz2⟩ := info_parts info165
  obtain ⟨a1, cap1, rfl, _, hW1⟩ := H1
  obtain ⟨a2, cap2, rfl, _, hW2⟩ := H2
  have hly := Nm.wds_mono hyx
  obtain ⟨L1, hL1⟩ : ∃ L, (Nm.wds x).length = L := ⟨_, rfl⟩
  obtain ⟨L2, hL2⟩ : ∃ L, (Nm.wds y).length = L := ⟨_, rfl⟩
  have W1 := Lib.hid hW1
  have W2 := Lib.hid hW2
  have X1 := Lib.hid hL1
  have X2 := Lib.hid hL2
  have HYX := Lib.hid hyx
  rw [hL1] at hx hly ⊢
  rw [hL2] at hly ⊢
  clear hW1 hW2 hL1 hL2 hyx
  have V0 := Lib.hid (show Nm.val [] + y % Nm.B ^ 0 = x % Nm.B ^ 0 + Nm.B ^ 0 * 0 by simp [Nm.val, Nat.mod_one])
  go_enter Tryz.func173, Tryz.ntmps173
  go_wp2
  go_loopw [5, 6, 7, 8, 9] (fun o c i _ _ wr => ∃ (j k : Nat) (ds : List Nat), i = .int .i64 j ∧ c = .int .u64 k ∧ ds.length = j ∧ j ≤ L1 ∧ k ≤ 1 ∧ Hid (∀ d ∈ ds, d < Nm.B) ∧ Hid (Nm.val ds + y % Nm.B ^ j = x % Nm.B ^ j + Nm.B ^ j * k) ∧ Hid (Own wr w.heap.size o ds) ∧ Hid (Below w.heap.size w wr)) (fun _ _ i _ _ _ => (L1 + 1 - intOf i).toNat)
  case atStart => exact ⟨0, 0, [], rfl, rfl, rfl, by omega, by omega, Lib.hid (by simp), V0, Lib.hid (Own.nil _ _), Lib.hid (Below.refl _ _)⟩
  case round =>
    obtain ⟨j, k, ds, rfl, rfl, hlen, hj, hk, HD, HV, HO, HB⟩ := hrel
    have HS := Lib.hid (Below.size HB.out)
    obtain ⟨ao, co, rfl⟩ := own_shape HO.out
    have HL := Lib.hid hlen
    clear hlen
    by_cases hA : j < L1
    · have da : decide ((j : Int) < (L1 : Int)) = true := decide_eq_true (by omega)
      have da2 : decide (j < L1) = true := decide_eq_true hA
      obtain ⟨b1, rfl, hb1, hc1⟩ := big_word (W1.out.below HB.out) j (by have := X1.out; omega)
      have lp : x / Nm.B ^ j % Nm.B < 4294967296 := Nat.mod_lt _ Nm.B_pos
      have PS := Nm.minus_step x y j (Nm.val ds) k HV.out
      obtain ⟨p, hp⟩ : ∃ p, x / Nm.B ^ j % Nm.B = p := ⟨_, rfl⟩
      rw [hp] at hc1 lp PS
      clear hp
      by_cases hB : j < L2
      · have db : decide ((j : Int) < (L2 : Int)) = true := decide_eq_true (by omega)
        have db2 : decide (j < L2) = true := decide_eq_true hB
        obtain ⟨b2, rfl, hb2, hc2⟩ := big_word (W2.out.below HB.out) j (by have := X2.out; omega)
        have lq : y / Nm.B ^ j % Nm.B < 4294967296 := Nat.mod_lt _ Nm.B_pos
        obtain ⟨q, hq⟩ : ∃ q, y / Nm.B ^ j % Nm.B = q := ⟨_, rfl⟩
        rw [hq] at hc2 lq PS
        clear hq
        have hy2 : k + q ≤ 4294967296 := by omega
        have PS2 := PS.resolve_right (by rw [Nm.B_eq]; omega)
        clear PS
        by_cases hlt : p < k + q
        · have dl : decide ((p : Int) < (k : Int) + (q : Int)) = true := decide_eq_true (by omega)
          have dl2 : decide (p < k + q) = true := decide_eq_true hlt
          rw [if_pos hlt, if_pos hlt] at PS2
          obtain ⟨m, hm⟩ : ∃ m, p + Nm.B - (k + q) = m := ⟨_, rfl⟩
          rw [hm] at PS2
          rw [Nm.B_eq] at hm
          have lm : m < 4294967296 := by omega
          have hsub : (p : Int) + 4294967296 - ((k : Int) + (q : Int)) = (m : Int) := by omega
          have HP := Lib.hid PS2
          clear PS2 hm
          go_wp2_with (at_builtin; refine wpList_append_own _ rfl (.tmp 38) (.tmp 43) 72 rfl w.heap.size 165 i0 (.int .u32 0) 1 4 Tryz.underlying72 hi hz0 hz1 hz2 rfl (by decide) (.slice ao ds.length co) ds.length (cells32 ds) rfl (HO.out.below ((Below.refl _ _).alloc (Nat.le_refl _) _)) ⟨wr.heap.size, 0, none⟩ 1 1 (cells32 [m]) rfl rfl (alloc_row _ [m]) (cells32_one _) (by unfold maxLen; have := HL.out; omega) (by have := HL.out; omega) (by have := HS.out; simp; omega) ?_; intro v2 w2 hown2 hgr2 hne2)
          obtain ⟨g1, g2⟩ := own_grow hown2 HO.out hgr2 HB.out HS.out
          have G1 := Lib.hid g1
          have G2 := Lib.hid g2
          clear hown2 hgr2 hne2 g1 g2
          go_wp2
          go_roundw
          case rel => exact ⟨j + 1, 1, ds ++ [m], rfl, rfl, by rw [List.length_append, HL.out]; rfl, by omega, by omega, Lib.hid (snoc_lt HD.out lm), Lib.hid (by rw [snoc_val, HL.out]; exact HP.out), G1, G2⟩
          case measure => simp [intOf]; omega
        · have dl : decide ((p : Int) < (k : Int) + (q : Int)) = false := decide_eq_false (by omega)
          have dl2 : decide (p < k + q) = false := decide_eq_false hlt
          rw [if_neg hlt, if_neg hlt] at PS2
          obtain ⟨m, hm⟩ : ∃ m, p - (k + q) = m := ⟨_, rfl⟩
          rw [hm] at PS2
          have lm : m < 4294967296 := by omega
          have hsub : (p : Int) - ((k : Int) + (q : Int)) = (m : Int) := by omega
          have HP := Lib.hid PS2
          clear PS2 hm
          go_wp2_with (at_builtin; refine wpList_append_own _ rfl (.tmp 38) (.tmp 43) 72 rfl w.heap.size 165 i0 (.int .u32 0) 1 4 Tryz.underlying72 hi hz0 hz1 hz2 rfl (by decide) (.slice ao ds.length co) ds.length (cells32 ds) rfl (HO.out.below ((Below.refl _ _).alloc (Nat.le_refl _) _)) ⟨wr.heap.size, 0, none⟩ 1 1 (cells32 [m]) rfl rfl (alloc_row _ [m]) (cells32_one _) (by unfold maxLen; have := HL.out; omega) (by have := HL.out; omega) (by have := HS.out; simp; omega) ?_; intro v2 w2 hown2 hgr2 hne2)
          obtain ⟨g1, g2⟩ := own_grow hown2 HO.out hgr2 HB.out HS.out
          have G1 := Lib.hid g1
          have G2 := Lib.hid g2
          clear hown2 hgr2 hne2 g1 g2
          go_wp2
          go_roundw
          case rel => exact ⟨j + 1, 0, ds ++ [m], rfl, rfl, by rw [List.length_append, HL.out]; rfl, by omega, by omega, Lib.hid (snoc_lt HD.out lm), Lib.hid (by rw [snoc_val, HL.out]; exact HP.out), G1, G2⟩
          case measure => simp [intOf]; omega
      · have db : decide ((j : Int) < (L2 : Int)) = false := decide_eq_false (by omega)
        have db2 : decide (j < L2) = false := decide_eq_false hB
        have hq : y / Nm.B ^ j % Nm.B = 0 := Nm.word_zero (by have := X2.out; omega)
        rw [hq, Nat.add_zero] at PS
        clear hq
        have hy2 : k ≤ 4294967296 := by omega
        have PS2 := PS.resolve_right (by rw [Nm.B_eq]; omega)
        clear PS
        by_cases hlt : p < k
        · have dl : decide ((p : Int) < (k : Int)) = true := decide_eq_true (by omega)
          have dl2 : decide (p < k) = true := decide_eq_true hlt
          rw [if_pos hlt, if_pos hlt] at PS2
          obtain ⟨m, hm⟩ : ∃ m, p + Nm.B - (k) = m := ⟨_, rfl⟩
          rw [hm] at PS2
          rw [Nm.B_eq] at hm
          have lm : m < 4294967296 := by omega
          have hsub : (p : Int) + 4294967296 - ((k : Int)) = (m : Int) := by omega
          have HP := Lib.hid PS2
          clear PS2 hm
          go_wp2_with (at_builtin; refine wpList_append_own _ rfl (.tmp 38) (.tmp 43) 72 rfl w.heap.size 165 i0 (.int .u32 0) 1 4 Tryz.underlying72 hi hz0 hz1 hz2 rfl (by decide) (.slice ao ds.length co) ds.length (cells32 ds) rfl (HO.out.below ((Below.refl _ _).alloc (Nat.le_refl _) _)) ⟨wr.heap.size, 0, none⟩ 1 1 (cells32 [m]) rfl rfl (alloc_row _ [m]) (cells32_one _) (by unfold maxLen; have := HL.out; omega) (by have := HL.out; omega) (by have := HS.out; simp; omega) ?_; intro v2 w2 hown2 hgr2 hne2)
          obtain ⟨g1, g2⟩ := own_grow hown2 HO.out hgr2 HB.out HS.out
          have G1 := Lib.hid g1
          have G2 := Lib.hid g2
          clear hown2 hgr2 hne2 g1 g2
          go_wp2
          go_roundw
          case rel => exact ⟨j + 1, 1, ds ++ [m], rfl, rfl, by rw [List.length_append, HL.out]; rfl, by omega, by omega, Lib.hid (snoc_lt HD.out lm), Lib.hid (by rw [snoc_val, HL.out]; exact HP.out), G1, G2⟩
          case measure => simp [intOf]; omega
        · have dl : decide ((p : Int) < (k : Int)) = false := decide_eq_false (by omega)
          have dl2 : decide (p < k) = false := decide_eq_false hlt
          rw [if_neg hlt, if_neg hlt] at PS2
          obtain ⟨m, hm⟩ : ∃ m, p - (k) = m := ⟨_, rfl⟩
          rw [hm] at PS2
          have lm : m < 4294967296 := by omega
          have hsub : (p : Int) - ((k : Int)) = (m : Int) := by omega
          have HP := Lib.hid PS2
          clear PS2 hm
          go_wp2_with (at_builtin; refine wpList_append_own _ rfl (.tmp 38) (.tmp 43) 72 rfl w.heap.size 165 i0 (.int .u32 0) 1 4 Tryz.underlying72 hi hz0 hz1 hz2 rfl (by decide) (.slice ao ds.length co) ds.length (cells32 ds) rfl (HO.out.below ((Below.refl _ _).alloc (Nat.le_refl _) _)) ⟨wr.heap.size, 0, none⟩ 1 1 (cells32 [m]) rfl rfl (alloc_row _ [m]) (cells32_one _) (by unfold maxLen; have := HL.out; omega) (by have := HL.out; omega) (by have := HS.out; simp; omega) ?_; intro v2 w2 hown2 hgr2 hne2)
          obtain ⟨g1, g2⟩ := own_grow hown2 HO.out hgr2 HB.out HS.out
          have G1 := Lib.hid g1
          have G2 := Lib.hid g2
          clear hown2 hgr2 hne2 g1 g2
          go_wp2
          go_roundw
          case rel => exact ⟨j + 1, 0, ds ++ [m], rfl, rfl, by rw [List.length_append, HL.out]; rfl, by omega, by omega, Lib.hid (snoc_lt HD.out lm), Lib.hid (by rw [snoc_val, HL.out]; exact HP.out), G1, G2⟩
          case measure => simp [intOf]; omega
    · have da : decide ((j : Int) < (L1 : Int)) = false := decide_eq_false (by omega)
      have da2 : decide (j < L1) = false := decide_eq_false hA
      obtain rfl : j = L1 := by omega
      have hv := HV.out
      rw [Nm.mod_all (x := x) (by have := X1.out; omega), Nm.mod_all (x := y) (by have := X2.out; omega)] at hv
      have hlt := Nm.val_lt HD.out
      rw [HL.out] at hlt
      have hv2 : Nm.val ds = x - y := by
        have := HYX.out
        have hk2 : k = 0 ∨ k = 1 := by omega
        rcases hk2 with rfl | rfl
        · rw [Nat.mul_zero] at hv; omega
        · rw [Nat.mul_one] at hv; omega
      have HV2 := Lib.hid hv2
      obtain ⟨a3, c3, he3, hcap3, hwd⟩ := HO.out.wd (by have := HL.out; omega) HD.out
      cases he3
      have HW := Lib.hid hwd
      clear hwd hv hv2 hlt
      go_wp2_with fail
      refine (trim_new ao ds co _ HW.out hcap3).mono ?_
      rintro e w3 ⟨⟨v, rfl, hbig, hfr⟩, rfl⟩
      have HG := Lib.hid hbig
      have HF := Lib.hid (hfr _ (own_block HO.out))
      clear hbig hfr
      go_wp2
      go_ret
      exact ⟨v, rfl, by rw [← HV2.out]; exact HG.out, HB.out, HF.out⟩
end Go.Proofs.YthhlhiighgnkmaaGreatDoor.Bg
/-! ## WALKS of the document's whole numbers: Times. -/
namespace Go.Proofs.YthhlhiighgnkmaaGreatDoor.Bg
set_option linter.unusedVariables false
set_option linter.unusedSimpArgs false
open Go.RowKit
theorem val_set {ds : List Nat} {i c : Nat} (hi : i < ds.length) : Nm.val (ds.set i c) + Nm.B ^ i * ds[i] = Nm.val ds + Nm.B ^ i * c := by
  induction ds generalizing i with
  | nil => simp at hi
  | cons d ds ih =>
    cases i with
    | zero => simp [Nm.val]; omega
    | succ i =>
      have h := ih (i := i) (by simpa using hi)
      simp only [List.set_cons_succ, Nm.val, List.getElem_cons_succ, Nat.pow_succ]
      generalize ds[i]'(by simpa using hi) = e at *
      rw [Nat.mul_comm (Nm.B ^ i) Nm.B, Nat.mul_assoc, Nat.mul_assoc, Nat.add_assoc, ← Nat.mul_add, h, Nat.mul_add]
      omega
theorem set_lt {ds : List Nat} {i c : Nat} (h : ∀ d ∈ ds, d < Nm.B) (hc : c < Nm.B) : ∀ d ∈ ds.set i c, d < Nm.B := by
  intro d hd
  rcases List.mem_or_eq_of_mem_set hd with h1 | h1
  · exact h d h1
  · rw [h1]; exact hc
/-- a row at the head of a block -/
def At (w : World) (g : Nat) (ds : List Nat) : Prop := Own w g (.slice (some ⟨g, 0, none⟩) ds.length ds.length) ds
theorem At.cell {w : World} {g : Nat} {ds : List Nat} (h : At w g ds) (i : Nat) (hi : i < ds.length) : w.cell? ⟨g, i, none⟩ = some (.int .u32 ((ds[i] : Nat) : Int)) ∧ w.frozen? ⟨g, i, none⟩ = false := by
  rcases h.2 with ⟨h1, _⟩ | ⟨g', cap, cur, hv, hg, hc, h3, h4, h5, h6⟩
  · cases h1
  · cases hv
    refine ⟨?_, frozen_of_row _ _ _ _ _ hc⟩
    rw [cell_of_row _ _ _ _ _ _ hc, ← Array.getElem?_toList]
    have := congrArg (fun l => l[i]?) h6
    simp only [Nat.mul_one, List.getElem?_take, if_pos hi, cells32_get ds i hi] at this
    exact this
theorem At.set {w : World} {g : Nat} {ds : List Nat} (h : At w g ds) (i c : Nat) (hi : i < ds.length) : At (w.setCell ⟨g, i, none⟩ (.int .u32 (c : Int))) g (ds.set i c) := by
  rcases h.2 with ⟨h1, _⟩ | ⟨g', cap, cur, hv, hg, hc, h3, h4, h5, h6⟩
  · cases h1
  · cases hv
    refine ⟨by rw [cells32_length, Nat.mul_one], .inr ⟨g, ds.length, cur.setIfInBounds i (.int .u32 (c : Int)), by rw [List.length_set], Nat.le_refl _, heap_setCell_same _ _ _ _ _ _ hc, by simp, h4, by simpa using h5, ?_⟩⟩
    rw [List.length_set, Nat.mul_one] at *
    rw [Array.toList_setIfInBounds, List.take_set, h6]
    unfold cells32
    rw [List.map_set]
theorem At.lt {w : World} {g : Nat} {ds : List Nat} (h : At w g ds) : g < w.heap.size := by
  rcases h.2 with ⟨h1, _⟩ | ⟨g', cap, cur, hv, hg, hc, h3, h4, h5, h6⟩
  · cases h1
  · cases hv
    exact (Array.getElem?_eq_some_iff.1 hc).1
theorem At.below {w w' : World} {g : Nat} {ds : List Nat} (h : At w g ds) (hb : Below w.heap.size w w') : At w' g ds := Own.below h hb
theorem At.wd {w : World} {g : Nat} {ds : List Nat} (h : At w g ds) (hl : ds.length ≤ 1000000) (h32 : ∀ c ∈ ds, c < Nm.B) : Wd w (some ⟨g, 0, none⟩) ds := by
  obtain ⟨a, cap, hv, hc, hw⟩ := Own.wd h hl h32
  cases hv
  exact hw
/-- a new row of noughts -/
theorem at_made {w1 : World} {g q : Nat} (hown : w1.ownsRow g 165 1 (.slice (some ⟨g, 0, none⟩) q q) q (madeCells (Value.int .u32 0).cells (q * 1)).toList) : At w1 g (List.replicate q 0) := by
  unfold At Own
  rw [← zero_cells, List.length_replicate]
  rw [show (Value.int .u32 0).cells = #[Value.int .u32 0] from rfl, toList_madeCells_one, Nat.mul_one] at hown
  exact hown
/-- the step of a product -/
theorem times_step (V V2 P0 y p c d t i k : Nat) (h : V + Nm.B ^ (i + k) * c = P0 + p * (y % Nm.B ^ k) * Nm.B ^ i) (hs : V2 + Nm.B ^ (i + k) * d = V + Nm.B ^ (i + k) * (t % Nm.B)) (ht : t = c + d + p * (y / Nm.B ^ k % Nm.B)) :
    V2 + Nm.B ^ (i + (k + 1)) * (t / Nm.B) = P0 + p * (y % Nm.B ^ (k + 1)) * Nm.B ^ i := by
  rw [Nm.mod_next, ← Nat.add_assoc i k 1, Nat.pow_succ Nm.B (i + k), Nat.mul_add, Nat.add_mul]
  generalize y / Nm.B ^ k % Nm.B = q at *
  have e : p * (Nm.B ^ k * q) * Nm.B ^ i = Nm.B ^ (i + k) * (p * q) := by
    rw [Nat.pow_add, Nat.mul_left_comm p, Nat.mul_comm _ (Nm.B ^ i), Nat.mul_assoc]
  rw [e]
  have e2 := Nat.div_add_mod t Nm.B
  generalize Nm.B ^ (i + k) = P at *
  have e3 : P * t = P * (Nm.B * (t / Nm.B)) + P * (t % Nm.B) := by rw [← Nat.mul_add, e2]
  have e4 : P * t = P * c + P * d + P * (p * q) := by rw [ht, Nat.mul_add, Nat.mul_add]
  rw [Nat.mul_assoc P Nm.B]
  omega
def Zero (ds : List Nat) (n : Nat) : Prop := ∀ t (h : t < ds.length), n ≤ t → ds[t] = 0
theorem Zero.set {ds : List Nat} {n i c : Nat} (h : Zero ds n) (hi : i < n) : Zero (ds.set i c) n := by
  intro t ht hn
  rw [List.getElem_set_ne (by omega)]
  exact h t (by simpa using ht) hn
theorem pq_bound (p q : Nat) (hp : p < 4294967296) (hq : q < 4294967296) : p * q ≤ 18446744065119617025 := Nat.mul_le_mul (show p ≤ 4294967295 by omega) (show q ≤ 4294967295 by omega)
set_option maxRecDepth 100000 in
set_option maxHeartbeats 2000000 in
theorem times_any (v1 v2 : Value) (x y : Nat) (w : World) (H1 : Big w v1 x) (H2 : Big w v2 y) (hx : (Nm.wds x).length ≤ 400000) (hy : (Nm.wds y).length ≤ 400000) : Calls Tryz.prog 94 #[v1, v2] w (BigPost w (x * y)) := by
  obtain ⟨i0, hi, hz0, hz1, hz2⟩ := info_parts info165
  obtain ⟨a1, cap1, rfl, _, hW1⟩ := H1
  obtain ⟨a2, cap2, rfl, _, hW2⟩ := H2
  obtain ⟨L1, hL1⟩ : ∃ L, (Nm.wds x).length = L := ⟨_, rfl⟩
  obtain ⟨L2, hL2⟩ : ∃ L, (Nm.wds y).length = L := ⟨_, rfl⟩
  have W1 := Lib.hid hW1
  have W2 := Lib.hid hW2
  have X1 := Lib.hid hL1
  have X2 := Lib.hid hL2
  rw [hL1] at hx ⊢
  rw [hL2] at hy ⊢
  clear hW1 hW2 hL1 hL2
  go_enter Tryz.func94, Tryz.ntmps94
  go_wp2_with (at_make; refine wpList_make_full _ rfl _ _ 72 rfl w.heap.size 165 i0 (.int .u32 0) 1 Tryz.underlying72 hi hz0 hz1 .i64 .i64 _ _ (L1 + L2) rfl rfl (by simp) (by simp) (by rw [hz2]; omega) (by unfold maxLen; omega) (Nat.le_refl _) ?_; intro w1 hown1 hgr1)
  have A1 := Lib.hid (at_made hown1)
  have B1 := Lib.hid ((Below.refl w.heap.size w).grown hgr1 (Nat.le_refl _) (fun k hk => by cases hk))
  clear hown1 hgr1
  obtain ⟨g, hg⟩ : ∃ g, w.heap.size = g := ⟨_, rfl⟩
  rw [hg] at A1 ⊢
  obtain ⟨n, hn⟩ : ∃ n, L1 + L2 = n := ⟨_, rfl⟩
  have HN := Lib.hid hn
  have hn8 : n ≤ 800000 := by omega
  have HG := Lib.hid hg
  rw [hn] at A1 ⊢
  clear hn hg
  have V0 := Lib.hid (show Nm.val (List.replicate n 0) = x % Nm.B ^ 0 * y by rw [val_zeros]; simp [Nat.mod_one])
  go_wp2
  go_loopw [6, 7, 8] (fun i _ _ wr => ∃ (j : Nat) (ds : List Nat), i = .int .i64 j ∧ j ≤ L1 ∧ Hid (ds.length = n) ∧ Hid (∀ d ∈ ds, d < Nm.B) ∧ Hid (Zero ds (j + L2)) ∧ Hid (Nm.val ds = x % Nm.B ^ j * y) ∧ Hid (At wr g ds) ∧ Hid (Below w.heap.size w wr)) (fun i _ _ _ => (L1 + 1 - intOf i).toNat)
  case atStart => exact ⟨0, List.replicate n 0, rfl, by omega, Lib.hid (by simp), Lib.hid (fun d hd => by rw [(List.mem_replicate.1 hd).2]; exact Nm.B_pos), Lib.hid (fun t ht _ => by simp), V0, A1, B1⟩
  case round =>
    obtain ⟨j, ds0, rfl, hj, HL0, HD0, HZ0, HV0, HA0, HB0⟩ := hrel
    by_cases hA : j < L1
    · have da : decide ((j : Int) < (L1 : Int)) = true := decide_eq_true (by omega)
      have da2 : decide (j < L1) = true := decide_eq_true hA
      have lp : x / Nm.B ^ j % Nm.B < 4294967296 := Nat.mod_lt _ Nm.B_pos
      obtain ⟨b1, rfl, hb1, _⟩ := big_word (W1.out.below HB0.out) j (by have := X1.out; omega)
      obtain ⟨p, hp⟩ : ∃ p, x / Nm.B ^ j % Nm.B = p := ⟨_, rfl⟩
      have HP := Lib.hid hp
      rw [hp] at lp
      clear hp
      have I0 := Lib.hid (show Nm.val ds0 + Nm.B ^ (j + 0) * 0 = Nm.val ds0 + p * (y % Nm.B ^ 0) * Nm.B ^ j by simp [Nat.mod_one])
      go_wp2
      go_loopw [7, 8] (fun c i wr2 => ∃ (k c2 : Nat) (ds : List Nat), i = .int .i64 k ∧ c = .int .u64 c2 ∧ k ≤ L2 ∧ c2 < 4294967296 ∧ Hid (ds.length = n) ∧ Hid (∀ d ∈ ds, d < Nm.B) ∧ Hid (Zero ds (j + L2)) ∧ Hid (Nm.val ds + Nm.B ^ (j + k) * c2 = Nm.val ds0 + p * (y % Nm.B ^ k) * Nm.B ^ j) ∧ Hid (At wr2 g ds) ∧ Hid (Below w.heap.size w wr2)) (fun _ i _ => (L2 + 1 - intOf i).toNat)
      case atStart => exact ⟨0, 0, ds0, rfl, rfl, by omega, by omega, HL0, HD0, HZ0, I0, HA0, HB0⟩
      case round =>
        obtain ⟨k, c, ds, rfl, rfl, hk, hc, HL, HD, HZ, HV, HAt, HB⟩ := hrel
        have hg := HAt.out.lt
        by_cases hC : k < L2
        · have dc : decide ((k : Int) < (L2 : Int)) = true := decide_eq_true (by omega)
          have dc2 : decide (k < L2) = true := decide_eq_true hC
          obtain ⟨b1', hbb, hb1', hc1⟩ := big_word (W1.out.below HB.out) j (by have := X1.out; omega)
          cases hbb
          obtain ⟨b2, rfl, hb2, hc2⟩ := big_word (W2.out.below HB.out) k (by have := X2.out; omega)
          have lq : y / Nm.B ^ k % Nm.B < 4294967296 := Nat.mod_lt _ Nm.B_pos
          have hidx : j + k < ds.length := by have := HL.out; have := HN.out; omega
          obtain ⟨hcell, hfz⟩ := HAt.out.cell (j + k) hidx
          have ld : ds[j + k] < 4294967296 := HD.out _ (List.getElem_mem hidx)
          have VS := fun c' => val_set (c := c') hidx
          obtain ⟨d, hd⟩ : ∃ d, ds[j + k] = d := ⟨_, rfl⟩
          rw [hd] at hcell ld
          rw [HP.out] at hc1
          obtain ⟨q, hq⟩ : ∃ q, y / Nm.B ^ k % Nm.B = q := ⟨_, rfl⟩
          rw [hq] at hc2 lq
          obtain ⟨P, hP⟩ : ∃ P, p * q = P := ⟨_, rfl⟩
          have hPQ : (p : Int) * (q : Int) = (P : Int) := by rw [← hP]; simp
          have lP : P ≤ 18446744065119617025 := by rw [← hP]; exact pq_bound p q lp lq
          have TS := times_step (Nm.val ds) (Nm.val (ds.set (j + k) ((c + d + P) % Nm.B))) (Nm.val ds0) y p c d (c + d + P) j k HV.out (by rw [← hd]; exact VS _) (by rw [hq, hP])
          have hlo := lo_bits (c + d + P) (by omega)
          obtain ⟨m, hm⟩ : ∃ m, (c + d + P) % Nm.B = m := ⟨_, rfl⟩
          obtain ⟨c3, hc3⟩ : ∃ m, (c + d + P) / Nm.B = m := ⟨_, rfl⟩
          rw [hm] at TS hlo
          rw [hc3] at TS
          have lm : m < 4294967296 := by rw [← hm]; exact Nat.mod_lt _ Nm.B_pos
          simp only [Int.natCast_add] at hlo
          have hcar : ((c : Int) + (d : Int) + (P : Int)) / 4294967296 = (c3 : Int) := by rw [Nm.B_eq] at hc3; omega
          have lc3 : c3 < 4294967296 := by rw [Nm.B_eq] at hc3; omega
          have HT := Lib.hid TS
          have HI := Lib.hid hidx
          have hjkn : j + k < n := by rw [← HL.out]; exact hidx
          clear TS hm hc3 hP hq hd VS hidx
          go_wp2
          go_quiet (fail)
          go_wp2
          exact ⟨⟨k + 1, c3, ds.set (j + k) m, rfl, rfl, by omega, lc3, Lib.hid (by rw [List.length_set]; exact HL.out), Lib.hid (set_lt HD.out lm), Lib.hid (HZ.out.set (by omega)), HT, Lib.hid ((HAt.out.below (below_drewN (Below.refl _ _) _)).set _ _ HI.out), Lib.hid ((below_drewN HB.out _).setCell (by have := HG.out; show w.heap.size ≤ g; omega) _)⟩, by simp [intOf]; omega⟩
        · have dc : decide ((k : Int) < (L2 : Int)) = false := decide_eq_false (by omega)
          have dc2 : decide (k < L2) = false := decide_eq_false hC
          obtain rfl : k = L2 := by omega
          have hidx : j + k < ds.length := by have := HL.out; have := HN.out; omega
          obtain ⟨hcell, hfz⟩ := HAt.out.cell (j + k) hidx
          have hz := HZ.out (j + k) hidx (Nat.le_refl _)
          have VS := val_set (c := c) hidx
          rw [hz] at hcell
          rw [hz, Nat.mul_zero, Nat.add_zero, HV.out, Nm.mod_all (x := y) (by have := X2.out; omega)] at VS
          have hnx := Nm.mod_next x j
          rw [HP.out] at hnx
          have HT := Lib.hid (show Nm.val (ds.set (j + k) c) = x % Nm.B ^ (j + 1) * y by
            rw [VS, HV0.out, hnx, Nat.add_mul, Nat.mul_assoc (Nm.B ^ j), Nat.mul_comm (Nm.B ^ j)])
          have HI := Lib.hid hidx
          have hjkn : j + k < n := by rw [← HL.out]; exact hidx
          have HZ2 := Lib.hid (show Zero (ds.set (j + k) c) (j + 1 + k) from Zero.set (fun t ht hn => HZ.out t ht (by omega)) (by omega))
          clear VS hnx hz hidx
          go_wp2
          exact ⟨⟨j + 1, ds.set (j + k) c, rfl, by omega, Lib.hid (by rw [List.length_set]; exact HL.out), Lib.hid (set_lt HD.out hc), HZ2, HT, Lib.hid (HAt.out.set _ _ HI.out), Lib.hid (HB.out.setCell (by have := HG.out; show w.heap.size ≤ g; omega) _)⟩, by simp [intOf]; omega⟩
    · have da : decide ((j : Int) < (L1 : Int)) = false := decide_eq_false (by omega)
      have da2 : decide (j < L1) = false := decide_eq_false hA
      obtain rfl : j = L1 := by omega
      have hv := HV0.out
      rw [Nm.mod_all (x := x) (by have := X1.out; omega)] at hv
      have hwd := HA0.out.wd (by have := HL0.out; omega) HD0.out
      have HW := Lib.hid hwd
      have HV2 := Lib.hid hv
      have CT := trim_any (some ⟨g, 0, none⟩) ds0 ds0.length wr HW.out (Nat.le_refl _)
      rw [HL0.out] at CT
      have HCT := Lib.hid CT
      clear hwd hv CT
      go_wp2_with fail
      refine HCT.out.mono ?_
      rintro e w3 ⟨⟨v, rfl, hbig⟩, rfl⟩
      have HG2 := Lib.hid hbig
      clear hbig
      go_wp2
      go_ret
      exact ⟨v, rfl, by rw [← HV2.out]; exact HG2.out, HB0.out⟩
end Go.Proofs.YthhlhiighgnkmaaGreatDoor.Bg
/-! ## WALKS of the document's whole numbers: Parts, Root. -/
namespace Go.Proofs.YthhlhiighgnkmaaGreatDoor.Bg
set_option linter.unusedVariables false
set_option linter.unusedSimpArgs false
open Go.RowKit
theorem div_bit (x m : Nat) : x / 2 ^ m = x / 2 ^ (m + 1) * 2 + (x.testBit m).toNat := by
  rw [Nat.pow_succ, ← Nat.div_div_eq_div_mul, Nat.testBit_eq_decide_div_mod_eq]
  generalize x / 2 ^ m = y
  rcases Nat.mod_two_eq_zero_or_one y with h | h <;> rw [h] <;> simp <;> omega
/-- one step of a long division -/
theorem long_step (x y m : Nat) (hy : 0 < y) :
    (x / 2 ^ m % y = (if x / 2 ^ (m + 1) % y * 2 + (x.testBit m).toNat < y then x / 2 ^ (m + 1) % y * 2 + (x.testBit m).toNat else x / 2 ^ (m + 1) % y * 2 + (x.testBit m).toNat - y)) ∧
    (x / 2 ^ m / y * 2 ^ m = x / 2 ^ (m + 1) / y * 2 ^ (m + 1) + (if x / 2 ^ (m + 1) % y * 2 + (x.testBit m).toNat < y then 0 else 2 ^ m)) := by
  have hb := div_bit x m
  have hbt : (x.testBit m).toNat ≤ 1 := by cases x.testBit m <;> decide
  generalize (x.testBit m).toNat = b at *
  have hq := Nat.div_add_mod (x / 2 ^ (m + 1)) y
  have hr := Nat.mod_lt (x / 2 ^ (m + 1)) hy
  generalize x / 2 ^ (m + 1) = X at *
  rw [hb]
  generalize hQ : X / y = Q at *
  generalize hR : X % y = R at *
  have e : X * 2 + b = y * (Q * 2) + (R * 2 + b) := by
    rw [← hq, Nat.add_mul, Nat.mul_assoc]; omega
  rw [e]
  by_cases h : R * 2 + b < y
  · rw [if_pos h, if_pos h, Nat.mul_add_mod, Nat.mod_eq_of_lt h, Nat.mul_add_div hy, Nat.div_eq_of_lt h, Nat.add_zero, Nat.add_zero, Nat.pow_succ, Nat.mul_assoc, Nat.mul_comm 2]
    exact ⟨rfl, rfl⟩
  · rw [if_neg h, if_neg h]
    have h2 : R * 2 + b - y < y := by omega
    have e2 : y * (Q * 2) + (R * 2 + b) = y * (Q * 2 + 1) + (R * 2 + b - y) := by rw [Nat.mul_add, Nat.mul_one]; omega
    rw [e2, Nat.mul_add_mod, Nat.mod_eq_of_lt h2, Nat.mul_add_div hy, Nat.div_eq_of_lt h2, Nat.add_zero, Nat.add_mul, Nat.one_mul, Nat.pow_succ, Nat.mul_assoc, Nat.mul_comm 2]
    exact ⟨rfl, rfl⟩
/-- a bit that is not there is set -/
theorem set_bit (q V m : Nat) (hV : V = q * 2 ^ (m + 1)) (r : Nat) (hr : m % 32 = r) : bits .or .u32 ((V / Nm.B ^ (m / 32) % Nm.B : Nat) : Int) ((2 ^ r : Nat) : Int) = ((V / Nm.B ^ (m / 32) % Nm.B + 2 ^ r : Nat) : Int) ∧ V / Nm.B ^ (m / 32) % Nm.B + 2 ^ r < Nm.B := by
  have hr32 : r < 32 := by omega
  have e1 : V / Nm.B ^ (m / 32) = q * 2 ^ (r + 1) := by
    rw [hV, Nm.Bp, show m + 1 = r + 1 + 32 * (m / 32) by omega, Nat.pow_add, ← Nat.mul_assoc, Nat.mul_div_cancel _ (Nat.two_pow_pos _)]
  rw [e1]
  have hl : q * 2 ^ (r + 1) % Nm.B < Nm.B := Nat.mod_lt _ Nm.B_pos
  have hz : q * 2 ^ (r + 1) % Nm.B % 2 ^ (r + 1) = 0 := by
    rw [Nm.B_pow, show 32 = r + 1 + (31 - r) by omega, Nat.pow_add 2 (r + 1) (31 - r), Nat.mod_mul_right_mod, Nat.mul_mod_left]
  have hp : 2 ^ r < 2 ^ (r + 1) := Nat.pow_lt_pow_right (by decide) (by omega)
  have h32 : (2 : Nat) ^ (r + 1) ≤ 2 ^ 32 := Nat.pow_le_pow_right (by decide) (by omega)
  have hB : Nm.B % 2 ^ (r + 1) = 0 := by
    rw [Nm.B_pow, show 32 = r + 1 + (31 - r) by omega, Nat.pow_add 2 (r + 1) (31 - r), Nat.mul_mod_right]
  generalize q * 2 ^ (r + 1) % Nm.B = W at *
  have hlt : W + 2 ^ (r + 1) ≤ Nm.B := by
    obtain ⟨a, ha⟩ := Nat.dvd_of_mod_eq_zero hz
    obtain ⟨b, hb⟩ := Nat.dvd_of_mod_eq_zero hB
    rw [ha, hb] at hl ⊢
    have : a < b := Nat.lt_of_mul_lt_mul_left hl
    have h2 := Nat.mul_le_mul_left (2 ^ (r + 1)) (show a + 1 ≤ b from this)
    rw [Nat.mul_add, Nat.mul_one] at h2
    exact h2
  constructor
  · rw [u32_or_nat W (2 ^ r) (by rw [Nm.B_eq] at hl; exact hl) (by omega)]
    congr 1
    exact nat_join (r + 1) W (2 ^ r) hz hp
  · omega
theorem wds_double (r : Nat) : (Nm.wds (r * 2 ^ 1)).length ≤ (Nm.wds r).length + 1 := by
  refine Nm.wds_len ?_
  have := Nm.lt_wds r
  show r * 2 < Nm.B ^ ((Nm.wds r).length + 1)
  rw [Nat.pow_succ]
  have h2 : Nm.B ^ (Nm.wds r).length * 2 ≤ Nm.B ^ (Nm.wds r).length * Nm.B := Nat.mul_le_mul_left _ (by decide)
  omega
theorem wds_double1 (r : Nat) : (Nm.wds (r * 2 ^ 1 + 1)).length ≤ (Nm.wds r).length + 1 := by
  refine Nm.wds_len ?_
  have := Nm.lt_wds r
  show r * 2 + 1 < Nm.B ^ ((Nm.wds r).length + 1)
  rw [Nat.pow_succ]
  have h2 : Nm.B ^ (Nm.wds r).length * 2 ≤ Nm.B ^ (Nm.wds r).length * Nm.B := Nat.mul_le_mul_left _ (by decide)
  omega
theorem two_small (r : Nat) (h : r < 32) : ((2 ^ r : Nat) : Int) = 2 ^ r % 4294967296 := by
  have h2 : (2 : Nat) ^ r ≤ 2 ^ 31 := Nat.pow_le_pow_right (by decide) (by omega)
  have e : ((2 ^ r : Nat) : Int) = 2 ^ r := by simp
  rw [← e]
  generalize (2 : Nat) ^ r = n at h2 ⊢
  omega
def PartsPost (w : World) (q r : Nat) (e : Ending) (w' : World) : Prop := ∃ v1 v2, e = .returned (.tuple #[v1, v2]) ∧ Big w' v1 q ∧ Big w' v2 r ∧ Below w.heap.size w w'
theorem Big.fresh_set {w : World} {v : Value} {n g i : Nat} {u : Value} (h : Big w v n) (hf : Fresh (g + 1) v) : Big (w.setCell ⟨g, i, none⟩ u) v n := by
  obtain ⟨a, cap, rfl, hc, h1, h2, h3⟩ := h
  refine ⟨a, cap, rfl, hc, h1, h2, fun hn => ?_⟩
  obtain ⟨b, rfl, hb, hcell⟩ := h3 hn
  have hbg : g + 1 ≤ b := hf b rfl
  refine ⟨b, rfl, by simpa [World.setCell] using hb, fun k hk => ?_⟩
  rw [← hcell k hk]
  exact World.cell?_of_block (w := w) (Below.heap_setCell w ⟨g, i, none⟩ u b (by show b ≠ g; omega))
theorem Fresh.mono {N M : Nat} {v : Value} (h : Fresh N v) (hm : M ≤ N) : Fresh M v := fun k hk => Nat.le_trans hm (h k hk)
set_option maxRecDepth 100000 in
set_option maxHeartbeats 4000000 in
theorem parts_any (v1 v2 : Value) (x y : Nat) (w : World) (H1 : Big w v1 x) (H2 : Big w v2 y) (hx : (Nm.wds x).length ≤ 300000) (hl : (Nm.wds y).length ≤ 300000) (hy : 0 < y) : Calls Tryz.prog 127 #[v1, v2] w (PartsPost w (x / y) (x % y)) := by
  obtain ⟨i0, hi, hz0, hz1, hz2⟩ := info_parts info165
  obtain ⟨a1, cap1, rfl, hcap1, hW1⟩ := H1
  obtain ⟨L1, hL1⟩ : ∃ L, (Nm.wds x).length = L := ⟨_, rfl⟩
  have HB1 : Hid (Big w (.slice a1 L1 cap1) x) := Lib.hid ⟨a1, cap1, by rw [hL1], hcap1, hW1⟩
  have HB2 := Lib.hid H2
  have X1 := Lib.hid hL1
  have HLY := Lib.hid hl
  have HY := Lib.hid hy
  rw [hL1] at hx ⊢
  obtain ⟨N, hN⟩ : ∃ N, Nm.nb x = N := ⟨_, rfl⟩
  have hN2 : N ≤ 32 * L1 := by
    have h1 := Nm.lt_wds x
    rw [hL1, Nm.Bp] at h1
    rw [← hN]
    exact (Nm.nb_le_iff x _).2 h1
  have hxN : x / 2 ^ N = 0 := by rw [← hN]; exact Nat.div_eq_of_lt (Nm.nb_lt x)
  have HN := Lib.hid hN
  have HXN := Lib.hid hxN
  clear hW1 hL1 hcap1 H2 hl hN hxN hy
  go_enter Tryz.func127, Tryz.ntmps127
  go_wp2_with (at_make; refine wpList_make_full _ rfl _ _ 72 rfl w.heap.size 165 i0 (.int .u32 0) 1 Tryz.underlying72 hi hz0 hz1 .i64 .i64 _ _ L1 rfl rfl rfl rfl (by rw [hz2]; omega) (by unfold maxLen; omega) (Nat.le_refl _) ?_; intro w1 hown1 hgr1)
  have A1 := Lib.hid (at_made hown1)
  have B1 := Lib.hid ((Below.refl w.heap.size w).grown hgr1 (Nat.le_refl _) (fun k hk => by cases hk))
  clear hown1 hgr1
  obtain ⟨g, hg⟩ : ∃ g, w.heap.size = g := ⟨_, rfl⟩
  rw [hg] at A1 ⊢
  have HG := Lib.hid hg
  clear hg
  go_wp2_with fail
  refine (bits_any _ x _ (HB1.out.below B1.out)).mono ?_
  rintro e w2 ⟨rfl, rfl⟩
  rw [HN.out]
  have V0 := Lib.hid (show Nm.val (List.replicate L1 0) = x / 2 ^ N / y * 2 ^ N by rw [val_zeros, HXN.out]; simp)
  have R0 := Lib.hid (show Big w2 (.slice none 0 0) (x / 2 ^ N % y) by rw [HXN.out, Nat.zero_mod]; exact Big.nil _)
  go_wp2
  go_loopw [7, 8] (fun r i wr => ∃ (j : Nat) (ds : List Nat), i = .int .i64 ((j : Int) - 1) ∧ j ≤ N ∧ Hid (Big wr r (x / 2 ^ j % y)) ∧ Hid (ds.length = L1) ∧ Hid (∀ d ∈ ds, d < Nm.B) ∧ Hid (Nm.val ds = x / 2 ^ j / y * 2 ^ j) ∧ Hid (At wr g ds) ∧ Hid (Below w.heap.size w wr)) (fun _ i _ => (intOf i + 1).toNat)
  case atStart => exact ⟨N, List.replicate L1 0, rfl, Nat.le_refl _, R0, Lib.hid (by simp), Lib.hid (fun d hd => by rw [(List.mem_replicate.1 hd).2]; exact Nm.B_pos), V0, A1, B1⟩
  case round =>
    obtain ⟨j, ds, rfl, hj, HR, HL, HD, HV, HAt, HB⟩ := hrel
    cases j with
    | zero =>
      have hv := HV.out
      have hr := HR.out
      rw [Nat.pow_zero, Nat.div_one, Nat.mul_one] at hv
      rw [Nat.pow_zero, Nat.div_one] at hr
      have hwd := HAt.out.wd (by have := HL.out; omega) HD.out
      have CT := trim_any (some ⟨g, 0, none⟩) ds ds.length wr hwd (Nat.le_refl _)
      rw [HL.out] at CT
      have HCT := Lib.hid CT
      have HV2 := Lib.hid hv
      have HR2 := Lib.hid hr
      clear hv hr hwd CT HV HR
      go_wp2_with fail
      refine HCT.out.mono ?_
      rintro e w3 ⟨⟨v, rfl, hbig⟩, rfl⟩
      rw [HV2.out] at hbig
      have HG2 := Lib.hid hbig
      clear hbig
      go_wp2
      go_ret2
      exact ⟨v, _, rfl, HG2.out, HR2.out, HB.out⟩
    | succ m =>
      have he : ((m + 1 : Nat) : Int) - 1 = (m : Int) := by omega
      rw [he]
      clear he
      obtain ⟨ls1, ls2⟩ := long_step x y m HY.out
      obtain ⟨r, hr⟩ : ∃ r, x / 2 ^ (m + 1) % y = r := ⟨_, rfl⟩
      obtain ⟨b, hb⟩ : ∃ b, x.testBit m = b := ⟨_, rfl⟩
      have hry : r < y := by rw [← hr]; exact Nat.mod_lt _ HY.out
      have HR1 := HR.out
      rw [hr] at ls1 ls2 HR1
      rw [hb] at ls1 ls2
      have hrl : (Nm.wds r).length ≤ 300000 := Nat.le_trans (Nm.wds_mono (Nat.le_of_lt hry)) HLY.out
      have hrl2 : (Nm.wds (r * 2)).length ≤ 300001 := Nat.le_trans (wds_double r) (by omega)
      have hrl3 : (Nm.wds (r * 2 + 1)).length ≤ 300001 := Nat.le_trans (wds_double1 r) (by omega)
      have h1l : (Nm.wds 1).length ≤ 1 := Nm.wds_len2 (by decide)
      have CU := Lib.hid (fun w H => up_new u7 r 1 w H (by omega) (by omega))
      have CB := Lib.hid (fun w H => (by have := bit_any (.slice a1 L1 cap1) x m w H (by omega); rw [hb] at this; exact this : Calls Tryz.prog 79 #[.slice a1 L1 cap1, .int .i64 (m : Int)] w fun e w' => e = .returned (.bool b) ∧ w' = w))
      have CF := Lib.hid (fun w => from_any 1 (by decide) w)
      have CP := Lib.hid (fun v3 v4 w H3 H4 => plus_new v3 v4 (r * 2) 1 w H3 H4 (by omega) (by omega))
      have GR := Lib.hid HR1
      have HA := Lib.hid HAt.out
      have hgw : w.heap.size < wr.heap.size := by have := HA.out.lt; have := HG.out; omega
      have hgg : g + 1 ≤ wr.heap.size := HA.out.lt
      -- the word
      obtain ⟨q, hq⟩ : ∃ q, m / 32 = q := ⟨_, rfl⟩
      have hq1 : Int.tdiv (m : Int) 32 = (q : Int) := by rw [Int.tdiv_eq_ediv_of_nonneg (by omega)]; omega
      have hq2 : (m : Int) / 32 = (q : Int) := by omega
      have hidx : q < ds.length := by have := HL.out; omega
      have hqL : q < L1 := by omega
      obtain ⟨s1, s2⟩ := set_bit (x / 2 ^ (m + 1) / y) (Nm.val ds) m HV.out (m % 32) rfl
      rw [hq] at s1 s2
      have hword := Nm.val_get HD.out q hidx
      rw [← hword] at s1 s2
      have VS := val_set (c := ds[q] + 2 ^ (m % 32)) hidx
      obtain ⟨d, hd⟩ : ∃ d, ds[q] = d := ⟨_, rfl⟩
      rw [hd] at s1 s2 VS
      have ld : d < 4294967296 := by rw [← hd]; exact HD.out _ (List.getElem_mem hidx)
      obtain ⟨d2, hd2⟩ : ∃ t, d + 2 ^ (m % 32) = t := ⟨_, rfl⟩
      rw [hd2] at s1 s2 VS
      have VS2 : Nm.val (ds.set q d2) = Nm.val ds + 2 ^ m := by
        rw [← hd2, Nat.mul_add] at VS
        have : Nm.B ^ q * 2 ^ (m % 32) = 2 ^ m := by rw [Nm.Bp, ← Nat.pow_add]; congr 1; omega
        rw [this] at VS
        rw [← hd2]
        omega
      have HVS := Lib.hid VS2
      have HIX := Lib.hid hidx
      have HDD := Lib.hid (show ∀ h : q < ds.length, ds[q]'h = d from fun _ => hd)
      have HS2 := Lib.hid s2
      have hone : ((2 ^ (m % 32) : Nat) : Int) = 2 ^ (m % 32) % 4294967296 := two_small (m % 32) (Nat.mod_lt _ (by decide))
      rw [hone] at s1
      have S1 := Lib.hid s1
      have L1S := Lib.hid ls1
      have L2S := Lib.hid ls2
      clear VS VS2 hword hd s1 s2 hd2 hidx ls1 ls2 HR1 hq hone hr hb
      have CL := Lib.hid (fun v3 z w H3 H4 => less_any v3 v2 z y w H3 H4)
      have CM := Lib.hid (fun v3 z w H3 H4 hz hyz => minus_new v3 v2 z y w H3 H4 hz hyz)
      have HQI := Lib.hid (show Int.tdiv (m : Int) 32 = (q : Int) from hq1)
      cases b
      · by_cases h3 : r * 2 < y
        · have e1 := L1S.out
          have e2 := L2S.out
          simp only [Bool.toNat_true, Bool.toNat_false, Nat.add_zero] at e1 e2
          rw [if_pos h3] at e1 e2
          rw [Nat.add_zero] at e2
          have hcm : Nm.cmpN (r * 2) y = -1 := by unfold Nm.cmpN; rw [if_pos h3]
          have E1 := Lib.hid e1
          have E2 := Lib.hid e2
          clear e1 e2 h3 L1S L2S
          go_wp2_with fail
          refine (CU.out _ GR.out).mono ?_
          rintro e w3 ⟨v3, rfl, hbig3, hb3, hf3⟩
          have G3 := Lib.hid (show Big w3 v3 (r * 2) from hbig3)
          have B3 := Lib.hid hb3
          have F3 := Lib.hid (hf3.mono hgg)
          clear hbig3 hb3 hf3
          go_wp2_with fail
          refine (CB.out _ ((HB1.out.below HB.out).below B3.out)).mono ?_
          rintro e w4 ⟨rfl, rfl⟩
          have GY3 := Lib.hid ((HB2.out.below HB.out).below B3.out)
          go_wp2_with fail
          refine (CL.out _ (r * 2) _ G3.out GY3.out).mono ?_
          rintro e w7 ⟨rfl, hb7⟩
          have G7 := Lib.hid (G3.out.below hb7)
          have GY7 := Lib.hid (GY3.out.below hb7)
          have B7 := Lib.hid (B3.out.trans (hb7.mono B3.out.size))
          clear hb7
          rw [hcm]
          have HA8 := Lib.hid (HA.out.below B7.out)
          have BB := Lib.hid (HB.out.trans (B7.out.mono (Nat.le_of_lt hgw)))
          go_wp2
          go_roundw
          case rel => exact ⟨m, ds, rfl, by omega, Lib.hid (by rw [E1.out]; exact G7.out), HL, HD, Lib.hid (by rw [E2.out]; exact HV.out), HA8, BB⟩
          case measure => simp [intOf]
        · have e1 := L1S.out
          have e2 := L2S.out
          simp only [Bool.toNat_true, Bool.toNat_false, Nat.add_zero] at e1 e2
          rw [if_neg h3] at e1 e2
          obtain ⟨cc, hcc, hc0⟩ : ∃ cc, Nm.cmpN (r * 2) y = cc ∧ 0 ≤ cc := ⟨_, rfl, by unfold Nm.cmpN; rw [if_neg h3]; split <;> omega⟩
          have dcc : decide (0 ≤ cc) = true := decide_eq_true hc0
          have HCC := Lib.hid hcc
          have E1 := Lib.hid e1
          have E2 := Lib.hid e2
          have HZ := Lib.hid (show y ≤ r * 2 by omega)
          clear e1 e2 h3 L1S L2S hcc
          go_wp2_with fail
          refine (CU.out _ GR.out).mono ?_
          rintro e w3 ⟨v3, rfl, hbig3, hb3, hf3⟩
          have G3 := Lib.hid (show Big w3 v3 (r * 2) from hbig3)
          have B3 := Lib.hid hb3
          have F3 := Lib.hid (hf3.mono hgg)
          clear hbig3 hb3 hf3
          go_wp2_with fail
          refine (CB.out _ ((HB1.out.below HB.out).below B3.out)).mono ?_
          rintro e w4 ⟨rfl, rfl⟩
          have GY3 := Lib.hid ((HB2.out.below HB.out).below B3.out)
          go_wp2_with fail
          refine (CL.out _ (r * 2) _ G3.out GY3.out).mono ?_
          rintro e w7 ⟨rfl, hb7⟩
          have G7 := Lib.hid (G3.out.below hb7)
          have GY7 := Lib.hid (GY3.out.below hb7)
          have B7 := Lib.hid (B3.out.trans (hb7.mono B3.out.size))
          clear hb7
          rw [HCC.out]
          go_wp2_with fail
          refine (CM.out _ (r * 2) _ G7.out GY7.out (by have := hrl2; have := hrl3; omega) HZ.out).mono ?_
          rintro e w8 ⟨v8, rfl, hbig8, hb8, hf8⟩
          have G8 := Lib.hid hbig8
          have B8 := Lib.hid (B7.out.trans (hb8.mono B7.out.size))
          have F8 := Lib.hid (hf8.mono (Nat.le_trans hgg B7.out.size))
          clear hbig8 hb8 hf8
          have HA8 := Lib.hid (HA.out.below B8.out)
          have BB := Lib.hid (HB.out.trans (B8.out.mono (Nat.le_of_lt hgw)))
          obtain ⟨hcell, hfz⟩ := HA8.out.cell q HIX.out
          rw [HDD.out] at hcell
          have hg8 := HA8.out.lt
          have s1 := S1.out
          go_wp2
          go_roundw
          case rel => exact ⟨m, ds.set q d2, rfl, by omega, Lib.hid (by rw [E1.out]; exact G8.out.fresh_set F8.out), Lib.hid (by rw [List.length_set]; exact HL.out), Lib.hid (set_lt HD.out HS2.out), Lib.hid (by rw [E2.out, HVS.out, HV.out]), Lib.hid (HA8.out.set _ _ HIX.out), Lib.hid (BB.out.setCell (by have := HG.out; show w.heap.size ≤ g; omega) _)⟩
          case measure => simp [intOf]
      · by_cases h3 : r * 2 + 1 < y
        · have e1 := L1S.out
          have e2 := L2S.out
          simp only [Bool.toNat_true, Bool.toNat_false, Nat.add_zero] at e1 e2
          rw [if_pos h3] at e1 e2
          rw [Nat.add_zero] at e2
          have hcm : Nm.cmpN (r * 2 + 1) y = -1 := by unfold Nm.cmpN; rw [if_pos h3]
          have E1 := Lib.hid e1
          have E2 := Lib.hid e2
          clear e1 e2 h3 L1S L2S
          go_wp2_with fail
          refine (CU.out _ GR.out).mono ?_
          rintro e w3 ⟨v3, rfl, hbig3, hb3, hf3⟩
          have G3 := Lib.hid (show Big w3 v3 (r * 2) from hbig3)
          have B3 := Lib.hid hb3
          have F3 := Lib.hid (hf3.mono hgg)
          clear hbig3 hb3 hf3
          go_wp2_with fail
          refine (CB.out _ ((HB1.out.below HB.out).below B3.out)).mono ?_
          rintro e w4 ⟨rfl, rfl⟩
          go_wp2_with fail
          refine (CF.out _).mono ?_
          rintro e w5 ⟨v5, rfl, hbig5, hb5⟩
          have G5 := Lib.hid hbig5
          have G35 := Lib.hid (G3.out.below hb5)
          have B5 := Lib.hid (B3.out.trans (hb5.mono B3.out.size))
          clear hbig5 hb5
          go_wp2_with fail
          refine (CP.out _ _ _ G35.out G5.out).mono ?_
          rintro e w6 ⟨v6, rfl, hbig6, hb6, hf6⟩
          have G6 := Lib.hid hbig6
          have B6 := Lib.hid (B5.out.trans (hb6.mono B5.out.size))
          have F6 := Lib.hid (hf6.mono (Nat.le_trans hgg B5.out.size))
          clear hbig6 hb6 hf6
          have GY6 := Lib.hid ((HB2.out.below HB.out).below B6.out)
          go_wp2_with fail
          refine (CL.out _ (r * 2 + 1) _ G6.out GY6.out).mono ?_
          rintro e w7 ⟨rfl, hb7⟩
          have G7 := Lib.hid (G6.out.below hb7)
          have GY7 := Lib.hid (GY6.out.below hb7)
          have B7 := Lib.hid (B6.out.trans (hb7.mono B6.out.size))
          clear hb7
          rw [hcm]
          have HA8 := Lib.hid (HA.out.below B7.out)
          have BB := Lib.hid (HB.out.trans (B7.out.mono (Nat.le_of_lt hgw)))
          go_wp2
          go_roundw
          case rel => exact ⟨m, ds, rfl, by omega, Lib.hid (by rw [E1.out]; exact G7.out), HL, HD, Lib.hid (by rw [E2.out]; exact HV.out), HA8, BB⟩
          case measure => simp [intOf]
        · have e1 := L1S.out
          have e2 := L2S.out
          simp only [Bool.toNat_true, Bool.toNat_false, Nat.add_zero] at e1 e2
          rw [if_neg h3] at e1 e2
          obtain ⟨cc, hcc, hc0⟩ : ∃ cc, Nm.cmpN (r * 2 + 1) y = cc ∧ 0 ≤ cc := ⟨_, rfl, by unfold Nm.cmpN; rw [if_neg h3]; split <;> omega⟩
          have dcc : decide (0 ≤ cc) = true := decide_eq_true hc0
          have HCC := Lib.hid hcc
          have E1 := Lib.hid e1
          have E2 := Lib.hid e2
          have HZ := Lib.hid (show y ≤ r * 2 + 1 by omega)
          clear e1 e2 h3 L1S L2S hcc
          go_wp2_with fail
          refine (CU.out _ GR.out).mono ?_
          rintro e w3 ⟨v3, rfl, hbig3, hb3, hf3⟩
          have G3 := Lib.hid (show Big w3 v3 (r * 2) from hbig3)
          have B3 := Lib.hid hb3
          have F3 := Lib.hid (hf3.mono hgg)
          clear hbig3 hb3 hf3
          go_wp2_with fail
          refine (CB.out _ ((HB1.out.below HB.out).below B3.out)).mono ?_
          rintro e w4 ⟨rfl, rfl⟩
          go_wp2_with fail
          refine (CF.out _).mono ?_
          rintro e w5 ⟨v5, rfl, hbig5, hb5⟩
          have G5 := Lib.hid hbig5
          have G35 := Lib.hid (G3.out.below hb5)
          have B5 := Lib.hid (B3.out.trans (hb5.mono B3.out.size))
          clear hbig5 hb5
          go_wp2_with fail
          refine (CP.out _ _ _ G35.out G5.out).mono ?_
          rintro e w6 ⟨v6, rfl, hbig6, hb6, hf6⟩
          have G6 := Lib.hid hbig6
          have B6 := Lib.hid (B5.out.trans (hb6.mono B5.out.size))
          have F6 := Lib.hid (hf6.mono (Nat.le_trans hgg B5.out.size))
          clear hbig6 hb6 hf6
          have GY6 := Lib.hid ((HB2.out.below HB.out).below B6.out)
          go_wp2_with fail
          refine (CL.out _ (r * 2 + 1) _ G6.out GY6.out).mono ?_
          rintro e w7 ⟨rfl, hb7⟩
          have G7 := Lib.hid (G6.out.below hb7)
          have GY7 := Lib.hid (GY6.out.below hb7)
          have B7 := Lib.hid (B6.out.trans (hb7.mono B6.out.size))
          clear hb7
          rw [HCC.out]
          go_wp2_with fail
          refine (CM.out _ (r * 2 + 1) _ G7.out GY7.out (by have := hrl2; have := hrl3; omega) HZ.out).mono ?_
          rintro e w8 ⟨v8, rfl, hbig8, hb8, hf8⟩
          have G8 := Lib.hid hbig8
          have B8 := Lib.hid (B7.out.trans (hb8.mono B7.out.size))
          have F8 := Lib.hid (hf8.mono (Nat.le_trans hgg B7.out.size))
          clear hbig8 hb8 hf8
          have HA8 := Lib.hid (HA.out.below B8.out)
          have BB := Lib.hid (HB.out.trans (B8.out.mono (Nat.le_of_lt hgw)))
          obtain ⟨hcell, hfz⟩ := HA8.out.cell q HIX.out
          rw [HDD.out] at hcell
          have hg8 := HA8.out.lt
          have s1 := S1.out
          go_wp2
          go_roundw
          case rel => exact ⟨m, ds.set q d2, rfl, by omega, Lib.hid (by rw [E1.out]; exact G8.out.fresh_set F8.out), Lib.hid (by rw [List.length_set]; exact HL.out), Lib.hid (set_lt HD.out HS2.out), Lib.hid (by rw [E2.out, HVS.out, HV.out]), Lib.hid (HA8.out.set _ _ HIX.out), Lib.hid (BB.out.setCell (by have := HG.out; show w.heap.size ≤ g; omega) _)⟩
          case measure => simp [intOf]
end Go.Proofs.YthhlhiighgnkmaaGreatDoor.Bg
