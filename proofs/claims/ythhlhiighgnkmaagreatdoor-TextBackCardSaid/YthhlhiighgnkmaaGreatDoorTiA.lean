/-
  MATHEMATICS: runs of digits; decimal numbers; units; what a duration is.
-/
import Derived.Test.YthhlhiighgnkmaaGreatDoorDurZ
import Derived.Lib.ParseIntB
namespace Go.Proofs.YthhlhiighgnkmaaGreatDoor
set_option linter.unusedVariables false
open Go.RowKit
/-- what fits, from p on -/
def tw (f : Nat → Bool) (bs : List Nat) (p : Nat) : List Nat := (bs.drop p).takeWhile f
theorem takeWhile_get (f : Nat → Bool) : ∀ (l : List Nat) (k c : Nat), (l.takeWhile f)[k]? = some c → l[k]? = some c ∧ f c = true := by
  intro l
  induction l with
  | nil => intro k c h; simp at h
  | cons x l ih =>
    intro k c h
    by_cases hx : f x = true
    · rw [List.takeWhile_cons_of_pos hx] at h
      cases k with
      | zero => simp at h; subst h; exact ⟨rfl, hx⟩
      | succ k => exact ih k c (by simpa using h)
    · rw [List.takeWhile_cons_of_neg hx] at h
      simp at h
theorem takeWhile_end (f : Nat → Bool) : ∀ (l : List Nat) (c : Nat), l[(l.takeWhile f).length]? = some c → f c = false := by
  intro l
  induction l with
  | nil => intro c h; simp at h
  | cons x l ih =>
    intro c h
    by_cases hx : f x = true
    · rw [List.takeWhile_cons_of_pos hx] at h
      exact ih c (by simpa using h)
    · rw [List.takeWhile_cons_of_neg hx] at h
      simp at h
      subst h
      simpa using hx
theorem takeWhile_len (f : Nat → Bool) : ∀ (l : List Nat), (l.takeWhile f).length ≤ l.length := by
  intro l
  induction l with
  | nil => simp
  | cons x l ih =>
    by_cases hx : f x = true
    · rw [List.takeWhile_cons_of_pos hx]; simp; exact ih
    · rw [List.takeWhile_cons_of_neg hx]; simp
theorem tw_get {f : Nat → Bool} {bs : List Nat} {p k c : Nat} (h : (tw f bs p)[k]? = some c) : bs[p + k]? = some c ∧ f c = true := by
  have := takeWhile_get f _ _ _ h
  rw [List.getElem?_drop] at this
  exact this
theorem tw_end {f : Nat → Bool} {bs : List Nat} {p c : Nat} (h : bs[p + (tw f bs p).length]? = some c) : f c = false := by
  refine takeWhile_end f (bs.drop p) c ?_
  rw [List.getElem?_drop]
  exact h
theorem tw_le {f : Nat → Bool} {bs : List Nat} {p : Nat} (hp : p ≤ bs.length) : p + (tw f bs p).length ≤ bs.length := by
  have := takeWhile_len f (bs.drop p)
  rw [List.length_drop] at this
  unfold tw
  omega
/-- digits as a number -/
def decV (acc : Nat) (l : List Nat) : Nat := l.foldl (fun v c => 10 * v + (c - 48)) acc
theorem decV_cons (acc c : Nat) (l : List Nat) : decV acc (c :: l) = decV (10 * acc + (c - 48)) l := by unfold decV; rw [List.foldl_cons]
theorem decV_ge (acc : Nat) (l : List Nat) : acc ≤ decV acc l := by
  induction l generalizing acc with
  | nil => exact Nat.le_refl _
  | cons c l ih => rw [decV_cons]; exact Nat.le_trans (by omega) (ih _)
theorem decV_mono {a b : Nat} (l : List Nat) (h : a ≤ b) : decV a l ≤ decV b l := by
  induction l generalizing a b with
  | nil => exact h
  | cons c l ih => rw [decV_cons, decV_cons]; exact ih (by omega)
theorem decV_far {a : Nat} {l : List Nat} (hl : l ≠ []) : 10 * a ≤ decV a l := by
  cases l with
  | nil => exact absurd rfl hl
  | cons c l => rw [decV_cons]; exact Nat.le_trans (by omega) (decV_ge _ l)
theorem dig_lt {c : Nat} (h : dig c = true) : 48 ≤ c ∧ c ≤ 57 := by
  unfold dig at h
  simp at h
  exact h
theorem u8_small {c : Nat} (h : c < 256) : (UInt8.ofNat c).toNat = c := by rw [UInt8.toNat_ofNat', Nat.mod_eq_of_lt h]
theorem decV_nil (acc : Nat) : decV acc [] = acc := by unfold decV; rw [List.foldl_nil]
open Go.Lib in
theorem uintM_step (M acc c : Nat) (ds : List Nat) (h : 48 ≤ c ∧ c ≤ 57) : parseUintM M acc ((c :: ds).map UInt8.ofNat) = if 1844674407370955162 ≤ acc then .range else if M < 10 * acc + (c - 48) then .range else parseUintM M (10 * acc + (c - 48)) (ds.map UInt8.ofNat) := by
  have hu : (UInt8.ofNat c).toNat = c := u8_small (by omega)
  rw [List.map_cons, parseUintM, hu, if_pos h, Nat.mul_comm acc 10]
open Go.Lib in
theorem uintM_dec (M : Nat) (hM : M = 18446744073709551615) (ds : List Nat) (hd : ∀ c ∈ ds, dig c = true) : ∀ acc, acc ≤ M →
    (decV acc ds ≤ M → parseUintM M acc (ds.map UInt8.ofNat) = .ok (decV acc ds)) ∧ (M < decV acc ds → parseUintM M acc (ds.map UInt8.ofNat) = .range) := by
  induction ds with
  | nil =>
    intro acc h
    rw [decV_nil]
    exact ⟨fun _ => by rw [List.map_nil, parseUintM], fun h2 => by omega⟩
  | cons c ds ih =>
    intro acc h
    have hc := dig_lt (hd c (List.mem_cons_self ..))
    have hih := ih (fun x hx => hd x (List.mem_cons_of_mem _ hx)) (10 * acc + (c - 48))
    have hge := decV_ge (10 * acc + (c - 48)) ds
    rw [uintM_step M acc c ds hc, decV_cons]
    obtain ⟨D, hD⟩ : ∃ D, decV (10 * acc + (c - 48)) ds = D := ⟨_, rfl⟩
    rw [hD] at hge hih ⊢
    clear hD ih hd
    by_cases h1 : 1844674407370955162 ≤ acc
    · rw [if_pos h1]
      exact ⟨fun h2 => by omega, fun _ => rfl⟩
    · rw [if_neg h1]
      by_cases h2 : M < 10 * acc + (c - 48)
      · rw [if_pos h2]
        exact ⟨fun h3 => by omega, fun _ => rfl⟩
      · rw [if_neg h2]
        exact hih (by omega)
open Go.Lib in
theorem parse_dec {ds : List Nat} (hne : ds ≠ []) (hd : ∀ c ∈ ds, dig c = true) :
    (decV 0 ds < 9223372036854775808 → parseIntB 64 (strOf ds).data.toList = .ok (decV 0 ds : Int)) ∧ (9223372036854775808 ≤ decV 0 ds → parseIntB 64 (strOf ds).data.toList = .range) := by
  have e : (strOf ds).data.toList = ds.map UInt8.ofNat := rfl
  rw [e]
  cases ds with
  | nil => exact absurd rfl hne
  | cons c r =>
    have hc := dig_lt (hd c (List.mem_cons_self ..))
    have hu : (UInt8.ofNat c).toNat = c := u8_small (by omega)
    have hm := uintM_dec 18446744073709551615 rfl (c :: r) hd 0 (Nat.zero_le _)
    have hb : parseUintB 64 ((c :: r).map UInt8.ofNat) = parseUintM 18446744073709551615 0 ((c :: r).map UInt8.ofNat) := by
      unfold parseUintB
      rw [if_neg (by simp)]
    rw [List.map_cons] at hb hm ⊢
    unfold parseIntB
    simp only [hu, show ¬ (c = 43 ∨ c = 45) by omega, if_false, hb]
    have h45 : ¬ c = 45 := by omega
    constructor
    · intro h
      rw [hm.1 (by omega)]
      simp only [h45, not_false_eq_true, true_and, false_and, if_false]
      rw [if_neg (by omega)]
    · intro h
      by_cases h2 : decV 0 (c :: r) < 18446744073709551616
      · rw [hm.1 (by omega)]
        simp only [h45, not_false_eq_true, true_and, false_and, if_false]
        rw [if_pos (by omega)]
      · rw [hm.2 (by omega)]
/-- which unit a name tells, from the greatest on; 0: none -/
def unitI (ns : List Nat) : Nat := if ns = [121] then 1 else if ns = [119] then 2 else if ns = [100] then 3 else if ns = [104] then 4 else if ns = [109] then 5 else if ns = [115] then 6 else if ns = [109, 115] then 7 else 0
/-- its milliseconds -/
def unitMs (k : Nat) : Nat := match k with | 1 => 31536000000 | 2 => 604800000 | 3 => 86400000 | 4 => 3600000 | 5 => 60000 | 6 => 1000 | 7 => 1 | _ => 0
theorem unitI_le (ns : List Nat) : unitI ns ≤ 7 := by
  unfold unitI
  repeat' split
  all_goals omega
def digs (bs : List Nat) (p : Nat) : List Nat := tw dig bs p
def nots (bs : List Nat) (p : Nat) : List Nat := tw (fun c => !dig c) bs p
/-- one number and its unit -/
structure DurStep (bs : List Nat) (p last sum p' k sum' : Nat) : Prop where
  ne : digs bs p ≠ []
  key : unitI (nots bs (p + (digs bs p).length)) = k
  up : last < k
  sum : sum + decV 0 (digs bs p) * unitMs k = sum'
  low : sum' ≤ 9007199254740992
  at' : p + (digs bs p).length + (nots bs (p + (digs bs p).length)).length = p'
inductive DurRun (bs : List Nat) : Nat → Nat → Nat → Option Nat → Prop
  | bad (p last sum : Nat) : (∀ p' k sum', ¬ DurStep bs p last sum p' k sum') → DurRun bs p last sum none
  | fin (p last sum k sum' : Nat) : DurStep bs p last sum bs.length k sum' → DurRun bs p last sum (some sum')
  | more (p last sum p' k sum' : Nat) (r : Option Nat) : DurStep bs p last sum p' k sum' → p' < bs.length → DurRun bs p' k sum' r → DurRun bs p last sum r
theorem DurStep.le {bs : List Nat} {p last sum p' k sum' : Nat} (h : DurStep bs p last sum p' k sum') (hp : p ≤ bs.length) : p < p' ∧ p' ≤ bs.length := by
  have h1 := tw_le (f := dig) hp
  have h2 := tw_le (f := fun c => !dig c) (bs := bs) (p := p + (digs bs p).length) h1
  have h3 := h.at'
  have h4 : 0 < (digs bs p).length := List.length_pos_iff.2 h.ne
  unfold digs nots at *
  omega
theorem dur_all (bs : List Nat) : ∀ (n p last sum : Nat), p ≤ bs.length → bs.length - p ≤ n → ∃ r, DurRun bs p last sum r := by
  intro n
  induction n with
  | zero =>
    intro p last sum hp hn
    refine ⟨none, DurRun.bad p last sum fun p' k sum' h => ?_⟩
    have := h.le hp
    omega
  | succ n ih =>
    intro p last sum hp hn
    by_cases h : ∃ p' k sum', DurStep bs p last sum p' k sum'
    · obtain ⟨p', k, sum', h⟩ := h
      have hl := h.le hp
      by_cases he : p' = bs.length
      · subst he; exact ⟨_, DurRun.fin p last sum k sum' h⟩
      · obtain ⟨r, hr⟩ := ih p' k sum' (by omega) (by omega)
        exact ⟨r, DurRun.more p last sum p' k sum' r h (by omega) hr⟩
    · exact ⟨none, DurRun.bad p last sum fun p' k sum' hs => h ⟨p', k, sum', hs⟩⟩
end Go.Proofs.YthhlhiighgnkmaaGreatDoor
