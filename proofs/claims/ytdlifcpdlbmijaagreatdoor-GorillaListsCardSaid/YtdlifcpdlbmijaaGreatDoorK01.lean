/-
  PACKED: B2Math, B2MathB, B2Frame, B2WalkA, B2WalkB, B2WalkC, B2WalkD, B2WalkE
-/
import Derived.Test.YtdlifcpdlbmijaaGreatDoorProg
import Derived.WalkKit
import Derived.WalkSpells
import Derived.WalkLawsBesides
import Derived.Lib.Hide
import Derived.Laws.BitsAllLaws
import Derived.Laws.Rows
import Derived.Laws.AppendOwnNone
import Derived.Deep.DeepAppendRoom
import Derived.Deep.LoopGhost
import Derived.Deep.QuietTactic
import Derived.BigQuiet
import Derived.StillTailTactics
import Derived.IntWalk
import Derived.Deep.DeepMust
import Derived.Defers
set_option linter.unusedVariables false
set_option linter.unusedSimpArgs false
namespace Go.Proofs.YtdlifcpdlbmijaaGreatDoor.B2.Bt
/-- the n lowest bits of v, the highest first -/
def top (v : Nat) : Nat → List Bool
  | 0 => []
  | n + 1 => v.testBit n :: top v n
theorem top_length (v n : Nat) : (top v n).length = n := by
  induction n with
  | zero => rfl
  | succ n ih => simp [top, ih]
theorem top_split (v a b : Nat) : top v (a + b) = top (v >>> b) a ++ top v b := by
  induction a with
  | zero => simp [top]
  | succ a ih =>
    rw [show a + 1 + b = (a + b) + 1 by omega]
    simp only [top, List.cons_append, ih, Nat.testBit_shiftRight]
    rw [Nat.add_comm b a]
theorem top_drop (v a b : Nat) : (top v (a + b)).drop a = top v b := by
  rw [top_split, List.drop_append_of_le_length (by rw [top_length]; exact Nat.le_refl _)]
  rw [List.drop_of_length_le (by rw [top_length]; exact Nat.le_refl _), List.nil_append]
theorem top_take (v a b : Nat) : (top v (a + b)).take a = top (v >>> b) a := by
  rw [top_split, List.take_append_of_le_length (by rw [top_length]; exact Nat.le_refl _)]
  rw [List.take_of_length_le (by rw [top_length]; exact Nat.le_refl _)]
theorem top_get (v n i : Nat) (h : i < n) : (top v n)[i]? = some (v.testBit (n - 1 - i)) := by
  induction n generalizing i with
  | zero => omega
  | succ n ih =>
    cases i with
    | zero => simp [top]
    | succ i =>
      simp only [top, List.getElem?_cons_succ]
      rw [ih i (by omega)]
      congr 2; omega
/-- the number of a row of bits, the first one being the highest -/
def val (l : List Bool) : Nat := l.foldl (fun a b => 2 * a + b.toNat) 0
theorem val_from (l : List Bool) (a : Nat) : l.foldl (fun a b => 2 * a + b.toNat) a = a * 2 ^ l.length + val l := by
  induction l generalizing a with
  | nil => simp [val]
  | cons b l ih =>
    simp only [val, List.foldl_cons, List.length_cons]
    rw [ih (2 * a + b.toNat), ih (2 * 0 + b.toNat), Nat.pow_succ, Nat.add_mul, Nat.add_mul]
    have h1 : 2 * a * 2 ^ l.length = a * (2 ^ l.length * 2) := by
      rw [Nat.mul_comm 2 a, Nat.mul_assoc, Nat.mul_comm 2]
    rw [h1]; omega
theorem val_append (l m : List Bool) : val (l ++ m) = val l * 2 ^ m.length + val m := by
  unfold val; rw [List.foldl_append, val_from]; rfl
theorem val_snoc (l : List Bool) (b : Bool) : val (l ++ [b]) = 2 * val l + b.toNat := by
  rw [val_append]; simp [val]; omega
theorem val_lt (l : List Bool) : val l < 2 ^ l.length := by
  induction l with
  | nil => simp [val]
  | cons b l ih =>
    have h := val_append [b] l
    simp only [List.singleton_append] at h
    rw [h, List.length_cons, Nat.pow_succ]
    have : val [b] ≤ 1 := by cases b <;> simp [val]
    have h2 : val [b] * 2 ^ l.length ≤ 1 * 2 ^ l.length := Nat.mul_le_mul_right _ this
    omega
theorem val_top (v n : Nat) : val (top v n) = v % 2 ^ n := by
  induction n with
  | zero => simp [top, val, Nat.mod_one]
  | succ n ih =>
    have h := val_append [v.testBit n] (top v n)
    simp only [List.singleton_append] at h
    rw [show top v (n + 1) = v.testBit n :: top v n from rfl, h, ih, top_length]
    have e : val [v.testBit n] = (v >>> n) % 2 := by
      simp only [val, List.foldl_cons, List.foldl_nil, Nat.testBit_eq_decide_div_mod_eq, Nat.shiftRight_eq_div_pow]
      by_cases hb : v / 2 ^ n % 2 = 1
      · simp [hb]
      · have : v / 2 ^ n % 2 = 0 := by omega
        simp [this]
    rw [e, Nat.pow_succ, Nat.shiftRight_eq_div_pow, Nat.mod_mul]
    rw [Nat.mul_comm]; omega
theorem top_val (l : List Bool) : top (val l) l.length = l := by
  induction l with
  | nil => rfl
  | cons b l ih =>
    have h := val_append [b] l
    simp only [List.singleton_append] at h
    have hl := val_lt l
    rw [List.length_cons]
    have e1 : (val (b :: l)).testBit l.length = b := by
      rw [h, Nat.testBit_eq_decide_div_mod_eq]
      have : (val [b] * 2 ^ l.length + val l) / 2 ^ l.length = val [b] := by
        rw [Nat.mul_comm, Nat.mul_add_div (Nat.two_pow_pos _), Nat.div_eq_of_lt hl, Nat.add_zero]
      rw [this]
      cases b <;> simp [val]
    have e2 : top (val (b :: l)) l.length = top (val l) l.length := by
      have key : ∀ x n, n ≤ l.length → top (x * 2 ^ l.length + val l) n = top (val l) n := by
        intro x n hn
        induction n with
        | zero => rfl
        | succ n ihn =>
          simp only [top]
          rw [ihn (by omega), Nat.mul_comm x, Nat.testBit_two_pow_mul_add x hl, if_pos (by omega)]
      rw [h]; exact key _ _ (Nat.le_refl _)
    show (val (b :: l)).testBit l.length :: top (val (b :: l)) l.length = b :: l
    rw [e1, e2, ih]
/-- bytes as bits -/
def unpack (ds : List Nat) : List Bool := ds.flatMap fun c => top c 8
theorem unpack_length (ds : List Nat) : (unpack ds).length = 8 * ds.length := by
  induction ds with
  | nil => rfl
  | cons c ds ih => simp only [unpack, List.flatMap_cons, List.length_append, top_length, List.length_cons] at *; omega
theorem unpack_append (a b : List Nat) : unpack (a ++ b) = unpack a ++ unpack b := by simp [unpack]
theorem unpack_cons (c : Nat) (b : List Nat) : unpack (c :: b) = top c 8 ++ unpack b := by simp [unpack]
theorem unpack_one (c : Nat) : unpack [c] = top c 8 := by simp [unpack]
theorem top8_inj {a b : Nat} (ha : a < 256) (hb : b < 256) (h : top a 8 = top b 8) : a = b := by
  have := congrArg val h
  rw [val_top, val_top] at this
  omega
theorem unpack_inj : ∀ (a b : List Nat), (∀ c ∈ a, c < 256) → (∀ c ∈ b, c < 256) → unpack a = unpack b → a = b
  | [], [], _, _, _ => rfl
  | [], c :: b, _, _, h => by have := congrArg List.length h; simp [unpack_length] at this
  | c :: a, [], _, _, h => by have := congrArg List.length h; simp [unpack_length] at this
  | c :: a, d :: b, ha, hb, h => by
    rw [unpack_cons, unpack_cons] at h
    obtain ⟨h1, h2⟩ := List.append_inj h (by rw [top_length, top_length])
    rw [top8_inj (ha c List.mem_cons_self) (hb d List.mem_cons_self) h1, unpack_inj a b (fun x hx => ha x (List.mem_cons_of_mem _ hx)) (fun x hx => hb x (List.mem_cons_of_mem _ hx)) h2]
/-- these bytes have these bits, and k noughts behind them -/
def Packs (k : Nat) (ds : List Nat) (B : List Bool) : Prop := (∀ c ∈ ds, c < 256) ∧ unpack ds = B ++ List.replicate k false
theorem Packs.length {k : Nat} {ds : List Nat} {B : List Bool} (h : Packs k ds B) : 8 * ds.length = B.length + k := by
  have := congrArg List.length h.2
  rw [unpack_length] at this
  simpa using this
theorem packs_nil : Packs 0 [] [] := ⟨by simp, rfl⟩
theorem Packs.grow {ds : List Nat} {B : List Bool} (h : Packs 0 ds B) : Packs 8 (ds ++ [0]) B := by
  refine ⟨fun c hc => ?_, ?_⟩
  · rcases List.mem_append.1 hc with hc | hc
    · exact h.1 c hc
    · simp at hc; omega
  · rw [unpack_append, h.2, unpack_one]; simp [top]
/-- so a byte is filled up -/
theorem fill_get (c x k s : Nat) (X : List Bool) (hk : k ≤ 8) (hs : s ≤ k) (h : top c 8 = X ++ List.replicate k false) :
    top (c ||| (((x % 256) <<< (8 - s)) % 256) >>> (8 - k)) 8 = (X ++ top x s) ++ List.replicate (k - s) false := by
  have hX : X.length = 8 - k := by
    have := congrArg List.length h
    rw [top_length] at this; simp at this; omega
  apply List.ext_getElem?
  intro i
  by_cases hi : i < 8
  · rw [top_get _ _ _ hi]
    have hci := congrArg (fun l => l[i]?) h
    rw [top_get _ _ _ hi] at hci
    have hp : ((((x % 256) <<< (8 - s)) % 256) >>> (8 - k)).testBit (8 - 1 - i) = (decide (8 - k + (8 - 1 - i) < 8) && (decide (8 - k + (8 - 1 - i) ≥ 8 - s) && (decide (8 - k + (8 - 1 - i) - (8 - s) < 8) && x.testBit (8 - k + (8 - 1 - i) - (8 - s))))) := by
      rw [Nat.testBit_shiftRight, show (256 : Nat) = 2 ^ 8 from rfl, Nat.testBit_mod_two_pow, Nat.testBit_shiftLeft, Nat.testBit_mod_two_pow]
    rw [Nat.testBit_or, hp]
    by_cases h1 : i < 8 - k
    · rw [List.getElem?_append_left (by simp; omega)]
      rw [List.getElem?_append_left (by omega)] at hci ⊢
      have : decide (8 - k + (8 - 1 - i) < 8) = false := by simp; omega
      rw [this]; simp only [Bool.false_and, Bool.or_false]
      exact hci
    · have hc0 : c.testBit (8 - 1 - i) = false := by
        rw [List.getElem?_append_right (by omega), List.getElem?_replicate, if_pos (by omega)] at hci
        exact Option.some.inj hci
      rw [hc0, Bool.false_or]
      have e1 : decide (8 - k + (8 - 1 - i) < 8) = true := by simp; omega
      rw [e1, Bool.true_and]
      by_cases h2 : i < 8 - k + s
      · rw [List.getElem?_append_left (by simp [top_length]; omega), List.getElem?_append_right (by omega), top_get _ _ _ (by omega)]
        have e2 : decide (8 - k + (8 - 1 - i) ≥ 8 - s) = true := by simp; omega
        have e3 : decide (8 - k + (8 - 1 - i) - (8 - s) < 8) = true := by simp; omega
        rw [e2, e3, Bool.true_and, Bool.true_and]
        congr 2; omega
      · rw [List.getElem?_append_right (by simp [top_length]; omega), List.getElem?_replicate, if_pos (by simp [top_length]; omega)]
        have e2 : decide (8 - k + (8 - 1 - i) ≥ 8 - s) = false := by simp; omega
        rw [e2]; rfl
  · rw [List.getElem?_eq_none (by rw [top_length]; omega), List.getElem?_eq_none (by simp [top_length]; omega)]
theorem or_lt8 (c p : Nat) (hc : c < 256) (hp : p < 256) : c ||| p < 256 := Nat.or_lt_two_pow (n := 8) hc hp
theorem piece_lt (y n : Nat) : ((y % 256)) >>> n < 256 := by
  rw [Nat.shiftRight_eq_div_pow]
  exact Nat.lt_of_le_of_lt (Nat.div_le_self _ _) (Nat.mod_lt _ (by decide))
theorem Packs.fill {k s x c : Nat} {ini : List Nat} {B : List Bool} (h : Packs k (ini ++ [c]) B) (hk : k ≤ 8) (hs : s ≤ k) :
    Packs (k - s) (ini ++ [c ||| (((x % 256) <<< (8 - s)) % 256) >>> (8 - k)]) (B ++ top x s) := by
  obtain ⟨h1, h2⟩ := h
  have hc : c < 256 := h1 c (by simp)
  rw [unpack_append, unpack_one] at h2
  have hl := congrArg List.length h2
  rw [List.length_append, unpack_length, top_length] at hl
  simp only [List.length_append, List.length_replicate] at hl
  obtain ⟨X, hX⟩ : ∃ X, B = unpack ini ++ X := by
    refine ⟨B.drop (unpack ini).length, ?_⟩
    have ht : B.take (unpack ini).length = unpack ini := by
      have := congrArg (List.take (unpack ini).length) h2
      rw [List.take_left, List.take_append_of_le_length (by rw [unpack_length]; omega)] at this
      exact this.symm
    rw [← ht, List.length_take, Nat.min_eq_left (by rw [unpack_length]; omega)]
    exact (List.take_append_drop _ _).symm
  subst hX
  rw [List.append_assoc] at h2
  have h3 := List.append_cancel_left h2
  refine ⟨fun d hd => ?_, ?_⟩
  · rcases List.mem_append.1 hd with hd | hd
    · exact h1 d (by simp [hd])
    · simp only [List.mem_singleton] at hd
      subst hd
      exact or_lt8 _ _ hc (piece_lt _ _)
  · rw [unpack_append, unpack_one, fill_get c x k s X hk hs h3]
    simp [List.append_assoc]
/-- a row of bytes that has these bits is one -/
theorem packs_unique {k j : Nat} {a b : List Nat} {B : List Bool} (h : Packs k a B) (h2 : Packs j b B) (hk : k < 8) (hj : j < 8) : a = b := by
  have l1 := h.length
  have l2 := h2.length
  obtain rfl : k = j := by omega
  exact unpack_inj a b h.1 h2.1 (h.2.trans h2.2.symm)
/-- bits of a byte read as a number -/
theorem piece_read (c a s : Nat) (h : a + s ≤ 8) : ((c <<< a) % 256) >>> (8 - s) = val (((top c 8).drop a).take s) := by
  have e : (top c 8).drop a = top c (8 - a) := by
    have := top_drop c a (8 - a)
    rwa [show a + (8 - a) = 8 by omega] at this
  have e2 : (top c (8 - a)).take s = top (c >>> (8 - a - s)) s := by
    have := top_take c s (8 - a - s)
    rwa [show s + (8 - a - s) = 8 - a by omega] at this
  rw [e, e2, val_top]
  apply Nat.eq_of_testBit_eq
  intro i
  rw [Nat.testBit_shiftRight, show (256 : Nat) = 2 ^ 8 from rfl, Nat.testBit_mod_two_pow, Nat.testBit_shiftLeft, Nat.testBit_mod_two_pow, Nat.testBit_shiftRight]
  by_cases hi : i < s
  · have e1 : decide (8 - s + i < 8) = true := by simp; omega
    have e2 : decide (8 - s + i ≥ a) = true := by simp; omega
    have e3 : decide (i < s) = true := by simpa using hi
    rw [e1, e2, e3]
    simp only [Bool.true_and]
    congr 1
    omega
  · have e1 : decide (8 - s + i < 8) = false := by simp; omega
    have e3 : decide (i < s) = false := by simpa using hi
    rw [e1, e3]; simp
theorem unpack_drop (ds : List Nat) (q : Nat) : (unpack ds).drop (8 * q) = unpack (ds.drop q) := by
  induction ds generalizing q with
  | nil => simp [unpack]
  | cons c ds ih =>
    cases q with
    | zero => simp
    | succ q =>
      rw [unpack_cons, List.drop_succ_cons, ← ih q]
      rw [show 8 * (q + 1) = 8 + 8 * q by omega, ← List.drop_drop]
      congr 1
/-- the bits from a place on that lie in one byte -/
theorem read_here (ds : List Nat) (at_ s : Nat) (hq : at_ / 8 < ds.length) (h : at_ % 8 + s ≤ 8) :
    ((ds[at_ / 8] <<< (at_ % 8)) % 256) >>> (8 - s) = val (((unpack ds).drop at_).take s) := by
  rw [piece_read _ _ _ h]
  congr 1
  have e : at_ = 8 * (at_ / 8) + at_ % 8 := by omega
  have e2 : (unpack ds).drop at_ = ((top ds[at_ / 8] 8).drop (at_ % 8)) ++ unpack (ds.drop (at_ / 8 + 1)) := by
    conv => lhs; rw [e]
    rw [← List.drop_drop, unpack_drop, List.drop_eq_getElem_cons hq, unpack_cons, List.drop_append_of_le_length (by rw [top_length]; omega)]
  rw [e2, List.take_append_of_le_length (by rw [List.length_drop, top_length]; omega)]
theorem val_take_add (l : List Bool) (a b : Nat) (h : a + b ≤ l.length) : val (l.take (a + b)) = val (l.take a) * 2 ^ b + val ((l.drop a).take b) := by
  rw [List.take_add, val_append]
  congr 2
  rw [List.length_take, List.length_drop]
  congr 1; omega
end Go.Proofs.YtdlifcpdlbmijaaGreatDoor.B2.Bt
namespace Go.Proofs.YtdlifcpdlbmijaaGreatDoor.B2.Bt
/-- a number's groups, the lowest first; f is at least the number -/
def vgf : Nat → Nat → List Nat
  | 0, v => [v]
  | f + 1, v => if v < 128 then [v] else (v % 128 + 128) :: vgf f (v / 128)
theorem vgf_any (f g v : Nat) (hf : v ≤ f) (hg : v ≤ g) : vgf f v = vgf g v := by
  induction f generalizing g v with
  | zero =>
    obtain rfl : v = 0 := by omega
    cases g <;> rfl
  | succ f ih =>
    cases g with
    | zero =>
      obtain rfl : v = 0 := by omega
      rfl
    | succ g =>
      unfold vgf
      by_cases h : v < 128
      · rw [if_pos h, if_pos h]
      · rw [if_neg h, if_neg h, ih g (v / 128) (by omega) (by omega)]
/-- a number's groups, the lowest first -/
def vg (v : Nat) : List Nat := vgf v v
theorem vg_small {v : Nat} (h : v < 128) : vg v = [v] := by
  unfold vg
  cases v with
  | zero => rfl
  | succ v => rw [vgf, if_pos h]
theorem vg_big {v : Nat} (h : 128 ≤ v) : vg v = (v % 128 + 128) :: vg (v / 128) := by
  unfold vg
  cases v with
  | zero => omega
  | succ v => rw [vgf, if_neg (by omega), vgf_any v ((v + 1) / 128) _ (by omega) (Nat.le_refl _)]
def vb (v : Nat) : List Bool := unpack (vg v)
theorem vb_small {v : Nat} (h : v < 128) : vb v = top v 8 := by rw [vb, vg_small h, unpack_one]
theorem vb_big {v : Nat} (h : 128 ≤ v) : vb v = top (v % 128 + 128) 8 ++ vb (v / 128) := by rw [vb, vg_big h, unpack_cons]; rfl
theorem vg_lt (v : Nat) : ∀ c ∈ vg v, c < 256 := by
  induction v using Nat.strongRecOn with
  | _ v ih =>
    by_cases h : v < 128
    · rw [vg_small h]; intro c hc; simp at hc; omega
    · rw [vg_big (by omega)]
      intro c hc
      rcases List.mem_cons.1 hc with rfl | hc
      · omega
      · exact ih (v / 128) (by omega) c hc
theorem vg_pos (v : Nat) : 1 ≤ (vg v).length := by
  by_cases h : v < 128
  · rw [vg_small h]; simp
  · rw [vg_big (by omega)]; simp
theorem vg_le (v k : Nat) (h : v < 128 ^ (k + 1)) : (vg v).length ≤ k + 1 := by
  induction k generalizing v with
  | zero => rw [vg_small (by simpa using h)]; simp
  | succ k ih =>
    by_cases hs : v < 128
    · rw [vg_small hs]; simp
    · rw [vg_big (by omega), List.length_cons]
      have := ih (v / 128) (by rw [Nat.div_lt_iff_lt_mul (by decide)]; rw [Nat.pow_succ] at h; exact h)
      omega
theorem vg_ten (v : Nat) (h : v < 18446744073709551616) : (vg v).length ≤ 10 :=
  vg_le v 9 (Nat.lt_of_lt_of_le h (by decide))
theorem vg_mono (a b : Nat) (h : a ≤ b) : (vg a).length ≤ (vg b).length := by
  induction b using Nat.strongRecOn generalizing a with
  | _ b ih =>
    by_cases ha : a < 128
    · rw [vg_small ha]; exact vg_pos b
    · rw [vg_big (by omega), vg_big (v := b) (by omega), List.length_cons, List.length_cons]
      have := ih (b / 128) (by omega) (a / 128) (by omega)
      omega
theorem vb_length (v : Nat) : (vb v).length = 8 * (vg v).length := unpack_length _
/-- a number that may be below nought, as one that is not -/
def zz (v : Int) : Nat := if 0 ≤ v then (2 * v).toNat else (-2 * v - 1).toNat
def uz (t : Nat) : Int := if t % 2 = 1 then -((t / 2 : Nat) : Int) - 1 else ((t / 2 : Nat) : Int)
theorem uz_zz (v : Int) : uz (zz v) = v := by
  unfold uz zz
  by_cases h : 0 ≤ v
  · rw [if_pos h, if_neg (by omega)]; omega
  · rw [if_neg h, if_pos (by omega)]; omega
theorem zz_lt (v : Int) (h1 : -9223372036854775808 ≤ v) (h2 : v ≤ 9223372036854775807) : zz v < 18446744073709551616 := by
  unfold zz; split <;> omega
theorem uz_bd (t : Nat) (h : t < 18446744073709551616) : -9223372036854775808 ≤ uz t ∧ uz t ≤ 9223372036854775807 := by
  unfold uz; split <;> omega
/-- reading: the number, the error, how many bits were taken -/
def rvf : Nat → Nat → Nat → List Bool → Nat × Nat × Nat
  | 0, _, _, _ => (0, 21, 0)
  | f + 1, i, v, S =>
    if S.length < 8 then (0, 20, 0)
    else if i = 9 ∧ 1 < val (S.take 8) then (0, 21, 0)
    else if 128 ≤ val (S.take 8) then rvf f (i + 1) (v + val (S.take 8) % 128 * 2 ^ (7 * i)) (S.drop 8)
    else if val (S.take 8) = 0 ∧ 0 < i then (0, 21, 0)
    else (v + val (S.take 8) % 128 * 2 ^ (7 * i), 0, 8 * (i + 1))
def rv (S : List Bool) : Nat × Nat × Nat := rvf 10 0 0 S
theorem rvf_err (f i v : Nat) (S : List Bool) : (rvf f i v S).2.1 = 0 ∨ ((rvf f i v S).1 = 0 ∧ (rvf f i v S).2.2 = 0 ∧ ((rvf f i v S).2.1 = 20 ∨ (rvf f i v S).2.1 = 21)) := by
  induction f generalizing i v S with
  | zero => exact .inr ⟨rfl, rfl, .inr rfl⟩
  | succ f ih =>
    unfold rvf
    split
    · exact .inr ⟨rfl, rfl, .inl rfl⟩
    · split
      · exact .inr ⟨rfl, rfl, .inr rfl⟩
      · split
        · exact ih _ _ _
        · split
          · exact .inr ⟨rfl, rfl, .inr rfl⟩
          · exact .inl rfl
theorem val_head8 (c : Nat) (R : List Bool) (h : c < 256) : val ((top c 8 ++ R).take 8) = c := by
  rw [List.take_append_of_le_length (by rw [top_length]; omega), List.take_of_length_le (by rw [top_length]; omega), val_top]
  omega
theorem drop_head8 (c : Nat) (R : List Bool) : (top c 8 ++ R).drop 8 = R := by
  rw [List.drop_append_of_le_length (by rw [top_length]; omega), List.drop_of_length_le (by rw [top_length]; omega), List.nil_append]
theorem rvf_back (f i acc v : Nat) (R : List Bool) (hf : f + i = 10) (h0 : 0 < f) (hv : v < 2 ^ (64 - 7 * i)) (hi : i = 0 ∨ 0 < v) :
    rvf f i acc (vb v ++ R) = (acc + v * 2 ^ (7 * i), 0, 8 * (i + (vg v).length)) := by
  induction f generalizing i acc v with
  | zero => omega
  | succ f ih =>
    by_cases hs : v < 128
    · rw [vb_small hs, vg_small hs]
      unfold rvf
      rw [val_head8 v R (by omega), if_neg (by simp [top_length]), if_neg, if_neg (by omega), if_neg (by omega), Nat.mod_eq_of_lt hs]
      · rfl
      · rintro ⟨rfl, h⟩; simp at hv; omega
    · have hi9 : i < 9 := by
        refine Nat.lt_of_not_le fun h => ?_
        have : i = 9 := by omega
        subst this; simp at hv; omega
      rw [vb_big (by omega), vg_big (by omega), List.append_assoc]
      unfold rvf
      rw [val_head8 _ _ (by omega), drop_head8, if_neg (by simp [top_length]), if_neg (by omega), if_pos (by omega)]
      have e1 : (v % 128 + 128) % 128 = v % 128 := by omega
      have hp : 2 ^ (64 - 7 * i) = 2 ^ (64 - 7 * (i + 1)) * 128 := by
        rw [show 64 - 7 * i = (64 - 7 * (i + 1)) + 7 by omega, Nat.pow_add]
      rw [ih (i + 1) _ (v / 128) (by omega) (by omega) (by rw [Nat.div_lt_iff_lt_mul (by decide), ← hp]; exact hv) (.inr (by omega)), e1]
      simp only [Prod.mk.injEq, List.length_cons, true_and]
      refine ⟨?_, by omega⟩
      have hp2 : 2 ^ (7 * (i + 1)) = 128 * 2 ^ (7 * i) := by rw [show 7 * (i + 1) = 7 + 7 * i by omega, Nat.pow_add]
      rw [hp2, Nat.add_assoc, ← Nat.mul_assoc, ← Nat.add_mul]
      congr 2; omega
theorem rv_back (v : Nat) (R : List Bool) (h : v < 18446744073709551616) : rv (vb v ++ R) = (v, 0, (vb v).length) := by
  rw [rv, rvf_back 10 0 0 v R rfl (by decide) h (.inl rfl), vb_length]
  simp
theorem top8_val (S : List Bool) (h : 8 ≤ S.length) : top (val (S.take 8)) 8 = S.take 8 := by
  have := top_val (S.take 8)
  rwa [List.length_take, Nat.min_eq_left h] at this
theorem rvf_one (f i acc : Nat) (S : List Bool) (hf : f + i = 10) (h : (rvf f i acc S).2.1 = 0) :
    ∃ u, (rvf f i acc S).1 = acc + u * 2 ^ (7 * i) ∧ (rvf f i acc S).2.2 = 8 * (i + (vg u).length) ∧ 8 * (vg u).length ≤ S.length ∧ S.take (8 * (vg u).length) = vb u ∧ u < 2 ^ (64 - 7 * i) ∧ (i = 0 ∨ 0 < u) := by
  induction f generalizing i acc S with
  | zero => simp [rvf] at h
  | succ f ih =>
    have hl := val_lt (S.take 8)
    unfold rvf at h ⊢
    by_cases h1 : S.length < 8
    · simp [h1] at h
    · rw [if_neg h1] at h ⊢
      rw [List.length_take, Nat.min_eq_left (by omega)] at hl
      by_cases h2 : i = 9 ∧ 1 < val (S.take 8)
      · simp [h2] at h
      · rw [if_neg h2] at h ⊢
        have ht := top8_val S (by omega)
        by_cases h3 : 128 ≤ val (S.take 8)
        · rw [if_pos h3] at h ⊢
          have hi9 : i < 9 := by omega
          obtain ⟨u, e1, e2, e3, e4, e5, e6⟩ := ih (i + 1) _ (S.drop 8) (by omega) h
          have hu : 0 < u := by omega
          generalize hg : val (S.take 8) = g at *
          refine ⟨g % 128 + 128 * u, ?_, ?_, ?_, ?_, ?_, .inr (by omega)⟩
          · rw [e1, show 7 * (i + 1) = 7 + 7 * i by omega, Nat.pow_add, Nat.add_mul, Nat.add_assoc]
            congr 2
            rw [Nat.mul_comm 128 u, Nat.mul_assoc]
          · rw [e2, vg_big (v := g % 128 + 128 * u) (by omega), List.length_cons, show (g % 128 + 128 * u) / 128 = u by omega]; omega
          · rw [vg_big (by omega), List.length_cons, show (g % 128 + 128 * u) / 128 = u by omega]
            rw [List.length_drop] at e3; omega
          · rw [vb_big (by omega), vg_big (by omega), List.length_cons, show (g % 128 + 128 * u) / 128 = u by omega, show (g % 128 + 128 * u) % 128 + 128 = g by omega, ht, ← e4]
            rw [show 8 * ((vg u).length + 1) = 8 + 8 * (vg u).length by omega, List.take_add]
          · have hp : 2 ^ (64 - 7 * i) = 2 ^ (64 - 7 * (i + 1)) * 128 := by
              rw [show 64 - 7 * i = (64 - 7 * (i + 1)) + 7 by omega, Nat.pow_add]
            omega
        · rw [if_neg h3] at h ⊢
          by_cases h4 : val (S.take 8) = 0 ∧ 0 < i
          · simp [h4] at h
          · rw [if_neg h4] at h ⊢
            generalize hg : val (S.take 8) = g at *
            have hgl : g < 128 := by omega
            refine ⟨g, by rw [Nat.mod_eq_of_lt hgl], by rw [vg_small hgl]; rfl, by rw [vg_small hgl]; simp; omega, by rw [vb_small hgl, vg_small hgl, ht]; rfl, ?_, by omega⟩
            by_cases h9 : i = 9
            · subst h9; simp; omega
            · have : 2 ^ 8 ≤ 2 ^ (64 - 7 * i) := Nat.pow_le_pow_right (by decide) (by omega)
              omega
theorem rv_one (S : List Bool) (h : (rv S).2.1 = 0) : (rv S).1 < 18446744073709551616 ∧ (rv S).2.2 = 8 * (vg (rv S).1).length ∧ 8 * (vg (rv S).1).length ≤ S.length ∧ S.take (8 * (vg (rv S).1).length) = vb (rv S).1 := by
  obtain ⟨u, e1, e2, e3, e4, e5, _⟩ := rvf_one 10 0 0 S rfl h
  have e : (rv S).1 = u := by rw [rv, e1]; simp
  rw [e]
  exact ⟨by simpa using e5, by rw [rv, e2]; simp, e3, e4⟩
theorem rv_err (S : List Bool) : (rv S).2.1 = 0 ∨ ((rv S).1 = 0 ∧ (rv S).2.2 = 0 ∧ ((rv S).2.1 = 20 ∨ (rv S).2.1 = 21)) := rvf_err _ _ _ _
theorem rv_lt (S : List Bool) : (rv S).1 < 18446744073709551616 := by
  rcases rv_err S with h | h
  · exact (rv_one S h).1
  · rw [h.1]; decide
theorem rv_take (S : List Bool) : (rv S).2.2 ≤ S.length := by
  rcases rv_err S with h | h
  · have := rv_one S h; omega
  · rw [h.2.1]; exact Nat.zero_le _
end Go.Proofs.YtdlifcpdlbmijaaGreatDoor.B2.Bt
namespace Go.Proofs.YtdlifcpdlbmijaaGreatDoor.B2
open Go.RowKit
/-- only these blocks, and what is new, may have turned -/
structure Only (S : List Nat) (w w' : World) : Prop where
  os : w'.os = w.os
  tape : w'.tape = w.tape
  output : w'.output = w.output
  size : w.heap.size ≤ w'.heap.size
  block : ∀ k, k < w.heap.size → k ∉ S → w'.heap[k]? = w.heap[k]?
theorem Only.refl (S : List Nat) (w : World) : Only S w w := ⟨rfl, rfl, rfl, Nat.le_refl _, fun _ _ _ => rfl⟩
theorem Only.trans {S S' : List Nat} {a b c : World} (h : Only S a b) (k : Only S' b c) (hs : ∀ x ∈ S', x ∈ S ∨ a.heap.size ≤ x) : Only S a c :=
  ⟨k.os.trans h.os, k.tape.trans h.tape, k.output.trans h.output, Nat.le_trans h.size k.size, fun i hi hn => (k.block i (Nat.lt_of_lt_of_le hi h.size) (fun hm => by
    rcases hs i hm with h1 | h1
    · exact hn h1
    · omega)).trans (h.block i hi hn)⟩
theorem Only.mono {S S' : List Nat} {a b : World} (h : Only S a b) (hs : ∀ x ∈ S, x ∈ S') : Only S' a b := ⟨h.os, h.tape, h.output, h.size, fun i hi hn => h.block i hi fun hm => hn (hs i hm)⟩
theorem Only.drew {S : List Nat} {a b : World} (h : Only S a b) : Only S a b.drew := ⟨h.os, h.tape, h.output, h.size, h.block⟩
theorem Only.drewN {S : List Nat} {a b : World} (h : Only S a b) (n : Nat) : Only S a (b.drewN n) := ⟨h.os, h.tape, h.output, h.size, h.block⟩
theorem Only.alloc {S : List Nat} {a b : World} (h : Only S a b) (o : Obj) : Only S a (b.alloc o) :=
  ⟨h.os, h.tape, h.output, Nat.le_trans h.size (by simp), fun k hk hn => (Below.heap_alloc _ _ _ (Nat.lt_of_lt_of_le hk h.size)).trans (h.block k hk hn)⟩
theorem Only.setCell {S : List Nat} {a b : World} (h : Only S a b) {p : Addr} (hp : p.block ∈ S ∨ a.heap.size ≤ p.block) (u : Value) : Only S a (b.setCell p u) :=
  ⟨h.os, h.tape, h.output, by simpa [World.setCell] using h.size, fun k hk hn => (Below.heap_setCell _ _ _ _ (by
    rintro rfl
    rcases hp with hp | hp
    · exact hn hp
    · omega)).trans (h.block k hk hn)⟩
theorem Only.grown {S : List Nat} {a b c : World} {row : Option Nat} (h : Only S a b) (hg : b.grownBy c row) (hr : ∀ k, row = some k → k ∈ S ∨ a.heap.size ≤ k) : Only S a c :=
  ⟨hg.os.trans h.os, hg.tape.trans h.tape, hg.output.trans h.output, Nat.le_trans h.size hg.size, fun k hk hn => (hg.block k (Nat.lt_of_lt_of_le hk h.size) (fun e => by
    rcases hr k e.symm with h1 | h1
    · exact hn h1
    · omega)).trans (h.block k hk hn)⟩
theorem Only.of_below {a b : World} (h : Below a.heap.size a b) (S : List Nat) : Only S a b := ⟨h.os, h.tape, h.output, h.size, fun k hk _ => h.block k hk⟩
theorem Only.below {S : List Nat} {a b : World} (h : Only S a b) {B : Nat} (hB : B ≤ a.heap.size) (hs : ∀ x ∈ S, B ≤ x) : Below B a b :=
  ⟨h.os, h.tape, h.output, h.size, fun k hk => h.block k (Nat.lt_of_lt_of_le hk hB) fun hm => by have := hs k hm; omega⟩
theorem Only.cell {S : List Nat} {a b : World} (h : Only S a b) {p : Addr} (hp : p.block < a.heap.size) (hn : p.block ∉ S) : b.cell? p = a.cell? p := World.cell?_of_block (w := a) (h.block _ hp hn)
theorem Only.lift {S : List Nat} {B : Nat} {a b c : World} (h : Below B a b) (k : Only S b c) (hB : B ≤ b.heap.size) (hs : ∀ x ∈ S, B ≤ x) : Below B a c := h.trans (k.below hB hs)
/-- numbers as cells -/
def cellsOf (bs : List Nat) : List Value := bs.map fun c => Value.int .u8 ((c : Nat) : Int)
theorem cellsOf_length (bs : List Nat) : (cellsOf bs).length = bs.length := by simp [cellsOf]
theorem cellsOf_one (bs : List Nat) : ∀ u ∈ cellsOf bs, u.oneCell' = true := by
  intro u hu
  obtain ⟨c, _, rfl⟩ := List.mem_map.1 hu
  rfl
theorem cellsOf_append (a b : List Nat) : cellsOf (a ++ b) = cellsOf a ++ cellsOf b := by simp [cellsOf]
theorem cellsOf_get (bs : List Nat) (i : Nat) (h : i < bs.length) : (cellsOf bs)[i]? = some (.int .u8 ((bs[i] : Nat) : Int)) := by
  simp [cellsOf, h]
theorem add_here (g j : Nat) : (⟨g, 0, none⟩ : Addr).add j = ⟨g, j, none⟩ := by unfold Addr.add; split <;> simp_all
theorem add_at (g o j : Nat) : (⟨g, o, none⟩ : Addr).add j = ⟨g, o + j, none⟩ := by unfold Addr.add; split <;> simp_all
section
variable {P : Program}
/-- append to a row of the call's own, with the word where the row lies behind it -/
theorem run_append_place (w : World) (t ty e : TypeId) (i : TypeInfo) (z : Value) (size bytes : Nat) (ht : P.underlying t = some (.slice e)) (hi : P.info? e = some i) (hz : i.zero = some z)
    (hsize : i.size = size) (hby : i.bytes = bytes) (hzs : z.cells.size = size) (hsz : 0 < size)
    (v : Value) (n : Nat) (xs : List Value) (hown : w.ownsRow 0 e size v n xs)
    (a : Addr) (m c : Nat) (news : List Value) (hl : news.length = m * size) (hnews : ∀ j u, news[j]? = some u → w.cell? (a.add j) = some u) (h1 : ∀ u ∈ news, u.oneCell' = true)
    (h63 : n + m ≤ maxLen) (hbytes : (n + m) * bytes ≤ 140737488355328) :
    ∃ v' w', (Builtin.append_ #[t, t] ty #[v, .slice (some a) m c]).run P w = .ok v' w' ∧ w'.ownsRow 0 e size v' (n + m) (xs ++ news) ∧ w.grownBy w' v.ownBlock ∧
      (v'.ownBlock = v.ownBlock ∨ ∃ g, v'.ownBlock = some g ∧ w.heap.size ≤ g) := by
  obtain ⟨v', w', hr, h2, h3, h4⟩ := run_append_own (P := P) w 0 t ty e i z size bytes ht hi hz hsize hby hzs hsz v n xs hown a m c news hl hnews h1 h63 hbytes (Nat.zero_le _)
  refine ⟨v', w', hr, h2, h3, ?_⟩
  rcases hown.2 with ⟨rfl, rfl⟩ | ⟨g, cap, cur, rfl, hbg, hg, hnc, hcm, hcs, htake⟩
  · have hx : xs = [] := List.eq_nil_of_length_eq_zero (by simpa using hown.1)
    subst hx
    obtain ⟨v2, w2, hr2, k2, k3, k4⟩ := run_append_own (P := P) w w.heap.size t ty e i z size bytes ht hi hz hsize hby hzs hsz _ 0 [] (World.ownsRow_nil w _ e size) a m c news hl hnews h1 h63 hbytes (Nat.le_refl _)
    rw [hr] at hr2
    cases hr2
    cases hv : v'.ownBlock with
    | none => exact .inl rfl
    | some g => exact .inr ⟨g, rfl, (k2.lt g hv).1⟩
  · by_cases hroom : n + m ≤ cap
    · have hfit : n * i.size + news.length ≤ cur.size := by rw [hl, hcs, hsize, ← Nat.add_mul]; exact Nat.mul_le_mul_right _ hroom
      have hr2 := run_append_room (P := P) w t ty e i ht hi g n cap cur hg a m c news (by rw [hsize]; exact hl) hnews h1 hroom hfit
      rw [hr] at hr2
      cases hr2
      exact .inl rfl
    · have holds := hown.cells (g := g) rfl
      have hr2 := run_append_grow (P := P) w t ty e i z ht hi hz ⟨g, 0, none⟩ n cap xs (by rw [hsize]; exact hown.1) holds a m c news (by rw [hsize]; exact hl) hnews (by omega) (by simp only [maxLen] at h63; omega) (growslice_fits (by omega) (by rw [hby]; exact hbytes))
      rw [hr] at hr2
      cases hr2
      exact .inr ⟨_, rfl, Nat.le_refl _⟩
theorem wpList_append_place (w : World) {ops : Array Oper} {rest : List Oper} {o : Oper} {a : Act} {Q : Exit → Act → World → Prop} (hgd : o.guard = none) (s x : Operand) (t : TypeId)
    (ho : o.op = .call { callee := .builtin .append, args := #[s, x], argTypes := #[t, t] })
    (e : TypeId) (i : TypeInfo) (z : Value) (size bytes : Nat) (ht : P.underlying t = some (.slice e)) (hi : P.info? e = some i) (hz : i.zero = some z)
    (hsize : i.size = size) (hby : i.bytes = bytes) (hzs : z.cells.size = size) (hsz : 0 < size)
    (v : Value) (n : Nat) (xs : List Value) (hs : a.eval s = v) (hown : w.ownsRow 0 e size v n xs)
    (ad : Addr) (m c : Nat) (news : List Value) (hx : a.eval x = .slice (some ad) m c) (hl : news.length = m * size) (hnews : ∀ j u, news[j]? = some u → w.cell? (ad.add j) = some u) (h1 : ∀ u ∈ news, u.oneCell' = true)
    (h63 : n + m ≤ maxLen) (hbytes : (n + m) * bytes ≤ 140737488355328)
    (h : ∀ v' w', w'.ownsRow 0 e size v' (n + m) (xs ++ news) → w.grownBy w' v.ownBlock → (v'.ownBlock = v.ownBlock ∨ ∃ g, v'.ownBlock = some g ∧ w.heap.size ≤ g) → wpList P ops Q rest (a.put o.dst v') w') : wpList P ops Q (o :: rest) a w := by
  refine wpList_plain hgd fun K hK => ?_
  obtain ⟨v', w', hr, h2, h3, h4⟩ := run_append_place (P := P) w t o.type e i z size bytes ht hi hz hsize hby hzs hsz v n xs hown ad m c news hl hnews h1 h63 hbytes
  unfold Oper.wp execOp
  simp only [ho, resolve, invoke, builtin, Sem.run_bind, Sem.run_pure, Result.andThen_ok, List.map_toArray, List.map_cons, List.map_nil, hs, hx, hr]
  exact hK _ _ (h v' w' h2 h3 h4)
end
/-- a slice is the row of these bytes, from its block's head on; an empty one may be nil (then d is whatever it is) -/
def Row (w : World) (d : Nat) (v : Value) (ds : List Nat) : Prop :=
  w.ownsRow 0 5 1 v ds.length (cellsOf ds) ∧ (v.ownBlock = none ∨ v.ownBlock = some d)
theorem Row.nil (w : World) (d : Nat) : Row w d (.slice none 0 0) [] := ⟨World.ownsRow_nil w 0 5 1, .inl rfl⟩
theorem Row.value {w : World} {d : Nat} {v : Value} {ds : List Nat} (h : Row w d v ds) : (v = .slice none 0 0 ∧ ds = []) ∨ ∃ cap cur, v = .slice (some ⟨d, 0, none⟩) ds.length cap ∧ w.heap[d]? = some (.cells cur 5 (0, 0)) ∧ ds.length ≤ cap ∧ cap ≤ maxLen ∧ cur.size = cap ∧ cur.toList.take ds.length = cellsOf ds := by
  obtain ⟨⟨_, h1⟩, h2⟩ := h
  rcases h1 with ⟨hv, hn⟩ | ⟨g, cap, cur, hv, _, hg, hc, hm, hcs, ht⟩
  · exact .inl ⟨hv, List.eq_nil_of_length_eq_zero hn⟩
  · subst hv
    rcases h2 with h2 | h2
    · cases h2
    · simp only [Value.ownBlock, Option.some.injEq] at h2
      subst h2
      exact .inr ⟨cap, cur, rfl, hg, hc, hm, by simpa using hcs, by simpa using ht⟩
theorem Row.mk {w : World} {d cap : Nat} {cur : Array Value} {ds : List Nat} (hg : w.heap[d]? = some (.cells cur 5 (0, 0))) (hc : ds.length ≤ cap) (hm : cap ≤ maxLen) (hs : cur.size = cap) (ht : cur.toList.take ds.length = cellsOf ds) : Row w d (.slice (some ⟨d, 0, none⟩) ds.length cap) ds :=
  ⟨⟨by simp [cellsOf_length], .inr ⟨d, cap, cur, rfl, Nat.zero_le _, hg, hc, hm, by simpa using hs, by simpa using ht⟩⟩, .inr rfl⟩
theorem Row.only {w w' : World} {d : Nat} {v : Value} {ds : List Nat} (h : Row w d v ds) {S : List Nat} (ho : Only S w w') (hd : d ∉ S) : Row w' d v ds := by
  rcases h.value with ⟨rfl, rfl⟩ | ⟨cap, cur, rfl, hg, hc, hm, hs, ht⟩
  · exact Row.nil _ _
  · exact Row.mk ((ho.block d (Array.getElem?_eq_some_iff.1 hg).1 hd).trans hg) hc hm hs ht
theorem Row.below {w w' : World} {d : Nat} {v : Value} {ds : List Nat} (h : Row w d v ds) (ho : Below w.heap.size w w') : Row w' d v ds := h.only (Only.of_below ho []) (by simp)
theorem Row.cell {w : World} {d : Nat} {v : Value} {ds : List Nat} (h : Row w d v ds) (i : Nat) (hi : i < ds.length) : ∃ cap, v = .slice (some ⟨d, 0, none⟩) ds.length cap ∧ ds.length ≤ cap ∧ d < w.heap.size ∧ w.cell? ⟨d, i, none⟩ = some (.int .u8 ((ds[i] : Nat) : Int)) ∧ w.frozen? ⟨d, i, none⟩ = false := by
  rcases h.value with ⟨rfl, rfl⟩ | ⟨cap, cur, rfl, hg, hc, hm, hs, ht⟩
  · simp at hi
  · refine ⟨cap, rfl, hc, (Array.getElem?_eq_some_iff.1 hg).1, ?_, frozen_of_row _ _ _ _ _ hg⟩
    rw [cell_of_row _ _ _ _ _ _ hg, ← Array.getElem?_toList]
    have := congrArg (fun l => l[i]?) ht
    simp only [List.getElem?_take, if_pos hi, cellsOf_get ds i hi] at this
    exact this
theorem Row.len {w : World} {d : Nat} {v : Value} {ds : List Nat} (h : Row w d v ds) : ds.length ≤ maxLen := by
  rcases h.value with ⟨rfl, rfl⟩ | ⟨cap, cur, rfl, hg, hc, hm, hs, ht⟩
  · simp
  · omega
/-- one byte of it is written -/
theorem Row.set {w : World} {d cap : Nat} {a : Option Addr} {ini : List Nat} {c c' : Nat} (h : Row w d (.slice a (ini ++ [c]).length cap) (ini ++ [c])) :
    Row (w.setCell ⟨d, ini.length, none⟩ (.int .u8 (c' : Int))) d (.slice a (ini ++ [c]).length cap) (ini ++ [c']) := by
  rcases h.value with ⟨_, h0⟩ | ⟨cap', cur, hv, hg, hc, hm, hs, ht⟩
  · simp at h0
  · cases hv
    have hl : ini.length < cur.size := by simp at hc; omega
    have e : (ini ++ [c]).length = (ini ++ [c']).length := by simp
    rw [e]
    refine Row.mk (cur := cur.setIfInBounds ini.length (.int .u8 (c' : Int))) (heap_setCell_same _ _ _ _ _ _ hg) (by rw [← e]; exact hc) hm (by simpa using hs) ?_
    rw [Array.toList_setIfInBounds, List.take_set, ← e, ht, cellsOf_append, cellsOf_append]
    rw [List.set_append_right _ _ (by rw [cellsOf_length]; exact Nat.le_refl _), cellsOf_length, Nat.sub_self]
    rfl
theorem info5 : (Tryz.prog.info? 5).map (fun i => (i.zero, i.size, i.bytes)) = some (some (.int .u8 0), 1, 1) := by kernel_rfl
end Go.Proofs.YtdlifcpdlbmijaaGreatDoor.B2
namespace Go.Proofs.YtdlifcpdlbmijaaGreatDoor.B2
open Go.RowKit
/-- a writer: its struct's block, its bytes' block, its bits -/
def Wr (w : World) (p d : Nat) (B : List Bool) : Prop :=
  ∃ (v : Value) (ds : List Nat) (k : Nat), w.heap[p]? = some (.cells #[v, .int .i64 (B.length : Nat)] 240 (0, 0)) ∧ k < 8 ∧ Bt.Packs k ds B ∧ Row w d v ds ∧ (v.ownBlock = none ∨ d ≠ p) ∧ d < w.heap.size
theorem Wr.lt {w : World} {p d : Nat} {B : List Bool} (h : Wr w p d B) : p < w.heap.size ∧ d < w.heap.size := by
  obtain ⟨v, ds, k, hp, _, _, _, _, hd⟩ := h
  exact ⟨(Array.getElem?_eq_some_iff.1 hp).1, hd⟩
theorem Wr.only {w w' : World} {p d : Nat} {B : List Bool} (h : Wr w p d B) {S : List Nat} (ho : Only S w w') (hp : p ∉ S) (hd : d ∉ S) : Wr w' p d B := by
  obtain ⟨v, ds, k, h1, h2, h3, h4, h5, h6⟩ := h
  exact ⟨v, ds, k, (ho.block p (Array.getElem?_eq_some_iff.1 h1).1 hp).trans h1, h2, h3, h4.only ho hd, h5, Nat.lt_of_lt_of_le h6 ho.size⟩
theorem Wr.below {w w' : World} {p d : Nat} {B : List Bool} (h : Wr w p d B) (ho : Below w.heap.size w w') : Wr w' p d B := h.only (Only.of_below ho []) (by simp) (by simp)
theorem cell2 {w : World} {p : Nat} {a b : Value} {t : TypeId} (h : w.heap[p]? = some (.cells #[a, b] t (0, 0))) : w.cell? ⟨p, 0, none⟩ = some a ∧ w.cell? ⟨p, 1, none⟩ = some b ∧ w.frozen? ⟨p, 0, none⟩ = false ∧ w.frozen? ⟨p, 1, none⟩ = false :=
  ⟨by rw [cell_of_row _ _ _ _ _ _ h]; rfl, by rw [cell_of_row _ _ _ _ _ _ h]; rfl, frozen_of_row _ _ _ _ _ h, frozen_of_row _ _ _ _ _ h⟩
theorem set2a {w : World} {p : Nat} {a b c : Value} {t : TypeId} (h : w.heap[p]? = some (.cells #[a, b] t (0, 0))) : (w.setCell ⟨p, 0, none⟩ c).heap[p]? = some (.cells #[c, b] t (0, 0)) := by
  rw [heap_setCell_same _ _ _ _ _ _ h]; rfl
theorem set2b {w : World} {p : Nat} {a b c : Value} {t : TypeId} (h : w.heap[p]? = some (.cells #[a, b] t (0, 0))) : (w.setCell ⟨p, 1, none⟩ c).heap[p]? = some (.cells #[a, c] t (0, 0)) := by
  rw [heap_setCell_same _ _ _ _ _ _ h]; rfl
def NewPost (w : World) (e : Ending) (w' : World) : Prop := e = .returned (.pointer (some ⟨w.heap.size, 0, none⟩)) ∧ Wr w' w.heap.size w.heap.size [] ∧ Below w.heap.size w w' ∧ w'.heap.size = w.heap.size + 1
theorem new_any (w : World) : Calls Tryz.prog 75 #[] w (NewPost w) := by
  go_enter Tryz.func75, Tryz.ntmps75
  go_wp2
  go_ret
  exact ⟨rfl, ⟨_, [], 0, heap_alloc_new _ _, by omega, Bt.packs_nil, Row.nil _ _, .inl rfl, by simp⟩, (Below.refl _ _).alloc (Nat.le_refl _) _, by simp⟩
theorem or_piece (c v a b f : Nat) (hc : c < 256) : bits .or .u8 (c : Int) ((v : Int) / 2 ^ a % 256 * 2 ^ b % 256 / 2 ^ f) = ((c ||| (((v >>> a) % 256) <<< b % 256) >>> f : Nat) : Int) := by
  have e : ((v : Int) / 2 ^ a % 256 * 2 ^ b % 256 / 2 ^ f) = (((((v >>> a) % 256) <<< b % 256) >>> f : Nat) : Int) := by
    rw [Nat.shiftRight_eq_div_pow, Nat.shiftRight_eq_div_pow, Nat.shiftLeft_eq]
    simp only [Int.natCast_ediv, Int.natCast_emod, Int.natCast_mul, Int.natCast_pow, Int.cast_ofNat_Int]
  rw [e]
  exact u8_or_nat _ _ hc (Bt.piece_lt _ _)
def PutPost (w : World) (p d : Nat) (B : List Bool) (w' : World) : Prop := ∃ d', Wr w' p d' B ∧ (d' = d ∨ w.heap.size ≤ d') ∧ Only [p, d] w w'
theorem PutPost.drew {w w' : World} {p d : Nat} {B : List Bool} (h : PutPost w p d B w') : PutPost w p d B w'.drew := by
  obtain ⟨d', h1, h2, h3⟩ := h
  exact ⟨d', h1, h2, h3.drew⟩
theorem put_end {w W : World} {p d d1 m n k s v c cap : Nat} {B B1 : List Bool} {ini : List Nat} (h1 : W.heap[p]? = some (.cells #[.slice (some ⟨d1, 0, none⟩) (ini ++ [c]).length cap, .int .i64 (B1.length : Nat)] 240 (0, 0)))
    (hP : Bt.Packs k (ini ++ [c]) B1) (hR : Row W d1 (.slice (some ⟨d1, 0, none⟩) (ini ++ [c]).length cap) (ini ++ [c])) (hne : d1 ≠ p) (hlt : d1 < W.heap.size) (hO : Only [p, d] w W) (hd1 : d1 = d ∨ w.heap.size ≤ d1)
    (hk : k ≤ 8) (hsk : s ≤ k) (hs0 : 0 < s) (hsm : s ≤ m) (hmn : m ≤ n) (hB : B ++ Bt.top (v >>> m) (n - m) = B1) (x : Int) (hx : x = bits .or .u8 (c : Int) ((v : Int) / 2 ^ (m - s) % 256 * 2 ^ (8 - s) % 256 / 2 ^ (8 - k))) :
    PutPost w p d (B ++ Bt.top (v >>> (m - s)) (n - (m - s))) ((W.setCell ⟨d1, ini.length, none⟩ (.int .u8 x)).setCell ⟨p, 1, none⟩ (.int .i64 ((B1.length : Int) + (s : Int)))) := by
  rw [hx, or_piece c v (m - s) (8 - s) (8 - k) (hP.1 c (by simp))]
  have hP2 := hP.fill (x := v >>> (m - s)) hk hsk
  generalize (c ||| ((((v >>> (m - s)) % 256) <<< (8 - s)) % 256) >>> (8 - k)) = c' at *
  have e : B ++ Bt.top (v >>> (m - s)) (n - (m - s)) = B1 ++ Bt.top (v >>> (m - s)) s := by
    have h := Bt.top_split (v >>> (m - s)) (n - m) s
    rw [← Nat.shiftRight_add, show m - s + s = m by omega] at h
    rw [show n - (m - s) = n - m + s by omega, h, ← List.append_assoc, hB]
  rw [e]
  have h2 : (W.setCell ⟨d1, ini.length, none⟩ (.int .u8 (c' : Int))).heap[p]? = some (.cells #[.slice (some ⟨d1, 0, none⟩) (ini ++ [c]).length cap, .int .i64 (B1.length : Nat)] 240 (0, 0)) :=
    (Below.heap_setCell _ _ _ _ (fun h => hne h.symm)).trans h1
  have hR2 := hR.set (c' := c')
  have h3 := set2b (c := .int .i64 ((B1.length : Int) + (s : Int))) h2
  have hsz : d1 < ((W.setCell ⟨d1, ini.length, none⟩ (.int .u8 (c' : Int))).setCell ⟨p, 1, none⟩ (.int .i64 ((B1.length : Int) + (s : Int)))).heap.size := by simpa [World.setCell] using hlt
  refine ⟨d1, ⟨.slice (some ⟨d1, 0, none⟩) (ini ++ [c]).length cap, ini ++ [c'], k - s, ?_, by omega, hP2, ?_, .inr hne, hsz⟩, hd1, ?_⟩
  · have el : (B1 ++ Bt.top (v >>> (m - s)) s).length = B1.length + s := by rw [List.length_append, Bt.top_length]
    rw [h3, el]; rfl
  · exact hR2.only ((Only.refl [p] _).setCell (p := ⟨p, 1, none⟩) (.inl (by simp)) _) (by simpa using hne)
  · exact (hO.setCell (by rcases hd1 with rfl | h; exact .inl (by simp); exact .inr h) _).setCell (.inl (by simp)) _
theorem grow_row {W w' : World} {va v' : Value} {d1 N : Nat} {ds ns : List Nat} (hR : Row W d1 va ds) (hown : w'.ownsRow 0 5 1 v' (ds.length + ns.length) (cellsOf ds ++ cellsOf ns)) (hpl : v'.ownBlock = va.ownBlock ∨ ∃ g, v'.ownBlock = some g ∧ N ≤ g) (hn : 0 < ns.length) :
    ∃ d2 cap, v' = .slice (some ⟨d2, 0, none⟩) (ds.length + ns.length) cap ∧ ds.length + ns.length ≤ cap ∧ Row w' d2 (.slice (some ⟨d2, 0, none⟩) (ds.length + ns.length) cap) (ds ++ ns) ∧ ((va.ownBlock = some d1 ∧ d2 = d1) ∨ N ≤ d2) ∧ d2 < w'.heap.size := by
  have hown2 := hown
  rw [← cellsOf_append] at hown2
  rcases hown.2 with ⟨_, h0⟩ | ⟨g, cap, cur, rfl, _, hg, hcap, _⟩
  · omega
  · refine ⟨g, cap, rfl, hcap, ⟨?_, .inr rfl⟩, ?_, (Array.getElem?_eq_some_iff.1 hg).1⟩
    · rw [List.length_append]; exact hown2
    · rcases hpl with h | ⟨g', h, hl⟩
      · rcases hR.2 with h2 | h2
        · rw [h2] at h; cases h
        · rw [h2] at h
          simp only [Value.ownBlock, Option.some.injEq] at h
          exact .inl ⟨h2, h⟩
      · simp only [Value.ownBlock, Option.some.injEq] at h
        exact .inr (by omega)
theorem app_head {wr w2 : World} {p nq : Nat} {va b : Value} (h : wr.heap[p]? = some (.cells #[va, b] 240 (0, 0))) {o : Obj} (hg : ((wr.drewN nq).alloc o).grownBy w2 va.ownBlock) (hn : some p ≠ va.ownBlock) : w2.heap[p]? = some (.cells #[va, b] 240 (0, 0)) := by
  have hl : p < wr.heap.size := (Array.getElem?_eq_some_iff.1 h).1
  exact (hg.block p (by simp; omega) hn).trans ((Below.heap_alloc _ _ _ hl).trans h)
theorem app_row {wr w : World} {va : Value} {d d1 p : Nat} {ds : List Nat} (hR : Row wr d1 va ds) (hd : d1 = d ∨ w.heap.size ≤ d1) : ∀ k, va.ownBlock = some k → k ∈ [p, d] ∨ w.heap.size ≤ k := by
  intro k hk
  rcases hR.2 with h | h
  · rw [h] at hk; cases hk
  · rw [h] at hk; injection hk with hk; subst hk
    rcases hd with rfl | hd
    · exact .inl (by simp)
    · exact .inr hd
theorem app_apart {wr : World} {va b : Value} {p d1 d2 N : Nat} (hN : wr.heap.size ≤ N) (hn : some p ≠ va.ownBlock) (h : wr.heap[p]? = some (.cells #[va, b] 240 (0, 0))) (hd : (va.ownBlock = some d1 ∧ d2 = d1) ∨ N ≤ d2) : d2 ≠ p := by
  have hl : p < wr.heap.size := (Array.getElem?_eq_some_iff.1 h).1
  rcases hd with ⟨h1, rfl⟩ | h1
  · rw [h1] at hn; intro e; exact hn (by rw [e])
  · omega
theorem app_place {w wr : World} {d d1 d2 N : Nat} {va : Value} (hN : wr.heap.size ≤ N) (hd1 : d1 = d ∨ w.heap.size ≤ d1) (hs : w.heap.size ≤ wr.heap.size) (hd : (va.ownBlock = some d1 ∧ d2 = d1) ∨ N ≤ d2) : d2 = d ∨ w.heap.size ≤ d2 := by
  rcases hd with ⟨_, rfl⟩ | h1
  · exact hd1
  · omega
theorem one_zero (W : World) : ∀ (j : Nat) (u : Value), (cellsOf [0])[j]? = some u → (W.alloc (.cells #[.int .u8 0] 5)).cell? ((⟨W.heap.size, 0, none⟩ : Addr).add j) = some u := by
  intro j u hu
  rw [add_here, cell_of_row _ _ _ _ _ _ (heap_alloc_new W _)]
  rw [show (#[Value.int .u8 0] : Array Value) = (cellsOf [0]).toArray from rfl, List.getElem?_toArray]
  exact hu
set_option maxRecDepth 100000 in
set_option maxHeartbeats 400000 in
theorem put_any (p d : Nat) (B : List Bool) (v n : Nat) (hn : n ≤ 64) (w : World) (H : Wr w p d B) (hB : B.length + n ≤ 1000000000) :
    Calls Tryz.prog 100 #[.pointer (some ⟨p, 0, none⟩), .int .u64 (v : Nat), .int .i64 (n : Nat)] w fun e w' => e = .returned (.tuple #[]) ∧ PutPost w p d (B ++ Bt.top v n) w' := by
  have H0 := Lib.hid H
  clear H
  go_enter Tryz.func100, Tryz.ntmps100
  go_wp2
  go_loopw [2] (fun i wr => ∃ m : Nat, m ≤ n ∧ i = .int .i64 m ∧ Hid (PutPost w p d (B ++ Bt.top (v >>> m) (n - m)) wr)) (fun i _ => (intOf i).toNat)
  case atStart => exact ⟨n, Nat.le_refl _, rfl, Lib.hid ⟨d, by simpa [Bt.top] using H0.out, .inl rfl, Only.refl _ _⟩⟩
  case round =>
    obtain ⟨m, hm, rfl, d1, HW, hd1, HO⟩ := hrel
    by_cases hlt : 0 < m
    · have hd : decide ((m : Int) > 0) = true := by simp; omega
      have hBl : (B ++ Bt.top (v >>> m) (n - m)).length ≤ 1000000000 := by rw [List.length_append, Bt.top_length]; omega
      generalize hB1 : B ++ Bt.top (v >>> m) (n - m) = B1 at *
      have HB1 := Lib.hid hB1
      clear hB1
      obtain ⟨va, ds, k, h1, hk, hP, hR, hne, hdl⟩ := HW
      obtain ⟨c0, c1, f0, f1⟩ := cell2 h1
      have HH1 := Lib.hid h1
      clear h1
      have hl := hP.length
      by_cases hk0 : k = 0
      · subst hk0
        obtain ⟨i0, hi, hz0, hz1, hz2⟩ := info_parts info5
        obtain ⟨s, hsk, hsm, hs0, hsmin⟩ : ∃ s : Nat, s ≤ 8 ∧ s ≤ m ∧ 0 < s ∧ (if (m : Int) < 8 then (m : Int) else (8 : Int)) = (s : Int) := by
          by_cases h : m < 8
          · exact ⟨m, by omega, by omega, by omega, by rw [if_pos (by omega)]⟩
          · exact ⟨8, by omega, by omega, by omega, by rw [if_neg (by omega)]; rfl⟩
        have hms : (m : Int) - (s : Int) = ((m - s : Nat) : Int) := by omega
        have HR := Lib.hid hR
        have HP := Lib.hid hP
        have Hne := Lib.hid hne
        have hfree : (ds.length : Int) * 8 - (B1.length : Int) = 0 := by omega
        have hlen2 : ∃ a' cap', va = .slice a' ds.length cap' := by
          rcases hR.value with ⟨h, h'⟩ | ⟨cap, _, h, _⟩
          · rw [h, h']; exact ⟨_, _, rfl⟩
          · exact ⟨_, _, h⟩
        obtain ⟨a', cap', rfl⟩ := hlen2
        have hpo : some p ≠ (Value.slice a' ds.length cap').ownBlock := by
          intro e
          rcases hne with h | h
          · rw [h] at e; cases e
          · rcases hR.2 with h2 | h2
            · rw [h2] at e; cases e
            · rw [h2] at e; injection e with e; exact h e.symm
        have HPO := Lib.hid hpo
        clear hR hP hne hpo
        go_wp2
        go_quiet (fail)
        go_wp2_with (at_builtin; go_must (refine wpList_append_place _ rfl (.tmp 27) (.tmp 28) 24 rfl 5 i0 (.int .u8 0) 1 1 Tryz.underlying24 hi hz0 hz1 hz2 rfl (by decide) (.slice a' ds.length cap') ds.length (cellsOf ds) rfl (HR.out.below ((Below.refl _ _).alloc (Nat.le_refl _) _)).1 ⟨wr.heap.size, 0, none⟩ 1 1 (cellsOf [0]) rfl rfl (one_zero (wr.drewN nq)) (cellsOf_one _) (by unfold maxLen; omega) (by omega) ?_))
        intro v2 w2 hown2 hgr2 hpl2
        obtain ⟨d2, cap2, rfl, hcap2, R2, hd2, hd2l⟩ := grow_row (ns := [0]) HR.out hown2 hpl2 (by decide)
        have hp2 := app_head HH1.out hgr2 HPO.out
        have HO2 := Lib.hid (((HO.drewN nq).alloc _).grown hgr2 (app_row HR.out hd1))
        obtain ⟨e0, e1, g0, g1⟩ := cell2 hp2
        have HP2 := Lib.hid hp2
        clear hp2 hown2 hgr2
        have hdp := app_apart (Nat.le_succ _) HPO.out HH1.out hd2
        have HD2 := Lib.hid (app_place (Nat.le_succ _) hd1 HO.size hd2)
        clear hd2 hpl2
        obtain ⟨_, _, _, _, hcell, hfr⟩ := R2.cell ds.length (by simp)
        simp only [List.getElem_concat_length] at hcell
        have HR2 := Lib.hid R2
        clear R2
        have HL := Lib.hid hcap2
        clear hcap2
        go_wp2
        have E1 : IntKind.i64.wrap (ds.length : Int) = (ds.length : Int) := IntWalk.i64_in _ (by omega)
        have E3 : IntKind.i64.wrap (8 - (s : Int)) = ((8 - s : Nat) : Int) := by rw [show (8 : Int) - (s : Int) = ((8 - s : Nat) : Int) by omega]; exact IntWalk.i64_in _ (by omega)
        have E0 : IntKind.i64.wrap 0 = 0 := rfl
        have hi1 : (ds.length : Int) < (ds.length : Int) + 1 := by omega
        generalize hW : w2.setCell ⟨p, 0, none⟩ (.slice (some ⟨d2, 0, none⟩) (ds.length + 1) cap2) = W at *
        have c0' : W.cell? ⟨p, 0, none⟩ = some (.slice (some ⟨d2, 0, none⟩) (ds.length + 1) cap2) := by rw [← hW]; exact (cell2 (set2a HP2.out)).1
        have c1' : W.cell? ⟨p, 1, none⟩ = some (.int .i64 (B1.length : Nat)) := by rw [← hW]; exact (cell2 (set2a HP2.out)).2.1
        have f1' : W.frozen? ⟨p, 1, none⟩ = false := by rw [← hW]; exact (cell2 (set2a HP2.out)).2.2.2
        have hcell' : W.cell? ⟨d2, ds.length, none⟩ = some (.int .u8 0) := by rw [← hW]; exact (World.cell?_of_block (w := w2) (Below.heap_setCell _ _ _ _ hdp)).trans hcell
        have hfr' : W.frozen? ⟨d2, ds.length, none⟩ = false := by rw [← hW]; exact (World.frozen?_of_block (w := w2) (Below.heap_setCell _ _ _ _ hdp)).trans hfr
        have HW := Lib.hid hW
        clear hW hcell hfr e0 e1 g0 g1
        refine wp_region_still_tail 24 (by kernel_rfl) (by kernel_rfl) ?_
        change wpStill _ _ W.drew (fun a' => wpList _ _ _ _ a' W.drew) _ _
        simp only [List.take_succ_cons, List.take_zero, List.drop_succ_cons, List.drop_zero]
        repeat still_step
        refine wpStill_nil ?_
        clear E1 E3 hi1 E0
        go_wp2
        have hW2 := HW.out
        go_roundw
        case rel => exact ⟨m - s, by omega, rfl, Lib.hid (PutPost.drew (put_end (W := W) (ini := ds) (c := 0) (k := 8) (d1 := d2) (cap := cap2) (by rw [List.length_append, ← hW2]; exact set2a HP2.out) HP.out.grow (by rw [List.length_append, ← hW2]; exact HR2.out.only ((Only.refl [p] _).setCell (p := ⟨p, 0, none⟩) (.inl (by simp)) _) (by simpa using hdp)) hdp (by rw [← hW2]; simpa [World.setCell] using hd2l) (by rw [← hW2]; exact HO2.out.setCell (p := ⟨p, 0, none⟩) (.inl (by simp)) _) HD2.out (by omega) hsk hs0 hsm hm HB1.out _ (by simp)))⟩
        case measure => simp [intOf]; omega
      · have hds : 0 < ds.length := by omega
        obtain ⟨ini, c, rfl⟩ : ∃ ini c, ds = ini ++ [c] := ⟨ds.dropLast, ds.getLast (by intro h; rw [h] at hds; simp at hds), (List.dropLast_concat_getLast _).symm⟩
        obtain ⟨cap, rfl, hcap, hdw, hcell, hfr⟩ := hR.cell ini.length (by simp)
        have HR := Lib.hid hR
        have HP := Lib.hid hP
        clear hR hP
        have hc : c < 256 := HP.out.1 c (by simp)
        simp only [List.length_append, List.length_singleton] at hl hcap c0 hcell hds
        rw [List.getElem_append_right (Nat.le_refl _)] at hcell
        simp only [Nat.sub_self, List.getElem_singleton] at hcell
        have hfree : ((ini.length : Int) + 1) * 8 - (B1.length : Int) = (k : Int) := by omega
        have hk1 : ((k : Int) == 0) = false := by simp; omega
        have hdp : d1 ≠ p := by
          rcases hne with h | h
          · cases h
          · exact h
        obtain ⟨s, hsk, hsm, hs0, hsmin⟩ : ∃ s : Nat, s ≤ k ∧ s ≤ m ∧ 0 < s ∧ (if m < k then (m : Int) else (k : Int)) = (s : Int) := by
          by_cases h : m < k
          · exact ⟨m, by omega, by omega, by omega, by rw [if_pos (by omega)]⟩
          · exact ⟨k, by omega, by omega, by omega, by rw [if_neg (by omega)]⟩
        have hms : (m : Int) - (s : Int) = ((m - s : Nat) : Int) := by omega
        clear hk0
        go_wp2
        go_quiet (fail)
        go_wp2
        have E1 : IntKind.i64.wrap (ini.length : Int) = (ini.length : Int) := IntWalk.i64_in _ (by omega)
        have E2 : IntKind.i64.wrap (8 - (k : Int)) = ((8 - k : Nat) : Int) := by rw [show (8 : Int) - (k : Int) = ((8 - k : Nat) : Int) by omega]; exact IntWalk.i64_in _ (by omega)
        have E3 : IntKind.i64.wrap (8 - (s : Int)) = ((8 - s : Nat) : Int) := by rw [show (8 : Int) - (s : Int) = ((8 - s : Nat) : Int) by omega]; exact IntWalk.i64_in _ (by omega)
        have hi1 : (ini.length : Int) < (ini.length : Int) + 1 := by omega
        have E4 := or_piece c v (m - s) (8 - s) (8 - k) hc
        generalize (c ||| ((((v >>> (m - s)) % 256) <<< (8 - s)) % 256) >>> (8 - k)) = c' at E4
        refine wp_region_still_tail 24 (by kernel_rfl) (by kernel_rfl) ?_
        change wpStill _ _ (wr.drewN nq).drew (fun a' => wpList _ _ _ _ a' (wr.drewN nq).drew) _ _
        simp only [List.take_succ_cons, List.take_zero, List.drop_succ_cons, List.drop_zero]
        repeat still_step
        refine wpStill_nil ?_
        clear E1 E2 E3 E4 hi1
        go_wp2
        go_roundw
        case rel => exact ⟨m - s, by omega, rfl, Lib.hid (put_end (W := wr.drewN (nq + 1)) HH1.out HP.out HR.out hdp hdl (HO.drewN _) hd1 (by omega) hsk hs0 hsm hm HB1.out _ rfl)⟩
        case measure => simp [intOf]; omega
    · obtain rfl : m = 0 := by omega
      go_wp2
      go_end0
      exact ⟨rfl, d1, by simpa using HW, hd1, HO⟩
end Go.Proofs.YtdlifcpdlbmijaaGreatDoor.B2
namespace Go.Proofs.YtdlifcpdlbmijaaGreatDoor.B2
open Go.RowKit
theorem PutPost.trans {w w1 w2 : World} {p d d1 : Nat} {B : List Bool} (hO : Only [p, d] w w1) (hd : d1 = d ∨ w.heap.size ≤ d1) (h : PutPost w1 p d1 B w2) : PutPost w p d B w2 := by
  obtain ⟨d2, h1, h2, h3⟩ := h
  refine ⟨d2, h1, ?_, hO.trans h3 ?_⟩
  · have := hO.size
    rcases h2 with rfl | h2
    · exact hd
    · exact .inr (by omega)
  · intro x hx
    simp only [List.mem_cons, List.not_mem_nil, or_false] at hx ⊢
    rcases hx with rfl | rfl
    · exact .inl (.inl rfl)
    · rcases hd with rfl | hd
      · exact .inl (.inr rfl)
      · exact .inr hd
theorem PutPost.refl {w : World} {p d : Nat} {B : List Bool} (h : Wr w p d B) : PutPost w p d B w := ⟨d, h, .inl rfl, Only.refl _ _⟩
set_option maxHeartbeats 400000 in
theorem wbit_any (p d : Nat) (B : List Bool) (b : Bool) (w : World) (H : Wr w p d B) (hB : B.length + 1 ≤ 1000000000) :
    Calls Tryz.prog 104 #[.pointer (some ⟨p, 0, none⟩), .bool b] w fun e w' => e = .returned (.tuple #[]) ∧ PutPost w p d (B ++ [b]) w' := by
  have H0 := Lib.hid H
  clear H
  cases b
  · go_enter Tryz.func104, Tryz.ntmps104
    go_wp2_with fail
    refine (put_any p d B 0 1 (by omega) _ H0.out hB).mono ?_
    rintro e w' ⟨rfl, hp⟩
    have HP := Lib.hid hp
    clear hp
    go_wp2
    go_end0
    exact ⟨rfl, HP.out⟩
  · go_enter Tryz.func104, Tryz.ntmps104
    go_wp2_with fail
    refine (put_any p d B 1 1 (by omega) _ H0.out hB).mono ?_
    rintro e w' ⟨rfl, hp⟩
    have HP := Lib.hid hp
    clear hp
    go_wp2
    go_end0
    exact ⟨rfl, HP.out⟩
set_option maxHeartbeats 400000 in
theorem wbits_bad (p : Nat) (v : Nat) (n : Int) (hn : n < 0 ∨ 64 < n) (w : World) :
    Calls Tryz.prog 77 #[.pointer (some ⟨p, 0, none⟩), .int .u64 (v : Nat), .int .i64 n] w fun e w' => e = .returned (.int .u16 1) ∧ w = w' := by
  rcases hn with hn | hn
  · have h1 : decide (n < 0) = true := by simpa using hn
    go_enter Tryz.func77, Tryz.ntmps77
    go_wp2
    go_ret
    exact ⟨rfl, rfl⟩
  · have h1 : decide (n < 0) = false := by simp; omega
    have h2 : decide (n > 64) = true := by simpa using hn
    go_enter Tryz.func77, Tryz.ntmps77
    go_wp2
    go_ret
    exact ⟨rfl, rfl⟩
set_option maxHeartbeats 400000 in
theorem wbits_good (p d : Nat) (B : List Bool) (v n : Nat) (hn : n ≤ 64) (w : World) (H : Wr w p d B) (hB : B.length + n ≤ 1000000000) :
    Calls Tryz.prog 77 #[.pointer (some ⟨p, 0, none⟩), .int .u64 (v : Nat), .int .i64 (n : Nat)] w fun e w' => e = .returned (.int .u16 0) ∧ PutPost w p d (B ++ Bt.top v n) w' := by
  have H0 := Lib.hid H
  clear H
  have h1 : decide ((n : Int) < 0) = false := by simp
  have h2 : decide ((n : Int) > 64) = false := by simp; omega
  go_enter Tryz.func77, Tryz.ntmps77
  go_wp2_with fail
  refine (put_any p d B v n hn _ H0.out hB).mono ?_
  rintro e w' ⟨rfl, hp⟩
  have HP := Lib.hid hp
  clear hp
  go_wp2
  go_ret
  exact ⟨rfl, HP.out⟩
theorem or128 (u : Nat) (h : u < 18446744073709551616) : bits .or .u64 (u : Int) 128 = ((u ||| 128 : Nat) : Int) := u64_or_nat u 128 h (by decide)
theorem top_or128 (u : Nat) : Bt.top (u ||| 128) 8 = Bt.top (u % 128 + 128) 8 := by
  have h : ∀ x y : Nat, x % 256 = y % 256 → Bt.top x 8 = Bt.top y 8 := by
    intro x y hxy
    apply List.ext_getElem?
    intro i
    by_cases hi : i < 8
    · rw [Bt.top_get _ _ _ hi, Bt.top_get _ _ _ hi]
      have e := congrArg (fun z => Nat.testBit z (8 - 1 - i)) hxy
      simp only [show (256 : Nat) = 2 ^ 8 from rfl, Nat.testBit_mod_two_pow] at e
      rw [show decide (8 - 1 - i < 8) = true by simp; omega, Bool.true_and, Bool.true_and] at e
      rw [e]
    · rw [List.getElem?_eq_none (by rw [Bt.top_length]; omega), List.getElem?_eq_none (by rw [Bt.top_length]; omega)]
  apply h
  rw [show (256 : Nat) = 2 ^ 8 from rfl, Nat.or_mod_two_pow, show (128 % 2 ^ 8 : Nat) = 128 from rfl]
  have e2 : u % 2 ^ 8 = u % 256 := rfl
  rw [e2]
  by_cases hb : u % 256 < 128
  · have := Nat.two_pow_add_eq_or_of_lt (i := 7) (b := u % 256) (by simpa using hb) 1
    simp only [Nat.mul_one] at this
    rw [Nat.or_comm, show (128 : Nat) = 2 ^ 7 from rfl, ← this]
    omega
  · obtain ⟨x, hx, hx2⟩ : ∃ x, x < 128 ∧ u % 256 = 128 + x := ⟨u % 256 - 128, by omega, by omega⟩
    have := Nat.two_pow_add_eq_or_of_lt (i := 7) (b := x) (by simpa using hx) 1
    simp only [Nat.mul_one] at this
    rw [hx2, show (128 : Nat) = 2 ^ 7 from rfl, this, Nat.or_assoc, Nat.or_comm x, ← Nat.or_assoc, Nat.or_self, ← this]
    omega
/-- how far a varint has been put -/
def VarAt (w : World) (p d : Nat) (B : List Bool) (v u : Nat) (wr : World) : Prop := ∃ pre, pre ++ Bt.vb u = Bt.vb v ∧ PutPost w p d (B ++ pre) wr
set_option maxHeartbeats 400000 in
theorem wvarint_any (p d : Nat) (B : List Bool) (v : Nat) (hv : v < 18446744073709551616) (w : World) (H : Wr w p d B) (hB : B.length + 80 ≤ 1000000000) :
    Calls Tryz.prog 99 #[.pointer (some ⟨p, 0, none⟩), .int .u64 (v : Nat)] w fun e w' => e = .returned (.tuple #[]) ∧ PutPost w p d (B ++ Bt.vb v) w' := by
  have h80 : (Bt.vb v).length ≤ 80 := by rw [Bt.vb_length]; have := Bt.vg_ten v hv; omega
  have H0 := Lib.hid (show VarAt w p d B v v w from ⟨[], rfl, by simpa using PutPost.refl H⟩)
  have HV := Lib.hid hv
  clear H hv
  go_enter Tryz.func99, Tryz.ntmps99
  go_wp2
  go_loopw [1] (fun i wr => ∃ u : Nat, i = .int .u64 u ∧ u ≤ v ∧ Hid (VarAt w p d B v u wr)) (fun i _ => (intOf i).toNat)
  case atStart => exact ⟨v, rfl, Nat.le_refl _, H0⟩
  case round =>
    obtain ⟨u, rfl, hu, pre, hpre, d1, HW, hd1, HO⟩ := hrel
    have hl : pre.length + (Bt.vb u).length ≤ 80 := by rw [← List.length_append, hpre]; exact h80
    have HP := Lib.hid hpre
    have HX := Lib.hid HW
    have hu2 : 8 ≤ (Bt.vb u).length := by rw [Bt.vb_length]; have := Bt.vg_pos u; omega
    clear hpre HW
    by_cases hlt : 128 ≤ u
    · have ho := or128 u (Nat.lt_of_le_of_lt hu HV.out)
      have hd : decide ((u : Int) ≥ 128) = true := by simp; omega
      go_wp2_with fail
      refine (put_any p d1 (B ++ pre) (u ||| 128) 8 (by omega) _ HX.out (by rw [List.length_append]; omega)).mono ?_
      rintro e w' ⟨rfl, hp⟩
      have HY : Hid (VarAt w p d B v (u / 128) w') := by
        refine ⟨pre ++ Bt.top (u % 128 + 128) 8, by rw [List.append_assoc, ← Bt.vb_big hlt]; exact HP.out, ?_⟩
        rw [← List.append_assoc, ← top_or128]
        exact PutPost.trans HO hd1 hp
      clear hp
      go_wp2
      go_roundw
      case rel => exact ⟨u / 128, by simp, by omega, HY⟩
      case measure => simp [intOf]; omega
    · have hd : decide ((u : Int) ≥ 128) = false := by simp; omega
      go_wp2_with fail
      refine (put_any p d1 (B ++ pre) u 8 (by omega) _ HX.out (by rw [List.length_append]; omega)).mono ?_
      rintro e w' ⟨rfl, hp⟩
      have HY : Hid (PutPost w p d (B ++ Bt.vb v) w') := by
        rw [← HP.out, Bt.vb_small (by omega), ← List.append_assoc]
        exact PutPost.trans HO hd1 hp
      clear hp
      go_wp2
      go_end0
      exact ⟨rfl, HY.out⟩
end Go.Proofs.YtdlifcpdlbmijaaGreatDoor.B2
namespace Go.Proofs.YtdlifcpdlbmijaaGreatDoor.B2
open Go.RowKit
theorem zz_pos (v : Int) (h0 : 0 ≤ v) : v * 2 = ((Bt.zz v : Nat) : Int) := by
  unfold Bt.zz; rw [if_pos h0]; omega
theorem zz_neg (v : Int) (h1 : -9223372036854775808 ≤ v) (h0 : v < 0) : bits .xor .u64 IntKind.u64.max (IntKind.u64.wrap (IntKind.u64.wrap v * 2)) = ((Bt.zz v : Nat) : Int) := by
  have e : IntKind.u64.wrap (IntKind.u64.wrap v * 2) = ((2 * v + 18446744073709551616).toNat : Int) := by
    rw [IntKind.wrap_u64, IntKind.wrap_u64]; omega
  have hlt : (2 * v + 18446744073709551616).toNat < 18446744073709551616 := by omega
  rw [e]
  generalize hx : (2 * v + 18446744073709551616).toNat = x at *
  have hz : Bt.zz v = 18446744073709551615 - x := by unfold Bt.zz; rw [if_neg (by omega)]; omega
  rw [hz]
  have := u64_xor_nat 18446744073709551615 x (by decide) hlt
  rw [show IntKind.u64.max = ((18446744073709551615 : Nat) : Int) from rfl, this]
  congr 1
  have h2 : (BitVec.allOnes 64 ^^^ BitVec.ofNat 64 x).toNat = 18446744073709551615 ^^^ x := by
    rw [BitVec.toNat_xor, BitVec.toNat_allOnes, BitVec.toNat_ofNat, Nat.mod_eq_of_lt (by simpa using hlt)]
  rw [← h2, BitVec.allOnes_xor, BitVec.toNat_not, BitVec.toNat_ofNat, Nat.mod_eq_of_lt (by simpa using hlt)]
set_option maxHeartbeats 400000 in
theorem wsigned_any (p d : Nat) (B : List Bool) (v : Int) (h1 : -9223372036854775808 ≤ v) (h2 : v ≤ 9223372036854775807) (w : World) (H : Wr w p d B) (hB : B.length + 80 ≤ 1000000000) :
    Calls Tryz.prog 76 #[.pointer (some ⟨p, 0, none⟩), .int .i64 v] w fun e w' => e = .returned (.tuple #[]) ∧ PutPost w p d (B ++ Bt.vb (Bt.zz v)) w' := by
  have H0 := Lib.hid H
  have hs : IntKind.u64.signed = false := rfl
  clear H
  by_cases h0 : 0 ≤ v
  · have hd : decide (v < 0) = false := by simpa using h0
    go_enter Tryz.func76, Tryz.ntmps76
    go_wp2_with fail
    rw [zz_pos v h0]
    refine (wvarint_any p d B (Bt.zz v) (Bt.zz_lt v h1 h2) _ H0.out hB).mono ?_
    rintro e w' ⟨rfl, hp⟩
    have HP := Lib.hid hp
    clear hp
    go_wp2
    go_end0
    exact ⟨rfl, HP.out⟩
  · have hd : decide (v < 0) = true := by simp; omega
    go_enter Tryz.func76, Tryz.ntmps76
    go_wp2_with fail
    rw [zz_neg v h1 (by omega)]
    refine (wvarint_any p d B (Bt.zz v) (Bt.zz_lt v h1 h2) _ H0.out hB).mono ?_
    rintro e w' ⟨rfl, hp⟩
    have HP := Lib.hid hp
    clear hp
    go_wp2
    go_end0
    exact ⟨rfl, HP.out⟩
/-- a slice's address leads to these bytes -/
def Bys (w : World) (a : Option Addr) (bs : List Nat) : Prop :=
  bs.length ≤ maxLen ∧ (∀ c ∈ bs, c < 256) ∧ (bs ≠ [] → ∃ b off, a = some ⟨b, off, none⟩ ∧ b < w.heap.size ∧ ∀ i (h : i < bs.length), w.cell? ⟨b, off + i, none⟩ = some (.int .u8 ((bs[i] : Nat) : Int)))
theorem Bys.below {w w' : World} {a : Option Addr} {bs : List Nat} (h : Bys w a bs) (hb : Below w.heap.size w w') : Bys w' a bs := by
  obtain ⟨h1, h2, h3⟩ := h
  refine ⟨h1, h2, fun hn => ?_⟩
  obtain ⟨b, off, ha, hlt, hc⟩ := h3 hn
  exact ⟨b, off, ha, Nat.lt_of_lt_of_le hlt hb.size, fun i hi => (hb.cell (p := ⟨b, off + i, none⟩) hlt).trans (hc i hi)⟩
theorem Bys.at {w : World} {a : Option Addr} {bs : List Nat} (h : Bys w a bs) (k : Nat) (hk : k < bs.length) :
    ∃ b off, a = some ⟨b, off, none⟩ ∧ b < w.heap.size ∧ w.cell? ⟨b, off + k, none⟩ = some (.int .u8 ((bs[k] : Nat) : Int)) := by
  obtain ⟨b, off, e, hb, hc⟩ := h.2.2 (by intro h0; rw [h0] at hk; simp at hk)
  exact ⟨b, off, e, hb, hc k hk⟩
theorem Bys.cells {w : World} {ad : Addr} {bs : List Nat} (h : Bys w (some ad) bs) : ∀ j u, (cellsOf bs)[j]? = some u → w.cell? (ad.add j) = some u := by
  intro j u hu
  have hj : j < bs.length := by
    have := (List.getElem?_eq_some_iff.1 hu).1
    rwa [cellsOf_length] at this
  obtain ⟨b, off, e, _, hc⟩ := h.at j hj
  cases e
  rw [add_at, hc]
  rw [cellsOf_get bs j hj] at hu
  exact hu
theorem Bys.nil (w : World) (a : Option Addr) : Bys w a [] := ⟨by simp, by simp, fun h => absurd rfl h⟩
theorem Row.bys {w : World} {d : Nat} {a : Option Addr} {len cap : Nat} {ds : List Nat} (h : Row w d (.slice a len cap) ds) (h8 : ∀ c ∈ ds, c < 256) : len = ds.length ∧ Bys w a ds := by
  rcases h.value with ⟨hv, rfl⟩ | ⟨cap', cur, hv, hg, hc, hm, hs, ht⟩
  · cases hv; exact ⟨rfl, Bys.nil _ _⟩
  · cases hv
    refine ⟨rfl, h.len, h8, fun _ => ⟨d, 0, rfl, (Array.getElem?_eq_some_iff.1 hg).1, fun i hi => ?_⟩⟩
    obtain ⟨_, _, _, _, hcell, _⟩ := h.cell i hi
    rw [Nat.zero_add]; exact hcell
/-- what a copy comes to: a row of its own -/
def ClonePost (w : World) (bs : List Nat) (e : Ending) (w' : World) : Prop :=
  ∃ a cap g, e = .returned (.slice a bs.length cap) ∧ Row w' g (.slice a bs.length cap) bs ∧ (a = none ∨ w.heap.size ≤ g) ∧ Below w.heap.size w w'
set_option maxHeartbeats 400000 in
theorem clone_any (a : Option Addr) (bs : List Nat) (cap : Nat) (w : World) (H : Bys w a bs) (hc0 : a = none → cap = 0) (hbd : bs.length ≤ 1000000000) :
    Calls Tryz.prog 109 #[.slice a bs.length cap] w (ClonePost w bs) := by
  obtain ⟨i0, hi, hz0, hz1, hz2⟩ := info_parts info5
  have A1 := Lib.hid H
  clear H
  cases a with
  | none =>
    obtain rfl : cap = 0 := hc0 rfl
    have hbs : bs = [] := by
      refine Decidable.by_contra fun hn => ?_
      obtain ⟨b, off, e, _⟩ := A1.out.2.2 hn
      cases e
    subst hbs
    clear hc0
    go_enter Tryz.func109, Tryz.ntmps109
    go_wp2_with (at_builtin; refine wpList_append_own_none rfl (.const (.slice none 0 0)) (.tmp 3) 24 rfl 0 5 i0 1 Tryz.underlying24 hi (.slice none 0 0) 0 [] rfl (World.ownsRow_nil w 0 5 1) rfl ?_)
    go_ret
    exact ⟨none, 0, 0, rfl, Row.nil _ _, .inl rfl, Below.refl _ _⟩
  | some ad =>
    clear hc0
    go_enter Tryz.func109, Tryz.ntmps109
    go_wp2_with (at_builtin; refine wpList_append_place _ rfl (.const (.slice none 0 0)) (.tmp 3) 24 rfl 5 i0 (.int .u8 0) 1 1 Tryz.underlying24 hi hz0 hz1 hz2 rfl (by decide) (.slice none 0 0) 0 [] rfl (World.ownsRow_nil w 0 5 1) ad bs.length cap (cellsOf bs) rfl (by rw [cellsOf_length]; omega) A1.out.cells (cellsOf_one bs) (by unfold maxLen; omega) (by omega) ?_; intro v2 w2 hown2 hgr2 hpl2; have HO2 := Lib.hid hown2; have HG2 := Lib.hid hgr2; have HP2 := Lib.hid hpl2; clear hown2 hgr2 hpl2)
    go_ret
    have hown := HO2.out
    rw [Nat.zero_add, List.nil_append] at hown
    have hbel : Below w.heap.size w w2 := (Below.refl _ _).grown HG2.out (Nat.le_refl _) (fun k hk => by cases hk)
    have hv : ∃ a2 cap2, v2 = .slice a2 bs.length cap2 := by
      rcases hown.2 with ⟨h, h0⟩ | ⟨g, cap, cur, h, _⟩
      · rw [h, h0]; exact ⟨_, _, rfl⟩
      · exact ⟨_, _, h⟩
    obtain ⟨a2, cap2, rfl⟩ := hv
    rcases HP2.out with h | ⟨g, h, hg⟩
    · have ha : a2 = none := by
        cases a2 with
        | none => rfl
        | some x => cases h
      exact ⟨a2, cap2, 0, rfl, ⟨hown, .inl h⟩, .inl ha, hbel⟩
    · exact ⟨a2, cap2, g, rfl, ⟨hown, .inr h⟩, .inr hg, hbel⟩
/-- a writer's bytes, in a row of their own -/
def BytesPost (w : World) (B : List Bool) (e : Ending) (w' : World) : Prop := ∃ bs k, k < 8 ∧ Bt.Packs k bs B ∧ ClonePost w bs e w'
set_option maxHeartbeats 400000 in
theorem wbytes_any (p d : Nat) (B : List Bool) (w : World) (H : Wr w p d B) (hB : B.length ≤ 1000000000) :
    Calls Tryz.prog 81 #[.pointer (some ⟨p, 0, none⟩)] w (BytesPost w B) := by
  obtain ⟨v, ds, k, h1, hk, hP, hR, hne, hd⟩ := H
  obtain ⟨c0, _, _, _⟩ := cell2 h1
  have hlen2 : ∃ a' cap', v = .slice a' ds.length cap' ∧ (a' = none → cap' = 0) := by
    rcases hR.value with ⟨h, h'⟩ | ⟨cap, _, h, _⟩
    · rw [h, h']; exact ⟨_, _, rfl, fun _ => rfl⟩
    · exact ⟨_, _, h, fun h => by cases h⟩
  obtain ⟨a', cap', rfl, hc0⟩ := hlen2
  have hbd : ds.length ≤ 1000000000 := by have := hP.length; omega
  have HB := Lib.hid (hR.bys hP.1).2
  have HP := Lib.hid hP
  have HC := Lib.hid hc0
  clear hR hP h1 hne hc0
  go_enter Tryz.func81, Tryz.ntmps81
  go_wp2_with fail
  refine (clone_any a' ds cap' _ HB.out HC.out hbd).mono ?_
  rintro e w' ⟨a2, cap2, g, rfl, hp⟩
  have HX := Lib.hid hp
  clear hp
  go_wp2
  go_ret
  exact ⟨ds, k, hk, HP.out, a2, cap2, g, rfl, HX.out⟩
/-- a reader: its struct's block, its bytes' block, its bytes, its place -/
def Rd (w : World) (p g : Nat) (ds : List Nat) (at_ : Nat) : Prop :=
  ∃ v, w.heap[p]? = some (.cells #[v, .int .i64 (at_ : Nat)] 253 (0, 0)) ∧ Row w g v ds ∧ (v.ownBlock = none ∨ g ≠ p) ∧ g < w.heap.size ∧ at_ ≤ 8 * ds.length ∧ (∀ c ∈ ds, c < 256)
theorem Rd.lt {w : World} {p g : Nat} {ds : List Nat} {at_ : Nat} (h : Rd w p g ds at_) : p < w.heap.size ∧ g < w.heap.size := by
  obtain ⟨v, hp, _, _, hd, _⟩ := h
  exact ⟨(Array.getElem?_eq_some_iff.1 hp).1, hd⟩
theorem Rd.only {w w' : World} {p g : Nat} {ds : List Nat} {at_ : Nat} (h : Rd w p g ds at_) {S : List Nat} (ho : Only S w w') (hp : p ∉ S) (hg : g ∉ S) : Rd w' p g ds at_ := by
  obtain ⟨v, h1, h2, h3, h4, h5⟩ := h
  exact ⟨v, (ho.block p (Array.getElem?_eq_some_iff.1 h1).1 hp).trans h1, h2.only ho hg, h3, Nat.lt_of_lt_of_le h4 ho.size, h5⟩
theorem Rd.below {w w' : World} {p g : Nat} {ds : List Nat} {at_ : Nat} (h : Rd w p g ds at_) (ho : Below w.heap.size w w') : Rd w' p g ds at_ := h.only (Only.of_below ho []) (by simp) (by simp)
def ReadPost (w : World) (bs : List Nat) (e : Ending) (w' : World) : Prop :=
  ∃ p g, e = .returned (.pointer (some ⟨p, 0, none⟩)) ∧ w.heap.size ≤ p ∧ w.heap.size ≤ g ∧ Rd w' p g bs 0 ∧ Below w.heap.size w w'
set_option maxHeartbeats 400000 in
theorem read_any (a : Option Addr) (bs : List Nat) (cap : Nat) (w : World) (H : Bys w a bs) (hc0 : a = none → cap = 0) (hbd : bs.length ≤ 1000000000) :
    Calls Tryz.prog 85 #[.slice a bs.length cap] w (ReadPost w bs) := by
  have A1 := Lib.hid H
  have HC := Lib.hid hc0
  have H8 := Lib.hid H.2.1
  clear H hc0
  go_enter Tryz.func85, Tryz.ntmps85
  go_wp2_with fail
  refine (clone_any a bs cap _ A1.out HC.out hbd).mono ?_
  rintro e w1 ⟨a2, cap2, g, rfl, hR, hg, hb⟩
  have HR := Lib.hid hR
  have HG := Lib.hid hg
  have HB := Lib.hid hb
  clear hR hg hb
  go_wp2
  go_ret
  have hR := HR.out
  have hsz := HB.out.size
  have hbel : Below w.heap.size w (w1.alloc (.cells #[.slice a2 bs.length cap2, .int .i64 0] 253)) := HB.out.alloc hsz _
  have hR2 : Row (w1.alloc (.cells #[.slice a2 bs.length cap2, .int .i64 0] 253)) g (.slice a2 bs.length cap2) bs := hR.below ((Below.refl _ _).alloc (Nat.le_refl _) _)
  rcases hR.value with ⟨hv, h0⟩ | ⟨cap3, cur, hv, hg3, _⟩
  · subst h0
    cases hv
    exact ⟨w1.heap.size, w1.heap.size, rfl, hsz, hsz, ⟨_, heap_alloc_new _ _, Row.nil _ _, .inl rfl, by simp, by simp, H8.out⟩, hbel⟩
  · cases hv
    have hlt : g < w1.heap.size := (Array.getElem?_eq_some_iff.1 hg3).1
    refine ⟨w1.heap.size, g, rfl, hsz, ?_, ⟨_, heap_alloc_new _ _, hR2, .inr (by omega), by simp; omega, by simp, H8.out⟩, hbel⟩
    rcases HG.out with h | h
    · cases h
    · exact h
end Go.Proofs.YtdlifcpdlbmijaaGreatDoor.B2
namespace Go.Proofs.YtdlifcpdlbmijaaGreatDoor.B2
open Go.RowKit
theorem rd_slice {w : World} {p g : Nat} {ds : List Nat} {at_ : Nat} (h : Rd w p g ds at_) : ∃ a cap, w.cell? ⟨p, 0, none⟩ = some (.slice a ds.length cap) ∧ w.cell? ⟨p, 1, none⟩ = some (.int .i64 (at_ : Nat)) ∧ w.frozen? ⟨p, 1, none⟩ = false ∧ at_ ≤ 8 * ds.length ∧
    ∀ i (hi : i < ds.length), a = some ⟨g, 0, none⟩ ∧ w.cell? ⟨g, i, none⟩ = some (.int .u8 ((ds[i] : Nat) : Int)) := by
  obtain ⟨v, hp, hR, _, _, ha, _⟩ := h
  obtain ⟨c0, c1, _, f1⟩ := cell2 hp
  rcases hR.value with ⟨rfl, rfl⟩ | ⟨cap, _, rfl, _⟩
  · exact ⟨_, _, c0, c1, f1, ha, fun i hi => by simp at hi⟩
  · refine ⟨_, _, c0, c1, f1, ha, fun i hi => ⟨rfl, ?_⟩⟩
    obtain ⟨_, _, _, _, hc, _⟩ := hR.cell i hi
    exact hc
set_option maxHeartbeats 400000 in
theorem left_any (p g : Nat) (ds : List Nat) (at_ : Nat) (w : World) (H : Rd w p g ds at_) (hbd : ds.length ≤ 1000000000) :
    Calls Tryz.prog 127 #[.pointer (some ⟨p, 0, none⟩)] w fun e w' => e = .returned (.int .i64 ((8 * ds.length - at_ : Nat) : Int)) ∧ Below w.heap.size w w' := by
  obtain ⟨a, cap, c0, c1, f1, ha, _⟩ := rd_slice H
  clear H
  have E : (ds.length : Int) * 8 - (at_ : Int) = ((8 * ds.length - at_ : Nat) : Int) := by omega
  have HE := Lib.hid E
  clear E
  go_enter Tryz.func127, Tryz.ntmps127
  go_wp2
  go_quiet (fail)
  go_wp2
  go_ret
  exact ⟨by rw [← HE.out]; rfl, (Only.refl [] _).drewN _ |>.below (Nat.le_refl _) (by simp)⟩
theorem pow_le64 (k : Nat) (h : k ≤ 64) : 2 ^ k ≤ 18446744073709551616 := Nat.pow_le_pow_right (n := 2) (by decide) h
theorem take_value {ds : List Nat} {at_ k s A c : Nat} (hA : at_ + k = A) (hl : A < 8 * ds.length) (hc : ∀ h, ds[A / 8]'h = c) (hs : s ≤ 8 - A % 8) (h64 : k + s ≤ 64) (hle : A + s ≤ 8 * ds.length) :
    bits .or .u64 (IntKind.u64.wrap (((Bt.val (((Bt.unpack ds).drop at_).take k) : Nat) : Int) * 2 ^ s)) (IntKind.u64.wrap ((c : Int) * 2 ^ (A % 8) % 256 / 2 ^ (8 - s))) = ((Bt.val (((Bt.unpack ds).drop at_).take (k + s)) : Nat) : Int) := by
  have hq : A / 8 < ds.length := by omega
  have hr := Bt.read_here ds A s hq (by omega)
  rw [hc hq] at hr
  have hU := Bt.unpack_length ds
  have hv := Bt.val_take_add ((Bt.unpack ds).drop at_) k s (by rw [List.length_drop]; omega)
  rw [List.drop_drop, hA] at hv
  have hV : Bt.val (((Bt.unpack ds).drop at_).take k) < 2 ^ k := by
    have := Bt.val_lt (((Bt.unpack ds).drop at_).take k)
    rwa [List.length_take, List.length_drop, Nat.min_eq_left (by omega)] at this
  have hP : Bt.val (((Bt.unpack ds).drop A).take s) < 2 ^ s := by
    have := Bt.val_lt (((Bt.unpack ds).drop A).take s)
    rwa [List.length_take, List.length_drop, Nat.min_eq_left (by omega)] at this
  have e1 : ((c : Int) * 2 ^ (A % 8) % 256 / 2 ^ (8 - s)) = ((Bt.val (((Bt.unpack ds).drop A).take s) : Nat) : Int) := by
    rw [← hr, Nat.shiftRight_eq_div_pow, Nat.shiftLeft_eq]
    simp only [Int.natCast_ediv, Int.natCast_emod, Int.natCast_mul, Int.natCast_pow, Int.cast_ofNat_Int]
  rw [e1, hv]
  generalize Bt.val (((Bt.unpack ds).drop at_).take k) = V at *
  generalize Bt.val (((Bt.unpack ds).drop A).take s) = P at *
  have h1 : V * 2 ^ s < 18446744073709551616 := by
    have h2 : V * 2 ^ s < 2 ^ k * 2 ^ s := (Nat.mul_lt_mul_right (Nat.two_pow_pos s)).2 hV
    rw [← Nat.pow_add] at h2
    exact Nat.lt_of_lt_of_le h2 (pow_le64 _ h64)
  have h3 : P < 18446744073709551616 := Nat.lt_of_lt_of_le hP (pow_le64 _ (by omega))
  have e2 : (V : Int) * 2 ^ s = ((V * 2 ^ s : Nat) : Int) := by simp only [Int.natCast_mul, Int.natCast_pow, Int.cast_ofNat_Int]
  rw [e2]
  have w1 : IntKind.u64.wrap ((V * 2 ^ s : Nat) : Int) = ((V * 2 ^ s : Nat) : Int) := by rw [IntKind.wrap_u64]; omega
  have w2 : IntKind.u64.wrap (P : Int) = (P : Int) := by rw [IntKind.wrap_u64]; omega
  rw [w1, w2, u64_or_nat _ _ h1 h3, nat_join s _ _ (Nat.mul_mod_left _ _) hP]
def TakePost (w : World) (p g : Nat) (ds : List Nat) (at_ : Nat) (w' : World) : Prop := Rd w' p g ds at_ ∧ Only [p] w w'
set_option maxHeartbeats 400000 in
theorem take_any (p g : Nat) (ds : List Nat) (at_ n : Nat) (w : World) (H : Rd w p g ds at_) (hbd : ds.length ≤ 1000000000) (hn : n ≤ 64) (hle : at_ + n ≤ 8 * ds.length) :
    Calls Tryz.prog 128 #[.pointer (some ⟨p, 0, none⟩), .int .i64 (n : Nat)] w fun e w' => e = .returned (.int .u64 ((Bt.val (((Bt.unpack ds).drop at_).take n) : Nat) : Int)) ∧ TakePost w p g ds (at_ + n) w' := by
  have H0 := Lib.hid H
  clear H
  go_enter Tryz.func128, Tryz.ntmps128
  go_wp2
  go_loopw [1, 5] (fun i v wr => ∃ k : Nat, k ≤ n ∧ i = .int .i64 ((n - k : Nat) : Int) ∧ v = .int .u64 ((Bt.val (((Bt.unpack ds).drop at_).take k) : Nat) : Int) ∧ Hid (TakePost w p g ds (at_ + k) wr)) (fun i _ _ => (intOf i).toNat)
  case atStart => exact ⟨0, Nat.zero_le _, rfl, rfl, Lib.hid ⟨H0.out, Only.refl _ _⟩⟩
  case round =>
    obtain ⟨k, hk, rfl, rfl, HT⟩ := hrel
    by_cases hlt : k < n
    · obtain ⟨m, hm0, hm⟩ : ∃ m, 0 < m ∧ n - k = m := ⟨n - k, by omega, rfl⟩
      have hm1 : k + m = n := by omega
      obtain ⟨A, hA⟩ : ∃ A, at_ + k = A := ⟨_, rfl⟩
      have HMM := Lib.hid hm
      have HAA := Lib.hid hA
      have hAl : A < 8 * ds.length := by omega
      rw [hA] at HT
      rw [hm]
      clear hm hA
      obtain ⟨a, cap, c0, c1, f1, ha, hcells⟩ := rd_slice HT.out.1
      obtain ⟨rfl, hcell⟩ := hcells (A / 8) (by omega)
      have hc8 : ds[A / 8] < 256 := by
        obtain ⟨_, _, _, _, _, _, h8⟩ := HT.out.1
        exact h8 _ (List.getElem_mem _)
      obtain ⟨c, hcc⟩ : ∃ c, ds[A / 8] = c := ⟨_, rfl⟩
      have HC := Lib.hid hcc
      rw [hcc] at hcell hc8
      clear hcc hcells
      obtain ⟨s, hs1, hs2, hs0, hsmin⟩ : ∃ s : Nat, s ≤ 8 - A % 8 ∧ s ≤ m ∧ 0 < s ∧ (if m < 8 - A % 8 then (m : Int) else ((8 - A % 8 : Nat) : Int)) = (s : Int) := by
        by_cases h : m < 8 - A % 8
        · exact ⟨m, by omega, by omega, by omega, by rw [if_pos (by omega)]⟩
        · exact ⟨8 - A % 8, by omega, by omega, by omega, by rw [if_neg (by omega)]⟩
      have e1 : (8 : Int) - (A : Int) % 8 = ((8 - A % 8 : Nat) : Int) := by omega
      obtain ⟨q, hq⟩ : ∃ q, A / 8 = q := ⟨_, rfl⟩
      have HQ := Lib.hid hq
      rw [hq] at hcell
      have hql : (q : Int) < (ds.length : Int) := by omega
      have hqd : ((A : Int) / 8) = (q : Int) := by omega
      clear hq
      go_wp2
      have E1 : IntKind.i64.wrap ((A : Int).tdiv 8) = (q : Int) := by rw [Int.tdiv_eq_ediv_of_nonneg (by omega), hqd]; exact IntWalk.i64_in _ (by omega)
      have E2 : IntKind.i64.wrap (8 - (s : Int)) = ((8 - s : Nat) : Int) := by rw [show (8 : Int) - (s : Int) = ((8 - s : Nat) : Int) by omega]; exact IntWalk.i64_in _ (by omega)
      go_quiet (fail)
      clear E1 E2
      go_wp2
      have ev := take_value (ds := ds) (at_ := at_) (k := k) (s := s) (A := A) (c := c) HAA.out hAl (fun _ => HC.out) hs1 (by omega) (by have := HAA.out; omega)
      have EV := Lib.hid ev
      clear ev
      go_roundw
      case rel =>
        refine ⟨k + s, by omega, ?_, by rw [EV.out], Lib.hid ?_⟩
        · congr 1; have := HMM.out; omega
        · obtain ⟨⟨v, hp, hR, hne, hgl, _, h8⟩, hO⟩ := HT.out
          have e2 : at_ + (k + s) = A + s := by have := HAA.out; omega
          rw [e2]
          have hgp : v.ownBlock = none ∨ g ∉ [p] := by
            rcases hne with h | h
            · exact .inl h
            · exact .inr (by simpa using h)
          have hon : Only [p] wr ((wr.drewN nq).setCell ⟨p, 1, none⟩ (.int .i64 ((A : Int) + (s : Int)))) := ((Only.refl [p] wr).drewN nq).setCell (p := ⟨p, 1, none⟩) (.inl (by simp)) _
          refine ⟨⟨v, ?_, ?_, hne, ?_, by have := HAA.out; omega, h8⟩, hO.trans hon (fun x hx => .inl hx)⟩
          · rw [set2b (w := wr.drewN nq) hp]; rfl
          · rcases hgp with h | h
            · rcases hR.value with ⟨rfl, rfl⟩ | ⟨_, _, rfl, _⟩
              · exact Row.nil _ _
              · cases h
            · exact hR.only hon h
          · exact Nat.lt_of_lt_of_le hgl hon.size
      case measure => simp [intOf]; omega
    · obtain rfl : k = n := by omega
      rw [Nat.sub_self]
      go_wp2
      go_ret
      exact ⟨rfl, HT.out⟩
end Go.Proofs.YtdlifcpdlbmijaaGreatDoor.B2
namespace Go.Proofs.YtdlifcpdlbmijaaGreatDoor.B2
open Go.RowKit
/-- the next n bits: the number, the error, how many were taken -/
def Bt.rd (S : List Bool) (n : Int) : Nat × Nat × Nat :=
  if n < 0 ∨ 64 < n then (0, 1, 0) else if S.length < n.toNat then (0, 20, 0) else (Bt.val (S.take n.toNat), 0, n.toNat)
theorem TakePost.refl {w : World} {p g : Nat} {ds : List Nat} {at_ : Nat} (h : Rd w p g ds at_) : TakePost w p g ds at_ w := ⟨h, Only.refl _ _⟩
theorem TakePost.trans {w w1 w2 : World} {p g : Nat} {ds : List Nat} {a b : Nat} (h : TakePost w p g ds a w1) (k : TakePost w1 p g ds b w2) : TakePost w p g ds b w2 := ⟨k.1, h.2.trans k.2 (fun _ hx => .inl hx)⟩
def RbPost (w : World) (p g : Nat) (ds : List Nat) (at_ : Nat) (n : Int) (e : Ending) (w' : World) : Prop :=
  e = .returned (.tuple #[.int .u64 (((Bt.rd ((Bt.unpack ds).drop at_) n).1 : Nat) : Int), .int .u16 (((Bt.rd ((Bt.unpack ds).drop at_) n).2.1 : Nat) : Int)]) ∧ TakePost w p g ds (at_ + (Bt.rd ((Bt.unpack ds).drop at_) n).2.2) w'
set_option maxHeartbeats 400000 in
theorem rbits_any (p g : Nat) (ds : List Nat) (at_ : Nat) (n : Int) (w : World) (H : Rd w p g ds at_) (hbd : ds.length ≤ 1000000000) :
    Calls Tryz.prog 125 #[.pointer (some ⟨p, 0, none⟩), .int .i64 n] w (RbPost w p g ds at_ n) := by
  have hU : ((Bt.unpack ds).drop at_).length = 8 * ds.length - at_ := by rw [List.length_drop, Bt.unpack_length]
  have hat : at_ ≤ 8 * ds.length := by
    obtain ⟨_, _, _, _, _, h, _⟩ := H
    exact h
  by_cases hn : n < 0 ∨ 64 < n
  · have hpost : RbPost w p g ds at_ n (.returned (.tuple #[.int .u64 0, .int .u16 1])) w := by
      unfold RbPost Bt.rd
      rw [if_pos hn]
      exact ⟨rfl, TakePost.refl H⟩
    have HP := Lib.hid hpost
    clear hpost H hU
    rcases hn with hn | hn
    · have h1 : decide (n < 0) = true := by simpa using hn
      go_enter Tryz.func125, Tryz.ntmps125
      go_wp2
      go_ret2
      exact HP.out
    · have h1 : decide (n < 0) = false := by simp; omega
      have h2 : decide (n > 64) = true := by simpa using hn
      go_enter Tryz.func125, Tryz.ntmps125
      go_wp2
      go_ret2
      exact HP.out
  · obtain ⟨m, rfl⟩ := Int.eq_ofNat_of_zero_le (a := n) (by omega)
    have hm : m ≤ 64 := by omega
    have H0 := Lib.hid H
    clear H
    have h1 : decide ((m : Int) < 0) = false := by simp
    have h2 : decide ((m : Int) > 64) = false := by simp; omega
    by_cases hs : 8 * ds.length - at_ < m
    · have hpost : ∀ w', Below w.heap.size w w' → RbPost w p g ds at_ (m : Int) (.returned (.tuple #[.int .u64 0, .int .u16 20])) w' := by
        intro w' hb
        unfold RbPost Bt.rd
        rw [if_neg hn, hU, Int.toNat_natCast, if_pos hs]
        exact ⟨rfl, H0.out.below hb, Only.of_below hb _⟩
      have HP := Lib.hid hpost
      clear hpost hU hn
      have h3 : decide ((m : Int) > ((8 * ds.length - at_ : Nat) : Int)) = true := by simp; omega
      go_enter Tryz.func125, Tryz.ntmps125
      go_wp2_with (go_at_call 127; refine (left_any p g ds at_ _ H0.out hbd).mono ?_; rintro e w1 ⟨rfl, hb⟩; have HB := Lib.hid hb; clear hb)
      go_ret2
      exact HP.out _ HB.out
    · have hpost : ∀ w' w'', Below w.heap.size w w' → TakePost w' p g ds (at_ + m) w'' → RbPost w p g ds at_ (m : Int) (.returned (.tuple #[.int .u64 ((Bt.val (((Bt.unpack ds).drop at_).take m) : Nat) : Int), .int .u16 0])) w'' := by
        intro w' w'' hb ht
        unfold RbPost Bt.rd
        rw [if_neg hn, hU, Int.toNat_natCast, if_neg hs]
        exact ⟨rfl, ht.1, (Only.of_below hb [p]).trans ht.2 (fun _ hx => .inl hx)⟩
      have HP := Lib.hid hpost
      clear hpost hU hn
      have h3 : decide ((m : Int) > ((8 * ds.length - at_ : Nat) : Int)) = false := by simp; omega
      go_enter Tryz.func125, Tryz.ntmps125
      go_wp2_with fail
      refine (left_any p g ds at_ _ H0.out hbd).mono ?_
      rintro e w1 ⟨rfl, hb⟩
      have HB := Lib.hid hb
      clear hb
      go_wp2_with fail
      refine (take_any p g ds at_ m _ (H0.out.below HB.out) hbd hm (by omega)).mono ?_
      rintro e w2 ⟨rfl, ht⟩
      have HT := Lib.hid ht
      clear ht
      go_wp2
      go_ret2
      exact HP.out _ _ HB.out HT.out
def RbitPost (w : World) (p g : Nat) (ds : List Nat) (at_ : Nat) (e : Ending) (w' : World) : Prop :=
  e = .returned (.tuple #[.bool (((Bt.rd ((Bt.unpack ds).drop at_) 1).1 : Int) == 1), .int .u16 (((Bt.rd ((Bt.unpack ds).drop at_) 1).2.1 : Nat) : Int)]) ∧ TakePost w p g ds (at_ + (Bt.rd ((Bt.unpack ds).drop at_) 1).2.2) w'
theorem hmf : ∀ (fn : Fn) (first cap : Array Value) (w : World), (Instr.makeFunc fn first cap).run Tryz.prog w = .ok (.func fn first cap) w := fun _ _ _ _ => rfl
theorem fix_ok (be bs bv br : Nat) (u : FrameMode) (w : World) (h0 : w.cell? ⟨be, 0, none⟩ = some (.int .u16 0)) :
    CallsD Tryz.prog 124 #[.pointer (some ⟨be, 0, none⟩), .pointer (some ⟨bs, 0, none⟩), .pointer (some ⟨bv, 0, none⟩), .pointer (some ⟨br, 0, none⟩)] u w fun e u' w' => u' = u ∧ (e = .returned (.tuple #[]) ∧ w' = w) := by
  go_enter_d Tryz.func124, Tryz.ntmps124
  go_wp2
  go_end0
  exact ⟨rfl, rfl⟩
theorem fix_bad (be bs bv br p : Nat) (x s : Int) (u : FrameMode) (w : World) (y z : Value) (hx2 : (x != 0) = true) (h0 : w.cell? ⟨be, 0, none⟩ = some (.int .u16 x)) (h1 : w.cell? ⟨bs, 0, none⟩ = some (.int .i64 s)) (h2 : w.cell? ⟨br, 0, none⟩ = some (.pointer (some ⟨p, 0, none⟩)))
    (h3 : w.cell? ⟨bv, 0, none⟩ = some y) (f3 : w.frozen? ⟨bv, 0, none⟩ = false) (h4 : w.cell? ⟨p, 1, none⟩ = some z) (f4 : w.frozen? ⟨p, 1, none⟩ = false) :
    CallsD Tryz.prog 124 #[.pointer (some ⟨be, 0, none⟩), .pointer (some ⟨bs, 0, none⟩), .pointer (some ⟨bv, 0, none⟩), .pointer (some ⟨br, 0, none⟩)] u w fun e u' w' => u' = u ∧ (e = .returned (.tuple #[]) ∧ w' = (w.setCell ⟨bv, 0, none⟩ (.int .u64 0)).setCell ⟨p, 1, none⟩ (.int .i64 s)) := by
  go_enter_d Tryz.func124, Tryz.ntmps124
  go_wp2
  go_end0
  exact ⟨rfl, rfl⟩
end Go.Proofs.YtdlifcpdlbmijaaGreatDoor.B2
