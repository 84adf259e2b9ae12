/-
  THE PLAIN MATHEMATICS OF BITS: the lowest bits of a number, the number of a row of bits, bytes as bits, numbers in groups of seven.
-/
namespace Go.Proofs.Ytimmlnfoabbbjaa.Bt
/-- the n lowest bits of v, the highest first -/
def top (v : Nat) : Nat → List Bool
  | 0 => []
  | n + 1 => v.testBit n :: top v n
theorem top_length (v n : Nat) : (top v n).length = n := by
  induction n with
  | zero => rfl
  | succ n ih => simp [top, ih]
theorem top_split (v a b : Nat) : top v (a + b) = top (v >>> b) a ++ top v b := by
  induction a with
  | zero => simp [top]
  | succ a ih =>
    rw [show a + 1 + b = (a + b) + 1 by omega]
    simp only [top, List.cons_append, ih, Nat.testBit_shiftRight]
    rw [Nat.add_comm b a]
theorem top_drop (v a b : Nat) : (top v (a + b)).drop a = top v b := by
  rw [top_split, List.drop_append_of_le_length (by rw [top_length]; exact Nat.le_refl _)]
  rw [List.drop_of_length_le (by rw [top_length]; exact Nat.le_refl _), List.nil_append]
theorem top_take (v a b : Nat) : (top v (a + b)).take a = top (v >>> b) a := by
  rw [top_split, List.take_append_of_le_length (by rw [top_length]; exact Nat.le_refl _)]
  rw [List.take_of_length_le (by rw [top_length]; exact Nat.le_refl _)]
theorem top_get (v n i : Nat) (h : i < n) : (top v n)[i]? = some (v.testBit (n - 1 - i)) := by
  induction n generalizing i with
  | zero => omega
  | succ n ih =>
    cases i with
    | zero => simp [top]
    | succ i =>
      simp only [top, List.getElem?_cons_succ]
      rw [ih i (by omega)]
      congr 2; omega
/-- the number of a row of bits, the first one being the highest -/
def val (l : List Bool) : Nat := l.foldl (fun a b => 2 * a + b.toNat) 0
theorem val_from (l : List Bool) (a : Nat) : l.foldl (fun a b => 2 * a + b.toNat) a = a * 2 ^ l.length + val l := by
  induction l generalizing a with
  | nil => simp [val]
  | cons b l ih =>
    simp only [val, List.foldl_cons, List.length_cons]
    rw [ih (2 * a + b.toNat), ih (2 * 0 + b.toNat), Nat.pow_succ, Nat.add_mul, Nat.add_mul]
    have h1 : 2 * a * 2 ^ l.length = a * (2 ^ l.length * 2) := by
      rw [Nat.mul_comm 2 a, Nat.mul_assoc, Nat.mul_comm 2]
    rw [h1]; omega
theorem val_append (l m : List Bool) : val (l ++ m) = val l * 2 ^ m.length + val m := by
  unfold val; rw [List.foldl_append, val_from]; rfl
theorem val_snoc (l : List Bool) (b : Bool) : val (l ++ [b]) = 2 * val l + b.toNat := by
  rw [val_append]; simp [val]; omega
theorem val_lt (l : List Bool) : val l < 2 ^ l.length := by
  induction l with
  | nil => simp [val]
  | cons b l ih =>
    have h := val_append [b] l
    simp only [List.singleton_append] at h
    rw [h, List.length_cons, Nat.pow_succ]
    have : val [b] ≤ 1 := by cases b <;> simp [val]
    have h2 : val [b] * 2 ^ l.length ≤ 1 * 2 ^ l.length := Nat.mul_le_mul_right _ this
    omega
theorem val_top (v n : Nat) : val (top v n) = v % 2 ^ n := by
  induction n with
  | zero => simp [top, val, Nat.mod_one]
  | succ n ih =>
    have h := val_append [v.testBit n] (top v n)
    simp only [List.singleton_append] at h
    rw [show top v (n + 1) = v.testBit n :: top v n from rfl, h, ih, top_length]
    have e : val [v.testBit n] = (v >>> n) % 2 := by
      simp only [val, List.foldl_cons, List.foldl_nil, Nat.testBit_eq_decide_div_mod_eq, Nat.shiftRight_eq_div_pow]
      by_cases hb : v / 2 ^ n % 2 = 1
      · simp [hb]
      · have : v / 2 ^ n % 2 = 0 := by omega
        simp [this]
    rw [e, Nat.pow_succ, Nat.shiftRight_eq_div_pow, Nat.mod_mul]
    rw [Nat.mul_comm]; omega
theorem top_val (l : List Bool) : top (val l) l.length = l := by
  induction l with
  | nil => rfl
  | cons b l ih =>
    have h := val_append [b] l
    simp only [List.singleton_append] at h
    have hl := val_lt l
    rw [List.length_cons]
    have e1 : (val (b :: l)).testBit l.length = b := by
      rw [h, Nat.testBit_eq_decide_div_mod_eq]
      have : (val [b] * 2 ^ l.length + val l) / 2 ^ l.length = val [b] := by
        rw [Nat.mul_comm, Nat.mul_add_div (Nat.two_pow_pos _), Nat.div_eq_of_lt hl, Nat.add_zero]
      rw [this]
      cases b <;> simp [val]
    have e2 : top (val (b :: l)) l.length = top (val l) l.length := by
      have key : ∀ x n, n ≤ l.length → top (x * 2 ^ l.length + val l) n = top (val l) n := by
        intro x n hn
        induction n with
        | zero => rfl
        | succ n ihn =>
          simp only [top]
          rw [ihn (by omega), Nat.mul_comm x, Nat.testBit_two_pow_mul_add x hl, if_pos (by omega)]
      rw [h]; exact key _ _ (Nat.le_refl _)
    show (val (b :: l)).testBit l.length :: top (val (b :: l)) l.length = b :: l
    rw [e1, e2, ih]
/-- bytes as bits -/
def unpack (ds : List Nat) : List Bool := ds.flatMap fun c => top c 8
theorem unpack_length (ds : List Nat) : (unpack ds).length = 8 * ds.length := by
  induction ds with
  | nil => rfl
  | cons c ds ih => simp only [unpack, List.flatMap_cons, List.length_append, top_length, List.length_cons] at *; omega
theorem unpack_append (a b : List Nat) : unpack (a ++ b) = unpack a ++ unpack b := by simp [unpack]
theorem unpack_cons (c : Nat) (b : List Nat) : unpack (c :: b) = top c 8 ++ unpack b := by simp [unpack]
theorem unpack_one (c : Nat) : unpack [c] = top c 8 := by simp [unpack]
theorem top8_inj {a b : Nat} (ha : a < 256) (hb : b < 256) (h : top a 8 = top b 8) : a = b := by
  have := congrArg val h
  rw [val_top, val_top] at this
  omega
theorem unpack_inj : ∀ (a b : List Nat), (∀ c ∈ a, c < 256) → (∀ c ∈ b, c < 256) → unpack a = unpack b → a = b
  | [], [], _, _, _ => rfl
  | [], c :: b, _, _, h => by have := congrArg List.length h; simp [unpack_length] at this
  | c :: a, [], _, _, h => by have := congrArg List.length h; simp [unpack_length] at this
  | c :: a, d :: b, ha, hb, h => by
    rw [unpack_cons, unpack_cons] at h
    obtain ⟨h1, h2⟩ := List.append_inj h (by rw [top_length, top_length])
    rw [top8_inj (ha c List.mem_cons_self) (hb d List.mem_cons_self) h1, unpack_inj a b (fun x hx => ha x (List.mem_cons_of_mem _ hx)) (fun x hx => hb x (List.mem_cons_of_mem _ hx)) h2]
/-- these bytes have these bits, and k noughts behind them -/
def Packs (k : Nat) (ds : List Nat) (B : List Bool) : Prop := (∀ c ∈ ds, c < 256) ∧ unpack ds = B ++ List.replicate k false
theorem Packs.length {k : Nat} {ds : List Nat} {B : List Bool} (h : Packs k ds B) : 8 * ds.length = B.length + k := by
  have := congrArg List.length h.2
  rw [unpack_length] at this
  simpa using this
theorem packs_nil : Packs 0 [] [] := ⟨by simp, rfl⟩
theorem Packs.grow {ds : List Nat} {B : List Bool} (h : Packs 0 ds B) : Packs 8 (ds ++ [0]) B := by
  refine ⟨fun c hc => ?_, ?_⟩
  · rcases List.mem_append.1 hc with hc | hc
    · exact h.1 c hc
    · simp at hc; omega
  · rw [unpack_append, h.2, unpack_one]; simp [top]
/-- so a byte is filled up -/
theorem fill_get (c x k s : Nat) (X : List Bool) (hk : k ≤ 8) (hs : s ≤ k) (h : top c 8 = X ++ List.replicate k false) :
    top (c ||| (((x % 256) <<< (8 - s)) % 256) >>> (8 - k)) 8 = (X ++ top x s) ++ List.replicate (k - s) false := by
  have hX : X.length = 8 - k := by
    have := congrArg List.length h
    rw [top_length] at this; simp at this; omega
  apply List.ext_getElem?
  intro i
  by_cases hi : i < 8
  · rw [top_get _ _ _ hi]
    have hci := congrArg (fun l => l[i]?) h
    rw [top_get _ _ _ hi] at hci
    have hp : ((((x % 256) <<< (8 - s)) % 256) >>> (8 - k)).testBit (8 - 1 - i) = (decide (8 - k + (8 - 1 - i) < 8) && (decide (8 - k + (8 - 1 - i) ≥ 8 - s) && (decide (8 - k + (8 - 1 - i) - (8 - s) < 8) && x.testBit (8 - k + (8 - 1 - i) - (8 - s))))) := by
      rw [Nat.testBit_shiftRight, show (256 : Nat) = 2 ^ 8 from rfl, Nat.testBit_mod_two_pow, Nat.testBit_shiftLeft, Nat.testBit_mod_two_pow]
    rw [Nat.testBit_or, hp]
    by_cases h1 : i < 8 - k
    · rw [List.getElem?_append_left (by simp; omega)]
      rw [List.getElem?_append_left (by omega)] at hci ⊢
      have : decide (8 - k + (8 - 1 - i) < 8) = false := by simp; omega
      rw [this]; simp only [Bool.false_and, Bool.or_false]
      exact hci
    · have hc0 : c.testBit (8 - 1 - i) = false := by
        rw [List.getElem?_append_right (by omega), List.getElem?_replicate, if_pos (by omega)] at hci
        exact Option.some.inj hci
      rw [hc0, Bool.false_or]
      have e1 : decide (8 - k + (8 - 1 - i) < 8) = true := by simp; omega
      rw [e1, Bool.true_and]
      by_cases h2 : i < 8 - k + s
      · rw [List.getElem?_append_left (by simp [top_length]; omega), List.getElem?_append_right (by omega), top_get _ _ _ (by omega)]
        have e2 : decide (8 - k + (8 - 1 - i) ≥ 8 - s) = true := by simp; omega
        have e3 : decide (8 - k + (8 - 1 - i) - (8 - s) < 8) = true := by simp; omega
        rw [e2, e3, Bool.true_and, Bool.true_and]
        congr 2; omega
      · rw [List.getElem?_append_right (by simp [top_length]; omega), List.getElem?_replicate, if_pos (by simp [top_length]; omega)]
        have e2 : decide (8 - k + (8 - 1 - i) ≥ 8 - s) = false := by simp; omega
        rw [e2]; rfl
  · rw [List.getElem?_eq_none (by rw [top_length]; omega), List.getElem?_eq_none (by simp [top_length]; omega)]
theorem or_lt8 (c p : Nat) (hc : c < 256) (hp : p < 256) : c ||| p < 256 := Nat.or_lt_two_pow (n := 8) hc hp
theorem piece_lt (y n : Nat) : ((y % 256)) >>> n < 256 := by
  rw [Nat.shiftRight_eq_div_pow]
  exact Nat.lt_of_le_of_lt (Nat.div_le_self _ _) (Nat.mod_lt _ (by decide))
theorem Packs.fill {k s x c : Nat} {ini : List Nat} {B : List Bool} (h : Packs k (ini ++ [c]) B) (hk : k ≤ 8) (hs : s ≤ k) :
    Packs (k - s) (ini ++ [c ||| (((x % 256) <<< (8 - s)) % 256) >>> (8 - k)]) (B ++ top x s) := by
  obtain ⟨h1, h2⟩ := h
  have hc : c < 256 := h1 c (by simp)
  rw [unpack_append, unpack_one] at h2
  have hl := congrArg List.length h2
  rw [List.length_append, unpack_length, top_length] at hl
  simp only [List.length_append, List.length_replicate] at hl
  obtain ⟨X, hX⟩ : ∃ X, B = unpack ini ++ X := by
    refine ⟨B.drop (unpack ini).length, ?_⟩
    have ht : B.take (unpack ini).length = unpack ini := by
      have := congrArg (List.take (unpack ini).length) h2
      rw [List.take_left, List.take_append_of_le_length (by rw [unpack_length]; omega)] at this
      exact this.symm
    rw [← ht, List.length_take, Nat.min_eq_left (by rw [unpack_length]; omega)]
    exact (List.take_append_drop _ _).symm
  subst hX
  rw [List.append_assoc] at h2
  have h3 := List.append_cancel_left h2
  refine ⟨fun d hd => ?_, ?_⟩
  · rcases List.mem_append.1 hd with hd | hd
    · exact h1 d (by simp [hd])
    · simp only [List.mem_singleton] at hd
      subst hd
      exact or_lt8 _ _ hc (piece_lt _ _)
  · rw [unpack_append, unpack_one, fill_get c x k s X hk hs h3]
    simp [List.append_assoc]
/-- a row of bytes that has these bits is one -/
theorem packs_unique {k j : Nat} {a b : List Nat} {B : List Bool} (h : Packs k a B) (h2 : Packs j b B) (hk : k < 8) (hj : j < 8) : a = b := by
  have l1 := h.length
  have l2 := h2.length
  obtain rfl : k = j := by omega
  exact unpack_inj a b h.1 h2.1 (h.2.trans h2.2.symm)
/-- bits of a byte read as a number -/
theorem piece_read (c a s : Nat) (h : a + s ≤ 8) : ((c <<< a) % 256) >>> (8 - s) = val (((top c 8).drop a).take s) := by
  have e : (top c 8).drop a = top c (8 - a) := by
    have := top_drop c a (8 - a)
    rwa [show a + (8 - a) = 8 by omega] at this
  have e2 : (top c (8 - a)).take s = top (c >>> (8 - a - s)) s := by
    have := top_take c s (8 - a - s)
    rwa [show s + (8 - a - s) = 8 - a by omega] at this
  rw [e, e2, val_top]
  apply Nat.eq_of_testBit_eq
  intro i
  rw [Nat.testBit_shiftRight, show (256 : Nat) = 2 ^ 8 from rfl, Nat.testBit_mod_two_pow, Nat.testBit_shiftLeft, Nat.testBit_mod_two_pow, Nat.testBit_shiftRight]
  by_cases hi : i < s
  · have e1 : decide (8 - s + i < 8) = true := by simp; omega
    have e2 : decide (8 - s + i ≥ a) = true := by simp; omega
    have e3 : decide (i < s) = true := by simpa using hi
    rw [e1, e2, e3]
    simp only [Bool.true_and]
    congr 1
    omega
  · have e1 : decide (8 - s + i < 8) = false := by simp; omega
    have e3 : decide (i < s) = false := by simpa using hi
    rw [e1, e3]; simp
theorem unpack_drop (ds : List Nat) (q : Nat) : (unpack ds).drop (8 * q) = unpack (ds.drop q) := by
  induction ds generalizing q with
  | nil => simp [unpack]
  | cons c ds ih =>
    cases q with
    | zero => simp
    | succ q =>
      rw [unpack_cons, List.drop_succ_cons, ← ih q]
      rw [show 8 * (q + 1) = 8 + 8 * q by omega, ← List.drop_drop]
      congr 1
/-- the bits from a place on that lie in one byte -/
theorem read_here (ds : List Nat) (at_ s : Nat) (hq : at_ / 8 < ds.length) (h : at_ % 8 + s ≤ 8) :
    ((ds[at_ / 8] <<< (at_ % 8)) % 256) >>> (8 - s) = val (((unpack ds).drop at_).take s) := by
  rw [piece_read _ _ _ h]
  congr 1
  have e : at_ = 8 * (at_ / 8) + at_ % 8 := by omega
  have e2 : (unpack ds).drop at_ = ((top ds[at_ / 8] 8).drop (at_ % 8)) ++ unpack (ds.drop (at_ / 8 + 1)) := by
    conv => lhs; rw [e]
    rw [← List.drop_drop, unpack_drop, List.drop_eq_getElem_cons hq, unpack_cons, List.drop_append_of_le_length (by rw [top_length]; omega)]
  rw [e2, List.take_append_of_le_length (by rw [List.length_drop, top_length]; omega)]
theorem val_take_add (l : List Bool) (a b : Nat) (h : a + b ≤ l.length) : val (l.take (a + b)) = val (l.take a) * 2 ^ b + val ((l.drop a).take b) := by
  rw [List.take_add, val_append]
  congr 2
  rw [List.length_take, List.length_drop]
  congr 1; omega
end Go.Proofs.Ytimmlnfoabbbjaa.Bt
