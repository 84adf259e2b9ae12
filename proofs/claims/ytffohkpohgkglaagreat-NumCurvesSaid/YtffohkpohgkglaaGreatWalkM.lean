/-
  WALKS: a number times a power of two by Go's library; what a division leaves.
-/
import Derived.Test.YtffohkpohgkglaaGreatWalkF
import Derived.Test.YtffohkpohgkglaaGreatNumS
namespace Go.Proofs.YtffohkpohgkglaaGreat
set_option linter.unusedVariables false
set_option linter.unusedSimpArgs false
open Go.RowKit
open Ieee
theorem fabs_any (x : Nat) (hx : x < 2 ^ 64) (w : World) : Calls Tryz.prog 131 #[.float .f64 x] w fun e w' => e = .returned (.float .f64 (x % 2 ^ 63)) ∧ w' = w := by
  have h := abs_bits x hx
  obtain ⟨m, hm⟩ : ∃ m, x % 2 ^ 63 = m := ⟨_, rfl⟩
  rw [hm] at h ⊢
  have h1 := ext117 x
  have h2 := ext118 m
  clear hm hx
  go_enter Tryz.func131, Tryz.ntmps131
  go_wp2
  go_ret
  exact ⟨rfl, rfl⟩
theorem not_gt {x y : Nat} (h1 : x < 2 ^ 64) (h2 : y < 2 ^ 64) (n1 : Nm.isNaN x = false) (n2 : Nm.isNaN y = false) (h : Nm.key x ≤ Nm.key y) : (FloatKind.f64.format.order x y == some .gt) = false := by
  have : FloatKind.f64.format.order x y = some (compare (Nm.key x) (Nm.key y)) := Nm.order_eq h1 h2 n1 n2
  rw [this]
  rcases Int.lt_or_eq_of_le h with h | h
  · rw [Int.compare_eq_lt.2 h]; rfl
  · rw [Int.compare_eq_eq.2 h]; rfl
theorem not_lt {x y : Nat} (h1 : x < 2 ^ 64) (h2 : y < 2 ^ 64) (n1 : Nm.isNaN x = false) (n2 : Nm.isNaN y = false) (h : Nm.key y ≤ Nm.key x) : (FloatKind.f64.format.order x y == some .lt) = false := by
  have : FloatKind.f64.format.order x y = some (compare (Nm.key x) (Nm.key y)) := Nm.order_eq h1 h2 n1 n2
  rw [this]
  rcases Int.lt_or_eq_of_le h with h | h
  · rw [Int.compare_eq_gt.2 h]; rfl
  · rw [Int.compare_eq_eq.2 h.symm]; rfl
theorem not_eq {x y : Nat} (h1 : x < 2 ^ 64) (h2 : y < 2 ^ 64) (n1 : Nm.isNaN x = false) (n2 : Nm.isNaN y = false) (h : Nm.key y < Nm.key x) : (FloatKind.f64.format.order x y == some .eq) = false := by
  have : FloatKind.f64.format.order x y = some (compare (Nm.key x) (Nm.key y)) := Nm.order_eq h1 h2 n1 n2
  rw [this, Int.compare_eq_gt.2 h]; rfl
theorem key_pos {x : Nat} (h : x < 2 ^ 63) : Nm.key x = x := by
  unfold Nm.key Nm.neg Nm.sg
  rw [decide_eq_false (by omega), if_neg (by decide), Nat.mod_eq_of_lt h]
/-- of a positive finite number -/
structure Pos (x : Nat) : Prop where
  lt : x < 9218868437227405312
theorem Pos.nan {x : Nat} (h : Pos x) : Nm.isNaN x = false := by have := h.lt; unfold Nm.isNaN Nm.inf; rw [decide_eq_false (by omega)]
theorem finf_any (x : Nat) (hp : Pos x) (w : World) : Calls Tryz.prog 123 #[.float .f64 x, .int .i64 0] w fun e w' => e = .returned (.bool false) ∧ w' = w := by
  have hl := hp.lt
  have hm : x % 2 ^ 63 = x := Nat.mod_eq_of_lt (by omega)
  have CA := Lib.hid (fun w => fabs_any x (by omega) w)
  rw [hm] at CA
  have hg : (FloatKind.f64.format.order x 9218868437227405311 == some .gt) = false := not_gt (by omega) (by decide) hp.nan (by decide) (by rw [key_pos (by omega), key_pos (by decide)]; omega)
  clear hm
  go_enter Tryz.func123, Tryz.ntmps123
  go_wp2_with fail
  refine (CA.out _).mono ?_
  rintro e w1 ⟨rfl, rfl⟩
  go_wp2
  go_ret
  exact ⟨rfl, rfl⟩
theorem fnorm_any (x : Nat) (hp : Pos x) (h2 : 4503599627370496 ≤ x) (w : World) : Calls Tryz.prog 124 #[.float .f64 x] w fun e w' => e = .returned (.tuple #[.float .f64 x, .int .i64 0]) ∧ w' = w := by
  have hl := hp.lt
  have hm : x % 2 ^ 63 = x := Nat.mod_eq_of_lt (by omega)
  have CA := Lib.hid (fun w => fabs_any x (by omega) w)
  rw [hm] at CA
  have hg : (FloatKind.f64.format.order x 4503599627370496 == some .lt) = false := not_lt (by omega) (by decide) hp.nan (by decide) (by rw [key_pos (x := x) (by omega), key_pos (x := 4503599627370496) (by decide)]; omega)
  clear hm
  go_enter Tryz.func124, Tryz.ntmps124
  go_wp2_with fail
  refine (CA.out _).mono ?_
  rintro e w1 ⟨rfl, rfl⟩
  go_wp2
  go_ret2
  exact ⟨rfl, rfl⟩
theorem clear_bits (x : Nat) (h : x < 9223372036854775808) : bits .andNot .u64 (x : Int) 9218868437227405312 = ((x % 2 ^ 52 : Nat) : Int) := by
  have := u64_andNot_nat x 9218868437227405312 (by omega) (by decide)
  rw [show ((9218868437227405312 : Nat) : Int) = 9218868437227405312 from rfl] at this
  rw [this]
  congr 1
  have e : (18446744073709551615 - 9218868437227405312 : Nat) = 2 ^ 63 + (2 ^ 52 - 1) := by decide
  rw [e]
  have h1 : (2 ^ 63 + (2 ^ 52 - 1) : Nat) = 2 ^ 63 ||| (2 ^ 52 - 1) := by decide
  rw [h1, Nat.and_or_distrib_left, Nat.and_two_pow_sub_one_eq_mod x 52, nat_bit 63 x, Nat.div_eq_of_lt (show x < 2 ^ 63 from h)]
  simp
theorem exp11 (E : Nat) (h : E < 2048) : bits .and .i64 (E : Int) 2047 = (E : Int) := by
  have hall : ∀ k : Fin 2048, bits .and .i64 ((k.val : Nat) : Int) 2047 = ((k.val : Nat) : Int) := by decide +kernel
  exact hall ⟨E, h⟩
def LdPost (w : World) (R : Nat) (e : Ending) (w' : World) : Prop := ∃ r, e = .returned (.float .f64 r) ∧ r < 2 ^ 64 ∧ Nm.tidy r = R ∧ Below w.heap.size w w'
set_option maxRecDepth 100000 in
set_option maxHeartbeats 2000000 in
theorem ldexp_pos (m L : Nat) (f : Int) (h0 : m ≠ 0) (hm : m < 2 ^ 53) (hL : L ≤ 52) (h1 : 2 ^ L ≤ m) (h2 : m < 2 ^ (L + 1)) (hx : Nm.fl m = (L + 1023) * 2 ^ 52 + (m * 2 ^ (52 - L) - 2 ^ 52)) (hf1 : -1074 ≤ f) (hf2 : f + L ≤ 1023) (w : World) :
    Calls Tryz.prog 137 #[.float .f64 (Nm.fl m), .int .i64 f] w (LdPost w (Nm.round false m f false)) := by
  obtain ⟨b1, b2⟩ := Nm.shl_bounds h1 h2 hL
  have LV := fun c t hc ht1 ht2 => Nm.ld_value (f := f) h0 hL h1 h2 c t hc ht1 ht2
  obtain ⟨F, hF⟩ : ∃ F, m * 2 ^ (52 - L) - 2 ^ 52 = F := ⟨_, rfl⟩
  have hF2 : F < 2 ^ 52 := by omega
  rw [hF] at hx LV
  obtain ⟨x, hxx⟩ : ∃ x, Nm.fl m = x := ⟨_, rfl⟩
  rw [hxx] at hx ⊢
  obtain ⟨R, hR⟩ : ∃ R, Nm.round false m f false = R := ⟨_, rfl⟩
  rw [hR] at LV ⊢
  have hxl : 1023 * 2 ^ 52 ≤ x ∧ x < 1076 * 2 ^ 52 := by omega
  have hp : Pos x := ⟨by omega⟩
  have hmod : x % 2 ^ 52 = F := by omega
  have hdiv : (x : Int) / 4503599627370496 = ((L + 1023 : Nat) : Int) := by omega
  have he11 := exp11 (L + 1023) (by omega)
  have hclr := clear_bits x (by omega)
  rw [hmod] at hclr
  have hz : (FloatKind.f64.format.order x 0 == some .eq) = false := not_eq (by omega) (by decide) hp.nan (by decide) (by rw [key_pos (x := x) (by omega), key_pos (x := 0) (by decide)]; omega)
  have hx117 := ext117 x
  have CI := Lib.hid (fun w => finf_any x hp w)
  have CN := Lib.hid (fun w => isnan_any x (by have := hp.lt; omega) w)
  rw [hp.nan] at CN
  have CO := Lib.hid (fun w => fnorm_any x hp (by omega) w)
  obtain ⟨E, hE⟩ : ∃ E, L + 1023 = E := ⟨_, rfl⟩
  rw [hE] at hdiv he11
  have hEb : (E : Int) - 1023 = (L : Int) := by omega
  obtain ⟨g, hg⟩ : ∃ g : Int, f + (L : Int) = g := ⟨_, rfl⟩
  have hg1 : -1074 ≤ g := by omega
  have hg2 : g ≤ 1023 := by omega
  have c1 : decide (g < -1075) = false := decide_eq_false (by omega)
  have c2 : decide (1023 < g) = false := decide_eq_false (by omega)
  have hF3 : F < 4503599627370496 := hF2
  clear b1 b2 hx hR hxl hmod hp hxx h0 hm h1 h2 hF hF2
  by_cases hden : g < -1022
  · have c3 : decide (g < -1022) = true := decide_eq_true hden
    obtain ⟨t, ht⟩ : ∃ t : Nat, g + 53 + 1023 = (t : Int) := ⟨(g + 53 + 1023).toNat, by omega⟩
    have ht1 : 1 ≤ t := by omega
    have ht2 : t ≤ 2046 := by omega
    have LV2 := LV Nm.tiny t (.inr ⟨rfl, by omega⟩) ht1 ht2
    have hor : bits .or .u64 (F : Int) ((t : Int) * 4503599627370496) = ((t * 2 ^ 52 + F : Nat) : Int) := by
      rw [show ((t : Int) * 4503599627370496) = ((t * 2 ^ 52 : Nat) : Int) by omega, u64_or_nat F (t * 2 ^ 52) (by omega) (by omega), Nat.or_comm, nat_join 52 (t * 2 ^ 52) F (Nat.mul_mod_left _ _) hF3]
    have hyl : t * 2 ^ 52 + F < 2 ^ 64 := by omega
    obtain ⟨y, hy⟩ : ∃ y, t * 2 ^ 52 + F = y := ⟨_, rfl⟩
    rw [hy] at LV2 hor hyl
    have hy118 := ext118 y
    have HLV := Lib.hid (show Nm.tidy ((floatBits .mul .f64 4368491638549381120 y).getD Nm.nan) = R by rw [mul_bits 4368491638549381120 y (by decide) hyl]; exact LV2)
    clear LV LV2 hy hyl hden
    have AR := Lib.hid (fun w => arith_run .mul 4368491638549381120 y (.inr (.inl rfl)) w)
    go_enter Tryz.func137, Tryz.ntmps137
    go_wp2_with fail
    refine (CI.out _).mono ?_
    rintro e w1 ⟨rfl, rfl⟩
    go_wp2_with fail
    refine (CN.out _).mono ?_
    rintro e w1 ⟨rfl, rfl⟩
    go_wp2_with fail
    refine (CO.out _).mono ?_
    rintro e w1 ⟨rfl, rfl⟩
    obtain ⟨r, w2, hr, hb, hl, ht3⟩ := AR.out w1
    rw [HLV.out] at ht3
    have HB := Lib.hid hb
    have HL := Lib.hid hl
    have HT := Lib.hid ht3
    clear hb hl ht3
    go_wp2_with (simp only [hr])
    go_ret
    exact ⟨r, rfl, HL.out, HT.out, HB.out⟩
  · have c3 : decide (g < -1022) = false := decide_eq_false hden
    obtain ⟨t, ht⟩ : ∃ t : Nat, g + 1023 = (t : Int) := ⟨(g + 1023).toNat, by omega⟩
    have ht1 : 1 ≤ t := by omega
    have ht2 : t ≤ 2046 := by omega
    have LV2 := LV Nm.one t (.inl ⟨rfl, by omega⟩) ht1 ht2
    have hor : bits .or .u64 (F : Int) ((t : Int) * 4503599627370496) = ((t * 2 ^ 52 + F : Nat) : Int) := by
      rw [show ((t : Int) * 4503599627370496) = ((t * 2 ^ 52 : Nat) : Int) by omega, u64_or_nat F (t * 2 ^ 52) (by omega) (by omega), Nat.or_comm, nat_join 52 (t * 2 ^ 52) F (Nat.mul_mod_left _ _) hF3]
    have hyl : t * 2 ^ 52 + F < 2 ^ 64 := by omega
    obtain ⟨y, hy⟩ : ∃ y, t * 2 ^ 52 + F = y := ⟨_, rfl⟩
    rw [hy] at LV2 hor hyl
    have hy118 := ext118 y
    have HLV := Lib.hid (show Nm.tidy ((floatBits .mul .f64 4607182418800017408 y).getD Nm.nan) = R by rw [mul_bits 4607182418800017408 y (by decide) hyl]; exact LV2)
    clear LV LV2 hy hyl hden
    have AR := Lib.hid (fun w => arith_run .mul 4607182418800017408 y (.inr (.inl rfl)) w)
    go_enter Tryz.func137, Tryz.ntmps137
    go_wp2_with fail
    refine (CI.out _).mono ?_
    rintro e w1 ⟨rfl, rfl⟩
    go_wp2_with fail
    refine (CN.out _).mono ?_
    rintro e w1 ⟨rfl, rfl⟩
    go_wp2_with fail
    refine (CO.out _).mono ?_
    rintro e w1 ⟨rfl, rfl⟩
    obtain ⟨r, w2, hr, hb, hl, ht3⟩ := AR.out w1
    rw [HLV.out] at ht3
    have HB := Lib.hid hb
    have HL := Lib.hid hl
    have HT := Lib.hid ht3
    clear hb hl ht3
    go_wp2_with (simp only [hr])
    go_ret
    exact ⟨r, rfl, HL.out, HT.out, HB.out⟩
/-- a number's two parts, by the code -/
theorem parts122_any (a : Nat) (ha : a < 2 ^ 63) (w : World) : Calls Tryz.prog 133 #[.int .u64 (a : Int)] w fun e w' => e = .returned (.tuple #[.int .u64 (Nm.mag a : Nat), .int .i64 (Nm.plc a)]) ∧ w' = w := by
  have h2 : bits .and .u64 (a : Int) 4503599627370495 = ((a % 2 ^ 52 : Nat) : Int) := by
    have := u64_and_nat a 4503599627370495 (by omega) (by decide)
    rw [show ((4503599627370495 : Nat) : Int) = 4503599627370495 from rfl] at this
    rw [this]
    congr 1
    exact Nat.and_two_pow_sub_one_eq_mod a 52
  have hE : a / 2 ^ 52 < 2048 := by omega
  have hE2 : a / 2 ^ 52 % 2048 = a / 2 ^ 52 := Nat.mod_eq_of_lt hE
  have hf : a % 2 ^ 52 < 2 ^ 52 := Nat.mod_lt _ (by decide)
  have h3 : bits .or .u64 ((a % 2 ^ 52 : Nat) : Int) 4503599627370496 = ((2 ^ 52 + a % 2 ^ 52 : Nat) : Int) := by
    have := u64_or_nat (a % 2 ^ 52) 4503599627370496 (by omega) (by decide)
    rw [show ((4503599627370496 : Nat) : Int) = 4503599627370496 from rfl] at this
    rw [this, Nat.or_comm]
    congr 1
    exact nat_join 52 4503599627370496 _ (by decide) hf
  unfold Nm.mag Nm.plc
  rw [hE2]
  have hdv : (a : Int) / 4503599627370496 = ((a / 2 ^ 52 : Nat) : Int) := by omega
  obtain ⟨E, he⟩ : ∃ E, a / 2 ^ 52 = E := ⟨_, rfl⟩
  obtain ⟨F, hF⟩ : ∃ F, a % 2 ^ 52 = F := ⟨_, rfl⟩
  obtain ⟨G, hG⟩ : ∃ G, 2 ^ 52 + F = G := ⟨_, rfl⟩
  rw [he] at hdv hE ⊢
  rw [hF] at h2 h3 hf ⊢
  rw [hG] at h3 ⊢
  clear he hF hG ha hf hE2
  by_cases h0 : E = 0
  · subst h0
    rw [if_pos rfl, if_pos rfl]
    have hdv0 : (a : Int) / 4503599627370496 = 0 := hdv
    clear hdv
    go_enter Tryz.func133, Tryz.ntmps133
    go_wp2
    go_ret2
    exact ⟨rfl, rfl⟩
  · rw [if_neg h0, if_neg h0]
    have d0 : ((E : Int) == 0) = false := by simpa using h0
    have hs : (E : Int) - 1023 - 52 = (E : Int) - 1075 := by omega
    go_enter Tryz.func133, Tryz.ntmps133
    go_wp2
    go_ret2
    exact ⟨by rw [← hs]; rfl, rfl⟩
theorem ldexp_any (m : Nat) (f : Int) (hm : m < 2 ^ 53) (hf1 : -1074 ≤ f) (hf2 : m ≠ 0 → f + m.log2 ≤ 1023) (w : World) : Calls Tryz.prog 134 #[.float .f64 (Nm.fl m), .int .i64 f] w (LdPost w (Nm.round false m f false)) := by
  have C : Calls Tryz.prog 137 #[.float .f64 (Nm.fl m), .int .i64 f] w (LdPost w (Nm.round false m f false)) := by
    by_cases h0 : m = 0
    · subst h0
      have hz : Nm.fl 0 = 0 := by decide
      have hr : Nm.round false 0 f false = 0 := by unfold Nm.round; rw [if_pos rfl]; rfl
      have he : (FloatKind.f64.format.order 0 0 == some .eq) = true := by decide
      rw [hz, hr]
      clear hz hr hf2
      go_enter Tryz.func137, Tryz.ntmps137
      go_wp2
      go_ret
      exact ⟨0, rfl, by decide, by decide, Below.refl _ _⟩
    · obtain ⟨L, hL, h1, h2, h3, h4⟩ := Nm.fl_parts h0 hm
      exact ldexp_pos m L f h0 hm hL h1 h2 h4 hf1 (by have := hf2 h0; rw [h3] at this; exact this) w
  obtain ⟨x, hx⟩ : ∃ x, Nm.fl m = x := ⟨_, rfl⟩
  obtain ⟨R, hR⟩ : ∃ x, Nm.round false m f false = x := ⟨_, rfl⟩
  rw [hx, hR] at C ⊢
  have HC := Lib.hid C
  clear C hx hR hf2
  go_enter Tryz.func134, Tryz.ntmps134
  refine wp_seq ?_
  apply wp_region_lit
  iterate 5 (first | go_step | skip)
  refine wp_seq ?_
  refine wp_cond_false rfl ?_
  go_wp2_with fail
  refine HC.out.mono ?_
  rintro e w2 ⟨r, rfl, hl, ht, hb⟩
  have H1 := Lib.hid hl
  have H2 := Lib.hid ht
  have H3 := Lib.hid hb
  clear hl ht hb
  go_wp2
  go_ret
  exact ⟨r, rfl, H1.out, H2.out, H3.out⟩
end Go.Proofs.YtffohkpohgkglaaGreat
