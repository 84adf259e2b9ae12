/-
  CURVES: Log2: the code's and the document's.
-/
import Derived.Test.YtffohkpohgkglaaGreatCurveG
namespace Go.Proofs.YtffohkpohgkglaaGreat
set_option linter.unusedVariables false
set_option linter.unusedSimpArgs false
open Go.RowKit
def lone (a : Nat) : Bool := !(Nm.isNaN a || Nm.isInf a || Nm.neg a || Nm.nought a) && decide (Nm.mag a = 2 ^ (Nm.mag a).log2)
def dLog2 (a : Nat) : Nat := if lone a then dInt (Nm.plc a + ((Nm.mag a).log2 : Nat)) else Nm.dDiv (dLn a) 4604418534313441775
theorem order_none {x y : Nat} (h1 : x < 2 ^ 64) (h2 : y < 2 ^ 64) (n : Nm.isNaN x = true) : FloatKind.f64.format.order x y = none := by
  show Ieee.Format.order Ieee.double x y = none
  unfold Ieee.Format.order
  rw [Nm.read_eq x h1, Nm.read_eq y h2, n]
  simp [Ieee.Datum.order]
theorem pos_eq {x y : Nat} (hx : Pos x) (hy : Pos y) : (FloatKind.f64.format.order x y == some .eq) = decide (x = y) := by
  have h1 := hx.lt
  have h2 := hy.lt
  have e : FloatKind.f64.format.order x y = some (compare (Nm.key x) (Nm.key y)) := Nm.order_eq (by omega) (by omega) hx.nan hy.nan
  rw [e, key_pos (by omega), key_pos (by omega)]
  by_cases h : x = y
  · subst h
    rw [Int.compare_eq_eq.2 rfl, decide_eq_true rfl]
    rfl
  · rw [decide_eq_false h]
    rcases Nat.lt_or_gt_of_ne h with h | h
    · rw [Int.compare_eq_lt.2 (by omega)]; rfl
    · rw [Int.compare_eq_gt.2 (by omega)]; rfl
theorem neg_ne {x y : Nat} (hx : 2 ^ 63 ≤ x) (hx2 : x < 2 ^ 64) (hy : Pos y) (h1 : 1 ≤ y) : (FloatKind.f64.format.order x y == some .eq) = false := by
  have h2 := hy.lt
  cases hn : Nm.isNaN x
  · have e : FloatKind.f64.format.order x y = some (compare (Nm.key x) (Nm.key y)) := Nm.order_eq (by omega) (by omega) hn hy.nan
    have k : Nm.key x ≤ 0 := by
      unfold Nm.key Nm.neg Nm.sg
      rw [decide_eq_true hx, if_pos rfl]
      omega
    rw [e, key_pos (by omega : y < 2 ^ 63), Int.compare_eq_lt.2 (by omega)]
    rfl
  · have e : FloatKind.f64.format.order x y = none := order_none (by omega) (by omega) hn
    rw [e]
    rfl
theorem frac_half {m : Nat} (h0 : m ≠ 0) (hm : m < 2 ^ 53) : decide (fracOf m = 4602678819172646912) = decide (m = 2 ^ m.log2) := by
  obtain ⟨hL, b1, b2, _⟩ := frac_parts h0 hm
  have e : (2 : Nat) ^ 52 = 2 ^ m.log2 * 2 ^ (52 - m.log2) := by rw [← Nat.pow_add]; congr 1; omega
  have hp : 0 < 2 ^ (52 - m.log2) := Nat.pow_pos (by decide)
  by_cases h : m = 2 ^ m.log2
  · rw [decide_eq_true h]
    apply decide_eq_true
    unfold fracOf
    have : m * 2 ^ (52 - m.log2) = 2 ^ 52 := by rw [e]; congr 1
    rw [this]
  · rw [decide_eq_false h]
    apply decide_eq_false
    intro hf
    unfold fracOf at hf
    apply h
    have hs : m * 2 ^ (52 - m.log2) = 2 ^ 52 := by
      obtain ⟨S, hS⟩ : ∃ S, m * 2 ^ (52 - m.log2) = S := ⟨_, rfl⟩
      rw [hS] at b1 hf ⊢
      clear e hp b2 hS
      omega
    rw [e] at hs
    exact Nat.eq_of_mul_eq_mul_right hp hs
theorem nan_parts {x : Nat} (h : Nm.isNaN x = true) : Nm.isInf x = false ∧ Nm.nought x = false := by
  unfold Nm.isNaN at h
  have h := of_decide_eq_true h
  unfold Nm.inf at h
  refine ⟨decide_eq_false (by unfold Nm.inf; omega), decide_eq_false (by omega)⟩
theorem num_le {x : Nat} (h : Nm.isNaN x = false) : x % 2 ^ 63 ≤ 9218868437227405312 := by
  unfold Nm.isNaN at h
  have h := of_decide_eq_false h
  unfold Nm.inf at h
  omega
theorem low_nan (x : Nat) : Nm.isNaN (x % 2 ^ 63) = Nm.isNaN x := by
  unfold Nm.isNaN
  rw [Nat.mod_mod]
theorem gt_inf (x : Nat) (hx : x < 2 ^ 64) : (FloatKind.f64.format.order (x % 2 ^ 63) 9218868437227405311 == some .gt) = Nm.isInf x := by
  have hl : x % 2 ^ 63 < 2 ^ 63 := Nat.mod_lt _ (by decide)
  cases hn : Nm.isNaN x
  · have hm := num_le hn
    have e : FloatKind.f64.format.order (x % 2 ^ 63) 9218868437227405311 = some (compare (Nm.key (x % 2 ^ 63)) (Nm.key 9218868437227405311)) := Nm.order_eq (by omega) (by decide) ((low_nan x).trans hn) (by decide)
    rw [e, key_pos hl, key_pos (by decide)]
    unfold Nm.isInf Nm.inf
    by_cases h : x % 2 ^ 63 = 9218868437227405312
    · rw [decide_eq_true h, h]
      decide
    · rw [decide_eq_false h]
      rcases Nat.lt_or_eq_of_le (by omega : x % 2 ^ 63 ≤ 9218868437227405311) with h2 | h2
      · rw [Int.compare_eq_lt.2 (by omega)]; rfl
      · rw [h2]; decide
  · rw [order_none (by omega) (by decide) ((low_nan x).trans hn), (nan_parts hn).1]
    rfl
theorem eq_zero (x : Nat) (hx : x < 2 ^ 64) : (FloatKind.f64.format.order x 0 == some .eq) = Nm.nought x := by
  cases hn : Nm.isNaN x
  · have e : FloatKind.f64.format.order x 0 = some (compare (Nm.key x) (Nm.key 0)) := Nm.order_eq hx (by decide) hn (by decide)
    have k0 : Nm.key 0 = 0 := by decide
    rw [e, k0]
    unfold Nm.nought
    have kx : Nm.key x = 0 ↔ x % 2 ^ 63 = 0 := by
      unfold Nm.key Nm.sg
      split <;> omega
    by_cases h : x % 2 ^ 63 = 0
    · rw [decide_eq_true h, kx.2 h]
      rfl
    · rw [decide_eq_false h]
      have : Nm.key x ≠ 0 := fun hk => h (kx.1 hk)
      rcases Int.lt_or_gt_of_ne this with h2 | h2
      · rw [Int.compare_eq_lt.2 h2]; rfl
      · rw [Int.compare_eq_gt.2 h2]; rfl
  · rw [order_none hx (by decide) hn, (nan_parts hn).2]
    rfl
theorem finf_all (x : Nat) (hx : x < 2 ^ 64) (w : World) : Calls Tryz.prog 123 #[.float .f64 x, .int .i64 0] w fun e w' => e = .returned (.bool (Nm.isInf x)) ∧ w' = w := by
  have CA := Lib.hid (fun w => fabs_any x hx w)
  have hg := gt_inf x hx
  obtain ⟨m, hm⟩ : ∃ m, x % 2 ^ 63 = m := ⟨_, rfl⟩
  rw [hm] at CA hg
  clear hm hx
  go_enter Tryz.func123, Tryz.ntmps123
  go_wp2_with fail
  refine (CA.out _).mono ?_
  rintro e w1 ⟨rfl, rfl⟩
  go_wp2
  go_ret
  exact ⟨rfl, rfl⟩
/-- what Frexp gives of numbers that are not positive and finite: nothing that is one half -/
def OddPost (w : World) (e : Ending) (w' : World) : Prop := ∃ (y : Nat) (k : Int), e = .returned (.tuple #[.float .f64 y, .int .i64 k]) ∧ (FloatKind.f64.format.order y 4602678819172646912 == some .eq) = false ∧ Below w.heap.size w w'
theorem half_pos : Pos 4602678819172646912 := ⟨by decide⟩
theorem frexp_same (x : Nat) (hx : x < 2 ^ 64) (h : Nm.nought x = true ∨ Nm.isInf x = true ∨ Nm.isNaN x = true) (w : World) : Calls Tryz.prog 103 #[.float .f64 x] w (OddPost w) := by
  have CI := Lib.hid (fun w => finf_all x hx w)
  have CN := Lib.hid (fun w => isnan_any x hx w)
  have hz := eq_zero x hx
  have hne : Hid ((FloatKind.f64.format.order x 4602678819172646912 == some .eq) = false) := Lib.hid (by
    cases hn : Nm.isNaN x
    · rw [hn] at h
      have hm := num_le hn
      by_cases hg : 2 ^ 63 ≤ x
      · exact neg_ne hg hx half_pos (by decide)
      · have e : FloatKind.f64.format.order x 4602678819172646912 = some (compare (Nm.key x) (Nm.key 4602678819172646912)) := Nm.order_eq hx (by decide) hn (by decide)
        rw [e, key_pos (by omega), key_pos (by decide)]
        rcases h with h | h | h
        · unfold Nm.nought at h
          have := of_decide_eq_true h
          rw [Int.compare_eq_lt.2 (by omega)]; rfl
        · unfold Nm.isInf Nm.inf at h
          have := of_decide_eq_true h
          rw [Int.compare_eq_gt.2 (by omega)]; rfl
        · cases h
    · rw [order_none hx (by decide) hn]; rfl)
  obtain ⟨z, hzz⟩ : ∃ z, Nm.nought x = z := ⟨_, rfl⟩
  obtain ⟨i, hi⟩ : ∃ z, Nm.isInf x = z := ⟨_, rfl⟩
  obtain ⟨n, hn⟩ : ∃ z, Nm.isNaN x = z := ⟨_, rfl⟩
  rw [hzz] at hz h
  rw [hi] at CI h
  rw [hn] at CN h
  clear hzz hi hn hx
  cases z
  · cases i
    · obtain rfl : n = true := by
        rcases h with h | h | h
        · cases h
        · cases h
        · exact h
      clear h
      go_enter Tryz.func103, Tryz.ntmps103
      go_wp2_with fail
      refine (CI.out _).mono ?_
      rintro e wa ⟨rfl, rfl⟩
      go_wp2_with fail
      refine (CN.out _).mono ?_
      rintro e wb ⟨rfl, rfl⟩
      go_wp2
      go_ret2
      exact ⟨_, _, rfl, hne.out, Below.refl _ _⟩
    · clear h
      go_enter Tryz.func103, Tryz.ntmps103
      go_wp2_with fail
      refine (CI.out _).mono ?_
      rintro e wa ⟨rfl, rfl⟩
      go_wp2
      go_ret2
      exact ⟨_, _, rfl, hne.out, Below.refl _ _⟩
  · clear h
    go_enter Tryz.func103, Tryz.ntmps103
    go_wp2
    go_ret2
    exact ⟨_, _, rfl, hne.out, Below.refl _ _⟩
def NegPost (w : World) (e : Ending) (w' : World) : Prop := ∃ (y : Nat) (k : Int), e = .returned (.tuple #[.float .f64 y, .int .i64 k]) ∧ 2 ^ 63 ≤ y ∧ y < 2 ^ 64 ∧ -52 ≤ k ∧ k ≤ 0 ∧ Below w.heap.size w w'
theorem fnorm_neg (x : Nat) (h1 : 2 ^ 63 ≤ x) (hx : x < 2 ^ 64) (hf : x % 2 ^ 63 < 9218868437227405312) (hz : x % 2 ^ 63 ≠ 0) (w : World) : Calls Tryz.prog 124 #[.float .f64 x] w (NegPost w) := by
  have CA := Lib.hid (fun w => fabs_any x hx w)
  have H1 := Lib.hid h1
  have HX := Lib.hid hx
  obtain ⟨na, ia⟩ := fin_facts (a := x) (by unfold Nm.inf; omega)
  have hY1 : 2 ^ 63 ≤ Nm.dMul x 4841369599423283200 ∧ Nm.isNaN (Nm.dMul x 4841369599423283200) = false := by
    have ng : Nm.neg x = true := decide_eq_true h1
    unfold Nm.dMul
    rw [na, ia, ng, show Nm.isNaN 4841369599423283200 = false by decide, show Nm.isInf 4841369599423283200 = false by decide, show Nm.neg 4841369599423283200 = false by decide]
    simp only [Bool.false_and, Bool.and_false, Bool.or_self, Bool.or_false, Bool.false_eq_true, if_false, bne_self_eq_false]
    refine ⟨?_, Nm.round_nan _ _ _ _⟩
    show 2 ^ 63 ≤ Nm.word true _
    unfold Nm.word
    rw [if_pos rfl]
    exact Nat.le_add_right _ _
  have hY2 := (Nm.ok_mul x 4841369599423283200).1
  have AR := arith_run .mul x 4841369599423283200 (.inr (.inl rfl))
  rw [mul_bits x 4841369599423283200 (by omega) (by decide)] at AR
  obtain ⟨Y, hY⟩ : ∃ Y, Nm.dMul x 4841369599423283200 = Y := ⟨_, rfl⟩
  rw [hY] at hY1 hY2 AR
  obtain ⟨r, w2, hrun, hb, hl, ht⟩ := AR w
  obtain rfl : r = Y := tidy_inv ht hY1.2
  have HB := Lib.hid hb
  have HY1 := Lib.hid hY1.1
  have HY2 := Lib.hid hY2
  have nt : Nm.isNaN (x % 2 ^ 63) = false := (low_nan x).trans na
  clear AR hY hb hl ht hY1 hY2 h1 na ia
  by_cases hs : x % 2 ^ 63 < 4503599627370496
  · have hg : (FloatKind.f64.format.order (x % 2 ^ 63) 4503599627370496 == some .lt) = true := is_lt (by omega) (by decide) nt (by decide) (by rw [key_pos (x := x % 2 ^ 63) (by omega), key_pos (x := 4503599627370496) (by decide)]; omega)
    obtain ⟨m, hm⟩ : ∃ m, x % 2 ^ 63 = m := ⟨_, rfl⟩
    rw [hm] at CA hg
    clear hm hs hf hz hx nt
    go_enter Tryz.func124, Tryz.ntmps124
    go_wp2_with fail
    refine (CA.out _).mono ?_
    rintro e w1 ⟨rfl, rfl⟩
    go_wp2_with (simp only [hrun])
    go_ret2
    exact ⟨_, _, rfl, HY1.out, HY2.out, by decide, by decide, HB.out⟩
  · have hg : (FloatKind.f64.format.order (x % 2 ^ 63) 4503599627370496 == some .lt) = false := not_lt (by omega) (by decide) nt (by decide) (by rw [key_pos (x := x % 2 ^ 63) (by omega), key_pos (x := 4503599627370496) (by decide)]; omega)
    obtain ⟨m, hm⟩ : ∃ m, x % 2 ^ 63 = m := ⟨_, rfl⟩
    rw [hm] at CA hg
    clear hm hs hf hz hx nt
    go_enter Tryz.func124, Tryz.ntmps124
    go_wp2_with fail
    refine (CA.out _).mono ?_
    rintro e w1 ⟨rfl, rfl⟩
    go_wp2
    go_ret2
    exact ⟨_, _, rfl, H1.out, HX.out, by decide, by decide, Below.refl _ _⟩
theorem clear_neg (x : Nat) (h1 : 2 ^ 63 ≤ x) (h : x < 2 ^ 64) : bits .andNot .u64 (x : Int) 9218868437227405312 = ((2 ^ 63 + x % 2 ^ 52 : Nat) : Int) := by
  have := u64_andNot_nat x 9218868437227405312 (by omega) (by decide)
  rw [show ((9218868437227405312 : Nat) : Int) = 9218868437227405312 from rfl] at this
  rw [this]
  congr 1
  have e : (18446744073709551615 - 9218868437227405312 : Nat) = 2 ^ 63 + (2 ^ 52 - 1) := by decide
  rw [e]
  have h2 : (2 ^ 63 + (2 ^ 52 - 1) : Nat) = 2 ^ 63 ||| (2 ^ 52 - 1) := by decide
  have h3 : x / 2 ^ 63 % 2 = 1 := by omega
  rw [h2, Nat.and_or_distrib_left, Nat.and_two_pow_sub_one_eq_mod x 52, nat_bit 63 x, h3, Nat.one_mul]
  exact nat_join 52 _ _ (by decide) (Nat.mod_lt _ (by decide))
theorem or_neg (F : Nat) (hF : F < 2 ^ 52) : bits .or .u64 ((2 ^ 63 + F : Nat) : Int) 4602678819172646912 = ((2 ^ 63 + 1022 * 2 ^ 52 + F : Nat) : Int) := by
  have := u64_or_nat (2 ^ 63 + F) (1022 * 2 ^ 52) (by omega) (by decide)
  rw [show ((1022 * 2 ^ 52 : Nat) : Int) = 4602678819172646912 from by decide] at this
  rw [this]
  congr 1
  rw [← nat_join 52 (2 ^ 63) F (by decide) hF, Nat.or_assoc, Nat.or_comm F, ← Nat.or_assoc, show (2 ^ 63 ||| 1022 * 2 ^ 52 : Nat) = 2 ^ 63 + 1022 * 2 ^ 52 by decide]
  exact nat_join 52 _ _ (by decide) hF
theorem frexp_neg (x : Nat) (h1 : 2 ^ 63 ≤ x) (hx : x < 2 ^ 64) (hf : x % 2 ^ 63 < 9218868437227405312) (hz : x % 2 ^ 63 ≠ 0) (w : World) : Calls Tryz.prog 103 #[.float .f64 x] w (OddPost w) := by
  have CI := Lib.hid (fun w => finf_all x hx w)
  have CN := Lib.hid (fun w => isnan_any x hx w)
  have CO := Lib.hid (fun w => fnorm_neg x h1 hx hf hz w)
  have hzz := eq_zero x hx
  rw [show Nm.nought x = false from decide_eq_false hz] at hzz
  obtain ⟨na, ia⟩ := fin_facts (a := x) (by unfold Nm.inf; omega)
  rw [na] at CN
  rw [ia] at CI
  clear na ia h1 hx hf hz
  go_enter Tryz.func103, Tryz.ntmps103
  go_wp2_with fail
  refine (CI.out _).mono ?_
  rintro e wa ⟨rfl, rfl⟩
  go_wp2_with fail
  refine (CN.out _).mono ?_
  rintro e wb ⟨rfl, rfl⟩
  go_wp2_with fail
  refine (CO.out _).mono ?_
  rintro e wc ⟨y, k, rfl, hy1, hy2, hk1, hk2, hb⟩
  have BB := Lib.hid hb
  clear hb
  have hE := exp_bits y hy2
  have hE2 : y / 2 ^ 52 % 2048 < 2048 := Nat.mod_lt _ (by decide)
  have hclr := clear_neg y hy1 hy2
  have hF3 : y % 2 ^ 52 < 2 ^ 52 := Nat.mod_lt _ (by decide)
  have hor := or_neg (y % 2 ^ 52) hF3
  have hne : Hid ((FloatKind.f64.format.order (2 ^ 63 + 1022 * 2 ^ 52 + y % 2 ^ 52) 4602678819172646912 == some .eq) = false) := Lib.hid (neg_ne (by omega) (by omega) half_pos (by decide))
  have hy117 := ext117 y
  have hy118 := ext118 (2 ^ 63 + 1022 * 2 ^ 52 + y % 2 ^ 52)
  obtain ⟨G, hG⟩ : ∃ G, 2 ^ 63 + 1022 * 2 ^ 52 + y % 2 ^ 52 = G := ⟨_, rfl⟩
  rw [hG] at hor hy118 hne
  obtain ⟨F, hF⟩ : ∃ F, 2 ^ 63 + y % 2 ^ 52 = F := ⟨_, rfl⟩
  rw [hF] at hclr hor
  obtain ⟨E, hEe⟩ : ∃ E, y / 2 ^ 52 % 2048 = E := ⟨_, rfl⟩
  rw [hEe] at hE hE2
  have w1 : IntKind.i64.wrap (E : Int) = (E : Int) := by rw [IntKind.wrap_i64]; omega
  have w2 : IntKind.i64.wrap ((E : Int) - 1023) = (E : Int) - 1023 := by rw [IntKind.wrap_i64]; omega
  have w3 : IntKind.i64.wrap ((E : Int) - 1023 + 1) = (E : Int) - 1023 + 1 := by rw [IntKind.wrap_i64]; omega
  have w4 : IntKind.i64.wrap (k + ((E : Int) - 1023 + 1)) = k + ((E : Int) - 1023 + 1) := by rw [IntKind.wrap_i64]; omega
  clear hEe hF hG hF3 hy1 hy2 hk1 hk2
  go_wp2
  go_ret2
  exact ⟨_, _, rfl, hne.out, BB.out⟩
theorem frexp_odd (a : Nat) (ha : a < 2 ^ 64) (h : (Nm.isNaN a || Nm.isInf a || Nm.neg a || Nm.nought a) = true) (w : World) : Calls Tryz.prog 65 #[.float .f64 a] w (OddPost w) := by
  have HC : Hid (Calls Tryz.prog 103 #[.float .f64 a] w (OddPost w)) := Lib.hid (by
    cases hn : Nm.isNaN a
    · cases hi : Nm.isInf a
      · cases hz : Nm.nought a
        · rw [hn, hi, hz] at h
          have hg : Nm.neg a = true := by simpa using h
          have f := Nm.fin_lt hn hi
          unfold Nm.inf at f
          exact frexp_neg a (of_decide_eq_true hg) ha f (of_decide_eq_false hz) w
        · exact frexp_same a ha (.inl hz) w
      · exact frexp_same a ha (.inr (.inl hi)) w
    · exact frexp_same a ha (.inr (.inr hn)) w)
  clear ha h
  go_enter Tryz.func65, Tryz.ntmps65
  refine wp_seq ?_
  apply wp_region_lit
  iterate 8 (first | go_step | skip)
  refine wp_seq ?_
  refine wp_cond_false rfl ?_
  go_wp2_with fail
  refine HC.out.mono ?_
  rintro e w2 ⟨y, k, rfl, hn, hb⟩
  go_wp2
  go_ret2
  exact ⟨_, _, rfl, hn, hb⟩
set_option maxHeartbeats 2000000 in
theorem log2_any (a : Nat) (ha : a < 2 ^ 64) (w : World) : Calls Tryz.prog 9 #[.int .u64 (a : Int)] w (Gives w (.int .u64 (dLog2 a : Nat))) := by
  have Cl : Hid (∀ w, Calls Tryz.prog 7 #[.int .u64 (a : Nat)] w (Gives w (.int .u64 (dLn a : Nat)))) := Lib.hid (fun w => ln_any a ha w)
  have ol : dLn a < 2 ^ 64 := dLn_ok _ ha
  obtain ⟨l, hl⟩ : ∃ vv, dLn a = vv := ⟨_, rfl⟩
  rw [hl] at Cl ol
  have CD : Hid (∀ w, Calls Tryz.prog 46 #[.int .u64 (l : Nat), .int .u64 4604418534313441775] w (Gives w (.int .u64 (Nm.dDiv l 4604418534313441775 : Nat)))) := Lib.hid (fun w => div_any l 4604418534313441775 ol (by decide) w)
  have oD : Nm.dDiv l 4604418534313441775 < 2 ^ 64 := (Nm.ok_div _ _).1
  obtain ⟨D, hD⟩ : ∃ vv, Nm.dDiv l 4604418534313441775 = vv := ⟨_, rfl⟩
  rw [hD] at CD oD
  have CFL := Lib.hid (fun w => (float_any a w).mono fun _ _ h => gives_of h)
  obtain ⟨R, hR⟩ : ∃ vv, dLog2 a = vv := ⟨_, rfl⟩
  rw [hR]
  unfold dLog2 lone at hR
  rw [hl, hD] at hR
  cases hb : (Nm.isNaN a || Nm.isInf a || Nm.neg a || Nm.nought a)
  · rw [hb] at hR
    simp only [Bool.or_eq_false_iff] at hb
    obtain ⟨⟨⟨hn, hi⟩, hg⟩, hz⟩ := hb
    have fa : a % 2 ^ 63 < Nm.inf := Nm.fin_lt hn hi
    have hsm : a < 9223372036854775808 := by
      unfold Nm.neg at hg
      have := of_decide_eq_false hg
      omega
    have hz0 : a % 2 ^ 63 ≠ 0 := of_decide_eq_false hz
    have hm0 : Nm.mag a ≠ 0 := by
      have := Nm.nought_mag a
      rw [hz] at this
      exact of_decide_eq_false this.symm
    have hml := Nm.mag_lt a
    have pa1 := Nm.plc_ge a
    have pa2 := plc_le a
    have hlg := (frac_parts hm0 hml).1
    have hfl := frac_lt hm0 hml
    unfold Nm.inf at fa
    have CFR := Lib.hid (fun w => frexp_any a (by omega) (by omega) w)
    have htest := pos_eq (x := fracOf (Nm.mag a)) (y := 4602678819172646912) ⟨by omega⟩ half_pos
    rw [frac_half hm0 hml] at htest
    obtain ⟨k, hk⟩ : ∃ vv, Nm.plc a + ((Nm.mag a).log2 : Nat) = vv := ⟨_, rfl⟩
    have hkb : -1074 ≤ k ∧ k ≤ 1030 := by omega
    rw [hk] at CFR hR
    have e1 : IntKind.i64.wrap (k + 1 - 1) = k := by rw [IntKind.wrap_i64]; omega
    have e2 : IntKind.i64.wrap k = k := by rw [IntKind.wrap_i64]; omega
    have CI := Lib.hid (fun w => (int_any k w).mono fun _ _ h => gives_of h)
    obtain ⟨I, hI⟩ : ∃ vv, dInt k = vv := ⟨_, rfl⟩
    rw [hI] at CI hR
    obtain ⟨y, hy⟩ : ∃ vv, fracOf (Nm.mag a) = vv := ⟨_, rfl⟩
    rw [hy] at CFR htest
    obtain ⟨t, ht⟩ : ∃ vv, decide (Nm.mag a = 2 ^ (Nm.mag a).log2) = vv := ⟨_, rfl⟩
    rw [ht] at htest hR
    clear ha hl hD ol oD hn hi hg hz fa hsm hz0 hm0 hml pa1 pa2 hlg hfl hk hkb hI hy ht
    cases t
    · obtain rfl : D = R := hR
      have BB := Lib.hid (Below.refl w.heap.size w)
      go_enter Tryz.func9, Tryz.ntmps9
      go_wp2_with fail
      refine (CFL.out _).mono ?_
      rintro e' wm1 ⟨rfl, hb⟩
      have BB := Lib.hid (BB.out.trans (hb.mono BB.out.size))
      clear hb
      go_wp2_with fail
      refine (CFR.out _).mono ?_
      rintro e' wm2 ⟨rfl, hb⟩
      have BB := Lib.hid (BB.out.trans (hb.mono BB.out.size))
      clear hb
      go_wp2_with fail
      refine (Cl.out _).mono ?_
      rintro e' wm3 ⟨rfl, hb⟩
      have BB := Lib.hid (BB.out.trans (hb.mono BB.out.size))
      clear hb
      go_wp2_with fail
      refine (CD.out _).mono ?_
      rintro e' wm4 ⟨rfl, hb⟩
      have BB := Lib.hid (BB.out.trans (hb.mono BB.out.size))
      clear hb
      go_wp2
      go_ret
      exact ⟨rfl, BB.out⟩
    · obtain rfl : I = R := hR
      have BB := Lib.hid (Below.refl w.heap.size w)
      go_enter Tryz.func9, Tryz.ntmps9
      go_wp2_with fail
      refine (CFL.out _).mono ?_
      rintro e' wm1 ⟨rfl, hb⟩
      have BB := Lib.hid (BB.out.trans (hb.mono BB.out.size))
      clear hb
      go_wp2_with fail
      refine (CFR.out _).mono ?_
      rintro e' wm2 ⟨rfl, hb⟩
      have BB := Lib.hid (BB.out.trans (hb.mono BB.out.size))
      clear hb
      go_wp2_with fail
      refine (CI.out _).mono ?_
      rintro e' wm3 ⟨rfl, hb⟩
      have BB := Lib.hid (BB.out.trans (hb.mono BB.out.size))
      clear hb
      go_wp2
      go_ret
      exact ⟨rfl, BB.out⟩
  · rw [hb] at hR
    obtain rfl : D = R := hR
    have CFR := Lib.hid (fun w => frexp_odd a ha hb w)
    clear ha hl hD ol oD hb
    have BB := Lib.hid (Below.refl w.heap.size w)
    go_enter Tryz.func9, Tryz.ntmps9
    go_wp2_with fail
    refine (CFL.out _).mono ?_
    rintro e' wm1 ⟨rfl, hb⟩
    have BB := Lib.hid (BB.out.trans (hb.mono BB.out.size))
    clear hb
    go_wp2_with fail
    refine (CFR.out _).mono ?_
    rintro e' wz ⟨y, k, rfl, htest, hb⟩
    have BB := Lib.hid (BB.out.trans (hb.mono BB.out.size))
    clear hb
    go_wp2_with fail
    refine (Cl.out _).mono ?_
    rintro e' wm2 ⟨rfl, hb⟩
    have BB := Lib.hid (BB.out.trans (hb.mono BB.out.size))
    clear hb
    go_wp2_with fail
    refine (CD.out _).mono ?_
    rintro e' wm3 ⟨rfl, hb⟩
    have BB := Lib.hid (BB.out.trans (hb.mono BB.out.size))
    clear hb
    go_wp2
    go_ret
    exact ⟨rfl, BB.out⟩
theorem pow_lone {M m j : Nat} (h : m * 2 ^ j = M) (hm : m % 2 = 1) : decide (M = 2 ^ M.log2) = decide (m = 1) ∧ (m = 1 → M.log2 = j) := by
  have hm0 : m ≠ 0 := by omega
  subst h
  constructor
  · by_cases h1 : m = 1
    · subst h1
      rw [Nat.one_mul, Nat.log2_two_pow]
      rw [decide_eq_true rfl, decide_eq_true rfl]
    · rw [decide_eq_false h1]
      apply decide_eq_false
      intro hp
      obtain ⟨L, hL⟩ : ∃ L, (m * 2 ^ j).log2 = L := ⟨_, rfl⟩
      rw [hL] at hp
      have hj : j ≤ L := by
        have : 2 ^ j ≤ 2 ^ L := by rw [← hp]; exact Nat.le_mul_of_pos_left _ (by omega)
        exact (Nat.pow_le_pow_iff_right (by decide)).1 this
      have hpj : 0 < 2 ^ j := Nat.pow_pos (by decide)
      have e : m = 2 ^ (L - j) := by
        apply Nat.eq_of_mul_eq_mul_right hpj
        rw [hp, ← Nat.pow_add]
        congr 1
        omega
      cases hk : L - j with
      | zero => rw [hk] at e; exact h1 e
      | succ i =>
        rw [hk, Nat.pow_succ] at e
        omega
  · intro h1
    subst h1
    rw [Nat.one_mul, Nat.log2_two_pow]
set_option maxHeartbeats 2000000 in
theorem rlog2_any (a : Nat) (ha : a < 2 ^ 64) (w : World) : Calls Tryz.prog 10 #[.int .u64 (a : Int)] w (Gives w (.int .u64 (dLog2 a : Nat))) := by
  have Cna : Hid (∀ w, Calls Tryz.prog 50 #[.int .u64 (a : Nat)] w (Gives w (.bool (Nm.isNaN a)))) := Lib.hid (fun w => (rnan_any a ha w).mono fun _ _ h => gives_of h)
  obtain ⟨na, hna⟩ : ∃ vv, Nm.isNaN a = vv := ⟨_, rfl⟩
  rw [hna] at Cna
  have Cia : Hid (∀ w, Calls Tryz.prog 72 #[.int .u64 (a : Nat)] w (Gives w (.bool (Nm.isInf a)))) := Lib.hid (fun w => (rinf_any a ha w).mono fun _ _ h => gives_of h)
  obtain ⟨ia, hia⟩ : ∃ vv, Nm.isInf a = vv := ⟨_, rfl⟩
  rw [hia] at Cia
  have Csg : Hid (∀ w, Calls Tryz.prog 71 #[.int .u64 (a : Nat)] w (Gives w (.bool (Nm.neg a)))) := Lib.hid (fun w => (rsign_any a ha w).mono fun _ _ h => gives_of h)
  obtain ⟨sg, hsg⟩ : ∃ vv, Nm.neg a = vv := ⟨_, rfl⟩
  rw [hsg] at Csg
  have Cz : Hid (∀ w, Calls Tryz.prog 69 #[.int .u64 (a : Nat)] w (Gives w (.bool (Nm.nought a)))) := Lib.hid (fun w => (rzero_any a ha w).mono fun _ _ h => gives_of h)
  obtain ⟨z, hz⟩ : ∃ vv, Nm.nought a = vv := ⟨_, rfl⟩
  rw [hz] at Cz
  have Cl : Hid (∀ w, Calls Tryz.prog 8 #[.int .u64 (a : Nat)] w (Gives w (.int .u64 (dLn a : Nat)))) := Lib.hid (fun w => rln_any a ha w)
  have ol : dLn a < 2 ^ 64 := dLn_ok _ ha
  obtain ⟨l, hl⟩ : ∃ vv, dLn a = vv := ⟨_, rfl⟩
  rw [hl] at Cl ol
  have CD : Hid (∀ w, Calls Tryz.prog 57 #[.int .u64 (l : Nat), .int .u64 4604418534313441775] w (Gives w (.int .u64 (Nm.dDiv l 4604418534313441775 : Nat)))) := Lib.hid (fun w => rdiv_any l 4604418534313441775 ol (by decide) w)
  have oD : Nm.dDiv l 4604418534313441775 < 2 ^ 64 := (Nm.ok_div _ _).1
  obtain ⟨D, hD⟩ : ∃ vv, Nm.dDiv l 4604418534313441775 = vv := ⟨_, rfl⟩
  rw [hD] at CD oD
  obtain ⟨R, hR⟩ : ∃ vv, dLog2 a = vv := ⟨_, rfl⟩
  rw [hR]
  unfold dLog2 lone at hR
  rw [hl, hD, hna, hia, hsg, hz] at hR
  cases na
  · cases ia
    · cases sg
      · cases z
        · simp only [Bool.or_self, Bool.not_false, Bool.true_and] at hR
          have hm0 : Nm.mag a ≠ 0 := by
            have := Nm.nought_mag a
            rw [hz] at this
            exact of_decide_eq_false this.symm
          have hml := Nm.mag_lt a
          have pa1 := Nm.plc_ge a
          have pa2 := plc_le a
          have COP := Lib.hid (fun w => (open_any a ha w).mono fun _ _ h => gives_of h)
          have CI := Lib.hid (fun (n : Int) (h1 : -9223372036854775808 ≤ n) (h2 : n ≤ 9223372036854775807) w => rint_any n h1 h2 w)
          obtain ⟨M, hM⟩ : ∃ vv, Nm.mag a = vv := ⟨_, rfl⟩
          rw [hM] at COP hm0 hml hR
          obtain ⟨P, hP⟩ : ∃ vv, Nm.plc a = vv := ⟨_, rfl⟩
          rw [hP] at COP pa1 pa2 hR
          have HR := Lib.hid hR
          have HM := Lib.hid hml
          clear ha hl hD ol oD hna hia hsg hz hM hP hR
          have BB := Lib.hid (Below.refl w.heap.size w)
          go_enter Tryz.func10, Tryz.ntmps10
          go_wp2_with fail
          refine (Cna.out _).mono ?_
          rintro e' wm1 ⟨rfl, hb⟩
          have BB := Lib.hid (BB.out.trans (hb.mono BB.out.size))
          clear hb
          go_wp2_with fail
          refine (Cia.out _).mono ?_
          rintro e' wm2 ⟨rfl, hb⟩
          have BB := Lib.hid (BB.out.trans (hb.mono BB.out.size))
          clear hb
          go_wp2_with fail
          refine (Csg.out _).mono ?_
          rintro e' wm3 ⟨rfl, hb⟩
          have BB := Lib.hid (BB.out.trans (hb.mono BB.out.size))
          clear hb
          go_wp2_with fail
          refine (Cz.out _).mono ?_
          rintro e' wm4 ⟨rfl, hb⟩
          have BB := Lib.hid (BB.out.trans (hb.mono BB.out.size))
          clear hb
          go_wp2_with fail
          refine (COP.out _).mono ?_
          rintro e' wm5 ⟨rfl, hb⟩
          have BB := Lib.hid (BB.out.trans (hb.mono BB.out.size))
          clear hb
          go_wp2
          go_loopw [3, 4] (fun n' e' wr => ∃ (m j : Nat), n' = .int .u64 (m : Nat) ∧ e' = .int .i64 (P + (j : Int)) ∧ 1 ≤ m ∧ m < 18446744073709551616 ∧ j ≤ 53 ∧ Hid (m * 2 ^ j = M) ∧ Hid (Below w.heap.size w wr)) (fun n _ _ => (intOf n).toNat)
          case atStart => exact ⟨M, 0, rfl, by rw [Int.natCast_zero, Int.add_zero], by omega, by omega, by omega, Lib.hid (by rw [Nat.pow_zero, Nat.mul_one]), BB⟩
          case round =>
            obtain ⟨m, j, rfl, rfl, hm1, hm2, hj, HMJ, BB⟩ := hrel
            rcases Nat.mod_two_eq_zero_or_one m with h2 | h2
            · obtain ⟨q, rfl⟩ : ∃ q, m = 2 * q := ⟨m / 2, by omega⟩
              have hj2 : j + 1 ≤ 53 := by
                have h := HMJ.out
                have h3 := HM.out
                have h4 : 2 ^ (j + 1) ≤ M := by rw [← h, Nat.pow_succ, Nat.mul_comm (2 ^ j)]; exact Nat.mul_le_mul_right _ (by omega)
                have h5 : 2 ^ (j + 1) < 2 ^ 53 := Nat.lt_of_le_of_lt h4 h3
                have := (Nat.pow_lt_pow_iff_right (by decide : 1 < 2)).1 h5
                omega
              have HN : Hid (q * 2 ^ (j + 1) = M) := Lib.hid (by rw [← HMJ.out, Nat.pow_succ, Nat.mul_comm (2 ^ j), ← Nat.mul_assoc, Nat.mul_comm q])
              obtain ⟨m, hm⟩ : ∃ m : Nat, 2 * q = m := ⟨_, rfl⟩
              rw [hm] at hm1 hm2 h2
              have d1 : ((m : Nat) : Int) % 2 = 0 := by omega
              have d2 : ((m : Nat) : Int) / 2 = (q : Int) := by omega
              have d3 : ((m : Nat) : Int).tmod 2 = 0 := by rw [Int.tmod_eq_emod_of_nonneg (by omega)]; exact d1
              have d4 : ((m : Nat) : Int).tdiv 2 = (q : Int) := by rw [Int.tdiv_eq_ediv_of_nonneg (by omega)]; exact d2
              have e1 : IntKind.i64.wrap (P + (j : Int) + 1) = P + ((j + 1 : Nat) : Int) := by rw [IntKind.wrap_i64]; omega
              have e2 : IntKind.u64.wrap (q : Int) = (q : Int) := by rw [IntKind.wrap_u64]; omega
              have hq : q < m := by omega
              have hq1 : 1 ≤ q := by omega
              have HH : Hid (q < 18446744073709551616) := Lib.hid (by omega)
              rw [hm]
              clear hm h2
              go_wp2
              go_roundw
              case rel => exact ⟨q, j + 1, rfl, rfl, hq1, HH.out, hj2, HN, BB⟩
              case measure => simp [intOf]; omega
            · obtain ⟨p1, p2⟩ := pow_lone HMJ.out h2
              have hR := HR.out
              rw [p1] at hR
              have d1 : ((m : Nat) : Int) % 2 = 1 := by omega
              have d3 : ((m : Nat) : Int).tmod 2 = 1 := by rw [Int.tmod_eq_emod_of_nonneg (by omega)]; exact d1
              by_cases h1 : m = 1
              · rw [decide_eq_true h1, if_pos rfl, p2 h1] at hR
                have CI := Lib.hid (CI.out (P + (j : Int)) (by omega) (by omega))
                rw [hR] at CI
                subst h1
                clear p1 p2 hR h2
                go_wp2_with fail
                refine (CI.out _).mono ?_
                rintro e' wm11 ⟨rfl, hb⟩
                have BB := Lib.hid (BB.out.trans (hb.mono BB.out.size))
                clear hb
                go_wp2
                go_ret
                exact ⟨rfl, BB.out⟩
              · have d5 : (((m : Nat) : Int) == 1) = false := by simp; omega
                rw [decide_eq_false h1, if_neg (by decide)] at hR
                obtain rfl : D = R := hR
                clear p1 p2 h2 h1
                go_wp2_with fail
                refine (Cl.out _).mono ?_
                rintro e' wm11 ⟨rfl, hb⟩
                have BB := Lib.hid (BB.out.trans (hb.mono BB.out.size))
                clear hb
                go_wp2_with fail
                refine (CD.out _).mono ?_
                rintro e' wm12 ⟨rfl, hb⟩
                have BB := Lib.hid (BB.out.trans (hb.mono BB.out.size))
                clear hb
                go_wp2
                go_ret
                exact ⟨rfl, BB.out⟩
        · obtain rfl : D = R := hR
          clear ha hl hD ol oD hna hia hsg hz
          have BB := Lib.hid (Below.refl w.heap.size w)
          go_enter Tryz.func10, Tryz.ntmps10
          go_wp2_with fail
          refine (Cna.out _).mono ?_
          rintro e' wm1 ⟨rfl, hb⟩
          have BB := Lib.hid (BB.out.trans (hb.mono BB.out.size))
          clear hb
          go_wp2_with fail
          refine (Cia.out _).mono ?_
          rintro e' wm2 ⟨rfl, hb⟩
          have BB := Lib.hid (BB.out.trans (hb.mono BB.out.size))
          clear hb
          go_wp2_with fail
          refine (Csg.out _).mono ?_
          rintro e' wm3 ⟨rfl, hb⟩
          have BB := Lib.hid (BB.out.trans (hb.mono BB.out.size))
          clear hb
          go_wp2_with fail
          refine (Cz.out _).mono ?_
          rintro e' wm4 ⟨rfl, hb⟩
          have BB := Lib.hid (BB.out.trans (hb.mono BB.out.size))
          clear hb
          go_wp2_with fail
          refine (Cl.out _).mono ?_
          rintro e' wm5 ⟨rfl, hb⟩
          have BB := Lib.hid (BB.out.trans (hb.mono BB.out.size))
          clear hb
          go_wp2_with fail
          refine (CD.out _).mono ?_
          rintro e' wm6 ⟨rfl, hb⟩
          have BB := Lib.hid (BB.out.trans (hb.mono BB.out.size))
          clear hb
          go_wp2
          go_ret
          exact ⟨rfl, BB.out⟩
      · obtain rfl : D = R := hR
        clear ha hl hD ol oD hna hia hsg hz
        have BB := Lib.hid (Below.refl w.heap.size w)
        go_enter Tryz.func10, Tryz.ntmps10
        go_wp2_with fail
        refine (Cna.out _).mono ?_
        rintro e' wm1 ⟨rfl, hb⟩
        have BB := Lib.hid (BB.out.trans (hb.mono BB.out.size))
        clear hb
        go_wp2_with fail
        refine (Cia.out _).mono ?_
        rintro e' wm2 ⟨rfl, hb⟩
        have BB := Lib.hid (BB.out.trans (hb.mono BB.out.size))
        clear hb
        go_wp2_with fail
        refine (Csg.out _).mono ?_
        rintro e' wm3 ⟨rfl, hb⟩
        have BB := Lib.hid (BB.out.trans (hb.mono BB.out.size))
        clear hb
        go_wp2_with fail
        refine (Cl.out _).mono ?_
        rintro e' wm4 ⟨rfl, hb⟩
        have BB := Lib.hid (BB.out.trans (hb.mono BB.out.size))
        clear hb
        go_wp2_with fail
        refine (CD.out _).mono ?_
        rintro e' wm5 ⟨rfl, hb⟩
        have BB := Lib.hid (BB.out.trans (hb.mono BB.out.size))
        clear hb
        go_wp2
        go_ret
        exact ⟨rfl, BB.out⟩
    · obtain rfl : D = R := hR
      clear ha hl hD ol oD hna hia hsg hz
      have BB := Lib.hid (Below.refl w.heap.size w)
      go_enter Tryz.func10, Tryz.ntmps10
      go_wp2_with fail
      refine (Cna.out _).mono ?_
      rintro e' wm1 ⟨rfl, hb⟩
      have BB := Lib.hid (BB.out.trans (hb.mono BB.out.size))
      clear hb
      go_wp2_with fail
      refine (Cia.out _).mono ?_
      rintro e' wm2 ⟨rfl, hb⟩
      have BB := Lib.hid (BB.out.trans (hb.mono BB.out.size))
      clear hb
      go_wp2_with fail
      refine (Cl.out _).mono ?_
      rintro e' wm3 ⟨rfl, hb⟩
      have BB := Lib.hid (BB.out.trans (hb.mono BB.out.size))
      clear hb
      go_wp2_with fail
      refine (CD.out _).mono ?_
      rintro e' wm4 ⟨rfl, hb⟩
      have BB := Lib.hid (BB.out.trans (hb.mono BB.out.size))
      clear hb
      go_wp2
      go_ret
      exact ⟨rfl, BB.out⟩
  · obtain rfl : D = R := hR
    clear ha hl hD ol oD hna hia hsg hz
    have BB := Lib.hid (Below.refl w.heap.size w)
    go_enter Tryz.func10, Tryz.ntmps10
    go_wp2_with fail
    refine (Cna.out _).mono ?_
    rintro e' wm1 ⟨rfl, hb⟩
    have BB := Lib.hid (BB.out.trans (hb.mono BB.out.size))
    clear hb
    go_wp2_with fail
    refine (Cl.out _).mono ?_
    rintro e' wm2 ⟨rfl, hb⟩
    have BB := Lib.hid (BB.out.trans (hb.mono BB.out.size))
    clear hb
    go_wp2_with fail
    refine (CD.out _).mono ?_
    rintro e' wm3 ⟨rfl, hb⟩
    have BB := Lib.hid (BB.out.trans (hb.mono BB.out.size))
    clear hb
    go_wp2
    go_ret
    exact ⟨rfl, BB.out⟩
end Go.Proofs.YtffohkpohgkglaaGreat
