/-
  WALKS of the document's own: tests of a number; its parts; the sign.
-/
import Derived.Test.YtffohkpohgkglaaGreatWalkG
import Derived.Test.YtffohkpohgkglaaGreatBigI
import Derived.Test.YtffohkpohgkglaaGreatBigJ
namespace Go.Proofs.YtffohkpohgkglaaGreat
set_option linter.unusedVariables false
set_option linter.unusedSimpArgs false
open Go.RowKit
theorem rnan_any (a : Nat) (ha : a < 2 ^ 64) (w : World) : Calls Tryz.prog 50 #[.int .u64 (a : Int)] w fun e w' => e = .returned (.bool (Nm.isNaN a)) ∧ w' = w := by
  have h := abs_bits a ha
  have h2 := nan_test a
  obtain ⟨m, hm⟩ : ∃ m, a % 2 ^ 63 = m := ⟨_, rfl⟩
  rw [hm] at h h2
  go_enter Tryz.func50, Tryz.ntmps50
  go_wp2
  go_ret
  exact ⟨rfl, rfl⟩
theorem rinf_any (a : Nat) (ha : a < 2 ^ 64) (w : World) : Calls Tryz.prog 72 #[.int .u64 (a : Int)] w fun e w' => e = .returned (.bool (Nm.isInf a)) ∧ w' = w := by
  have h := abs_bits a ha
  have h2 := inf_test a
  obtain ⟨m, hm⟩ : ∃ m, a % 2 ^ 63 = m := ⟨_, rfl⟩
  rw [hm] at h h2
  go_enter Tryz.func72, Tryz.ntmps72
  go_wp2
  go_ret
  exact ⟨rfl, rfl⟩
theorem rzero_any (a : Nat) (ha : a < 2 ^ 64) (w : World) : Calls Tryz.prog 69 #[.int .u64 (a : Int)] w fun e w' => e = .returned (.bool (Nm.nought a)) ∧ w' = w := by
  have h := abs_bits a ha
  have h2 := nought_test a
  obtain ⟨m, hm⟩ : ∃ m, a % 2 ^ 63 = m := ⟨_, rfl⟩
  rw [hm] at h h2
  go_enter Tryz.func69, Tryz.ntmps69
  go_wp2
  go_ret
  exact ⟨rfl, rfl⟩
theorem rsign_any (a : Nat) (ha : a < 2 ^ 64) (w : World) : Calls Tryz.prog 71 #[.int .u64 (a : Int)] w fun e w' => e = .returned (.bool (Nm.neg a)) ∧ w' = w := by
  have h := sign_bits a ha
  have h2 := neg_test a
  obtain ⟨m, hm⟩ : ∃ m, (Nm.neg a).toNat * 2 ^ 63 = m := ⟨_, rfl⟩
  rw [hm] at h h2
  go_enter Tryz.func71, Tryz.ntmps71
  go_wp2
  go_ret
  exact ⟨rfl, rfl⟩
theorem rneg_any (a : Nat) (ha : a < 2 ^ 64) (w : World) : Calls Tryz.prog 78 #[.int .u64 (a : Int)] w fun e w' => e = .returned (.int .u64 ((Nm.dNeg a) : Nat)) ∧ w' = w := by
  have HA := Lib.hid ha
  cases hn : Nm.isNaN a
  · have h := turn_bits a ha hn
    clear ha
    go_enter Tryz.func78, Tryz.ntmps78
    go_wp2_with fail
    refine (rnan_any a HA.out _).mono ?_
    rintro e w1 ⟨rfl, rfl⟩
    rw [hn]
    go_wp2
    go_ret
    exact ⟨rfl, rfl⟩
  · clear ha
    have hr : Nm.dNeg a = Nm.nan := by unfold Nm.dNeg; rw [hn, if_pos rfl]
    go_enter Tryz.func78, Tryz.ntmps78
    go_wp2_with fail
    refine (rnan_any a HA.out _).mono ?_
    rintro e w1 ⟨rfl, rfl⟩
    rw [hn]
    go_wp2
    go_ret
    rw [hr]
    exact ⟨rfl, rfl⟩
theorem rabs_any (a : Nat) (ha : a < 2 ^ 64) (w : World) : Calls Tryz.prog 81 #[.int .u64 (a : Int)] w fun e w' => e = .returned (.int .u64 ((Nm.dAbs a) : Nat)) ∧ w' = w := by
  have HA := Lib.hid ha
  cases hn : Nm.isNaN a
  · have h := abs_bits a ha
    clear ha
    have hr : Nm.dAbs a = a % 2 ^ 63 := by unfold Nm.dAbs; rw [hn]; rfl
    rw [← hr] at h
    clear hr
    go_enter Tryz.func81, Tryz.ntmps81
    go_wp2_with fail
    refine (rnan_any a HA.out _).mono ?_
    rintro e w1 ⟨rfl, rfl⟩
    rw [hn]
    go_wp2
    go_ret
    exact ⟨rfl, rfl⟩
  · clear ha
    have hr : Nm.dAbs a = Nm.nan := by unfold Nm.dAbs; rw [hn, if_pos rfl]
    go_enter Tryz.func81, Tryz.ntmps81
    go_wp2_with fail
    refine (rnan_any a HA.out _).mono ?_
    rintro e w1 ⟨rfl, rfl⟩
    rw [hn]
    go_wp2
    go_ret
    rw [hr]
    exact ⟨rfl, rfl⟩
theorem rinfv_any (s : Bool) (w : World) : Calls Tryz.prog 70 #[.bool s] w fun e w' => e = .returned (.int .u64 (Nm.word s Nm.inf : Nat)) ∧ w' = w := by
  have h1 : Nm.word true Nm.inf = 18442240474082181120 := by decide
  have h2 : Nm.word false Nm.inf = 9218868437227405312 := by decide
  cases s
  · rw [h2]
    clear h1 h2
    go_enter Tryz.func70, Tryz.ntmps70
    go_wp2
    go_ret
    exact ⟨rfl, rfl⟩
  · rw [h1]
    clear h1 h2
    go_enter Tryz.func70, Tryz.ntmps70
    go_wp2
    go_ret
    exact ⟨rfl, rfl⟩
theorem exp_bits (a : Nat) (h : a < 2 ^ 64) : bits .and .u64 ((a : Int) / 4503599627370496) 2047 = ((a / 2 ^ 52 % 2048 : Nat) : Int) := by
  have := u64_and_nat (a / 2 ^ 52) 2047 (by omega) (by decide)
  rw [nat_mask11] at this
  rw [show (a : Int) / 4503599627370496 = ((a / 2 ^ 52 : Nat) : Int) by omega]
  exact this
theorem frac_bits (a : Nat) (h : a < 2 ^ 64) : bits .and .u64 (a : Int) 4503599627370495 = ((a % 2 ^ 52 : Nat) : Int) := by
  have := u64_and_nat a 4503599627370495 (by omega) (by decide)
  rw [show ((4503599627370495 : Nat) : Int) = 4503599627370495 from rfl] at this
  rw [this]
  congr 1
  exact Nat.and_two_pow_sub_one_eq_mod a 52
theorem lead_bits (f : Nat) (h : f < 2 ^ 52) : bits .or .u64 4503599627370496 (f : Int) = ((2 ^ 52 + f : Nat) : Int) := by
  have := u64_or_nat 4503599627370496 f (by decide) (by omega)
  rw [show ((4503599627370496 : Nat) : Int) = 4503599627370496 from rfl] at this
  rw [this]
  congr 1
  exact nat_join 52 4503599627370496 f (by decide) h
theorem open_any (a : Nat) (ha : a < 2 ^ 64) (w : World) : Calls Tryz.prog 73 #[.int .u64 (a : Int)] w fun e w' => e = .returned (.tuple #[.int .u64 (Nm.mag a : Nat), .int .i64 (Nm.plc a)]) ∧ w' = w := by
  have h1 := exp_bits a ha
  have h2 := frac_bits a ha
  have hE : a / 2 ^ 52 % 2048 < 2048 := Nat.mod_lt _ (by decide)
  have hf : a % 2 ^ 52 < 2 ^ 52 := Nat.mod_lt _ (by decide)
  have h3 := lead_bits (a % 2 ^ 52) hf
  unfold Nm.mag Nm.plc
  obtain ⟨E, he⟩ : ∃ E, a / 2 ^ 52 % 2048 = E := ⟨_, rfl⟩
  obtain ⟨F, hF⟩ : ∃ F, a % 2 ^ 52 = F := ⟨_, rfl⟩
  obtain ⟨G, hG⟩ : ∃ G, 2 ^ 52 + F = G := ⟨_, rfl⟩
  rw [he] at h1 hE ⊢
  rw [hF] at h2 h3 hf ⊢
  rw [hG] at h3 ⊢
  clear he hF hG ha hf
  by_cases h0 : E = 0
  · subst h0
    rw [if_pos rfl, if_pos rfl]
    go_enter Tryz.func73, Tryz.ntmps73
    go_wp2
    go_ret2
    exact ⟨rfl, rfl⟩
  · rw [if_neg h0, if_neg h0]
    have d0 : ((E : Int) == 0) = false := by simpa using h0
    go_enter Tryz.func73, Tryz.ntmps73
    go_wp2
    go_ret2
    exact ⟨rfl, rfl⟩
theorem plc_le (x : Nat) : Nm.plc x ≤ 972 := by
  unfold Nm.plc
  split
  · decide
  · have := Nat.mod_lt (x / 2 ^ 52) (show 0 < 2048 by decide)
    omega
theorem len_mag (x : Nat) : (Nm.wds (Nm.mag x)).length ≤ 2 := Nm.wds_len2 (Nat.lt_trans (Nm.mag_lt x) (by decide))
/-- a product's length -/
theorem len_mul {x y a b : Nat} (hx : (Nm.wds x).length ≤ a) (hy : (Nm.wds y).length ≤ b) : (Nm.wds (x * y)).length ≤ a + b := by
  refine Nm.wds_len ?_
  have h1 := Nat.lt_of_lt_of_le (Nm.lt_wds x) (Nat.pow_le_pow_right Nm.B_pos hx)
  have h2 := Nat.lt_of_lt_of_le (Nm.lt_wds y) (Nat.pow_le_pow_right Nm.B_pos hy)
  rw [Nat.pow_add]
  exact Nat.mul_lt_mul'' h1 h2
end Go.Proofs.YtffohkpohgkglaaGreat
