/-
  DcA, DcB, DcC, DcD, put together (a claim holds at most 60 files).
-/
import Derived.Test.YthhlhiighgnkmaaGreatDoorBgY
import Derived.Test.YthhlhiighgnkmaaGreatDoorTnA
import Derived.Test.YthhlhiighgnkmaaGreatDoorTwA
import Derived.Test.YthhlhiighgnkmaaGreatDoorMaX
/-! ## WALKS of the document's own: powers of ten, the places of a number, its first digits. -/
namespace Go.Proofs.YthhlhiighgnkmaaGreatDoor
set_option linter.unusedVariables false
set_option linter.unusedSimpArgs false
set_option exponentiation.threshold 5000
open Go.RowKit
theorem ten_lt (k : Nat) : 10 ^ k ≤ 2 ^ (4 * k) := by
  rw [Nat.pow_mul]; exact Nat.pow_le_pow_left (by decide) k
theorem ten_wds' (k c : Nat) (hk : 4 * k < 32 * c) : (Nm.wds (10 ^ k)).length ≤ c := by
  apply Nm.wds_len2
  exact Nat.lt_of_le_of_lt (ten_lt k) (Nat.pow_lt_pow_right (by decide) hk)
theorem ten_wds (k : Nat) (hk : k ≤ 5000) : (Nm.wds (10 ^ k)).length ≤ 1000 := ten_wds' k 1000 (by omega)
theorem small_wds {n : Nat} (k : Nat) (hn : n < 2 ^ (32 * k)) : (Nm.wds n).length ≤ k := Nm.wds_len2 hn
theorem prod_wds {a b i j : Nat} (ha : a < 2 ^ i) (hb : b ≤ 2 ^ j) (k : Nat) (hk : i + j ≤ 32 * k) : (Nm.wds (a * b)).length ≤ k := by
  apply Nm.wds_len2
  calc a * b ≤ a * 2 ^ j := Nat.mul_le_mul_left _ hb
    _ < 2 ^ i * 2 ^ j := Nat.mul_lt_mul_of_pos_right ha (Nat.two_pow_pos _)
    _ = 2 ^ (i + j) := (Nat.pow_add _ _ _).symm
    _ ≤ 2 ^ (32 * k) := Nat.pow_le_pow_right (by decide) hk
set_option maxRecDepth 100000 in
theorem tens_any (k : Nat) (hk : k ≤ 5000) (w : World) : Calls Tryz.prog 126 #[.int .i64 (k : Int)] w (Bg.BigPost w (10 ^ k)) := by
  have C1 := Lib.hid (fun w => Bg.from_any 1 (by decide) w)
  have C10 := Lib.hid (fun w => Bg.from_any 10 (by decide) w)
  have CT := Lib.hid (fun (v1 v2 : Value) (i : Nat) (w : World) (hi : i ≤ 5000) H1 H2 => Bg.times_any v1 v2 (10 ^ i) 10 w H1 H2 (by have := ten_wds i hi; omega) (by have := wds_two (n := 10) (by decide); omega))
  go_enter Tryz.func126, Tryz.ntmps126
  go_wp2_with fail
  refine (C1.out _).mono ?_
  rintro e w1 ⟨v1, rfl, hb1, hb⟩
  have G1 := Lib.hid (show Bg.Big w1 v1 (10 ^ 0) from hb1)
  have B1 := Lib.hid hb
  clear hb1 hb
  go_wp2_with fail
  go_loopw [3, 4] (fun o i wr => ∃ j : Nat, i = .int .i64 (j : Int) ∧ j ≤ k ∧ Hid (Bg.Big wr o (10 ^ j)) ∧ Hid (Below w.heap.size w wr)) (fun _ i _ => k - (intOf i).toNat)
  case atStart => exact ⟨0, rfl, Nat.zero_le _, G1, B1⟩
  case round =>
    obtain ⟨j, rfl, hj, HB, HBL⟩ := hrel
    by_cases hjk : j = k
    · subst hjk
      have d1 : decide ((j : Int) < (j : Int)) = false := decide_eq_false (by omega)
      have d2 : decide (j < j) = false := decide_eq_false (by omega)
      go_wp2
      go_ret
      exact ⟨_, rfl, HB.out, HBL.out⟩
    · have d1 : decide ((j : Int) < (k : Int)) = true := decide_eq_true (by omega)
      have d2 : decide (j < k) = true := decide_eq_true (by omega)
      have e1 : IntKind.i64.wrap ((j : Int) + 1) = ((j + 1 : Nat) : Int) := by rw [IntKind.wrap_i64]; omega
      have HJ := Lib.hid (show j ≤ 5000 by omega)
      go_wp2_with fail
      refine (C10.out _).mono ?_
      rintro e w2 ⟨v2, rfl, hbig, hb⟩
      have G2 := Lib.hid hbig
      have G3 := Lib.hid (HB.out.below hb)
      have B2 := Lib.hid (HBL.out.trans (hb.mono HBL.out.size))
      clear hbig hb
      go_wp2_with fail
      refine (CT.out _ _ j _ HJ.out G3.out G2.out).mono ?_
      rintro e w3 ⟨v3, rfl, hbig, hb⟩
      have G4 := Lib.hid (show Bg.Big w3 v3 (10 ^ (j + 1)) by rw [Nat.pow_succ]; exact hbig)
      have B3 := Lib.hid (B2.out.trans (hb.mono B2.out.size))
      clear hbig hb
      go_wp2
      go_roundw
      case rel => exact ⟨j + 1, rfl, by omega, G4, B3⟩
      case measure => simp only [intOf]; omega
theorem cmp_lt (x y : Nat) : decide (Nm.cmpN x y < 0) = decide (x < y) := by
  rw [decide_eq_decide]; unfold Nm.cmpN; split
  · omega
  · split <;> omega
set_option maxRecDepth 100000 in
set_option maxHeartbeats 1000000 in
theorem under_any (M : Nat) (hM : M < 2 ^ 53) (e k : Int) (he1 : -1100 ≤ e) (he2 : e ≤ 1100) (hk1 : -1000 ≤ k) (hk2 : k ≤ 1000) (w : World) :
    Calls Tryz.prog 125 #[.int .u64 (M : Int), .int .i64 e, .int .i64 k] w (Gives w (.bool (decide (M * 2 ^ e.toNat * 10 ^ (-k).toNat < 2 ^ (-e).toNat * 10 ^ k.toNat)))) := by
  have C1 := Lib.hid (fun w => Bg.from_any 1 (by decide) w)
  have CM := Lib.hid (fun w => Bg.from_any M (by omega) w)
  have CU := Lib.hid (fun (v : Value) (M x : Nat) (w : World) (hM : M < 2 ^ 53) (hx : x ≤ 1100) H => Bg.up_any v M x w H (by have := small_wds 2 (Nat.lt_trans hM (by decide)); omega) (by omega))
  have CU1 := Lib.hid (fun (v : Value) (x : Nat) (w : World) (hx : x ≤ 1100) H => Bg.up_any v 1 x w H (by have := wds_two (n := 1) (by decide); omega) (by omega))
  have CT := Lib.hid (fun (x : Nat) (hx : x ≤ 1000) (w : World) => tens_any x (by omega) w)
  have HMx := Lib.hid hM
  by_cases hep : 0 < e
  · by_cases hkp : 0 < k
    ·
      obtain ⟨eu, he⟩ : ∃ n : Nat, e = (n : Int) := ⟨e.toNat, by omega⟩
      have d1 : decide ((0 : Int) < e) = true := decide_eq_true (by omega)
      have d1b : decide (0 < eu) = true := decide_eq_true (by omega)
      obtain ⟨ku, hk⟩ : ∃ n : Nat, k = (n : Int) := ⟨k.toNat, by omega⟩
      have d2 : decide ((0 : Int) < k) = true := decide_eq_true (by omega)
      have d2b : decide (0 < ku) = true := decide_eq_true (by omega)
      have HA := Lib.hid (show M * 2 ^ eu = M * 2 ^ e.toNat * 10 ^ (-k).toNat by
        rw [show (e).toNat = eu by omega]
        rw [show (-k).toNat = 0 by omega, Nat.pow_zero, Nat.mul_one])
      have HBb := Lib.hid (show (1 * 10 ^ ku) = 2 ^ (-e).toNat * 10 ^ k.toNat by
        rw [show (-e).toNat = 0 by omega, Nat.pow_zero]
        rw [show k.toNat = ku by omega])
      obtain ⟨bb, hbb⟩ : ∃ b, decide (M * 2 ^ e.toNat * 10 ^ (-k).toNat < 2 ^ (-e).toNat * 10 ^ k.toNat) = b := ⟨_, rfl⟩
      have HBV := hbb
      rw [← HA.out, ← HBb.out] at HBV
      rw [hbb]
      have HBV := Lib.hid HBV
      clear hbb HA HBb
      have HE := Lib.hid (show eu ≤ 1100 by omega)
      have HK := Lib.hid (show ku ≤ 1000 by omega)
      subst he
      subst hk
      clear he1 he2 hk1 hk2 hM hep hkp
      go_enter Tryz.func125, Tryz.ntmps125
      have HB0 := Lib.hid (Below.refl w.heap.size w)
      go_wp2_with fail
      refine (CM.out _).mono ?_
      rintro e w1 ⟨v1, rfl, hbig, hb⟩
      have HB1 := Lib.hid (HB0.out.trans (hb.mono HB0.out.size))
      have GA := Lib.hid hbig
      clear hbig hb
      go_wp2_with fail
      refine (C1.out _).mono ?_
      rintro e w2 ⟨v2, rfl, hbig, hb⟩
      have GA := Lib.hid (GA.out.below hb)
      have HB2 := Lib.hid (HB1.out.trans (hb.mono HB1.out.size))
      have GB := Lib.hid hbig
      clear hbig hb
      go_wp2_with fail
      refine (CU.out _ M eu _ HMx.out HE.out GA.out).mono ?_
      rintro e w3 ⟨v3, rfl, hbig, hb⟩
      have GA := Lib.hid (GA.out.below hb)
      have GB := Lib.hid (GB.out.below hb)
      have HB3 := Lib.hid (HB2.out.trans (hb.mono HB2.out.size))
      have GA2 := Lib.hid hbig
      clear hbig hb
      go_wp2_with fail
      refine (CT.out ku HK.out _).mono ?_
      rintro e w4 ⟨v4, rfl, hbig, hb⟩
      have GA := Lib.hid (GA.out.below hb)
      have GB := Lib.hid (GB.out.below hb)
      have GA2 := Lib.hid (GA2.out.below hb)
      have HB4 := Lib.hid (HB3.out.trans (hb.mono HB3.out.size))
      have GT := Lib.hid hbig
      clear hbig hb
      go_wp2_with fail
      refine (Bg.times_any _ _ _ _ _ GB.out GT.out (by have := wds_two (n := 1) (by decide); omega) (by have := ten_wds ku (by have := HK.out; omega); omega)).mono ?_
      rintro e w5 ⟨v5, rfl, hbig, hb⟩
      have GA := Lib.hid (GA.out.below hb)
      have GB := Lib.hid (GB.out.below hb)
      have GA2 := Lib.hid (GA2.out.below hb)
      have GT := Lib.hid (GT.out.below hb)
      have HB5 := Lib.hid (HB4.out.trans (hb.mono HB4.out.size))
      have GC := Lib.hid hbig
      clear hbig hb
      obtain ⟨N, hN⟩ : ∃ x, M * 2 ^ eu = x := ⟨_, rfl⟩
      obtain ⟨D, hD⟩ : ∃ x, (1 * 10 ^ ku) = x := ⟨_, rfl⟩
      rw [hN] at HBV GA2
      rw [hD] at HBV GC
      clear hN hD
      go_wp2_with fail
      refine (Bg.less_any _ _ _ _ _ GA2.out GC.out).mono ?_
      rintro e w6 ⟨rfl, hb⟩
      have GA := Lib.hid (GA.out.below hb)
      have GB := Lib.hid (GB.out.below hb)
      have GA2 := Lib.hid (GA2.out.below hb)
      have GT := Lib.hid (GT.out.below hb)
      have GC := Lib.hid (GC.out.below hb)
      have HB6 := Lib.hid (HB5.out.trans (hb.mono HB5.out.size))
      clear hb
      go_wp2
      go_ret
      rw [cmp_lt, HBV.out]
      exact ⟨rfl, HB6.out⟩
    ·
      obtain ⟨eu, he⟩ : ∃ n : Nat, e = (n : Int) := ⟨e.toNat, by omega⟩
      have d1 : decide ((0 : Int) < e) = true := decide_eq_true (by omega)
      have d1b : decide (0 < eu) = true := decide_eq_true (by omega)
      obtain ⟨kd, hk⟩ : ∃ n : Nat, -k = (n : Int) := ⟨(-k).toNat, by omega⟩
      have d2 : decide ((0 : Int) < k) = false := decide_eq_false (by omega)
      have x2 : IntKind.i64.wrap (-k) = (kd : Int) := by rw [IntKind.wrap_i64]; omega
      have HA := Lib.hid (show (M * 2 ^ eu * 10 ^ kd) = M * 2 ^ e.toNat * 10 ^ (-k).toNat by
        rw [show (e).toNat = eu by omega]
        rw [show (-k).toNat = kd by omega])
      have HBb := Lib.hid (show 1 = 2 ^ (-e).toNat * 10 ^ k.toNat by
        rw [show (-e).toNat = 0 by omega, Nat.pow_zero]
        rw [show k.toNat = 0 by omega, Nat.pow_zero, Nat.mul_one])
      obtain ⟨bb, hbb⟩ : ∃ b, decide (M * 2 ^ e.toNat * 10 ^ (-k).toNat < 2 ^ (-e).toNat * 10 ^ k.toNat) = b := ⟨_, rfl⟩
      have HBV := hbb
      rw [← HA.out, ← HBb.out] at HBV
      rw [hbb]
      have HBV := Lib.hid HBV
      clear hbb HA HBb
      have HE := Lib.hid (show eu ≤ 1100 by omega)
      have HK := Lib.hid (show kd ≤ 1000 by omega)
      subst he
      clear he1 he2 hk1 hk2 hM hk hep hkp
      go_enter Tryz.func125, Tryz.ntmps125
      have HB0 := Lib.hid (Below.refl w.heap.size w)
      go_wp2_with fail
      refine (CM.out _).mono ?_
      rintro e w1 ⟨v1, rfl, hbig, hb⟩
      have HB1 := Lib.hid (HB0.out.trans (hb.mono HB0.out.size))
      have GA := Lib.hid hbig
      clear hbig hb
      go_wp2_with fail
      refine (C1.out _).mono ?_
      rintro e w2 ⟨v2, rfl, hbig, hb⟩
      have GA := Lib.hid (GA.out.below hb)
      have HB2 := Lib.hid (HB1.out.trans (hb.mono HB1.out.size))
      have GB := Lib.hid hbig
      clear hbig hb
      go_wp2_with fail
      refine (CU.out _ M eu _ HMx.out HE.out GA.out).mono ?_
      rintro e w3 ⟨v3, rfl, hbig, hb⟩
      have GA := Lib.hid (GA.out.below hb)
      have GB := Lib.hid (GB.out.below hb)
      have HB3 := Lib.hid (HB2.out.trans (hb.mono HB2.out.size))
      have GA2 := Lib.hid hbig
      clear hbig hb
      go_wp2_with fail
      refine (CT.out kd HK.out _).mono ?_
      rintro e w4 ⟨v4, rfl, hbig, hb⟩
      have GA := Lib.hid (GA.out.below hb)
      have GB := Lib.hid (GB.out.below hb)
      have GA2 := Lib.hid (GA2.out.below hb)
      have HB4 := Lib.hid (HB3.out.trans (hb.mono HB3.out.size))
      have GT := Lib.hid hbig
      clear hbig hb
      go_wp2_with fail
      refine (Bg.times_any _ _ _ _ _ GA2.out GT.out (by have := prod_wds (a := M) (b := 2 ^ eu) (i := 53) (j := 1100) HMx.out (Nat.pow_le_pow_right (by decide) HE.out) 37 (by decide); omega) (by have := ten_wds kd (by have := HK.out; omega); omega)).mono ?_
      rintro e w5 ⟨v5, rfl, hbig, hb⟩
      have GA := Lib.hid (GA.out.below hb)
      have GB := Lib.hid (GB.out.below hb)
      have GA2 := Lib.hid (GA2.out.below hb)
      have GT := Lib.hid (GT.out.below hb)
      have HB5 := Lib.hid (HB4.out.trans (hb.mono HB4.out.size))
      have GC := Lib.hid hbig
      clear hbig hb
      obtain ⟨N, hN⟩ : ∃ x, (M * 2 ^ eu * 10 ^ kd) = x := ⟨_, rfl⟩
      obtain ⟨D, hD⟩ : ∃ x, 1 = x := ⟨_, rfl⟩
      rw [hN] at HBV GC
      rw [hD] at HBV GB
      clear hN hD
      go_wp2_with fail
      refine (Bg.less_any _ _ _ _ _ GC.out GB.out).mono ?_
      rintro e w6 ⟨rfl, hb⟩
      have GA := Lib.hid (GA.out.below hb)
      have GB := Lib.hid (GB.out.below hb)
      have GA2 := Lib.hid (GA2.out.below hb)
      have GT := Lib.hid (GT.out.below hb)
      have GC := Lib.hid (GC.out.below hb)
      have HB6 := Lib.hid (HB5.out.trans (hb.mono HB5.out.size))
      clear hb
      go_wp2
      go_ret
      rw [cmp_lt, HBV.out]
      exact ⟨rfl, HB6.out⟩
  · by_cases hkp : 0 < k
    ·
      obtain ⟨ed, he⟩ : ∃ n : Nat, -e = (n : Int) := ⟨(-e).toNat, by omega⟩
      have d1 : decide ((0 : Int) < e) = false := decide_eq_false (by omega)
      have x1 : IntKind.i64.wrap (-e) = (ed : Int) := by rw [IntKind.wrap_i64]; omega
      obtain ⟨ku, hk⟩ : ∃ n : Nat, k = (n : Int) := ⟨k.toNat, by omega⟩
      have d2 : decide ((0 : Int) < k) = true := decide_eq_true (by omega)
      have d2b : decide (0 < ku) = true := decide_eq_true (by omega)
      have HA := Lib.hid (show M = M * 2 ^ e.toNat * 10 ^ (-k).toNat by
        rw [show (e).toNat = 0 by omega, Nat.pow_zero, Nat.mul_one]
        rw [show (-k).toNat = 0 by omega, Nat.pow_zero, Nat.mul_one])
      have HBb := Lib.hid (show ((1 * 2 ^ ed) * 10 ^ ku) = 2 ^ (-e).toNat * 10 ^ k.toNat by
        rw [show (-e).toNat = ed by omega, Nat.one_mul]
        rw [show k.toNat = ku by omega])
      obtain ⟨bb, hbb⟩ : ∃ b, decide (M * 2 ^ e.toNat * 10 ^ (-k).toNat < 2 ^ (-e).toNat * 10 ^ k.toNat) = b := ⟨_, rfl⟩
      have HBV := hbb
      rw [← HA.out, ← HBb.out] at HBV
      rw [hbb]
      have HBV := Lib.hid HBV
      clear hbb HA HBb
      have HE := Lib.hid (show ed ≤ 1100 by omega)
      have HK := Lib.hid (show ku ≤ 1000 by omega)
      subst hk
      clear he1 he2 hk1 hk2 hM he hep hkp
      go_enter Tryz.func125, Tryz.ntmps125
      have HB0 := Lib.hid (Below.refl w.heap.size w)
      go_wp2_with fail
      refine (CM.out _).mono ?_
      rintro e w1 ⟨v1, rfl, hbig, hb⟩
      have HB1 := Lib.hid (HB0.out.trans (hb.mono HB0.out.size))
      have GA := Lib.hid hbig
      clear hbig hb
      go_wp2_with fail
      refine (C1.out _).mono ?_
      rintro e w2 ⟨v2, rfl, hbig, hb⟩
      have GA := Lib.hid (GA.out.below hb)
      have HB2 := Lib.hid (HB1.out.trans (hb.mono HB1.out.size))
      have GB := Lib.hid hbig
      clear hbig hb
      go_wp2_with fail
      refine (CU1.out _ ed _ HE.out GB.out).mono ?_
      rintro e w3 ⟨v3, rfl, hbig, hb⟩
      have GA := Lib.hid (GA.out.below hb)
      have GB := Lib.hid (GB.out.below hb)
      have HB3 := Lib.hid (HB2.out.trans (hb.mono HB2.out.size))
      have GB2 := Lib.hid hbig
      clear hbig hb
      go_wp2_with fail
      refine (CT.out ku HK.out _).mono ?_
      rintro e w4 ⟨v4, rfl, hbig, hb⟩
      have GA := Lib.hid (GA.out.below hb)
      have GB := Lib.hid (GB.out.below hb)
      have GB2 := Lib.hid (GB2.out.below hb)
      have HB4 := Lib.hid (HB3.out.trans (hb.mono HB3.out.size))
      have GT := Lib.hid hbig
      clear hbig hb
      go_wp2_with fail
      refine (Bg.times_any _ _ _ _ _ GB2.out GT.out (by have := prod_wds (a := 1) (b := 2 ^ ed) (i := 1) (j := 1100) (by decide) (Nat.pow_le_pow_right (by decide) HE.out) 35 (by decide); omega) (by have := ten_wds ku (by have := HK.out; omega); omega)).mono ?_
      rintro e w5 ⟨v5, rfl, hbig, hb⟩
      have GA := Lib.hid (GA.out.below hb)
      have GB := Lib.hid (GB.out.below hb)
      have GB2 := Lib.hid (GB2.out.below hb)
      have GT := Lib.hid (GT.out.below hb)
      have HB5 := Lib.hid (HB4.out.trans (hb.mono HB4.out.size))
      have GC := Lib.hid hbig
      clear hbig hb
      obtain ⟨N, hN⟩ : ∃ x, M = x := ⟨_, rfl⟩
      obtain ⟨D, hD⟩ : ∃ x, ((1 * 2 ^ ed) * 10 ^ ku) = x := ⟨_, rfl⟩
      rw [hN] at HBV GA
      rw [hD] at HBV GC
      clear hN hD
      go_wp2_with fail
      refine (Bg.less_any _ _ _ _ _ GA.out GC.out).mono ?_
      rintro e w6 ⟨rfl, hb⟩
      have GA := Lib.hid (GA.out.below hb)
      have GB := Lib.hid (GB.out.below hb)
      have GB2 := Lib.hid (GB2.out.below hb)
      have GT := Lib.hid (GT.out.below hb)
      have GC := Lib.hid (GC.out.below hb)
      have HB6 := Lib.hid (HB5.out.trans (hb.mono HB5.out.size))
      clear hb
      go_wp2
      go_ret
      rw [cmp_lt, HBV.out]
      exact ⟨rfl, HB6.out⟩
    ·
      obtain ⟨ed, he⟩ : ∃ n : Nat, -e = (n : Int) := ⟨(-e).toNat, by omega⟩
      have d1 : decide ((0 : Int) < e) = false := decide_eq_false (by omega)
      have x1 : IntKind.i64.wrap (-e) = (ed : Int) := by rw [IntKind.wrap_i64]; omega
      obtain ⟨kd, hk⟩ : ∃ n : Nat, -k = (n : Int) := ⟨(-k).toNat, by omega⟩
      have d2 : decide ((0 : Int) < k) = false := decide_eq_false (by omega)
      have x2 : IntKind.i64.wrap (-k) = (kd : Int) := by rw [IntKind.wrap_i64]; omega
      have HA := Lib.hid (show (M * 10 ^ kd) = M * 2 ^ e.toNat * 10 ^ (-k).toNat by
        rw [show (e).toNat = 0 by omega, Nat.pow_zero, Nat.mul_one]
        rw [show (-k).toNat = kd by omega])
      have HBb := Lib.hid (show (1 * 2 ^ ed) = 2 ^ (-e).toNat * 10 ^ k.toNat by
        rw [show (-e).toNat = ed by omega, Nat.one_mul]
        rw [show k.toNat = 0 by omega, Nat.pow_zero, Nat.mul_one])
      obtain ⟨bb, hbb⟩ : ∃ b, decide (M * 2 ^ e.toNat * 10 ^ (-k).toNat < 2 ^ (-e).toNat * 10 ^ k.toNat) = b := ⟨_, rfl⟩
      have HBV := hbb
      rw [← HA.out, ← HBb.out] at HBV
      rw [hbb]
      have HBV := Lib.hid HBV
      clear hbb HA HBb
      have HE := Lib.hid (show ed ≤ 1100 by omega)
      have HK := Lib.hid (show kd ≤ 1000 by omega)
      clear he1 he2 hk1 hk2 hM he hk hep hkp
      go_enter Tryz.func125, Tryz.ntmps125
      have HB0 := Lib.hid (Below.refl w.heap.size w)
      go_wp2_with fail
      refine (CM.out _).mono ?_
      rintro e w1 ⟨v1, rfl, hbig, hb⟩
      have HB1 := Lib.hid (HB0.out.trans (hb.mono HB0.out.size))
      have GA := Lib.hid hbig
      clear hbig hb
      go_wp2_with fail
      refine (C1.out _).mono ?_
      rintro e w2 ⟨v2, rfl, hbig, hb⟩
      have GA := Lib.hid (GA.out.below hb)
      have HB2 := Lib.hid (HB1.out.trans (hb.mono HB1.out.size))
      have GB := Lib.hid hbig
      clear hbig hb
      go_wp2_with fail
      refine (CU1.out _ ed _ HE.out GB.out).mono ?_
      rintro e w3 ⟨v3, rfl, hbig, hb⟩
      have GA := Lib.hid (GA.out.below hb)
      have GB := Lib.hid (GB.out.below hb)
      have HB3 := Lib.hid (HB2.out.trans (hb.mono HB2.out.size))
      have GB2 := Lib.hid hbig
      clear hbig hb
      go_wp2_with fail
      refine (CT.out kd HK.out _).mono ?_
      rintro e w4 ⟨v4, rfl, hbig, hb⟩
      have GA := Lib.hid (GA.out.below hb)
      have GB := Lib.hid (GB.out.below hb)
      have GB2 := Lib.hid (GB2.out.below hb)
      have HB4 := Lib.hid (HB3.out.trans (hb.mono HB3.out.size))
      have GT := Lib.hid hbig
      clear hbig hb
      go_wp2_with fail
      refine (Bg.times_any _ _ _ _ _ GA.out GT.out (by have := small_wds (n := M) 2 (Nat.lt_trans HMx.out (by decide)); omega) (by have := ten_wds kd (by have := HK.out; omega); omega)).mono ?_
      rintro e w5 ⟨v5, rfl, hbig, hb⟩
      have GA := Lib.hid (GA.out.below hb)
      have GB := Lib.hid (GB.out.below hb)
      have GB2 := Lib.hid (GB2.out.below hb)
      have GT := Lib.hid (GT.out.below hb)
      have HB5 := Lib.hid (HB4.out.trans (hb.mono HB4.out.size))
      have GC := Lib.hid hbig
      clear hbig hb
      obtain ⟨N, hN⟩ : ∃ x, (M * 10 ^ kd) = x := ⟨_, rfl⟩
      obtain ⟨D, hD⟩ : ∃ x, (1 * 2 ^ ed) = x := ⟨_, rfl⟩
      rw [hN] at HBV GC
      rw [hD] at HBV GB2
      clear hN hD
      go_wp2_with fail
      refine (Bg.less_any _ _ _ _ _ GC.out GB2.out).mono ?_
      rintro e w6 ⟨rfl, hb⟩
      have GA := Lib.hid (GA.out.below hb)
      have GB := Lib.hid (GB.out.below hb)
      have GB2 := Lib.hid (GB2.out.below hb)
      have GT := Lib.hid (GT.out.below hb)
      have GC := Lib.hid (GC.out.below hb)
      have HB6 := Lib.hid (HB5.out.trans (hb.mono HB5.out.size))
      clear hb
      go_wp2
      go_ret
      rw [cmp_lt, HBV.out]
      exact ⟨rfl, HB6.out⟩
end Go.Proofs.YthhlhiighgnkmaaGreatDoor
/-! ## WALKS of the document's own: the first digits of a number, its places. -/
namespace Go.Proofs.YthhlhiighgnkmaaGreatDoor
set_option linter.unusedVariables false
set_option linter.unusedSimpArgs false
set_option exponentiation.threshold 9000
open Go.RowKit
theorem tdiv_two (z : Int) (h1 : -1100 ≤ z) (h2 : z ≤ 1100) : -400 ≤ Int.tdiv (z * 30103) 100000 ∧ Int.tdiv (z * 30103) 100000 ≤ 400 := by
  by_cases h : 0 ≤ z
  · rw [Int.tdiv_eq_ediv_of_nonneg (by omega)]; omega
  · rw [show z * 30103 = -(-(z * 30103)) by omega, Int.neg_tdiv, Int.tdiv_eq_ediv_of_nonneg (by omega)]; omega
def DigsPost (w : World) (N D : Nat) (e : Ending) (w' : World) : Prop := ∃ v, e = .returned (.tuple #[v, .int .i64 (Nm.cmpN (N % D * 2 ^ 1) D)]) ∧ Bg.Big w' v (N / D) ∧ Below w.heap.size w w'
set_option maxRecDepth 100000 in
set_option maxHeartbeats 1000000 in
theorem digits_any (M : Nat) (hM : M < 2 ^ 53) (e k n : Int) (he1 : -1100 ≤ e) (he2 : e ≤ 1100) (hk1 : -1000 ≤ n - k) (hk2 : n - k ≤ 1000) (w : World) :
    Calls Tryz.prog 75 #[.int .u64 (M : Int), .int .i64 e, .int .i64 k, .int .i64 n] w (DigsPost w (M * 2 ^ e.toNat * 10 ^ (n - k).toNat) (2 ^ (-e).toNat * 10 ^ (k - n).toNat)) := by
  have C1 := Lib.hid (fun w => Bg.from_any 1 (by decide) w)
  have CM := Lib.hid (fun w => Bg.from_any M (by omega) w)
  have CU := Lib.hid (fun (v : Value) (M x : Nat) (w : World) (hM : M < 2 ^ 53) (hx : x ≤ 1100) H => Bg.up_any v M x w H (by have := small_wds 2 (Nat.lt_trans hM (by decide)); omega) (by omega))
  have CU1 := Lib.hid (fun (v : Value) (x : Nat) (w : World) (hx : x ≤ 1100) H => Bg.up_any v 1 x w H (by have := wds_two (n := 1) (by decide); omega) (by omega))
  have CT := Lib.hid (fun (x : Nat) (hx : x ≤ 1000) (w : World) => tens_any x (by omega) w)
  have HMx := Lib.hid hM
  have HNlt := Lib.hid (show M * 2 ^ e.toNat * 10 ^ (n - k).toNat < 2 ^ 8000 by
    have h1 : 2 ^ e.toNat ≤ 2 ^ 1100 := Nat.pow_le_pow_right (by decide) (by omega)
    have h2 : 10 ^ (n - k).toNat ≤ 2 ^ 4000 := Nat.le_trans (ten_lt _) (Nat.pow_le_pow_right (by decide) (by omega))
    calc M * 2 ^ e.toNat * 10 ^ (n - k).toNat ≤ M * 2 ^ 1100 * 2 ^ 4000 := Nat.mul_le_mul (Nat.mul_le_mul_left _ h1) h2
      _ < 2 ^ 53 * 2 ^ 1100 * 2 ^ 4000 := Nat.mul_lt_mul_of_pos_right (Nat.mul_lt_mul_of_pos_right hM (Nat.two_pow_pos _)) (Nat.two_pow_pos _)
      _ ≤ 2 ^ 8000 := by rw [← Nat.pow_add, ← Nat.pow_add]; exact Nat.pow_le_pow_right (by decide) (by decide))
  have HDlt := Lib.hid (show 2 ^ (-e).toNat * 10 ^ (k - n).toNat < 2 ^ 8000 ∧ 0 < 2 ^ (-e).toNat * 10 ^ (k - n).toNat by
    have h1 : 2 ^ (-e).toNat ≤ 2 ^ 1100 := Nat.pow_le_pow_right (by decide) (by omega)
    have h2 : 10 ^ (k - n).toNat ≤ 2 ^ 4000 := Nat.le_trans (ten_lt _) (Nat.pow_le_pow_right (by decide) (by omega))
    refine ⟨?_, Nat.mul_pos (Nat.two_pow_pos _) (Nat.pow_pos (by decide))⟩
    calc 2 ^ (-e).toNat * 10 ^ (k - n).toNat ≤ 2 ^ 1100 * 2 ^ 4000 := Nat.mul_le_mul h1 h2
      _ < 2 ^ 8000 := by rw [← Nat.pow_add]; exact Nat.pow_lt_pow_right (by decide) (by decide))
  by_cases hep : 0 < e
  · by_cases hkp : 0 < n - k
    ·
      obtain ⟨eu, he⟩ : ∃ n : Nat, e = (n : Int) := ⟨e.toNat, by omega⟩
      have d1 : decide ((0 : Int) < e) = true := decide_eq_true (by omega)
      have d1b : decide (0 < eu) = true := decide_eq_true (by omega)
      obtain ⟨ku, hk⟩ : ∃ x : Nat, n - k = (x : Int) := ⟨(n - k).toNat, by omega⟩
      have x3 : IntKind.i64.wrap (n - k) = (ku : Int) := by rw [IntKind.wrap_i64]; omega
      have d2 : decide ((0 : Int) < (ku : Int)) = true := decide_eq_true (by omega)
      have d2b : decide (0 < ku) = true := decide_eq_true (by omega)
      have HA := Lib.hid (show (M * 2 ^ eu * 10 ^ ku) = M * 2 ^ e.toNat * 10 ^ (n - k).toNat by
        rw [show (e).toNat = eu by omega]
        rw [show (n - k).toNat = ku by omega])
      have HBb := Lib.hid (show 1 = 2 ^ (-e).toNat * 10 ^ (k - n).toNat by
        rw [show (-e).toNat = 0 by omega, Nat.pow_zero]
        rw [show (k - n).toNat = 0 by omega, Nat.pow_zero, Nat.mul_one])
      obtain ⟨N, hN⟩ : ∃ x, M * 2 ^ e.toNat * 10 ^ (n - k).toNat = x := ⟨_, rfl⟩
      obtain ⟨D, hD⟩ : ∃ x, 2 ^ (-e).toNat * 10 ^ (k - n).toNat = x := ⟨_, rfl⟩
      rw [hN] at HA HNlt ⊢
      rw [hD] at HBb HDlt ⊢
      clear hN hD
      have HE := Lib.hid (show eu ≤ 1100 by omega)
      have HK := Lib.hid (show ku ≤ 1000 by omega)
      subst he
      clear he1 he2 hk1 hk2 hM hk hep hkp
      go_enter Tryz.func75, Tryz.ntmps75
      have HB0 := Lib.hid (Below.refl w.heap.size w)
      go_wp2_with fail
      refine (CM.out _).mono ?_
      rintro e w1 ⟨v1, rfl, hbig, hb⟩
      have HB1 := Lib.hid (HB0.out.trans (hb.mono HB0.out.size))
      have GA := Lib.hid hbig
      clear hbig hb
      go_wp2_with fail
      refine (C1.out _).mono ?_
      rintro e w2 ⟨v2, rfl, hbig, hb⟩
      have GA := Lib.hid (GA.out.below hb)
      have HB2 := Lib.hid (HB1.out.trans (hb.mono HB1.out.size))
      have GB := Lib.hid hbig
      clear hbig hb
      go_wp2_with fail
      refine (CU.out _ M eu _ HMx.out HE.out GA.out).mono ?_
      rintro e w3 ⟨v3, rfl, hbig, hb⟩
      have GA := Lib.hid (GA.out.below hb)
      have GB := Lib.hid (GB.out.below hb)
      have HB3 := Lib.hid (HB2.out.trans (hb.mono HB2.out.size))
      have GA2 := Lib.hid hbig
      clear hbig hb
      go_wp2_with fail
      refine (CT.out ku HK.out _).mono ?_
      rintro e w4 ⟨v4, rfl, hbig, hb⟩
      have GA := Lib.hid (GA.out.below hb)
      have GB := Lib.hid (GB.out.below hb)
      have GA2 := Lib.hid (GA2.out.below hb)
      have HB4 := Lib.hid (HB3.out.trans (hb.mono HB3.out.size))
      have GT := Lib.hid hbig
      clear hbig hb
      go_wp2_with fail
      refine (Bg.times_any _ _ _ _ _ GA2.out GT.out (by have := prod_wds (a := M) (b := 2 ^ eu) (i := 53) (j := 1100) HMx.out (Nat.pow_le_pow_right (by decide) HE.out) 37 (by decide); omega) (by have := ten_wds ku (by have := HK.out; omega); omega)).mono ?_
      rintro e w5 ⟨v5, rfl, hbig, hb⟩
      have GA := Lib.hid (GA.out.below hb)
      have GB := Lib.hid (GB.out.below hb)
      have GA2 := Lib.hid (GA2.out.below hb)
      have GT := Lib.hid (GT.out.below hb)
      have HB5 := Lib.hid (HB4.out.trans (hb.mono HB4.out.size))
      have GC := Lib.hid hbig
      clear hbig hb
      have GN : Hid (Bg.Big w5 v5 N) := Lib.hid (by rw [← HA.out]; exact GC.out)
      have GD : Hid (Bg.Big w5 v2 D) := Lib.hid (by rw [← HBb.out]; exact GB.out)
      clear HA HBb
      go_wp2_with fail
      refine (Bg.parts_any _ _ N D _ GN.out GD.out (by have := small_wds 250 HNlt.out; omega) (by have := small_wds 250 HDlt.out.1; omega) HDlt.out.2).mono ?_
      rintro e w6 ⟨vq, vr, rfl, hq, hr, hb⟩
      have GD := Lib.hid (GD.out.below hb)
      have HB6 := Lib.hid (HB5.out.trans (hb.mono HB5.out.size))
      have GQ := Lib.hid hq
      have GR := Lib.hid hr
      clear hq hr hb
      have HRl := Lib.hid (show (Nm.wds (N % D)).length ≤ 400000 by have := small_wds 250 (Nat.lt_trans (Nat.mod_lt N HDlt.out.2) HDlt.out.1); omega)
      go_wp2_with fail
      refine (Bg.up_any _ (N % D) 1 _ GR.out HRl.out (by decide)).mono ?_
      rintro e w7 ⟨v7, rfl, hbig, hb⟩
      have GD := Lib.hid (GD.out.below hb)
      have GQ := Lib.hid (GQ.out.below hb)
      have GR := Lib.hid (GR.out.below hb)
      have HB7 := Lib.hid (HB6.out.trans (hb.mono HB6.out.size))
      have GU := Lib.hid hbig
      clear hbig hb
      go_wp2_with fail
      refine (Bg.less_any _ _ _ _ _ GU.out GD.out).mono ?_
      rintro e w8 ⟨rfl, hb⟩
      have GD := Lib.hid (GD.out.below hb)
      have GQ := Lib.hid (GQ.out.below hb)
      have GR := Lib.hid (GR.out.below hb)
      have GU := Lib.hid (GU.out.below hb)
      have HB8 := Lib.hid (HB7.out.trans (hb.mono HB7.out.size))
      clear hb
      go_wp2
      go_ret2
      exact ⟨_, rfl, GQ.out, HB8.out⟩
    ·
      obtain ⟨eu, he⟩ : ∃ n : Nat, e = (n : Int) := ⟨e.toNat, by omega⟩
      have d1 : decide ((0 : Int) < e) = true := decide_eq_true (by omega)
      have d1b : decide (0 < eu) = true := decide_eq_true (by omega)
      obtain ⟨kd, hk⟩ : ∃ x : Nat, k - n = (x : Int) := ⟨(k - n).toNat, by omega⟩
      obtain ⟨K, hK⟩ : ∃ K : Int, n - k = K := ⟨_, rfl⟩
      have x3 : IntKind.i64.wrap (n - k) = K := by rw [IntKind.wrap_i64]; omega
      have d2 : decide ((0 : Int) < K) = false := decide_eq_false (by omega)
      have x2 : IntKind.i64.wrap (k - n) = (kd : Int) := by rw [IntKind.wrap_i64]; omega
      have HA := Lib.hid (show M * 2 ^ eu = M * 2 ^ e.toNat * 10 ^ (n - k).toNat by
        rw [show (e).toNat = eu by omega]
        rw [show (n - k).toNat = 0 by omega, Nat.pow_zero, Nat.mul_one])
      have HBb := Lib.hid (show (1 * 10 ^ kd) = 2 ^ (-e).toNat * 10 ^ (k - n).toNat by
        rw [show (-e).toNat = 0 by omega, Nat.pow_zero]
        rw [show (k - n).toNat = kd by omega])
      obtain ⟨N, hN⟩ : ∃ x, M * 2 ^ e.toNat * 10 ^ (n - k).toNat = x := ⟨_, rfl⟩
      obtain ⟨D, hD⟩ : ∃ x, 2 ^ (-e).toNat * 10 ^ (k - n).toNat = x := ⟨_, rfl⟩
      rw [hN] at HA HNlt ⊢
      rw [hD] at HBb HDlt ⊢
      clear hN hD
      have HE := Lib.hid (show eu ≤ 1100 by omega)
      have HK := Lib.hid (show kd ≤ 1000 by omega)
      subst he
      clear he1 he2 hk1 hk2 hM hk hK hep hkp
      go_enter Tryz.func75, Tryz.ntmps75
      have HB0 := Lib.hid (Below.refl w.heap.size w)
      go_wp2_with fail
      refine (CM.out _).mono ?_
      rintro e w1 ⟨v1, rfl, hbig, hb⟩
      have HB1 := Lib.hid (HB0.out.trans (hb.mono HB0.out.size))
      have GA := Lib.hid hbig
      clear hbig hb
      go_wp2_with fail
      refine (C1.out _).mono ?_
      rintro e w2 ⟨v2, rfl, hbig, hb⟩
      have GA := Lib.hid (GA.out.below hb)
      have HB2 := Lib.hid (HB1.out.trans (hb.mono HB1.out.size))
      have GB := Lib.hid hbig
      clear hbig hb
      go_wp2_with fail
      refine (CU.out _ M eu _ HMx.out HE.out GA.out).mono ?_
      rintro e w3 ⟨v3, rfl, hbig, hb⟩
      have GA := Lib.hid (GA.out.below hb)
      have GB := Lib.hid (GB.out.below hb)
      have HB3 := Lib.hid (HB2.out.trans (hb.mono HB2.out.size))
      have GA2 := Lib.hid hbig
      clear hbig hb
      go_wp2_with fail
      refine (CT.out kd HK.out _).mono ?_
      rintro e w4 ⟨v4, rfl, hbig, hb⟩
      have GA := Lib.hid (GA.out.below hb)
      have GB := Lib.hid (GB.out.below hb)
      have GA2 := Lib.hid (GA2.out.below hb)
      have HB4 := Lib.hid (HB3.out.trans (hb.mono HB3.out.size))
      have GT := Lib.hid hbig
      clear hbig hb
      go_wp2_with fail
      refine (Bg.times_any _ _ _ _ _ GB.out GT.out (by have := wds_two (n := 1) (by decide); omega) (by have := ten_wds kd (by have := HK.out; omega); omega)).mono ?_
      rintro e w5 ⟨v5, rfl, hbig, hb⟩
      have GA := Lib.hid (GA.out.below hb)
      have GB := Lib.hid (GB.out.below hb)
      have GA2 := Lib.hid (GA2.out.below hb)
      have GT := Lib.hid (GT.out.below hb)
      have HB5 := Lib.hid (HB4.out.trans (hb.mono HB4.out.size))
      have GC := Lib.hid hbig
      clear hbig hb
      have GN : Hid (Bg.Big w5 v3 N) := Lib.hid (by rw [← HA.out]; exact GA2.out)
      have GD : Hid (Bg.Big w5 v5 D) := Lib.hid (by rw [← HBb.out]; exact GC.out)
      clear HA HBb
      go_wp2_with fail
      refine (Bg.parts_any _ _ N D _ GN.out GD.out (by have := small_wds 250 HNlt.out; omega) (by have := small_wds 250 HDlt.out.1; omega) HDlt.out.2).mono ?_
      rintro e w6 ⟨vq, vr, rfl, hq, hr, hb⟩
      have GD := Lib.hid (GD.out.below hb)
      have HB6 := Lib.hid (HB5.out.trans (hb.mono HB5.out.size))
      have GQ := Lib.hid hq
      have GR := Lib.hid hr
      clear hq hr hb
      have HRl := Lib.hid (show (Nm.wds (N % D)).length ≤ 400000 by have := small_wds 250 (Nat.lt_trans (Nat.mod_lt N HDlt.out.2) HDlt.out.1); omega)
      go_wp2_with fail
      refine (Bg.up_any _ (N % D) 1 _ GR.out HRl.out (by decide)).mono ?_
      rintro e w7 ⟨v7, rfl, hbig, hb⟩
      have GD := Lib.hid (GD.out.below hb)
      have GQ := Lib.hid (GQ.out.below hb)
      have GR := Lib.hid (GR.out.below hb)
      have HB7 := Lib.hid (HB6.out.trans (hb.mono HB6.out.size))
      have GU := Lib.hid hbig
      clear hbig hb
      go_wp2_with fail
      refine (Bg.less_any _ _ _ _ _ GU.out GD.out).mono ?_
      rintro e w8 ⟨rfl, hb⟩
      have GD := Lib.hid (GD.out.below hb)
      have GQ := Lib.hid (GQ.out.below hb)
      have GR := Lib.hid (GR.out.below hb)
      have GU := Lib.hid (GU.out.below hb)
      have HB8 := Lib.hid (HB7.out.trans (hb.mono HB7.out.size))
      clear hb
      go_wp2
      go_ret2
      exact ⟨_, rfl, GQ.out, HB8.out⟩
  · by_cases hkp : 0 < n - k
    ·
      obtain ⟨ed, he⟩ : ∃ n : Nat, -e = (n : Int) := ⟨(-e).toNat, by omega⟩
      have d1 : decide ((0 : Int) < e) = false := decide_eq_false (by omega)
      have x1 : IntKind.i64.wrap (-e) = (ed : Int) := by rw [IntKind.wrap_i64]; omega
      obtain ⟨ku, hk⟩ : ∃ x : Nat, n - k = (x : Int) := ⟨(n - k).toNat, by omega⟩
      have x3 : IntKind.i64.wrap (n - k) = (ku : Int) := by rw [IntKind.wrap_i64]; omega
      have d2 : decide ((0 : Int) < (ku : Int)) = true := decide_eq_true (by omega)
      have d2b : decide (0 < ku) = true := decide_eq_true (by omega)
      have HA := Lib.hid (show (M * 10 ^ ku) = M * 2 ^ e.toNat * 10 ^ (n - k).toNat by
        rw [show (e).toNat = 0 by omega, Nat.pow_zero, Nat.mul_one]
        rw [show (n - k).toNat = ku by omega])
      have HBb := Lib.hid (show (1 * 2 ^ ed) = 2 ^ (-e).toNat * 10 ^ (k - n).toNat by
        rw [show (-e).toNat = ed by omega, Nat.one_mul]
        rw [show (k - n).toNat = 0 by omega, Nat.pow_zero, Nat.mul_one])
      obtain ⟨N, hN⟩ : ∃ x, M * 2 ^ e.toNat * 10 ^ (n - k).toNat = x := ⟨_, rfl⟩
      obtain ⟨D, hD⟩ : ∃ x, 2 ^ (-e).toNat * 10 ^ (k - n).toNat = x := ⟨_, rfl⟩
      rw [hN] at HA HNlt ⊢
      rw [hD] at HBb HDlt ⊢
      clear hN hD
      have HE := Lib.hid (show ed ≤ 1100 by omega)
      have HK := Lib.hid (show ku ≤ 1000 by omega)
      clear he1 he2 hk1 hk2 hM he hk hep hkp
      go_enter Tryz.func75, Tryz.ntmps75
      have HB0 := Lib.hid (Below.refl w.heap.size w)
      go_wp2_with fail
      refine (CM.out _).mono ?_
      rintro e w1 ⟨v1, rfl, hbig, hb⟩
      have HB1 := Lib.hid (HB0.out.trans (hb.mono HB0.out.size))
      have GA := Lib.hid hbig
      clear hbig hb
      go_wp2_with fail
      refine (C1.out _).mono ?_
      rintro e w2 ⟨v2, rfl, hbig, hb⟩
      have GA := Lib.hid (GA.out.below hb)
      have HB2 := Lib.hid (HB1.out.trans (hb.mono HB1.out.size))
      have GB := Lib.hid hbig
      clear hbig hb
      go_wp2_with fail
      refine (CU1.out _ ed _ HE.out GB.out).mono ?_
      rintro e w3 ⟨v3, rfl, hbig, hb⟩
      have GA := Lib.hid (GA.out.below hb)
      have GB := Lib.hid (GB.out.below hb)
      have HB3 := Lib.hid (HB2.out.trans (hb.mono HB2.out.size))
      have GB2 := Lib.hid hbig
      clear hbig hb
      go_wp2_with fail
      refine (CT.out ku HK.out _).mono ?_
      rintro e w4 ⟨v4, rfl, hbig, hb⟩
      have GA := Lib.hid (GA.out.below hb)
      have GB := Lib.hid (GB.out.below hb)
      have GB2 := Lib.hid (GB2.out.below hb)
      have HB4 := Lib.hid (HB3.out.trans (hb.mono HB3.out.size))
      have GT := Lib.hid hbig
      clear hbig hb
      go_wp2_with fail
      refine (Bg.times_any _ _ _ _ _ GA.out GT.out (by have := small_wds (n := M) 2 (Nat.lt_trans HMx.out (by decide)); omega) (by have := ten_wds ku (by have := HK.out; omega); omega)).mono ?_
      rintro e w5 ⟨v5, rfl, hbig, hb⟩
      have GA := Lib.hid (GA.out.below hb)
      have GB := Lib.hid (GB.out.below hb)
      have GB2 := Lib.hid (GB2.out.below hb)
      have GT := Lib.hid (GT.out.below hb)
      have HB5 := Lib.hid (HB4.out.trans (hb.mono HB4.out.size))
      have GC := Lib.hid hbig
      clear hbig hb
      have GN : Hid (Bg.Big w5 v5 N) := Lib.hid (by rw [← HA.out]; exact GC.out)
      have GD : Hid (Bg.Big w5 v3 D) := Lib.hid (by rw [← HBb.out]; exact GB2.out)
      clear HA HBb
      go_wp2_with fail
      refine (Bg.parts_any _ _ N D _ GN.out GD.out (by have := small_wds 250 HNlt.out; omega) (by have := small_wds 250 HDlt.out.1; omega) HDlt.out.2).mono ?_
      rintro e w6 ⟨vq, vr, rfl, hq, hr, hb⟩
      have GD := Lib.hid (GD.out.below hb)
      have HB6 := Lib.hid (HB5.out.trans (hb.mono HB5.out.size))
      have GQ := Lib.hid hq
      have GR := Lib.hid hr
      clear hq hr hb
      have HRl := Lib.hid (show (Nm.wds (N % D)).length ≤ 400000 by have := small_wds 250 (Nat.lt_trans (Nat.mod_lt N HDlt.out.2) HDlt.out.1); omega)
      go_wp2_with fail
      refine (Bg.up_any _ (N % D) 1 _ GR.out HRl.out (by decide)).mono ?_
      rintro e w7 ⟨v7, rfl, hbig, hb⟩
      have GD := Lib.hid (GD.out.below hb)
      have GQ := Lib.hid (GQ.out.below hb)
      have GR := Lib.hid (GR.out.below hb)
      have HB7 := Lib.hid (HB6.out.trans (hb.mono HB6.out.size))
      have GU := Lib.hid hbig
      clear hbig hb
      go_wp2_with fail
      refine (Bg.less_any _ _ _ _ _ GU.out GD.out).mono ?_
      rintro e w8 ⟨rfl, hb⟩
      have GD := Lib.hid (GD.out.below hb)
      have GQ := Lib.hid (GQ.out.below hb)
      have GR := Lib.hid (GR.out.below hb)
      have GU := Lib.hid (GU.out.below hb)
      have HB8 := Lib.hid (HB7.out.trans (hb.mono HB7.out.size))
      clear hb
      go_wp2
      go_ret2
      exact ⟨_, rfl, GQ.out, HB8.out⟩
    ·
      obtain ⟨ed, he⟩ : ∃ n : Nat, -e = (n : Int) := ⟨(-e).toNat, by omega⟩
      have d1 : decide ((0 : Int) < e) = false := decide_eq_false (by omega)
      have x1 : IntKind.i64.wrap (-e) = (ed : Int) := by rw [IntKind.wrap_i64]; omega
      obtain ⟨kd, hk⟩ : ∃ x : Nat, k - n = (x : Int) := ⟨(k - n).toNat, by omega⟩
      obtain ⟨K, hK⟩ : ∃ K : Int, n - k = K := ⟨_, rfl⟩
      have x3 : IntKind.i64.wrap (n - k) = K := by rw [IntKind.wrap_i64]; omega
      have d2 : decide ((0 : Int) < K) = false := decide_eq_false (by omega)
      have x2 : IntKind.i64.wrap (k - n) = (kd : Int) := by rw [IntKind.wrap_i64]; omega
      have HA := Lib.hid (show M = M * 2 ^ e.toNat * 10 ^ (n - k).toNat by
        rw [show (e).toNat = 0 by omega, Nat.pow_zero, Nat.mul_one]
        rw [show (n - k).toNat = 0 by omega, Nat.pow_zero, Nat.mul_one])
      have HBb := Lib.hid (show ((1 * 2 ^ ed) * 10 ^ kd) = 2 ^ (-e).toNat * 10 ^ (k - n).toNat by
        rw [show (-e).toNat = ed by omega, Nat.one_mul]
        rw [show (k - n).toNat = kd by omega])
      obtain ⟨N, hN⟩ : ∃ x, M * 2 ^ e.toNat * 10 ^ (n - k).toNat = x := ⟨_, rfl⟩
      obtain ⟨D, hD⟩ : ∃ x, 2 ^ (-e).toNat * 10 ^ (k - n).toNat = x := ⟨_, rfl⟩
      rw [hN] at HA HNlt ⊢
      rw [hD] at HBb HDlt ⊢
      clear hN hD
      have HE := Lib.hid (show ed ≤ 1100 by omega)
      have HK := Lib.hid (show kd ≤ 1000 by omega)
      clear he1 he2 hk1 hk2 hM he hk hK hep hkp
      go_enter Tryz.func75, Tryz.ntmps75
      have HB0 := Lib.hid (Below.refl w.heap.size w)
      go_wp2_with fail
      refine (CM.out _).mono ?_
      rintro e w1 ⟨v1, rfl, hbig, hb⟩
      have HB1 := Lib.hid (HB0.out.trans (hb.mono HB0.out.size))
      have GA := Lib.hid hbig
      clear hbig hb
      go_wp2_with fail
      refine (C1.out _).mono ?_
      rintro e w2 ⟨v2, rfl, hbig, hb⟩
      have GA := Lib.hid (GA.out.below hb)
      have HB2 := Lib.hid (HB1.out.trans (hb.mono HB1.out.size))
      have GB := Lib.hid hbig
      clear hbig hb
      go_wp2_with fail
      refine (CU1.out _ ed _ HE.out GB.out).mono ?_
      rintro e w3 ⟨v3, rfl, hbig, hb⟩
      have GA := Lib.hid (GA.out.below hb)
      have GB := Lib.hid (GB.out.below hb)
      have HB3 := Lib.hid (HB2.out.trans (hb.mono HB2.out.size))
      have GB2 := Lib.hid hbig
      clear hbig hb
      go_wp2_with fail
      refine (CT.out kd HK.out _).mono ?_
      rintro e w4 ⟨v4, rfl, hbig, hb⟩
      have GA := Lib.hid (GA.out.below hb)
      have GB := Lib.hid (GB.out.below hb)
      have GB2 := Lib.hid (GB2.out.below hb)
      have HB4 := Lib.hid (HB3.out.trans (hb.mono HB3.out.size))
      have GT := Lib.hid hbig
      clear hbig hb
      go_wp2_with fail
      refine (Bg.times_any _ _ _ _ _ GB2.out GT.out (by have := prod_wds (a := 1) (b := 2 ^ ed) (i := 1) (j := 1100) (by decide) (Nat.pow_le_pow_right (by decide) HE.out) 35 (by decide); omega) (by have := ten_wds kd (by have := HK.out; omega); omega)).mono ?_
      rintro e w5 ⟨v5, rfl, hbig, hb⟩
      have GA := Lib.hid (GA.out.below hb)
      have GB := Lib.hid (GB.out.below hb)
      have GB2 := Lib.hid (GB2.out.below hb)
      have GT := Lib.hid (GT.out.below hb)
      have HB5 := Lib.hid (HB4.out.trans (hb.mono HB4.out.size))
      have GC := Lib.hid hbig
      clear hbig hb
      have GN : Hid (Bg.Big w5 v1 N) := Lib.hid (by rw [← HA.out]; exact GA.out)
      have GD : Hid (Bg.Big w5 v5 D) := Lib.hid (by rw [← HBb.out]; exact GC.out)
      clear HA HBb
      go_wp2_with fail
      refine (Bg.parts_any _ _ N D _ GN.out GD.out (by have := small_wds 250 HNlt.out; omega) (by have := small_wds 250 HDlt.out.1; omega) HDlt.out.2).mono ?_
      rintro e w6 ⟨vq, vr, rfl, hq, hr, hb⟩
      have GD := Lib.hid (GD.out.below hb)
      have HB6 := Lib.hid (HB5.out.trans (hb.mono HB5.out.size))
      have GQ := Lib.hid hq
      have GR := Lib.hid hr
      clear hq hr hb
      have HRl := Lib.hid (show (Nm.wds (N % D)).length ≤ 400000 by have := small_wds 250 (Nat.lt_trans (Nat.mod_lt N HDlt.out.2) HDlt.out.1); omega)
      go_wp2_with fail
      refine (Bg.up_any _ (N % D) 1 _ GR.out HRl.out (by decide)).mono ?_
      rintro e w7 ⟨v7, rfl, hbig, hb⟩
      have GD := Lib.hid (GD.out.below hb)
      have GQ := Lib.hid (GQ.out.below hb)
      have GR := Lib.hid (GR.out.below hb)
      have HB7 := Lib.hid (HB6.out.trans (hb.mono HB6.out.size))
      have GU := Lib.hid hbig
      clear hbig hb
      go_wp2_with fail
      refine (Bg.less_any _ _ _ _ _ GU.out GD.out).mono ?_
      rintro e w8 ⟨rfl, hb⟩
      have GD := Lib.hid (GD.out.below hb)
      have GQ := Lib.hid (GQ.out.below hb)
      have GR := Lib.hid (GR.out.below hb)
      have GU := Lib.hid (GU.out.below hb)
      have HB8 := Lib.hid (HB7.out.trans (hb.mono HB7.out.size))
      clear hb
      go_wp2
      go_ret2
      exact ⟨_, rfl, GQ.out, HB8.out⟩
/-- the document's places -/
theorem places_any (M sh : Nat) (hn : Nr.Norm M sh) (hM : 1 ≤ M) (hsh : sh ≤ 2045) (w : World) :
    Calls Tryz.prog 74 #[.int .u64 (M : Int), .int .i64 ((sh : Int) - 1074)] w (Gives w (.int .i64 (Nr.kE M sh))) := by
  have hg := Nr.guess_le hn hM hsh
  have hp := Nr.pE_bounds (M := M) (sh := sh) hsh
  have hk := show Nr.kE M sh = (Nr.nF M sh : Int) - Nr.pE (Nr.skew M sh) ((sh : Int) - 1074) from rfl
  have hnF := Nr.nF_le hn hM hsh
  have hnb := (Nr.nb_le_iff M 53).2 hn.1
  have CM := Lib.hid (fun w => Bg.from_any M (by have := hn.1; omega) w)
  have CB := Lib.hid (fun (v : Value) (w : World) H => Bg.bits_any v M w H)
  have CU := Lib.hid (fun (k : Int) (h1 : -1000 ≤ k) (h2 : k ≤ 1000) (w : World) => under_any M hn.1 ((sh : Int) - 1074) k (by omega) (by omega) h1 h2 w)
  have HI := Lib.hid (fun k => Nr.under_iff (M := M) (sh := sh) hn hM hsh k)
  unfold Nr.guess at hg
  obtain ⟨z, hz⟩ : ∃ z : Int, (Nr.nb M : Int) + ((sh : Int) - 1074) - 1 = z := ⟨_, rfl⟩
  rw [hz] at hg
  have hz1 : -1100 ≤ z := by omega
  have hz2 : z ≤ 1100 := by omega
  obtain ⟨K, hK⟩ : ∃ K, Nr.kE M sh = K := ⟨_, rfl⟩
  rw [hK] at hg hk ⊢
  have hK2 : K ≤ 420 := by omega
  have e1 : IntKind.i64.wrap ((Nr.nb M : Int) + ((sh : Int) - 1074)) = (Nr.nb M : Int) + ((sh : Int) - 1074) := by rw [IntKind.wrap_i64]; omega
  have e2 : IntKind.i64.wrap ((Nr.nb M : Int) + ((sh : Int) - 1074) - 1) = z := by rw [IntKind.wrap_i64]; omega
  have e3 : IntKind.i64.wrap (z * 30103) = z * 30103 := by rw [IntKind.wrap_i64]; omega
  obtain ⟨g, hgg⟩ : ∃ g, Int.tdiv (z * 30103) 100000 = g := ⟨_, rfl⟩
  have hgb : -400 ≤ g := by rw [← hgg]; exact (tdiv_two z hz1 hz2).1
  have hgu : g ≤ 400 := by rw [← hgg]; exact (tdiv_two z hz1 hz2).2
  rw [hgg] at hg
  have e4 : IntKind.i64.wrap g = g := by rw [IntKind.wrap_i64]; omega
  have e5 : IntKind.i64.wrap (g - 2) = g - 2 := by rw [IntKind.wrap_i64]; omega
  have HKK := Lib.hid hK
  clear hp hk hnF hn hM hsh hz hz1 hz2 hK
  go_enter Tryz.func74, Tryz.ntmps74
  go_wp2_with fail
  refine (CM.out _).mono ?_
  rintro e w1 ⟨v1, rfl, hb1, hb⟩
  have G1 := Lib.hid hb1
  have B1 := Lib.hid hb
  clear hb1 hb
  go_wp2_with fail
  refine (CB.out _ _ G1.out).mono ?_
  rintro e w2 ⟨rfl, rfl⟩
  rw [Bg.nb_two]
  go_wp2_with fail
  go_loopw [5] (fun i wr => ∃ k : Int, i = .int .i64 k ∧ g - 2 ≤ k ∧ k ≤ K ∧ Hid (Below w.heap.size w wr)) (fun i _ => (K - intOf i).toNat)
  case atStart => exact ⟨g - 2, rfl, by omega, hg, B1⟩
  case round =>
    obtain ⟨k, rfl, hk1, hk2, HBL⟩ := hrel
    have CUk := Lib.hid (CU.out k (by omega) (by omega) wr)
    by_cases hkk : K ≤ k
    · have hkK : k = K := by omega
      subst hkK
      have ht : decide (M * 2 ^ ((sh : Int) - 1074).toNat * 10 ^ (-k).toNat < 2 ^ (-((sh : Int) - 1074)).toNat * 10 ^ k.toNat) = true := decide_eq_true (by
        have := (HI.out k).2 (by rw [HKK.out]; omega)
        unfold Nr.numE Nr.denE at this
        rw [Int.neg_neg, show 1074 - (sh : Int) = -((sh : Int) - 1074) by omega] at this
        exact this)
      rw [ht] at CUk
      clear ht
      go_wp2_with fail
      refine CUk.out.mono ?_
      rintro e w3 ⟨rfl, hb⟩
      have B3 := Lib.hid (HBL.out.trans (hb.mono HBL.out.size))
      clear hb
      go_wp2
      go_ret
      exact ⟨rfl, B3.out⟩
    · have ht : decide (M * 2 ^ ((sh : Int) - 1074).toNat * 10 ^ (-k).toNat < 2 ^ (-((sh : Int) - 1074)).toNat * 10 ^ k.toNat) = false := decide_eq_false (by
        intro h
        have := (HI.out k).1 (by
          unfold Nr.numE Nr.denE
          rw [Int.neg_neg, show 1074 - (sh : Int) = -((sh : Int) - 1074) by omega]
          exact h)
        rw [HKK.out] at this
        exact hkk this)
      rw [ht] at CUk
      clear ht
      have e7 : IntKind.i64.wrap (k + 1) = k + 1 := by rw [IntKind.wrap_i64]; omega
      go_wp2_with fail
      refine CUk.out.mono ?_
      rintro e w3 ⟨rfl, hb⟩
      have B3 := Lib.hid (HBL.out.trans (hb.mono HBL.out.size))
      clear hb
      go_wp2
      go_roundw
      case rel => exact ⟨k + 1, rfl, by omega, by omega, B3⟩
      case measure => simp only [intOf]; omega
end Go.Proofs.YthhlhiighgnkmaaGreatDoor
/-! ## WALKS of the document's own: a decimal rounded; noughts. -/
namespace Go.Proofs.YthhlhiighgnkmaaGreatDoor
set_option linter.unusedVariables false
set_option linter.unusedSimpArgs false
set_option exponentiation.threshold 20000
open Go.RowKit
theorem dd_decN : ∀ (n u : Nat), u ≤ n → Nr.dd u = decN u := by
  intro n
  induction n with
  | zero => intro u hu; rw [Nr.dd_small (by omega), decN_small (by omega)]
  | succ n ih =>
    intro u hu
    by_cases h : u < 10
    · rw [Nr.dd_small h, decN_small h]
    · rw [Nr.dd_big h, decN_big h, ih (u / 10) (by omega)]
theorem dec_nil (x : Int) : Nr.rndN (Nr.decN 0 x) (Nr.decD x) = 0 := by
  apply Nr.rnd_zero
  unfold Nr.decN
  rw [Nat.zero_mul, Nat.zero_mul]
  exact Nr.decD_pos x
theorem big_wds {n : Nat} (h : n < 10 ^ 1001) (k c : Nat) (hk : 4004 + k ≤ 32 * c) : (Nm.wds (n * 2 ^ k)).length ≤ c := by
  refine prod_wds (a := n) (b := 2 ^ k) (i := 4004) (j := k) ?_ (Nat.le_refl _) c hk
  exact Nat.lt_of_lt_of_le h (ten_lt 1001)
theorem big_wds0 {n : Nat} (h : n < 10 ^ 1001) : (Nm.wds n).length ≤ 200 := by
  have := big_wds h 0 200 (by decide)
  rw [Nat.pow_zero, Nat.mul_one] at this; exact this
set_option maxRecDepth 100000 in
set_option maxHeartbeats 1000000 in
theorem decimal_any (v : Value) (n : Nat) (x : Int) (hn : n < 10 ^ 1001) (hx1 : -200000 ≤ x) (hx2 : x ≤ 200000) (w : World) (H : Bg.Big w v n) :
    Calls Tryz.prog 78 #[v, .int .i64 x] w (Gives w (.int .u64 ((Nr.rndN (Nr.decN n x) (Nr.decD x) : Nat) : Int))) := by
  obtain ⟨a, cap, rfl, hcap, hW⟩ := H
  have HBIG : Hid (Bg.Big w (.slice a (Nm.wds n).length cap) n) := Lib.hid ⟨a, cap, rfl, hcap, hW⟩
  have hnil := show (Nm.wds n).length = 0 ↔ n = 0 from Nm.wds_nil
  obtain ⟨L, hL⟩ : ∃ L, (Nm.wds n).length = L := ⟨_, rfl⟩
  obtain ⟨R, hR⟩ : ∃ R, Nr.rndN (Nr.decN n x) (Nr.decD x) = R := ⟨_, rfl⟩
  rw [hR]
  rw [hL] at hnil HBIG ⊢
  have HN := Lib.hid hn
  clear hW hcap hL
  by_cases h0 : L = 0
  · have hn0 := hnil.1 h0
    subst hn0
    subst h0
    rw [dec_nil] at hR
    subst hR
    go_enter Tryz.func78, Tryz.ntmps78
    go_wp2
    go_ret
    exact ⟨rfl, Below.refl _ _⟩
  · have hn0 : n ≠ 0 := fun h => h0 (hnil.2 h)
    have l0 : ((L : Int) == 0) = false := by rw [beq_eq_false_iff_ne]; omega
    by_cases hlow : x < -2000
    · have d1 : decide (x < -2000) = true := decide_eq_true hlow
      rw [Nr.dec_zero (k := 1001) hn (by omega)] at hR
      subst hR
      clear hnil hn h0 hn0
      go_enter Tryz.func78, Tryz.ntmps78
      go_wp2
      go_ret
      exact ⟨rfl, Below.refl _ _⟩
    · have d1 : decide (x < -2000) = false := decide_eq_false hlow
      by_cases hhi : 400 < x
      · have d2 : decide (400 < x) = true := decide_eq_true hhi
        rw [Nr.dec_inf hn0 (by omega)] at hR
        have CI := Lib.hid (fun w => Tn.rinfv_any false w)
        rw [show Nr.word false Nr.inf = R by rw [← hR]; decide] at CI
        clear hnil hn h0 hn0 hR
        go_enter Tryz.func78, Tryz.ntmps78
        go_wp2_with fail
        refine (CI.out _).mono ?_
        rintro e w1 ⟨rfl, rfl⟩
        go_wp2
        go_ret
        exact ⟨rfl, Below.refl _ _⟩
      · have d2 : decide (400 < x) = false := decide_eq_false hhi
        have HB0 := Lib.hid (Below.refl w.heap.size w)
        by_cases hpos : 0 ≤ x
        · obtain ⟨k, rfl⟩ : ∃ k : Nat, x = (k : Int) := ⟨x.toNat, by omega⟩
          have d3 : decide ((0 : Int) ≤ (k : Int)) = true := decide_eq_true hpos
          have d2b : decide (400 < k) = false := decide_eq_false (by omega)
          rw [← Nr.dec_up n k hn0] at hR
          have HR := Lib.hid hR
          have HK := Lib.hid (show k ≤ 400 by omega)
          clear hnil hn h0 hn0 hR hpos hhi hlow hx1 hx2
          go_enter Tryz.func78, Tryz.ntmps78
          go_wp2_with fail
          refine (tens_any k (by have := HK.out; omega) _).mono ?_
          rintro e w1 ⟨v1, rfl, hbig, hb⟩
          have G1 := Lib.hid hbig
          have G0 := Lib.hid (HBIG.out.below hb)
          have B1 := Lib.hid (HB0.out.trans hb)
          clear hbig hb
          go_wp2_with fail
          refine (Bg.times_any _ _ n (10 ^ k) _ G0.out G1.out (by have := big_wds0 HN.out; omega) (by have := ten_wds k (by have := HK.out; omega); omega)).mono ?_
          rintro e w2 ⟨v2, rfl, hbig, hb⟩
          have G2 := Lib.hid hbig
          have B2 := Lib.hid (B1.out.trans (hb.mono B1.out.size))
          clear hbig hb
          go_wp2_with fail
          refine (Bg.round_any false false _ (n * 10 ^ k) 0 _ G2.out (by
            have h1 : 10 ^ k ≤ 2 ^ 1600 := Nat.le_trans (ten_lt k) (Nat.pow_le_pow_right (by decide) (by have := HK.out; omega))
            have := prod_wds (a := n) (b := 10 ^ k) (i := 4004) (j := 1600) (Nat.lt_of_lt_of_le HN.out (ten_lt 1001)) h1 300 (by decide)
            omega) (by decide) (by decide)).mono ?_
          rintro e w3 ⟨rfl, hb⟩
          have B3 := Lib.hid (B2.out.trans (hb.mono B2.out.size))
          clear hb
          rw [HR.out]
          go_wp2
          go_ret
          exact ⟨rfl, B3.out⟩
        · obtain ⟨k, hk⟩ : ∃ k : Nat, -x = (k : Int) := ⟨(-x).toNat, by omega⟩
          have d3 : decide ((0 : Int) ≤ x) = false := decide_eq_false hpos
          have e1 : IntKind.i64.wrap (-x) = (k : Int) := by rw [IntKind.wrap_i64]; omega
          rw [show x = -(k : Int) by omega, ← Nr.dec_down n k hn0] at hR
          have HK := Lib.hid (show k ≤ 2000 by omega)
          have hnb : Nr.nb (10 ^ k) ≤ 8001 := (Nr.nb_le_iff _ _).2 (Nat.lt_of_le_of_lt (ten_lt k) (Nat.pow_lt_pow_right (by decide) (by have := HK.out; omega)))
          obtain ⟨K, hKK⟩ : ∃ K, Nr.nb (10 ^ k) + 1200 = K := ⟨_, rfl⟩
          rw [hKK] at hR
          have e2 : IntKind.i64.wrap (((Nr.nb (10 ^ k) : Nat) : Int) + 1200) = (K : Int) := by rw [IntKind.wrap_i64]; omega
          have e3 : IntKind.i64.wrap (-(K : Int)) = -(K : Int) := by rw [IntKind.wrap_i64]; omega
          have HKx := Lib.hid (show K ≤ 9201 by omega)
          have HP : Hid (0 < 10 ^ k) := Lib.hid (Nat.pow_pos (by decide))
          have HT := Lib.hid (ten_wds k (by omega))
          have CBt := Lib.hid (fun v w H => Bg.bits_any v (10 ^ k) w H)
          have hnbs : Nm.nb (10 ^ k) = Nr.nb (10 ^ k) := rfl
          rw [hnbs] at CBt
          have CT := Lib.hid (fun w => tens_any k (by omega) w)
          obtain ⟨N1, hN1⟩ : ∃ N1, n * 2 ^ K = N1 := ⟨_, rfl⟩
          have HN1 := Lib.hid (show (Nm.wds N1).length ≤ 450 by rw [← hN1]; exact big_wds hn K 450 (by omega))
          have CU := Lib.hid (fun (v : Value) (w : World) (H : Bg.Big w v n) => Bg.up_any v n K w H (by have := big_wds0 hn; omega) (by omega))
          rw [hN1] at hR CU
          obtain ⟨T, hT⟩ : ∃ T, 10 ^ k = T := ⟨_, rfl⟩
          rw [hT] at hR HP HT CBt CT e2
          obtain ⟨q, hq⟩ : ∃ q, N1 / T = q := ⟨_, rfl⟩
          obtain ⟨r, hr⟩ : ∃ r, N1 % T = r := ⟨_, rfl⟩
          have HQ := Lib.hid (show (Nm.wds q).length ≤ 450 by rw [← hq]; exact Nat.le_trans (Nm.wds_mono (Nat.div_le_self _ _)) HN1.out)
          have CPt := Lib.hid (fun (v1 v2 : Value) (w : World) H1 H2 => Bg.parts_any v1 v2 N1 T w H1 H2 (by have := HN1.out; omega) (by have := HT.out; omega) HP.out)
          rw [hq, hr] at CPt hR
          obtain ⟨b, hb0⟩ : ∃ b, (r != 0) = b := ⟨_, rfl⟩
          rw [hb0] at hR
          have HR := Lib.hid hR
          have HBr := Lib.hid hb0
          have CR := Lib.hid (fun (v : Value) (w : World) (H : Bg.Big w v q) => Bg.round_any false b v q (-(K : Int)) w H (by have := HQ.out; omega) (by omega) (by omega))
          rw [hR] at CR
          clear hnil hn h0 hn0 hR hpos hhi hlow hx1 hx2 hk hnb hKK hnbs hN1 hT hq hr hb0
          go_enter Tryz.func78, Tryz.ntmps78
          go_wp2_with fail
          refine (CT.out _).mono ?_
          rintro e w1 ⟨v1, rfl, hbig, hb⟩
          have G1 := Lib.hid hbig
          have G0 := Lib.hid (HBIG.out.below hb)
          have B1 := Lib.hid (HB0.out.trans hb)
          clear hbig hb
          go_wp2_with fail
          refine (CBt.out _ _ G1.out).mono ?_
          rintro e w2 ⟨rfl, rfl⟩
          go_wp2_with fail
          refine (CU.out _ _ G0.out).mono ?_
          rintro e w2 ⟨v2, rfl, hbig, hb⟩
          have G2 := Lib.hid hbig
          have G3 := Lib.hid (G1.out.below hb)
          have B2 := Lib.hid (B1.out.trans (hb.mono B1.out.size))
          clear hbig hb
          go_wp2_with fail
          refine (CPt.out _ _ _ G2.out G3.out).mono ?_
          rintro e w3 ⟨vq, vr, rfl, hq, hr, hb⟩
          have GQ := Lib.hid hq
          obtain ⟨ar, capr, rfl, _, _⟩ := hr
          have B3 := Lib.hid (B2.out.trans (hb.mono B2.out.size))
          clear hb hq
          have hlr := show (Nm.wds r).length = 0 ↔ r = 0 from Nm.wds_nil
          obtain ⟨Lr, hLr⟩ : ∃ L, (Nm.wds r).length = L := ⟨_, rfl⟩
          rw [hLr] at hlr ⊢
          have d5 : decide ((0 : Int) < (Lr : Int)) = b := by
            rw [← HBr.out, Bool.eq_iff_iff, decide_eq_true_eq, bne_iff_ne]
            constructor
            · intro h h2; have := hlr.2 h2; omega
            · intro h; have : Lr ≠ 0 := fun h3 => h (hlr.1 h3)
              omega
          have d6 : decide (0 < Lr) = b := by
            rw [← d5, decide_eq_decide]; omega
          clear hlr hLr
          go_wp2_with fail
          refine (CR.out _ _ GQ.out).mono ?_
          rintro e w4 ⟨rfl, hb⟩
          have B4 := Lib.hid (B3.out.trans (hb.mono B3.out.size))
          clear hb
          go_wp2
          go_ret
          exact ⟨rfl, B4.out⟩
/-- so many noughts -/
def nghts (k : Nat) : List Nat := List.replicate k 48
theorem nghts_succ (k : Nat) : nghts k ++ [48] = nghts (k + 1) := by
  unfold nghts; rw [← List.replicate_succ']
theorem noughts_any (k : Nat) (hk : k ≤ 1000) (w : World) : Calls Tryz.prog 41 #[.int .i64 (k : Int)] w fun e w' => e = .returned (.string (strOf (nghts k))) ∧ w' = w := by
  go_enter Tryz.func41, Tryz.ntmps41
  go_wp2_with fail
  go_loopw [3, 4] (fun o i wr => ∃ j : Nat, i = .int .i64 (j : Int) ∧ j ≤ k ∧ o = .string (strOf (nghts j)) ∧ wr = w) (fun _ i _ => k - (intOf i).toNat)
  case atStart => exact ⟨0, rfl, Nat.zero_le _, rfl, rfl⟩
  case round =>
    obtain ⟨j, rfl, hj, rfl, rfl⟩ := hrel
    by_cases hjk : j = k
    · subst hjk
      have d1 : decide ((j : Int) < (j : Int)) = false := decide_eq_false (by omega)
      have d2 : decide (j < j) = false := decide_eq_false (by omega)
      go_wp2
      go_ret
      exact ⟨rfl, rfl⟩
    · have d1 : decide ((j : Int) < (k : Int)) = true := decide_eq_true (by omega)
      have d2 : decide (j < k) = true := decide_eq_true (by omega)
      have e1 : IntKind.i64.wrap ((j : Int) + 1) = ((j + 1 : Nat) : Int) := by rw [IntKind.wrap_i64]; omega
      have HC := Lib.hid (show strOf (nghts j) ++ { data := #[48] } = strOf (nghts (j + 1)) by rw [← nghts_succ]; exact strOf_append (nghts j) [48])
      have hos : (strOf (nghts j)).size = j := by rw [strOf_size]; exact List.length_replicate
      obtain ⟨S, hS⟩ : ∃ S, strOf (nghts j) = S := ⟨_, rfl⟩
      rw [hS] at HC hos ⊢
      have h1 : (ByteArray.mk #[48]).size = 1 := rfl
      have hcat : S.size + 1 ≤ 9223372036854775807 := by omega
      clear hS
      go_wp2
      go_roundw
      case rel => exact ⟨j + 1, rfl, by omega, by rw [← HC.out], trivial⟩
      case measure => simp only [intOf]; omega
end Go.Proofs.YthhlhiighgnkmaaGreatDoor
/-! ## WALKS of the document's own: its search for the shortest digits. -/
namespace Go.Proofs.YthhlhiighgnkmaaGreatDoor
set_option linter.unusedVariables false
set_option linter.unusedSimpArgs false
set_option exponentiation.threshold 5000
open Go.RowKit
section
variable {M sh : Nat}
/-- how the number lies between two decimals of n digits: nearer to the lower one -/
def nearLow (M sh t q : Nat) : Prop := 2 * (M * Nr.aE (Nr.skew M sh) sh % (Nr.bE (Nr.skew M sh) sh * 10 ^ t)) < Nr.bE (Nr.skew M sh) sh * 10 ^ t ∨ 2 * (M * Nr.aE (Nr.skew M sh) sh % (Nr.bE (Nr.skew M sh) sh * 10 ^ t)) = Nr.bE (Nr.skew M sh) sh * 10 ^ t ∧ q % 2 = 0
def inG (M sh t y : Nat) : Prop := Nr.InU (Nr.skew M sh) M (Nr.aE (Nr.skew M sh) sh) (Nr.bE (Nr.skew M sh) sh) (10 ^ t * y)
structure Round39 (M sh n t q : Nat) : Prop where
  hn : Nr.Norm M sh
  hM : 1 ≤ M
  hsh : sh ≤ 2045
  ht : n + t = Nr.nF M sh
  h1 : 1 ≤ n
  hno : ∀ n' t', 1 ≤ n' → n' < n → n' + t' = Nr.nF M sh → ¬ Nr.Mem (Nr.skew M sh) M (Nr.aE (Nr.skew M sh) sh) (Nr.bE (Nr.skew M sh) sh) t'
  hq : q = M * Nr.aE (Nr.skew M sh) sh / (Nr.bE (Nr.skew M sh) sh * 10 ^ t)
theorem Round39.low {n t q : Nat} (h : Round39 M sh n t q) (hin : inG M sh t q) (hs : inG M sh t (q + 1) → nearLow M sh t q) : Nr.shownE M sh = (Nr.dd q, Nr.kE M sh) := by
  obtain ⟨a, b, c⟩ := Nr.search_end h.hn h.hM h.hsh n t q q h.ht h.h1 h.hno h.hq hin (.inl ⟨rfl, hs⟩)
  have := c rfl
  rw [if_neg (by omega), if_neg (by omega)] at a
  exact a
theorem Round39.high {n t q : Nat} (h : Round39 M sh n t q) (hin : inG M sh t (q + 1)) (hs : inG M sh t q → ¬ nearLow M sh t q) : Nr.shownE M sh = (if n < (Nr.dd (q + 1)).length then [49] else Nr.dd (q + 1), if n < (Nr.dd (q + 1)).length then Nr.kE M sh + 1 else Nr.kE M sh) :=
  (Nr.search_end h.hn h.hM h.hsh n t q (q + 1) h.ht h.h1 h.hno h.hq hin (.inr ⟨rfl, hs⟩)).1
theorem Round39.next {n t q : Nat} (h : Round39 M sh n t q) (h1 : ¬ inG M sh t q) (h2 : ¬ inG M sh t (q + 1)) : 1 ≤ t ∧ ∃ q', Round39 M sh (n + 1) (t - 1) q' := by
  have hm : ¬ Nr.Mem (Nr.skew M sh) M (Nr.aE (Nr.skew M sh) sh) (Nr.bE (Nr.skew M sh) sh) t := by
    intro hm
    unfold Nr.Mem at hm
    rw [← h.hq] at hm
    rcases hm with hm | hm
    · exact h1 hm
    · exact h2 hm
  have ht1 : 1 ≤ t := by
    apply Classical.byContradiction
    intro h0
    have : t = 0 := by omega
    subst this
    exact hm (Nr.last_in h.hsh)
  have hht := h.ht
  refine ⟨ht1, _, h.hn, h.hM, h.hsh, by omega, by omega, ?_, rfl⟩
  intro n' t' a b c
  by_cases he : n' = n
  · have : t' = t := by omega
    rw [this]; exact hm
  · exact h.hno n' t' a (by omega) c
/-- the document's numbers of a round -/
structure Nums39 (M sh n t q : Nat) (N D : Nat) (A : Nat) (X1 X2 : Nat) (s : Int) : Prop where
  hN : N / D = q
  qlt : q < 10 ^ 18
  in1 : X1 = A ↔ inG M sh t q
  in2 : X2 = A ↔ inG M sh t (q + 1)
  sd : (s < 0 ∨ s = 0 ∧ q % 2 = 0) ↔ nearLow M sh t q
theorem nums39 {n t q : Nat} (h : Round39 M sh n t q) :
    Nums39 M sh n t q (M * 2 ^ ((sh : Int) - 1074).toNat * 10 ^ ((n : Int) - Nr.kE M sh).toNat) (2 ^ (-((sh : Int) - 1074)).toNat * 10 ^ (Nr.kE M sh - (n : Int)).toNat) (sh * 2 ^ 52 + M)
      (Nr.rndN (Nr.decN q (Nr.kE M sh - n)) (Nr.decD (Nr.kE M sh - n))) (Nr.rndN (Nr.decN (q + 1) (Nr.kE M sh - n)) (Nr.decD (Nr.kE M sh - n)))
      (Nm.cmpN ((M * 2 ^ ((sh : Int) - 1074).toNat * 10 ^ ((n : Int) - Nr.kE M sh).toNat) % (2 ^ (-((sh : Int) - 1074)).toNat * 10 ^ (Nr.kE M sh - (n : Int)).toNat) * 2 ^ 1) (2 ^ (-((sh : Int) - 1074)).toNat * 10 ^ (Nr.kE M sh - (n : Int)).toNat)) := by
  obtain ⟨d1, d2, d3⟩ := Nr.digits_iff (M := M) h.hsh n t h.ht
  have eN : M * 2 ^ ((sh : Int) - 1074).toNat * 10 ^ ((n : Int) - Nr.kE M sh).toNat = Nr.numE M sh ((n : Int) - Nr.kE M sh) := rfl
  have eD : 2 ^ (-((sh : Int) - 1074)).toNat * 10 ^ (Nr.kE M sh - (n : Int)).toNat = Nr.denE sh ((n : Int) - Nr.kE M sh) := by
    unfold Nr.denE
    rw [show -((sh : Int) - 1074) = 1074 - (sh : Int) by omega, show -((n : Int) - Nr.kE M sh) = Nr.kE M sh - (n : Int) by omega]
  rw [eN, eD]
  have hht := h.ht
  have hnF := Nr.nF_le h.hn h.hM h.hsh
  refine ⟨by rw [d1, h.hq], ?_, Nr.decimal_iff h.hn h.hM h.hsh n t q h.ht, Nr.decimal_iff h.hn h.hM h.hsh n t (q + 1) h.ht, ?_⟩
  · rw [h.hq, Nr.div_grid]
    have h1 := Nr.dd_lt (M * Nr.aE (Nr.skew M sh) sh / Nr.bE (Nr.skew M sh) sh) _ (Nat.le_refl _)
    have h2 : 10 ^ (Nr.dd (M * Nr.aE (Nr.skew M sh) sh / Nr.bE (Nr.skew M sh) sh)).length ≤ 10 ^ 18 := Nat.pow_le_pow_right (by decide) hnF
    exact Nat.lt_of_le_of_lt (Nat.div_le_self _ _) (Nat.lt_of_lt_of_le h1 h2)
  · unfold nearLow
    rw [← d2, ← d3, Nat.pow_one, Nat.mul_comm _ 2]
    unfold Nm.cmpN
    generalize 2 * (Nr.numE M sh ((n : Int) - Nr.kE M sh) % Nr.denE sh ((n : Int) - Nr.kE M sh)) = a
    generalize Nr.denE sh ((n : Int) - Nr.kE M sh) = b
    by_cases c1 : a < b
    · rw [if_pos c1]; omega
    · rw [if_neg c1]
      by_cases c2 : b < a
      · rw [if_pos c2]; omega
      · rw [if_neg c2]; omega
end
theorem dd_isB (u : Nat) : IsB (Nr.dd u) := fun c hc => by have := Nr.dd_digs u u (Nat.le_refl _) c hc; omega
set_option maxRecDepth 100000 in
set_option maxHeartbeats 4000000 in
theorem rshort_any (M sh : Nat) (hn : Nr.Norm M sh) (hM : 1 ≤ M) (hsh : sh ≤ 2045) (w : World) :
    Calls Tryz.prog 39 #[.int .u64 ((sh * 2 ^ 52 + M : Nat) : Int)] w (Gives w (.tuple #[.string (strOf (Nr.shownE M sh).1), .int .i64 (Nr.shownE M sh).2])) := by
  have hp := Nr.pE_bounds (M := M) (sh := sh) hsh
  have hkE := show Nr.kE M sh = (Nr.nF M sh : Int) - Nr.pE (Nr.skew M sh) ((sh : Int) - 1074) from rfl
  have hnF := Nr.nF_le hn hM hsh
  have hnF1 := Nr.nF_pos (M := M) (sh := sh)
  have hm53 := hn.1
  have hA64 : sh * 2 ^ 52 + M < 2 ^ 64 := by omega
  have hopen : Nr.mag (sh * 2 ^ 52 + M) = M ∧ Nr.plc (sh * 2 ^ 52 + M) = (sh : Int) - 1074 := by
    unfold Nr.mag Nr.plc
    by_cases h52 : M < 2 ^ 52
    · have h0 : sh = 0 := by rcases hn.2 with h | h <;> omega
      subst h0
      rw [if_pos (by omega), if_pos (by omega)]
      exact ⟨by omega, by omega⟩
    · rw [if_neg (by omega), if_neg (by omega)]
      exact ⟨by omega, by omega⟩
  have CO := Lib.hid (fun w => Tn.open_any (sh * 2 ^ 52 + M) hA64 w)
  rw [hopen.1, hopen.2] at CO
  have CPl := Lib.hid (fun w => places_any M sh hn hM hsh w)
  have CDg := Lib.hid (fun (n : Nat) (h1 : n ≤ 18) (w : World) => digits_any M hm53 ((sh : Int) - 1074) (Nr.kE M sh) (n : Int) (by omega) (by omega) (by omega) (by omega) w)
  have CDec := Lib.hid (fun (v : Value) (n : Nat) (x : Int) (hn : n < 10 ^ 19) (hx1 : -2000 ≤ x) (hx2 : x ≤ 2000) (w : World) H => decimal_any v n x (Nat.lt_of_lt_of_le hn (Nat.pow_le_pow_right (by decide) (by decide))) (by omega) (by omega) w H)
  have C1 := Lib.hid (fun w => Bg.from_any 1 (by decide) w)
  have CPlus := Lib.hid (fun (v1 v2 : Value) (q : Nat) (hq : q < 10 ^ 18) (w : World) H1 H2 => Bg.plus_any v1 v2 q 1 w H1 H2 (by have := wds_two (n := q) (by omega); omega) (by have := wds_two (n := 1) (by decide); omega))
  have CBit := Lib.hid (fun (v : Value) (q : Nat) (w : World) H => Bg.bit_any v q 0 w H (by decide))
  have CSh := Lib.hid (fun (v : Value) (q : Nat) (hq : q < 10 ^ 19) (w : World) H => show_any v q (by omega) w H)
  have HNum := Lib.hid (fun (n t q : Nat) (h : Round39 M sh n t q) => nums39 h)
  have HR0 : Hid (∃ t q, Round39 M sh 1 t q) := Lib.hid ⟨Nr.nF M sh - 1, _, hn, hM, hsh, by omega, Nat.le_refl _, fun n' t' a b c => by omega, rfl⟩
  have HnF := Lib.hid hnF
  have HKb := Lib.hid (show -500 ≤ Nr.kE M sh ∧ Nr.kE M sh ≤ 500 by omega)
  obtain ⟨A, hA⟩ : ∃ A, sh * 2 ^ 52 + M = A := ⟨_, rfl⟩
  rw [hA] at CO HNum ⊢
  obtain ⟨K, hK⟩ : ∃ K, Nr.kE M sh = K := ⟨_, rfl⟩
  have HK := Lib.hid hK
  rw [hK] at CPl CDg HNum HKb
  have hE0 : ∃ E : Int, (sh : Int) - 1074 = E := ⟨_, rfl⟩
  obtain ⟨E, hE⟩ := hE0
  rw [hE] at CO CPl CDg HNum
  obtain ⟨SE, hSE⟩ : ∃ S, Nr.shownE M sh = S := ⟨_, rfl⟩
  have HSE := Lib.hid hSE
  rw [hSE]
  have HB0 := Lib.hid (Below.refl w.heap.size w)
  clear hp hkE hnF hnF1 hm53 hA64 hopen hn hM hsh hA hK hE hSE
  go_enter Tryz.func39, Tryz.ntmps39
  go_wp2_with fail
  refine (CO.out _).mono ?_
  rintro e w1 ⟨rfl, rfl⟩
  go_wp2_with fail
  refine (CPl.out _).mono ?_
  rintro e w2 ⟨rfl, hb⟩
  have B2 := Lib.hid hb
  clear hb
  go_wp2_with fail
  go_loopw [7] (fun i wr => ∃ n : Nat, i = .int .i64 (n : Int) ∧ Hid (∃ t q, Round39 M sh n t q) ∧ Hid (Below w1.heap.size w1 wr)) (fun i _ => 20 - (intOf i).toNat)
  case atStart => exact ⟨1, rfl, HR0, B2⟩
  case round =>
    obtain ⟨n, rfl, HR, HBL⟩ := hrel
    obtain ⟨t, q, hR⟩ := HR.out
    have hN := HNum.out n t q hR
    have hn1 := hR.h1
    have hn18 : n ≤ 18 := by have := hR.ht; have := HnF.out; omega
    have HRD := Lib.hid hR
    have d1 : decide ((n : Int) < 20) = true := decide_eq_true (by omega)
    have d1b : decide (n < 20) = true := decide_eq_true (by omega)
    have CDn := Lib.hid (CDg.out n hn18 wr)
    obtain ⟨N, hNN⟩ : ∃ N, M * 2 ^ E.toNat * 10 ^ ((n : Int) - K).toNat = N := ⟨_, rfl⟩
    obtain ⟨D, hDD⟩ : ∃ D, 2 ^ (-E).toNat * 10 ^ (K - (n : Int)).toNat = D := ⟨_, rfl⟩
    rw [hNN, hDD] at hN CDn
    obtain ⟨s, hs⟩ : ∃ s, Nm.cmpN (N % D * 2 ^ 1) D = s := ⟨_, rfl⟩
    have CDm : Hid (Calls Tryz.prog 75 #[.int .u64 (M : Int), .int .i64 E, .int .i64 K, .int .i64 (n : Int)] wr fun e w' => ∃ v, e = .returned (.tuple #[v, .int .i64 s]) ∧ Bg.Big w' v q ∧ Below wr.heap.size wr w') := Lib.hid (by
      refine CDn.out.mono ?_
      rintro e w' ⟨v, h1, h2, h3⟩
      rw [hs] at h1
      rw [hN.hN] at h2
      exact ⟨v, h1, h2, h3⟩)
    rw [hs] at hN
    obtain ⟨x, hx⟩ : ∃ x, K - (n : Int) = x := ⟨_, rfl⟩
    rw [hx] at hN
    have ex : IntKind.i64.wrap (K - (n : Int)) = x := by rw [IntKind.wrap_i64]; have := HKb.out; omega
    have HX := Lib.hid (show -2000 ≤ x ∧ x ≤ 2000 by have := HKb.out; omega)
    have HQ := Lib.hid hN.qlt
    obtain ⟨X1, hX1⟩ : ∃ X, Nr.rndN (Nr.decN q x) (Nr.decD x) = X := ⟨_, rfl⟩
    obtain ⟨X2, hX2⟩ : ∃ X, Nr.rndN (Nr.decN (q + 1) x) (Nr.decD x) = X := ⟨_, rfl⟩
    have CX1 : Hid (∀ (v : Value) (w : World), Bg.Big w v q → Calls Tryz.prog 78 #[v, .int .i64 x] w (Gives w (.int .u64 (X1 : Int)))) := Lib.hid (fun v w H => by rw [← hX1]; exact CDec.out v q x (by have := HQ.out; omega) HX.out.1 HX.out.2 w H)
    have CX2 : Hid (∀ (v : Value) (w : World), Bg.Big w v (q + 1) → Calls Tryz.prog 78 #[v, .int .i64 x] w (Gives w (.int .u64 (X2 : Int)))) := Lib.hid (fun v w H => by rw [← hX2]; exact CDec.out v (q + 1) x (by have := HQ.out; omega) HX.out.1 HX.out.2 w H)
    rw [hX1, hX2] at hN
    have HN := Lib.hid hN
    have CPq := Lib.hid (fun v1 v2 w H1 H2 => CPlus.out v1 v2 q HQ.out w H1 H2)
    have en : IntKind.i64.wrap ((n : Int) + 1) = ((n + 1 : Nat) : Int) := by rw [IntKind.wrap_i64]; omega
    have HTB : Hid (q.testBit 0 = decide (q % 2 = 1)) := Lib.hid (by rw [Nat.testBit_zero])
    obtain ⟨tb, htb⟩ : ∃ tb, q.testBit 0 = tb := ⟨_, rfl⟩
    have CBq : Hid (∀ v w, Bg.Big w v q → Calls Tryz.prog 79 #[v, .int .i64 0] w fun e w' => e = .returned (.bool tb) ∧ w' = w) := Lib.hid (fun v w H => by rw [← htb]; exact CBit.out v q w H)
    rw [htb] at HTB
    have hn18' := Lib.hid hn18
    clear hN hR hNN hDD hs CDn hx hX1 hX2 hn1 hn18 HR htb
    by_cases c1 : X1 = A
    · by_cases c2 : X2 = A
      · have HIN1 := Lib.hid (HN.out.in1.1 c1)
        have HIN2 := Lib.hid (HN.out.in2.1 c2)
        have t1 : (((X1 : Nat) : Int) == ((A : Nat) : Int)) = true := by rw [beq_iff_eq]; omega
        have t1b : (X1 == A) = true := by rw [beq_iff_eq]; omega
        have t1c : decide (X1 = A) = true := by exact decide_eq_true (by omega)
        have t2 : (((X2 : Nat) : Int) == ((A : Nat) : Int)) = true := by rw [beq_iff_eq]; omega
        have t2b : (X2 == A) = true := by rw [beq_iff_eq]; omega
        have t2c : decide (X2 = A) = true := by exact decide_eq_true (by omega)
        clear c1 c2
        by_cases s0 : s < 0
        · have HIN := HIN1
          have HSD : Hid (inG M sh t (q + 1) → nearLow M sh t q) := Lib.hid (fun _ => HN.out.sd.1 (.inl s0))
          have s1 : decide (s < 0) = true := decide_eq_true s0
          clear s0
          go_wp2_with fail
          refine CDm.out.mono ?_
          rintro e w3 ⟨vl, rfl, hbig, hb⟩
          have GL3 := Lib.hid hbig
          have B3 := Lib.hid (HBL.out.trans (hb.mono HBL.out.size))
          clear hbig hb
          go_wp2_with fail
          refine (C1.out _).mono ?_
          rintro e w4 ⟨v1, rfl, hbig, hb⟩
          have G14 := Lib.hid hbig
          have GL4 := Lib.hid (GL3.out.below hb)
          have B4 := Lib.hid (B3.out.trans (hb.mono B3.out.size))
          clear hbig hb
          go_wp2_with fail
          refine (CPq.out _ _ _ GL4.out G14.out).mono ?_
          rintro e w5 ⟨vh, rfl, hbig, hb⟩
          have GH5 := Lib.hid hbig
          have GL5 := Lib.hid (GL4.out.below hb)
          have B5 := Lib.hid (B4.out.trans (hb.mono B4.out.size))
          clear hbig hb
          go_wp2_with fail
          refine (CX1.out _ _ GL5.out).mono ?_
          rintro e w6 ⟨rfl, hb⟩
          have GH6 := Lib.hid (GH5.out.below hb)
          have GL6 := Lib.hid (GL5.out.below hb)
          have B6 := Lib.hid (B5.out.trans (hb.mono B5.out.size))
          clear hb
          go_wp2_with fail
          refine (CX2.out _ _ GH6.out).mono ?_
          rintro e w7 ⟨rfl, hb⟩
          have GH7 := Lib.hid (GH6.out.below hb)
          have GL7 := Lib.hid (GL6.out.below hb)
          have B7 := Lib.hid (B6.out.trans (hb.mono B6.out.size))
          clear hb
          go_wp2_with fail
          refine (CBq.out _ _ GL7.out).mono ?_
          rintro e w8 ⟨rfl, rfl⟩
          go_wp2_with fail
          refine (CSh.out _ q (by have := HQ.out; omega) _ GL7.out).mono ?_
          rintro e w9 ⟨rfl, hb⟩
          have B9 := Lib.hid (B7.out.trans (hb.mono B7.out.size))
          clear hb
          go_wp2
          go_ret2
          have hfin := HRD.out.low HIN.out HSD.out
          rw [HSE.out, HK.out, dd_decN _ _ (Nat.le_refl _)] at hfin
          rw [hfin]
          exact ⟨rfl, B9.out⟩
        · have s1 : decide (s < 0) = false := decide_eq_false s0
          by_cases s2 : s = 0
          · have s3 : (s == 0) = true := by rw [beq_iff_eq]; exact s2
            cases tb
            · have HIN := HIN1
              have HSD : Hid (inG M sh t (q + 1) → nearLow M sh t q) := Lib.hid (fun _ => HN.out.sd.1 (.inr ⟨s2, by have := HTB.out; simp at this; omega⟩))
              subst s2
              clear s0 
              go_wp2_with fail
              refine CDm.out.mono ?_
              rintro e w3 ⟨vl, rfl, hbig, hb⟩
              have GL3 := Lib.hid hbig
              have B3 := Lib.hid (HBL.out.trans (hb.mono HBL.out.size))
              clear hbig hb
              go_wp2_with fail
              refine (C1.out _).mono ?_
              rintro e w4 ⟨v1, rfl, hbig, hb⟩
              have G14 := Lib.hid hbig
              have GL4 := Lib.hid (GL3.out.below hb)
              have B4 := Lib.hid (B3.out.trans (hb.mono B3.out.size))
              clear hbig hb
              go_wp2_with fail
              refine (CPq.out _ _ _ GL4.out G14.out).mono ?_
              rintro e w5 ⟨vh, rfl, hbig, hb⟩
              have GH5 := Lib.hid hbig
              have GL5 := Lib.hid (GL4.out.below hb)
              have B5 := Lib.hid (B4.out.trans (hb.mono B4.out.size))
              clear hbig hb
              go_wp2_with fail
              refine (CX1.out _ _ GL5.out).mono ?_
              rintro e w6 ⟨rfl, hb⟩
              have GH6 := Lib.hid (GH5.out.below hb)
              have GL6 := Lib.hid (GL5.out.below hb)
              have B6 := Lib.hid (B5.out.trans (hb.mono B5.out.size))
              clear hb
              go_wp2_with fail
              refine (CX2.out _ _ GH6.out).mono ?_
              rintro e w7 ⟨rfl, hb⟩
              have GH7 := Lib.hid (GH6.out.below hb)
              have GL7 := Lib.hid (GL6.out.below hb)
              have B7 := Lib.hid (B6.out.trans (hb.mono B6.out.size))
              clear hb
              go_wp2_with fail
              refine (CBq.out _ _ GL7.out).mono ?_
              rintro e w8 ⟨rfl, rfl⟩
              go_wp2_with fail
              refine (CSh.out _ q (by have := HQ.out; omega) _ GL7.out).mono ?_
              rintro e w9 ⟨rfl, hb⟩
              have B9 := Lib.hid (B7.out.trans (hb.mono B7.out.size))
              clear hb
              go_wp2
              go_ret2
              have hfin := HRD.out.low HIN.out HSD.out
              rw [HSE.out, HK.out, dd_decN _ _ (Nat.le_refl _)] at hfin
              rw [hfin]
              exact ⟨rfl, B9.out⟩
            · have HIN := HIN2
              have HSD : Hid (inG M sh t q → ¬ nearLow M sh t q) := Lib.hid (fun _ h => by
                rcases HN.out.sd.2 h with h | ⟨_, h⟩
                · omega
                · have := HTB.out; simp at this; omega)
              subst s2
              clear s0
              go_wp2_with fail
              refine CDm.out.mono ?_
              rintro e w3 ⟨vl, rfl, hbig, hb⟩
              have GL3 := Lib.hid hbig
              have B3 := Lib.hid (HBL.out.trans (hb.mono HBL.out.size))
              clear hbig hb
              go_wp2_with fail
              refine (C1.out _).mono ?_
              rintro e w4 ⟨v1, rfl, hbig, hb⟩
              have G14 := Lib.hid hbig
              have GL4 := Lib.hid (GL3.out.below hb)
              have B4 := Lib.hid (B3.out.trans (hb.mono B3.out.size))
              clear hbig hb
              go_wp2_with fail
              refine (CPq.out _ _ _ GL4.out G14.out).mono ?_
              rintro e w5 ⟨vh, rfl, hbig, hb⟩
              have GH5 := Lib.hid hbig
              have GL5 := Lib.hid (GL4.out.below hb)
              have B5 := Lib.hid (B4.out.trans (hb.mono B4.out.size))
              clear hbig hb
              go_wp2_with fail
              refine (CX1.out _ _ GL5.out).mono ?_
              rintro e w6 ⟨rfl, hb⟩
              have GH6 := Lib.hid (GH5.out.below hb)
              have GL6 := Lib.hid (GL5.out.below hb)
              have B6 := Lib.hid (B5.out.trans (hb.mono B5.out.size))
              clear hb
              go_wp2_with fail
              refine (CX2.out _ _ GH6.out).mono ?_
              rintro e w7 ⟨rfl, hb⟩
              have GH7 := Lib.hid (GH6.out.below hb)
              have GL7 := Lib.hid (GL6.out.below hb)
              have B7 := Lib.hid (B6.out.trans (hb.mono B6.out.size))
              clear hb
              go_wp2_with fail
              refine (CBq.out _ _ GL7.out).mono ?_
              rintro e w8 ⟨rfl, rfl⟩
              go_wp2_with fail
              refine (CSh.out _ (q + 1) (by have := HQ.out; omega) _ GH7.out).mono ?_
              rintro e w9 ⟨rfl, hb⟩
              have B9 := Lib.hid (B7.out.trans (hb.mono B7.out.size))
              clear hb
              have hfin := HRD.out.high HIN.out HSD.out
              rw [HSE.out, HK.out, dd_decN _ _ (Nat.le_refl _)] at hfin
              have hsz := strOf_size (decN (q + 1))
              have hk1 : IntKind.i64.wrap (K + 1) = K + 1 := by rw [IntKind.wrap_i64]; have := HKb.out; omega
              obtain ⟨Ln, hLn⟩ : ∃ L, (decN (q + 1)).length = L := ⟨_, rfl⟩
              rw [hLn] at hsz hfin
              by_cases hlen : n < Ln
              · have t9 : decide ((n : Int) < (Ln : Int)) = true := decide_eq_true (by omega)
                have t9b : decide (n < Ln) = true := decide_eq_true hlen
                rw [if_pos hlen, if_pos hlen] at hfin
                have HF := Lib.hid hfin
                clear hfin
                rw [← hsz] at t9 t9b
                clear hsz hlen hLn
                go_wp2
                go_ret2
                rw [HF.out]
                exact ⟨rfl, B9.out⟩
              · have t9 : decide ((n : Int) < (Ln : Int)) = false := decide_eq_false (by omega)
                have t9b : decide (n < Ln) = false := decide_eq_false hlen
                rw [if_neg hlen, if_neg hlen] at hfin
                have HF := Lib.hid hfin
                clear hfin
                rw [← hsz] at t9 t9b
                clear hsz hlen hLn
                go_wp2
                go_ret2
                rw [HF.out]
                exact ⟨rfl, B9.out⟩
          · have s3 : (s == 0) = false := by rw [beq_eq_false_iff_ne]; exact s2
            have HIN := HIN2
            have HSD : Hid (inG M sh t q → ¬ nearLow M sh t q) := Lib.hid (fun _ h => by
              rcases HN.out.sd.2 h with h | ⟨h, _⟩ <;> omega)
            clear s0 s2
            go_wp2_with fail
            refine CDm.out.mono ?_
            rintro e w3 ⟨vl, rfl, hbig, hb⟩
            have GL3 := Lib.hid hbig
            have B3 := Lib.hid (HBL.out.trans (hb.mono HBL.out.size))
            clear hbig hb
            go_wp2_with fail
            refine (C1.out _).mono ?_
            rintro e w4 ⟨v1, rfl, hbig, hb⟩
            have G14 := Lib.hid hbig
            have GL4 := Lib.hid (GL3.out.below hb)
            have B4 := Lib.hid (B3.out.trans (hb.mono B3.out.size))
            clear hbig hb
            go_wp2_with fail
            refine (CPq.out _ _ _ GL4.out G14.out).mono ?_
            rintro e w5 ⟨vh, rfl, hbig, hb⟩
            have GH5 := Lib.hid hbig
            have GL5 := Lib.hid (GL4.out.below hb)
            have B5 := Lib.hid (B4.out.trans (hb.mono B4.out.size))
            clear hbig hb
            go_wp2_with fail
            refine (CX1.out _ _ GL5.out).mono ?_
            rintro e w6 ⟨rfl, hb⟩
            have GH6 := Lib.hid (GH5.out.below hb)
            have GL6 := Lib.hid (GL5.out.below hb)
            have B6 := Lib.hid (B5.out.trans (hb.mono B5.out.size))
            clear hb
            go_wp2_with fail
            refine (CX2.out _ _ GH6.out).mono ?_
            rintro e w7 ⟨rfl, hb⟩
            have GH7 := Lib.hid (GH6.out.below hb)
            have GL7 := Lib.hid (GL6.out.below hb)
            have B7 := Lib.hid (B6.out.trans (hb.mono B6.out.size))
            clear hb
            go_wp2_with fail
            refine (CBq.out _ _ GL7.out).mono ?_
            rintro e w8 ⟨rfl, rfl⟩
            go_wp2_with fail
            refine (CSh.out _ (q + 1) (by have := HQ.out; omega) _ GH7.out).mono ?_
            rintro e w9 ⟨rfl, hb⟩
            have B9 := Lib.hid (B7.out.trans (hb.mono B7.out.size))
            clear hb
            have hfin := HRD.out.high HIN.out HSD.out
            rw [HSE.out, HK.out, dd_decN _ _ (Nat.le_refl _)] at hfin
            have hsz := strOf_size (decN (q + 1))
            have hk1 : IntKind.i64.wrap (K + 1) = K + 1 := by rw [IntKind.wrap_i64]; have := HKb.out; omega
            obtain ⟨Ln, hLn⟩ : ∃ L, (decN (q + 1)).length = L := ⟨_, rfl⟩
            rw [hLn] at hsz hfin
            by_cases hlen : n < Ln
            · have t9 : decide ((n : Int) < (Ln : Int)) = true := decide_eq_true (by omega)
              have t9b : decide (n < Ln) = true := decide_eq_true hlen
              rw [if_pos hlen, if_pos hlen] at hfin
              have HF := Lib.hid hfin
              clear hfin
              rw [← hsz] at t9 t9b
              clear hsz hlen hLn
              go_wp2
              go_ret2
              rw [HF.out]
              exact ⟨rfl, B9.out⟩
            · have t9 : decide ((n : Int) < (Ln : Int)) = false := decide_eq_false (by omega)
              have t9b : decide (n < Ln) = false := decide_eq_false hlen
              rw [if_neg hlen, if_neg hlen] at hfin
              have HF := Lib.hid hfin
              clear hfin
              rw [← hsz] at t9 t9b
              clear hsz hlen hLn
              go_wp2
              go_ret2
              rw [HF.out]
              exact ⟨rfl, B9.out⟩
      · have HIN := Lib.hid (HN.out.in1.1 c1)
        have HSD : Hid (inG M sh t (q + 1) → nearLow M sh t q) := Lib.hid (fun h => absurd (HN.out.in2.2 h) c2)
        have t1 : (((X1 : Nat) : Int) == ((A : Nat) : Int)) = true := by rw [beq_iff_eq]; omega
        have t1b : (X1 == A) = true := by rw [beq_iff_eq]; omega
        have t1c : decide (X1 = A) = true := by exact decide_eq_true (by omega)
        have t2 : (((X2 : Nat) : Int) == ((A : Nat) : Int)) = false := by rw [beq_eq_false_iff_ne]; omega
        have t2b : (X2 == A) = false := by rw [beq_eq_false_iff_ne]; omega
        have t2c : decide (X2 = A) = false := by exact decide_eq_false (by omega)
        clear c1 c2
        go_wp2_with fail
        refine CDm.out.mono ?_
        rintro e w3 ⟨vl, rfl, hbig, hb⟩
        have GL3 := Lib.hid hbig
        have B3 := Lib.hid (HBL.out.trans (hb.mono HBL.out.size))
        clear hbig hb
        go_wp2_with fail
        refine (C1.out _).mono ?_
        rintro e w4 ⟨v1, rfl, hbig, hb⟩
        have G14 := Lib.hid hbig
        have GL4 := Lib.hid (GL3.out.below hb)
        have B4 := Lib.hid (B3.out.trans (hb.mono B3.out.size))
        clear hbig hb
        go_wp2_with fail
        refine (CPq.out _ _ _ GL4.out G14.out).mono ?_
        rintro e w5 ⟨vh, rfl, hbig, hb⟩
        have GH5 := Lib.hid hbig
        have GL5 := Lib.hid (GL4.out.below hb)
        have B5 := Lib.hid (B4.out.trans (hb.mono B4.out.size))
        clear hbig hb
        go_wp2_with fail
        refine (CX1.out _ _ GL5.out).mono ?_
        rintro e w6 ⟨rfl, hb⟩
        have GH6 := Lib.hid (GH5.out.below hb)
        have GL6 := Lib.hid (GL5.out.below hb)
        have B6 := Lib.hid (B5.out.trans (hb.mono B5.out.size))
        clear hb
        go_wp2_with fail
        refine (CX2.out _ _ GH6.out).mono ?_
        rintro e w7 ⟨rfl, hb⟩
        have GH7 := Lib.hid (GH6.out.below hb)
        have GL7 := Lib.hid (GL6.out.below hb)
        have B7 := Lib.hid (B6.out.trans (hb.mono B6.out.size))
        clear hb
        go_wp2_with fail
        refine (CSh.out _ q (by have := HQ.out; omega) _ GL7.out).mono ?_
        rintro e w9 ⟨rfl, hb⟩
        have B9 := Lib.hid (B7.out.trans (hb.mono B7.out.size))
        clear hb
        go_wp2
        go_ret2
        have hfin := HRD.out.low HIN.out HSD.out
        rw [HSE.out, HK.out, dd_decN _ _ (Nat.le_refl _)] at hfin
        rw [hfin]
        exact ⟨rfl, B9.out⟩
    · by_cases c2 : X2 = A
      · have HIN := Lib.hid (HN.out.in2.1 c2)
        have HSD : Hid (inG M sh t q → ¬ nearLow M sh t q) := Lib.hid (fun h => absurd (HN.out.in1.2 h) c1)
        have t1 : (((X1 : Nat) : Int) == ((A : Nat) : Int)) = false := by rw [beq_eq_false_iff_ne]; omega
        have t1b : (X1 == A) = false := by rw [beq_eq_false_iff_ne]; omega
        have t1c : decide (X1 = A) = false := by exact decide_eq_false (by omega)
        have t2 : (((X2 : Nat) : Int) == ((A : Nat) : Int)) = true := by rw [beq_iff_eq]; omega
        have t2b : (X2 == A) = true := by rw [beq_iff_eq]; omega
        have t2c : decide (X2 = A) = true := by exact decide_eq_true (by omega)
        clear c1 c2
        go_wp2_with fail
        refine CDm.out.mono ?_
        rintro e w3 ⟨vl, rfl, hbig, hb⟩
        have GL3 := Lib.hid hbig
        have B3 := Lib.hid (HBL.out.trans (hb.mono HBL.out.size))
        clear hbig hb
        go_wp2_with fail
        refine (C1.out _).mono ?_
        rintro e w4 ⟨v1, rfl, hbig, hb⟩
        have G14 := Lib.hid hbig
        have GL4 := Lib.hid (GL3.out.below hb)
        have B4 := Lib.hid (B3.out.trans (hb.mono B3.out.size))
        clear hbig hb
        go_wp2_with fail
        refine (CPq.out _ _ _ GL4.out G14.out).mono ?_
        rintro e w5 ⟨vh, rfl, hbig, hb⟩
        have GH5 := Lib.hid hbig
        have GL5 := Lib.hid (GL4.out.below hb)
        have B5 := Lib.hid (B4.out.trans (hb.mono B4.out.size))
        clear hbig hb
        go_wp2_with fail
        refine (CX1.out _ _ GL5.out).mono ?_
        rintro e w6 ⟨rfl, hb⟩
        have GH6 := Lib.hid (GH5.out.below hb)
        have GL6 := Lib.hid (GL5.out.below hb)
        have B6 := Lib.hid (B5.out.trans (hb.mono B5.out.size))
        clear hb
        go_wp2_with fail
        refine (CX2.out _ _ GH6.out).mono ?_
        rintro e w7 ⟨rfl, hb⟩
        have GH7 := Lib.hid (GH6.out.below hb)
        have GL7 := Lib.hid (GL6.out.below hb)
        have B7 := Lib.hid (B6.out.trans (hb.mono B6.out.size))
        clear hb
        go_wp2_with fail
        refine (CSh.out _ (q + 1) (by have := HQ.out; omega) _ GH7.out).mono ?_
        rintro e w9 ⟨rfl, hb⟩
        have B9 := Lib.hid (B7.out.trans (hb.mono B7.out.size))
        clear hb
        have hfin := HRD.out.high HIN.out HSD.out
        rw [HSE.out, HK.out, dd_decN _ _ (Nat.le_refl _)] at hfin
        have hsz := strOf_size (decN (q + 1))
        have hk1 : IntKind.i64.wrap (K + 1) = K + 1 := by rw [IntKind.wrap_i64]; have := HKb.out; omega
        obtain ⟨Ln, hLn⟩ : ∃ L, (decN (q + 1)).length = L := ⟨_, rfl⟩
        rw [hLn] at hsz hfin
        by_cases hlen : n < Ln
        · have t9 : decide ((n : Int) < (Ln : Int)) = true := decide_eq_true (by omega)
          have t9b : decide (n < Ln) = true := decide_eq_true hlen
          rw [if_pos hlen, if_pos hlen] at hfin
          have HF := Lib.hid hfin
          clear hfin
          rw [← hsz] at t9 t9b
          clear hsz hlen hLn
          go_wp2
          go_ret2
          rw [HF.out]
          exact ⟨rfl, B9.out⟩
        · have t9 : decide ((n : Int) < (Ln : Int)) = false := decide_eq_false (by omega)
          have t9b : decide (n < Ln) = false := decide_eq_false hlen
          rw [if_neg hlen, if_neg hlen] at hfin
          have HF := Lib.hid hfin
          clear hfin
          rw [← hsz] at t9 t9b
          clear hsz hlen hLn
          go_wp2
          go_ret2
          rw [HF.out]
          exact ⟨rfl, B9.out⟩
      ·
        have t1 : (((X1 : Nat) : Int) == ((A : Nat) : Int)) = false := by rw [beq_eq_false_iff_ne]; omega
        have t1b : (X1 == A) = false := by rw [beq_eq_false_iff_ne]; omega
        have t1c : decide (X1 = A) = false := by exact decide_eq_false (by omega)
        have t2 : (((X2 : Nat) : Int) == ((A : Nat) : Int)) = false := by rw [beq_eq_false_iff_ne]; omega
        have t2b : (X2 == A) = false := by rw [beq_eq_false_iff_ne]; omega
        have t2c : decide (X2 = A) = false := by exact decide_eq_false (by omega)
        have HNX := Lib.hid (HRD.out.next (fun h => by rw [← HN.out.in1] at h; exact c1 h) (fun h => by rw [← HN.out.in2] at h; exact c2 h))
        clear c1 c2
        go_wp2_with fail
        refine CDm.out.mono ?_
        rintro e w3 ⟨vl, rfl, hbig, hb⟩
        have GL3 := Lib.hid hbig
        have B3 := Lib.hid (HBL.out.trans (hb.mono HBL.out.size))
        clear hbig hb
        go_wp2_with fail
        refine (C1.out _).mono ?_
        rintro e w4 ⟨v1, rfl, hbig, hb⟩
        have G14 := Lib.hid hbig
        have GL4 := Lib.hid (GL3.out.below hb)
        have B4 := Lib.hid (B3.out.trans (hb.mono B3.out.size))
        clear hbig hb
        go_wp2_with fail
        refine (CPq.out _ _ _ GL4.out G14.out).mono ?_
        rintro e w5 ⟨vh, rfl, hbig, hb⟩
        have GH5 := Lib.hid hbig
        have GL5 := Lib.hid (GL4.out.below hb)
        have B5 := Lib.hid (B4.out.trans (hb.mono B4.out.size))
        clear hbig hb
        go_wp2_with fail
        refine (CX1.out _ _ GL5.out).mono ?_
        rintro e w6 ⟨rfl, hb⟩
        have GH6 := Lib.hid (GH5.out.below hb)
        have GL6 := Lib.hid (GL5.out.below hb)
        have B6 := Lib.hid (B5.out.trans (hb.mono B5.out.size))
        clear hb
        go_wp2_with fail
        refine (CX2.out _ _ GH6.out).mono ?_
        rintro e w7 ⟨rfl, hb⟩
        have GH7 := Lib.hid (GH6.out.below hb)
        have GL7 := Lib.hid (GL6.out.below hb)
        have B7 := Lib.hid (B6.out.trans (hb.mono B6.out.size))
        clear hb
        go_wp2
        go_roundw
        case rel => exact ⟨n + 1, rfl, Lib.hid (by obtain ⟨_, q', h⟩ := HNX.out; exact ⟨t - 1, q', h⟩), B7⟩
        case measure => have := hn18'.out; simp only [intOf]; omega
end Go.Proofs.YthhlhiighgnkmaaGreatDoor
