/-
  go_wp2_with fail
        refine (CF.out _).mono ?_
        rintro e w3 ⟨v3, rfl, hbig3, hb3⟩
        have G3 := Lib.hid hbig3
        have GR3 := Lib.hid (HR.out.below hb3)
        have BR3 := Lib.hid hb3
        clear hbig3 hb3
        go_wp2_with fail
        refine (CU.out _ _ G3.out).mono ?_
        rintro e w4 ⟨v4, rfl, hbig4, hb4⟩
        have G4 := Lib.hid hbig4
        have GR4 := Lib.hid (GR3.out.below hb4)
        have BR4 := Lib.hid (BR3.out.trans (hb4.mono BR3.out.size))
        clear hbig4 hb4
        go_wp2_with fail
        refine (CP.out _ _ _ GR4.out G4.out).mono ?_
        rintro e w5 ⟨v5, rfl, hbig5, hb5⟩
        have G5 := Lib.hid hbig5
        have BR5 := Lib.hid (BR4.out.trans (hb5.mono BR4.out.size))
        clear hbig5 hb5
        go_wp2_with fail
        refine (CT.out _ _ G5.out).mono ?_
        rintro e w6 ⟨v6, rfl, hbig6, hb6⟩
        have G6 := Lib.hid hbig6
        have G56 := Lib.hid (G5.out.below hb6)
        have BR := Lib.hid (BR5.out.trans (hb6.mono BR5.out.size))
        have HX6 := Lib.hid ((HB1.out.below HB.out).below BR.out)
        clear hbig6 hb6
        go_wp2_with fail
        refine (CL.out _ _ G6.out HX6.out).mono ?_
        rintro e w7 ⟨rfl, hb7⟩
        rw [HCC.out]
        have G9 := Lib.hid (G56.out.below hb7)
        have hb6 := Lib.hid hb7
        have B6 := Lib.hid (HB.out.trans ((BR.out.trans (hb7.mono BR.out.size)).mono HB.out.size))
        clear hb7
        go_wp2
        go_roundwS of the document's whole numbers: Root.
-/
import Derived.Test.YtffohkpohgkglaaGreatBigH
namespace Go.Proofs.YtffohkpohgkglaaGreat
set_option linter.unusedVariables false
set_option linter.unusedSimpArgs false
open Go.RowKit
theorem wds_sum {a b k : Nat} (h1 : (Nm.wds a).length ≤ k) (h2 : (Nm.wds b).length ≤ k) : (Nm.wds (a + b)).length ≤ k + 1 := by
  refine Nm.wds_len ?_
  have l1 := Nm.lt_wds a
  have l2 := Nm.lt_wds b
  have p1 := Nat.pow_le_pow_right Nm.B_pos h1
  have p2 := Nat.pow_le_pow_right Nm.B_pos h2
  rw [Nat.pow_succ]
  have h3 : Nm.B ^ k * 2 ≤ Nm.B ^ k * Nm.B := Nat.mul_le_mul_left _ (by decide)
  omega
theorem wds_pow (m : Nat) : (Nm.wds (2 ^ m)).length ≤ m + 1 := by
  refine Nm.wds_len ?_
  have h1 : (2 : Nat) ^ m ≤ Nm.B ^ m := Nat.pow_le_pow_left (by decide) m
  exact Nat.lt_of_le_of_lt h1 (Nat.pow_lt_pow_right (by decide) (Nat.lt_succ_self m))
theorem root_step {a r m : Nat} (h1 : r * r ≤ a) (h2 : a < (r + 2 ^ (m + 1)) * (r + 2 ^ (m + 1))) :
    ((r + 2 ^ m) * (r + 2 ^ m) ≤ a → (r + 2 ^ m) * (r + 2 ^ m) ≤ a ∧ a < (r + 2 ^ m + 2 ^ m) * (r + 2 ^ m + 2 ^ m)) := by
  intro h
  refine ⟨h, ?_⟩
  rw [show r + 2 ^ m + 2 ^ m = r + 2 ^ (m + 1) by rw [Nat.pow_succ]; omega]
  exact h2
set_option maxHeartbeats 2000000 in
theorem root_any (v1 : Value) (x : Nat) (w : World) (H1 : Big w v1 x) (hx : (Nm.wds x).length ≤ 1000) : Calls Tryz.prog 111 #[v1] w (BigPost w (Nm.rt x)) := by
  have HB1 := Lib.hid H1
  obtain ⟨N, hN⟩ : ∃ N, Nm.nb x = N := ⟨_, rfl⟩
  have hN2 : N ≤ 32000 := by
    have h1 := Nm.lt_wds x
    rw [Nm.Bp] at h1
    have := (Nm.nb_le_iff x _).2 h1
    omega
  obtain ⟨M, hM⟩ : ∃ M, (N + 1) / 2 = M := ⟨_, rfl⟩
  have hM1 : Int.tdiv ((N : Int) + 1) 2 = (M : Int) := by rw [Int.tdiv_eq_ediv_of_nonneg (by omega)]; omega
  have hM2 : ((N : Int) + 1) / 2 = (M : Int) := by omega
  have hM3 : M ≤ 16001 := by omega
  have R0 := Lib.hid (show 0 * 0 ≤ x ∧ x < (0 + 2 ^ (M + 1)) * (0 + 2 ^ (M + 1)) by
    refine ⟨by simp, ?_⟩
    rw [Nat.zero_add, ← Nat.pow_add]
    have h1 := Nm.nb_lt x
    rw [hN] at h1
    exact Nat.lt_of_lt_of_le h1 (Nat.pow_le_pow_right (by decide) (by omega)))
  have HN := Lib.hid hN
  have HX := Lib.hid hx
  have h1l := Lib.hid (show (Nm.wds 1).length ≤ 1 from Nm.wds_len2 (by decide))
  clear H1 hN hM hx
  go_enter Tryz.func111, Tryz.ntmps111
  go_wp2_with fail
  refine (bits_any _ x _ HB1.out).mono ?_
  rintro e w2 ⟨rfl, rfl⟩
  rw [HN.out]
  have B0 := Lib.hid (Below.refl w2.heap.size w2)
  have G0 := Lib.hid (Big.nil w2)
  go_wp2
  go_loopw [3, 4, 5] (fun v i _ wr => ∃ (j r : Nat), i = .int .i64 ((j : Int) - 1) ∧ j ≤ M + 1 ∧ Hid (Big wr v r) ∧ Hid (r * r ≤ x ∧ x < (r + 2 ^ j) * (r + 2 ^ j)) ∧ Hid (Below w2.heap.size w2 wr)) (fun _ i _ _ => (intOf i + 1).toNat)
  case atStart => exact ⟨M + 1, 0, by simp, Nat.le_refl _, G0, R0, B0⟩
  case round =>
    obtain ⟨j, r, rfl, hj, HR, HI, HB⟩ := hrel
    cases j with
    | zero =>
      have hi := HI.out
      rw [Nat.pow_zero] at hi
      have hr : r = Nm.rt x := Nm.IsRt.one ⟨hi.1, hi.2⟩ (Nm.rt_is x)
      have hbr := HR.out
      rw [hr] at hbr
      have GR := Lib.hid hbr
      clear hi hbr hr
      go_wp2
      go_ret
      exact ⟨_, rfl, GR.out, HB.out⟩
    | succ m =>
      have he : ((m + 1 : Nat) : Int) - 1 = (m : Int) := by omega
      rw [he]
      clear he
      have hm : m ≤ 16001 := by omega
      have hr0 : r ≤ x := by
        have := HI.out.1
        rcases Nat.eq_zero_or_pos r with h | h
        · omega
        · exact Nat.le_trans (Nat.le_mul_of_pos_left r h) this
      have hrl : (Nm.wds r).length ≤ 1000 := Nat.le_trans (Nm.wds_mono hr0) HX.out
      have hpl : (Nm.wds (1 * 2 ^ m)).length ≤ 16002 := by rw [Nat.one_mul]; exact Nat.le_trans (wds_pow m) (by omega)
      have hsl : (Nm.wds (r + 1 * 2 ^ m)).length ≤ 16003 := wds_sum (k := 16002) (by omega) hpl
      have CF := Lib.hid (fun w => from_any 1 (by decide) w)
      have CU := Lib.hid (fun v w H => up_any v 1 m w H (by have := h1l.out; omega) (by omega))
      have CP := Lib.hid (fun v3 v4 w H3 H4 => plus_any v3 v4 r (1 * 2 ^ m) w H3 H4 (by omega) (by omega))
      have CT := Lib.hid (fun v3 w H3 => times_any v3 v3 (r + 1 * 2 ^ m) (r + 1 * 2 ^ m) w H3 H3 (by omega) (by omega))
      obtain ⟨X, hX⟩ : ∃ X, r + 1 * 2 ^ m = X := ⟨_, rfl⟩
      have hX2 : r + 2 ^ m = X := by rw [← hX, Nat.one_mul]
      have hst := root_step HI.out.1 HI.out.2
      rw [hX2] at hst
      have HX2 := Lib.hid hX2
      have HST := Lib.hid hst
      rw [hX] at CP CT
      have CL := Lib.hid (fun v3 w H3 H4 => less_any v3 v1 (X * X) x w H3 H4)
      clear hX hX2 hst hrl hpl hsl
      by_cases hc : X * X ≤ x
      · obtain ⟨cc, hcc, hc0⟩ : ∃ cc, Nm.cmpN (X * X) x = cc ∧ cc ≤ 0 := ⟨_, rfl, by unfold Nm.cmpN; split; omega; split <;> omega⟩
        have dcc : decide (cc ≤ 0) = true := decide_eq_true hc0
        have HCC := Lib.hid hcc
        have HNX := Lib.hid (HST.out hc)
        clear hcc hc
        go_wp2_with fail
        refine (CF.out _).mono ?_
        rintro e w3 ⟨v3, rfl, hbig3, hb3⟩
        have G3 := Lib.hid hbig3
        have GR3 := Lib.hid (HR.out.below hb3)
        have BR3 := Lib.hid hb3
        clear hbig3 hb3
        go_wp2_with fail
        refine (CU.out _ _ G3.out).mono ?_
        rintro e w4 ⟨v4, rfl, hbig4, hb4⟩
        have G4 := Lib.hid hbig4
        have GR4 := Lib.hid (GR3.out.below hb4)
        have BR4 := Lib.hid (BR3.out.trans (hb4.mono BR3.out.size))
        clear hbig4 hb4
        go_wp2_with fail
        refine (CP.out _ _ _ GR4.out G4.out).mono ?_
        rintro e w5 ⟨v5, rfl, hbig5, hb5⟩
        have G5 := Lib.hid hbig5
        have BR5 := Lib.hid (BR4.out.trans (hb5.mono BR4.out.size))
        clear hbig5 hb5
        go_wp2_with fail
        refine (CT.out _ _ G5.out).mono ?_
        rintro e w6 ⟨v6, rfl, hbig6, hb6⟩
        have G6 := Lib.hid hbig6
        have G56 := Lib.hid (G5.out.below hb6)
        have BR := Lib.hid (BR5.out.trans (hb6.mono BR5.out.size))
        have HX6 := Lib.hid ((HB1.out.below HB.out).below BR.out)
        clear hbig6 hb6
        go_wp2_with fail
        refine (CL.out _ _ G6.out HX6.out).mono ?_
        rintro e w7 ⟨rfl, hb7⟩
        rw [HCC.out]
        have G9 := Lib.hid (G56.out.below hb7)
        have hb6 := Lib.hid hb7
        have B6 := Lib.hid (HB.out.trans ((BR.out.trans (hb7.mono BR.out.size)).mono HB.out.size))
        clear hb7
        go_wp2
        go_roundw
        case rel => exact ⟨m, X, rfl, by omega, G9, HNX, B6⟩
        case measure => simp [intOf]
      · obtain ⟨cc, hcc, hc0⟩ : ∃ cc, Nm.cmpN (X * X) x = cc ∧ 0 < cc := ⟨_, rfl, by unfold Nm.cmpN; rw [if_neg (by omega), if_pos (by omega)]; decide⟩
        have dcc : decide (cc ≤ 0) = false := decide_eq_false (by omega)
        have HCC := Lib.hid hcc
        have HNX := Lib.hid (show r * r ≤ x ∧ x < (r + 2 ^ m) * (r + 2 ^ m) by rw [HX2.out]; exact ⟨HI.out.1, by omega⟩)
        clear hcc hc
        go_wp2_with fail
        refine (CF.out _).mono ?_
        rintro e w3 ⟨v3, rfl, hbig3, hb3⟩
        have G3 := Lib.hid hbig3
        have GR3 := Lib.hid (HR.out.below hb3)
        have BR3 := Lib.hid hb3
        clear hbig3 hb3
        go_wp2_with fail
        refine (CU.out _ _ G3.out).mono ?_
        rintro e w4 ⟨v4, rfl, hbig4, hb4⟩
        have G4 := Lib.hid hbig4
        have GR4 := Lib.hid (GR3.out.below hb4)
        have BR4 := Lib.hid (BR3.out.trans (hb4.mono BR3.out.size))
        clear hbig4 hb4
        go_wp2_with fail
        refine (CP.out _ _ _ GR4.out G4.out).mono ?_
        rintro e w5 ⟨v5, rfl, hbig5, hb5⟩
        have G5 := Lib.hid hbig5
        have BR5 := Lib.hid (BR4.out.trans (hb5.mono BR4.out.size))
        clear hbig5 hb5
        go_wp2_with fail
        refine (CT.out _ _ G5.out).mono ?_
        rintro e w6 ⟨v6, rfl, hbig6, hb6⟩
        have G6 := Lib.hid hbig6
        have G56 := Lib.hid (G5.out.below hb6)
        have BR := Lib.hid (BR5.out.trans (hb6.mono BR5.out.size))
        have HX6 := Lib.hid ((HB1.out.below HB.out).below BR.out)
        clear hbig6 hb6
        go_wp2_with fail
        refine (CL.out _ _ G6.out HX6.out).mono ?_
        rintro e w7 ⟨rfl, hb7⟩
        rw [HCC.out]
        have G9 := Lib.hid (G56.out.below hb7)
        have hb6 := Lib.hid hb7
        have B6 := Lib.hid (HB.out.trans ((BR.out.trans (hb7.mono BR.out.size)).mono HB.out.size))
        clear hb7
        go_wp2
        go_roundw
        case rel => exact ⟨m, r, rfl, by omega, Lib.hid (HR.out.below (BR.out.trans (hb6.out.mono BR.out.size))), HNX, B6⟩
        case measure => simp [intOf]
end Go.Proofs.YtffohkpohgkglaaGreat
