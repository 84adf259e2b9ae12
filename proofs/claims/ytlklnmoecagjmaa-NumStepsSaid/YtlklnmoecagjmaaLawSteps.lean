/-
  THE WALK of NumSteps.
-/
import Derived.Test.YtlklnmoecagjmaaWalkF
import Derived.Test.YtlklnmoecagjmaaNumN
namespace Go.Proofs.Ytlklnmoecagjmaa
set_option linter.unusedVariables false
set_option linter.unusedSimpArgs false
open Go.RowKit
open Ieee
theorem int_one2 : dInt 1 = 4607182418800017408 := by decide +kernel
theorem one_any2 (w : World) : Calls Try.prog 58 #[.int .i64 1] w fun e w' => e = .returned (.int .u64 4607182418800017408) ∧ w' = w := by
  have := int_any 1 w
  rw [int_one2] at this
  exact this
theorem key_abs {t : Nat} (nt : Nm.isNaN t = false) : Nm.key (Nm.dAbs t) = (t % 2 ^ 63 : Nat) := by
  unfold Nm.dAbs
  rw [nt]
  simp only [Bool.false_eq_true, if_false]
  unfold Nm.key Nm.sg Nm.neg
  rw [decide_eq_false (by omega)]
  simp only [Bool.false_eq_true, if_false, Nat.mod_mod]
set_option maxRecDepth 100000 in
set_option maxHeartbeats 4000000 in
theorem numsteps_walk (a : Nat) (ha : a < 2 ^ 64) (w : World) :
    Calls Try.prog 11 #[.int .u64 (a : Int)] w (Gives w (.bool true)) := by
  obtain ⟨f, hf⟩ : ∃ x, Nm.dFloor a = x := ⟨_, rfl⟩
  obtain ⟨c, hc⟩ : ∃ x, Nm.dCeil a = x := ⟨_, rfl⟩
  obtain ⟨t, ht⟩ : ∃ x, Nm.dTrunc a = x := ⟨_, rfl⟩
  have lf : f < 2 ^ 64 := by rw [← hf]; exact (Nm.ok_step a _ ha).1
  have lc : c < 2 ^ 64 := by rw [← hc]; exact (Nm.ok_step a _ ha).1
  have lt : t < 2 ^ 64 := by rw [← ht]; exact (Nm.ok_step a _ ha).1
  have CF : Hid (∀ w, Calls Try.prog 42 #[.int .u64 (a : Nat)] w (Gives w (.int .u64 (f : Nat)))) := Lib.hid (by rw [← hf]; exact fun w => floor_any a ha w)
  have CC : Hid (∀ w, Calls Try.prog 44 #[.int .u64 (a : Nat)] w (Gives w (.int .u64 (c : Nat)))) := Lib.hid (by rw [← hc]; exact fun w => ceil_any a ha w)
  have CT : Hid (∀ w, Calls Try.prog 46 #[.int .u64 (a : Nat)] w (Gives w (.int .u64 (t : Nat)))) := Lib.hid (by rw [← ht]; exact fun w => trunc_any a ha w)
  have CK : Hid (∀ w, Calls Try.prog 31 #[] w (Gives w (.bool true))) := Lib.hid (by exact known_any)
  have CV : Hid (∀ w, Calls Try.prog 60 #[] w fun e w' => e = .returned (.int .u64 (Nm.nan : Nat)) ∧ w' = w) := Lib.hid (by exact nan_any)
  have CN : Hid (∀ w, Calls Try.prog 48 #[.int .u64 (a : Nat)] w fun e w' => e = .returned (.bool (Nm.isNaN a)) ∧ w' = w) := Lib.hid (by exact fun w => nannum_any a ha w)
  have CI : Hid (∀ w, Calls Try.prog 50 #[.int .u64 (a : Nat)] w fun e w' => e = .returned (.bool (Nm.isInf a)) ∧ w' = w) := Lib.hid (by exact fun w => infnum_any a ha w)
  cases hn : Nm.isNaN a
  · rw [hn] at CN
    cases hi : Nm.isInf a
    · have S := Nm.steps_fin ha (Nm.fin_lt hn hi)
      rw [hf, hc, ht] at S
      obtain ⟨s1, s2, s3, s4, s5, s6, s7, s8, n1, n2, n3, n4⟩ := S
      rw [hi] at CI
      obtain ⟨d, hd⟩ : ∃ x, Nm.dSub c f = x := ⟨_, rfl⟩
      obtain ⟨at', hat⟩ : ∃ x, Nm.dAbs t = x := ⟨_, rfl⟩
      obtain ⟨aa, haa⟩ : ∃ x, Nm.dAbs a = x := ⟨_, rfl⟩
      have ld : d < 2 ^ 64 := by rw [← hd]; exact (Nm.ok_add c _ lc (Nm.neg_lt f lf)).1
      have lat : at' < 2 ^ 64 := by rw [← hat]; exact (Nm.ok_abs t lt).1
      have laa : aa < 2 ^ 64 := by rw [← haa]; exact (Nm.ok_abs a ha).1
      obtain ⟨x, hx⟩ : ∃ v, Nm.dCmp f a = v := ⟨_, rfl⟩
      obtain ⟨y, hy⟩ : ∃ v, Nm.dCmp a c = v := ⟨_, rfl⟩
      obtain ⟨z, hz⟩ : ∃ v, Nm.dCmp d Nm.one = v := ⟨_, rfl⟩
      obtain ⟨v, hv⟩ : ∃ v, Nm.dCmp at' aa = v := ⟨_, rfl⟩
      obtain ⟨o1, ho1⟩ : ∃ v, Nm.dCok f a = v := ⟨_, rfl⟩
      obtain ⟨o2, ho2⟩ : ∃ v, Nm.dCok a c = v := ⟨_, rfl⟩
      obtain ⟨o3, ho3⟩ : ∃ v, Nm.dCok d Nm.one = v := ⟨_, rfl⟩
      obtain ⟨o4, ho4⟩ : ∃ v, Nm.dCok at' aa = v := ⟨_, rfl⟩
      have x1 : decide (x ≤ 0) = true := decide_eq_true (by rw [← hx]; exact Nm.cmp_le fun _ _ => s1)
      have y1 : decide (y ≤ 0) = true := decide_eq_true (by rw [← hy]; exact Nm.cmp_le fun _ _ => s2)
      have z1 : decide (z ≤ 0) = true := decide_eq_true (by rw [← hz, ← hd]; exact Nm.cmp_le fun _ _ => s3)
      have v1 : decide (v ≤ 0) = true := decide_eq_true (by
        rw [← hv, ← hat, ← haa]
        exact Nm.cmp_le fun _ _ => by rw [key_abs n3, key_abs hn]; omega)
      have C1 : Hid (∀ w, Calls Try.prog 29 #[.int .u64 (f : Nat), .int .u64 (a : Nat)] w fun e w' => e = .returned (.tuple #[.int .i64 x, .bool o1]) ∧ w' = w) := Lib.hid (by rw [← hx, ← ho1]; exact fun w => cmp_any f a lf ha w)
      have C2 : Hid (∀ w, Calls Try.prog 29 #[.int .u64 (a : Nat), .int .u64 (c : Nat)] w fun e w' => e = .returned (.tuple #[.int .i64 y, .bool o2]) ∧ w' = w) := Lib.hid (by rw [← hy, ← ho2]; exact fun w => cmp_any a c ha lc w)
      have C3 : Hid (∀ w, Calls Try.prog 29 #[.int .u64 (d : Nat), .int .u64 4607182418800017408] w fun e w' => e = .returned (.tuple #[.int .i64 z, .bool o3]) ∧ w' = w) := Lib.hid (by rw [← hz, ← ho3]; exact fun w => cmp_any d Nm.one ld (by decide) w)
      have C4 : Hid (∀ w, Calls Try.prog 29 #[.int .u64 (at' : Nat), .int .u64 (aa : Nat)] w fun e w' => e = .returned (.tuple #[.int .i64 v, .bool o4]) ∧ w' = w) := Lib.hid (by rw [← hv, ← ho4]; exact fun w => cmp_any at' aa lat laa w)
      have CD : Hid (∀ w, Calls Try.prog 15 #[.int .u64 (c : Nat), .int .u64 (f : Nat)] w (Gives w (.int .u64 (d : Nat)))) := Lib.hid (by rw [← hd]; exact fun w => sub_any c f lc lf w)
      have CAT : Hid (∀ w, Calls Try.prog 36 #[.int .u64 (t : Nat)] w fun e w' => e = .returned (.int .u64 (at' : Nat)) ∧ w' = w) := Lib.hid (by rw [← hat]; exact fun w => abs_any t lt w)
      have CAA : Hid (∀ w, Calls Try.prog 36 #[.int .u64 (a : Nat)] w fun e w' => e = .returned (.int .u64 (aa : Nat)) ∧ w' = w) := Lib.hid (by rw [← haa]; exact fun w => abs_any a ha w)
      have CFF : Hid (∀ w, Calls Try.prog 42 #[.int .u64 (f : Nat)] w (Gives w (.int .u64 (f : Nat)))) := Lib.hid (by have h := fun w => floor_any f lf w; rw [s4] at h; exact h)
      have CCF : Hid (∀ w, Calls Try.prog 44 #[.int .u64 (f : Nat)] w (Gives w (.int .u64 (f : Nat)))) := Lib.hid (by have h := fun w => ceil_any f lf w; rw [s5] at h; exact h)
      have CTC : Hid (∀ w, Calls Try.prog 46 #[.int .u64 (c : Nat)] w (Gives w (.int .u64 (c : Nat)))) := Lib.hid (by have h := fun w => trunc_any c lc w; rw [s6] at h; exact h)
      have I1 : Hid (∀ w, Calls Try.prog 58 #[.int .i64 1] w fun e w' => e = .returned (.int .u64 4607182418800017408) ∧ w' = w) := Lib.hid (by exact one_any2)
      have e1 : (((t : Nat) : Int) == ((f : Nat) : Int)) = (t == f) := by rw [Bool.eq_iff_iff]; simp; omega
      have e2 : (((t : Nat) : Int) == ((c : Nat) : Int)) = (t == c) := by rw [Bool.eq_iff_iff]; simp; omega
      have H8 : (t == f) = true ∨ (t == f) = false ∧ (t == c) = true := by
        by_cases h : t = f
        · left; simpa using h
        · right; exact ⟨by simpa using h, by simpa using s8.resolve_left h⟩
      clear hf hc ht lf lc lt hi hn s1 s2 s3 s4 s5 s6 s7 s8 n1 n2 n3 n4 hd hat haa ld lat laa hx hy hz hv ho1 ho2 ho3 ho4 ha
      rcases H8 with g1 | ⟨g1, g2⟩
      · rw [g1] at e1
        clear e2
        have B0 := Lib.hid (Below.refl w.heap.size w)
        go_enter Try.func11, Try.ntmps11
        go_wp2_with fail
        refine (CF.out _).mono ?_
        rintro e w2 ⟨rfl, hb⟩
        have B1 := Lib.hid (B0.out.trans (hb.mono B0.out.size))
        clear hb B0
        go_wp2_with fail
        refine (CC.out _).mono ?_
        rintro e w3 ⟨rfl, hb⟩
        have B2 := Lib.hid (B1.out.trans (hb.mono B1.out.size))
        clear hb B1
        go_wp2_with fail
        refine (CT.out _).mono ?_
        rintro e w4 ⟨rfl, hb⟩
        have B3 := Lib.hid (B2.out.trans (hb.mono B2.out.size))
        clear hb B2
        go_wp2_with fail
        refine (CN.out _).mono ?_
        rintro e w1 ⟨rfl, rfl⟩
        go_wp2_with fail
        refine (CI.out _).mono ?_
        rintro e w1 ⟨rfl, rfl⟩
        go_wp2_with fail
        refine (C1.out _).mono ?_
        rintro e w1 ⟨rfl, rfl⟩
        go_wp2_with fail
        refine (C2.out _).mono ?_
        rintro e w1 ⟨rfl, rfl⟩
        go_wp2_with fail
        refine (CD.out _).mono ?_
        rintro e w5 ⟨rfl, hb⟩
        have B4 := Lib.hid (B3.out.trans (hb.mono B3.out.size))
        clear hb B3
        go_wp2_with fail
        refine (I1.out _).mono ?_
        rintro e w1 ⟨rfl, rfl⟩
        go_wp2_with fail
        refine (C3.out _).mono ?_
        rintro e w1 ⟨rfl, rfl⟩
        go_wp2_with fail
        refine (CFF.out _).mono ?_
        rintro e w6 ⟨rfl, hb⟩
        have B5 := Lib.hid (B4.out.trans (hb.mono B4.out.size))
        clear hb B4
        go_wp2_with fail
        refine (CCF.out _).mono ?_
        rintro e w7 ⟨rfl, hb⟩
        have B6 := Lib.hid (B5.out.trans (hb.mono B5.out.size))
        clear hb B5
        go_wp2_with fail
        refine (CTC.out _).mono ?_
        rintro e w8 ⟨rfl, hb⟩
        have B7 := Lib.hid (B6.out.trans (hb.mono B6.out.size))
        clear hb B6
        go_wp2_with fail
        refine (CAT.out _).mono ?_
        rintro e w1 ⟨rfl, rfl⟩
        go_wp2_with fail
        refine (CAA.out _).mono ?_
        rintro e w1 ⟨rfl, rfl⟩
        go_wp2_with fail
        refine (C4.out _).mono ?_
        rintro e w1 ⟨rfl, rfl⟩
        go_wp2_with fail
        refine (CK.out _).mono ?_
        rintro e w9 ⟨rfl, hb⟩
        have B8 := Lib.hid (B7.out.trans (hb.mono B7.out.size))
        clear hb B7
        go_wp2
        go_ret
        exact ⟨rfl, B8.out⟩
      · rw [g1] at e1
        rw [g2] at e2
        have B0 := Lib.hid (Below.refl w.heap.size w)
        go_enter Try.func11, Try.ntmps11
        go_wp2_with fail
        refine (CF.out _).mono ?_
        rintro e w2 ⟨rfl, hb⟩
        have B1 := Lib.hid (B0.out.trans (hb.mono B0.out.size))
        clear hb B0
        go_wp2_with fail
        refine (CC.out _).mono ?_
        rintro e w3 ⟨rfl, hb⟩
        have B2 := Lib.hid (B1.out.trans (hb.mono B1.out.size))
        clear hb B1
        go_wp2_with fail
        refine (CT.out _).mono ?_
        rintro e w4 ⟨rfl, hb⟩
        have B3 := Lib.hid (B2.out.trans (hb.mono B2.out.size))
        clear hb B2
        go_wp2_with fail
        refine (CN.out _).mono ?_
        rintro e w1 ⟨rfl, rfl⟩
        go_wp2_with fail
        refine (CI.out _).mono ?_
        rintro e w1 ⟨rfl, rfl⟩
        go_wp2_with fail
        refine (C1.out _).mono ?_
        rintro e w1 ⟨rfl, rfl⟩
        go_wp2_with fail
        refine (C2.out _).mono ?_
        rintro e w1 ⟨rfl, rfl⟩
        go_wp2_with fail
        refine (CD.out _).mono ?_
        rintro e w5 ⟨rfl, hb⟩
        have B4 := Lib.hid (B3.out.trans (hb.mono B3.out.size))
        clear hb B3
        go_wp2_with fail
        refine (I1.out _).mono ?_
        rintro e w1 ⟨rfl, rfl⟩
        go_wp2_with fail
        refine (C3.out _).mono ?_
        rintro e w1 ⟨rfl, rfl⟩
        go_wp2_with fail
        refine (CFF.out _).mono ?_
        rintro e w6 ⟨rfl, hb⟩
        have B5 := Lib.hid (B4.out.trans (hb.mono B4.out.size))
        clear hb B4
        go_wp2_with fail
        refine (CCF.out _).mono ?_
        rintro e w7 ⟨rfl, hb⟩
        have B6 := Lib.hid (B5.out.trans (hb.mono B5.out.size))
        clear hb B5
        go_wp2_with fail
        refine (CTC.out _).mono ?_
        rintro e w8 ⟨rfl, hb⟩
        have B7 := Lib.hid (B6.out.trans (hb.mono B6.out.size))
        clear hb B6
        go_wp2_with fail
        refine (CAT.out _).mono ?_
        rintro e w1 ⟨rfl, rfl⟩
        go_wp2_with fail
        refine (CAA.out _).mono ?_
        rintro e w1 ⟨rfl, rfl⟩
        go_wp2_with fail
        refine (C4.out _).mono ?_
        rintro e w1 ⟨rfl, rfl⟩
        go_wp2_with fail
        refine (CK.out _).mono ?_
        rintro e w9 ⟨rfl, hb⟩
        have B8 := Lib.hid (B7.out.trans (hb.mono B7.out.size))
        clear hb B7
        go_wp2
        go_ret
        exact ⟨rfl, B8.out⟩
    · have q : ∀ o, Nm.dStep a o = a := fun o => by unfold Nm.dStep; rw [hn, hi]; rfl
      unfold Nm.dFloor at hf
      unfold Nm.dCeil at hc
      unfold Nm.dTrunc at ht
      rw [q] at hf hc ht
      subst hf
      subst hc
      subst ht
      rw [hi] at CI
      clear q hn hi lf lc lt ha
      have B0 := Lib.hid (Below.refl w.heap.size w)
      go_enter Try.func11, Try.ntmps11
      go_wp2_with fail
      refine (CF.out _).mono ?_
      rintro e w2 ⟨rfl, hb⟩
      have B1 := Lib.hid (B0.out.trans (hb.mono B0.out.size))
      clear hb B0
      go_wp2_with fail
      refine (CC.out _).mono ?_
      rintro e w3 ⟨rfl, hb⟩
      have B2 := Lib.hid (B1.out.trans (hb.mono B1.out.size))
      clear hb B1
      go_wp2_with fail
      refine (CT.out _).mono ?_
      rintro e w4 ⟨rfl, hb⟩
      have B3 := Lib.hid (B2.out.trans (hb.mono B2.out.size))
      clear hb B2
      go_wp2_with fail
      refine (CN.out _).mono ?_
      rintro e w1 ⟨rfl, rfl⟩
      go_wp2_with fail
      refine (CI.out _).mono ?_
      rintro e w1 ⟨rfl, rfl⟩
      go_wp2_with fail
      refine (CK.out _).mono ?_
      rintro e w5 ⟨rfl, hb⟩
      have B4 := Lib.hid (B3.out.trans (hb.mono B3.out.size))
      clear hb B3
      go_wp2_with fail
      refine (CI.out _).mono ?_
      rintro e w1 ⟨rfl, rfl⟩
      go_wp2
      go_ret
      exact ⟨rfl, B4.out⟩
  · have hi : Nm.isInf a = false := by
      cases hi : Nm.isInf a
      · rfl
      · rw [Nm.inf_nan hi] at hn; cases hn
    have q : ∀ o, Nm.dStep a o = Nm.nan := fun o => by unfold Nm.dStep; rw [hn]; rfl
    unfold Nm.dFloor at hf
    unfold Nm.dCeil at hc
    unfold Nm.dTrunc at ht
    rw [q] at hf hc ht
    subst hf
    subst hc
    subst ht
    rw [hn] at CN
    rw [hi] at CI
    clear q hn hi lf lc lt ha
    have B0 := Lib.hid (Below.refl w.heap.size w)
    go_enter Try.func11, Try.ntmps11
    go_wp2_with fail
    refine (CF.out _).mono ?_
    rintro e w2 ⟨rfl, hb⟩
    have B1 := Lib.hid (B0.out.trans (hb.mono B0.out.size))
    clear hb B0
    go_wp2_with fail
    refine (CC.out _).mono ?_
    rintro e w3 ⟨rfl, hb⟩
    have B2 := Lib.hid (B1.out.trans (hb.mono B1.out.size))
    clear hb B1
    go_wp2_with fail
    refine (CT.out _).mono ?_
    rintro e w4 ⟨rfl, hb⟩
    have B3 := Lib.hid (B2.out.trans (hb.mono B2.out.size))
    clear hb B2
    go_wp2_with fail
    refine (CN.out _).mono ?_
    rintro e w1 ⟨rfl, rfl⟩
    go_wp2_with fail
    refine (CK.out _).mono ?_
    rintro e w5 ⟨rfl, hb⟩
    have B4 := Lib.hid (B3.out.trans (hb.mono B3.out.size))
    clear hb B3
    go_wp2_with fail
    refine (CI.out _).mono ?_
    rintro e w1 ⟨rfl, rfl⟩
    go_wp2_with fail
    refine (CN.out _).mono ?_
    rintro e w1 ⟨rfl, rfl⟩
    go_wp2_with fail
    refine (CV.out _).mono ?_
    rintro e w1 ⟨rfl, rfl⟩
    go_wp2
    go_ret
    exact ⟨rfl, B4.out⟩
end Go.Proofs.Ytlklnmoecagjmaa
