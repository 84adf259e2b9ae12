/-
  THE WALK of NumRing.
-/
import Derived.Test.YtlklnmoecagjmaaWalkF
import Derived.Test.YtlklnmoecagjmaaNumM
namespace Go.Proofs.Ytlklnmoecagjmaa
set_option linter.unusedVariables false
set_option linter.unusedSimpArgs false
open Go.RowKit
open Ieee
theorem int_one : dInt 1 = 4607182418800017408 := by decide +kernel
theorem one_any (w : World) : Calls Try.prog 58 #[.int .i64 1] w fun e w' => e = .returned (.int .u64 4607182418800017408) ∧ w' = w := by
  have := int_any 1 w
  rw [int_one] at this
  exact this
theorem cast_beq (x y : Nat) : (((x : Nat) : Int) == ((y : Nat) : Int)) = (x == y) := by
  rw [Bool.eq_iff_iff]; simp; omega
theorem cast_beq0 (x : Nat) : (((x : Nat) : Int) == 0) = (x == 0) := by
  rw [Bool.eq_iff_iff]; simp
set_option maxRecDepth 100000 in
set_option maxHeartbeats 4000000 in
theorem numring_walk (a b : Nat) (ha : a < 2 ^ 64) (hb : b < 2 ^ 64) (w : World) :
    Calls Try.prog 8 #[.int .u64 (a : Int), .int .u64 (b : Int)] w (Gives w (.bool true)) := by
  obtain ⟨x, hx⟩ : ∃ x, Nm.dAdd a b = x := ⟨_, rfl⟩
  obtain ⟨m, hm⟩ : ∃ m, Nm.dMul a b = m := ⟨_, rfl⟩
  obtain ⟨s, hs⟩ : ∃ s, Nm.dSub a b = s := ⟨_, rfl⟩
  obtain ⟨t, ht⟩ : ∃ t, Nm.dSub b a = t := ⟨_, rfl⟩
  obtain ⟨nb, hnb⟩ : ∃ x, Nm.dNeg b = x := ⟨_, rfl⟩
  obtain ⟨na, hna⟩ : ∃ x, Nm.dNeg a = x := ⟨_, rfl⟩
  obtain ⟨nt, hnt⟩ : ∃ x, Nm.dNeg t = x := ⟨_, rfl⟩
  have lnb : nb < 2 ^ 64 := hnb ▸ Nm.neg_lt b hb
  have lna : na < 2 ^ 64 := hna ▸ Nm.neg_lt a ha
  have lt : t < 2 ^ 64 := by rw [← ht]; exact (Nm.ok_add _ _ hb (Nm.neg_lt a ha)).1
  have CA : Hid (∀ w, Calls Try.prog 13 #[.int .u64 (a : Nat), .int .u64 (b : Nat)] w (Gives w (.int .u64 (x : Nat)))) := Lib.hid (by rw [← hx]; exact fun w => add_any a b ha hb w)
  have CA2 : Hid (∀ w, Calls Try.prog 13 #[.int .u64 (b : Nat), .int .u64 (a : Nat)] w (Gives w (.int .u64 (x : Nat)))) := Lib.hid (by rw [← hx, Nm.dAdd_comm a b ha hb]; exact fun w => add_any b a hb ha w)
  have CM : Hid (∀ w, Calls Try.prog 17 #[.int .u64 (a : Nat), .int .u64 (b : Nat)] w (Gives w (.int .u64 (m : Nat)))) := Lib.hid (by rw [← hm]; exact fun w => mul_any a b ha hb w)
  have CM2 : Hid (∀ w, Calls Try.prog 17 #[.int .u64 (b : Nat), .int .u64 (a : Nat)] w (Gives w (.int .u64 (m : Nat)))) := Lib.hid (by rw [← hm, Nm.dMul_comm a b]; exact fun w => mul_any b a hb ha w)
  have CS : Hid (∀ w, Calls Try.prog 15 #[.int .u64 (a : Nat), .int .u64 (b : Nat)] w (Gives w (.int .u64 (s : Nat)))) := Lib.hid (by rw [← hs]; exact fun w => sub_any a b ha hb w)
  have CS2 : Hid (∀ w, Calls Try.prog 15 #[.int .u64 (b : Nat), .int .u64 (a : Nat)] w (Gives w (.int .u64 (t : Nat)))) := Lib.hid (by rw [← ht]; exact fun w => sub_any b a hb ha w)
  have CNB : Hid (∀ w, Calls Try.prog 34 #[.int .u64 (b : Nat)] w fun e w' => e = .returned (.int .u64 (nb : Nat)) ∧ w' = w) := Lib.hid (by rw [← hnb]; exact fun w => neg_any b hb w)
  have CAN : Hid (∀ w, Calls Try.prog 13 #[.int .u64 (a : Nat), .int .u64 (nb : Nat)] w (Gives w (.int .u64 (s : Nat)))) := Lib.hid (by rw [← hs, ← hnb]; exact fun w => add_any a (Nm.dNeg b) ha (Nm.neg_lt b hb) w)
  have CNT : Hid (∀ w, Calls Try.prog 34 #[.int .u64 (t : Nat)] w fun e w' => e = .returned (.int .u64 (nt : Nat)) ∧ w' = w) := Lib.hid (by rw [← hnt]; exact fun w => neg_any t lt w)
  have CNA : Hid (∀ w, Calls Try.prog 34 #[.int .u64 (a : Nat)] w fun e w' => e = .returned (.int .u64 (na : Nat)) ∧ w' = w) := Lib.hid (by rw [← hna]; exact fun w => neg_any a ha w)
  have CK : Hid (∀ w, Calls Try.prog 31 #[] w (Gives w (.bool true))) := Lib.hid (by exact known_any)
  have CV : Hid (∀ w, Calls Try.prog 60 #[] w fun e w' => e = .returned (.int .u64 (Nm.nan : Nat)) ∧ w' = w) := Lib.hid (by exact nan_any)
  have I1 : Hid (∀ w, Calls Try.prog 58 #[.int .i64 1] w fun e w' => e = .returned (.int .u64 4607182418800017408) ∧ w' = w) := Lib.hid (by exact one_any)
  have CN : Hid (∀ w, Calls Try.prog 48 #[.int .u64 (a : Nat)] w fun e w' => e = .returned (.bool (Nm.isNaN a)) ∧ w' = w) := Lib.hid (by exact fun w => nannum_any a ha w)
  have CI : Hid (∀ w, Calls Try.prog 50 #[.int .u64 (a : Nat)] w fun e w' => e = .returned (.bool (Nm.isInf a)) ∧ w' = w) := Lib.hid (by exact fun w => infnum_any a ha w)
  have HW : Hid ((s == nt) = true ∧ (s == 0) = false ∨ (s == nt) = true ∧ (s == 0) = true ∧ (t == 0) = false ∨ (s == nt) = false ∧ (s == 0) = true ∧ (t == 0) = true) := Lib.hid (by
    have h := Nm.sub_turn ha hb
    rw [hs, ht, hnt] at h
    by_cases h1 : s = nt
    · by_cases h2 : s = 0
      · right; left
        have := Nm.neg_zero_ne (h1.trans hnt.symm) h2
        exact ⟨by simpa using h1, by simpa using h2, by simpa using this⟩
      · left; exact ⟨by simpa using h1, by simpa using h2⟩
    · rcases h with h | ⟨h2, h3⟩
      · exact absurd h h1
      · right; right; exact ⟨by simpa using h1, by simpa using h2, by simpa using h3⟩)
  have e1 := cast_beq s nt
  have e2 := cast_beq0 s
  have e3 := cast_beq0 t
  clear hs ht hnt hnb
  have HA := Lib.hid ha
  have LA := Lib.hid lna
  clear ha hb lnb lna lt
  cases hn : Nm.isNaN a
  · have CNN : Hid (∀ w, Calls Try.prog 34 #[.int .u64 (na : Nat)] w fun e w' => e = .returned (.int .u64 (a : Nat)) ∧ w' = w) := Lib.hid (by
      have h := Nm.dNeg_neg HA.out hn
      rw [hna] at h
      have h2 := fun w => neg_any na LA.out w
      rw [h] at h2
      exact h2)
    have CM1 : Hid (∀ w, Calls Try.prog 17 #[.int .u64 (a : Nat), .int .u64 4607182418800017408] w (Gives w (.int .u64 (a : Nat)))) := Lib.hid (by
      have h := Nm.mul_one HA.out hn
      have h2 := fun w => mul_any a Nm.one HA.out (by decide) w
      rw [h] at h2
      exact h2)
    have CD1 : Hid (∀ w, Calls Try.prog 19 #[.int .u64 (a : Nat), .int .u64 4607182418800017408] w (Gives w (.int .u64 (a : Nat)))) := Lib.hid (by
      have h := Nm.div_one HA.out hn
      have h2 := fun w => div_any a Nm.one HA.out (by decide) w
      rw [h] at h2
      exact h2)
    have CS0 : Hid (∀ w, Calls Try.prog 15 #[.int .u64 (a : Nat), .int .u64 0] w (Gives w (.int .u64 (a : Nat)))) := Lib.hid (by
      have h := Nm.sub_zero HA.out hn
      have h2 := fun w => sub_any a 0 HA.out (by decide) w
      rw [h] at h2
      exact h2)
    rw [hn] at CN
    cases hi : Nm.isInf a
    · have CSA : Hid (∀ w, Calls Try.prog 15 #[.int .u64 (a : Nat), .int .u64 (a : Nat)] w (Gives w (.int .u64 0))) := Lib.hid (by
        have h := Nm.sub_self HA.out hn hi
        have h2 := fun w => sub_any a a HA.out HA.out w
        rw [h] at h2
        exact h2)
      obtain ⟨c, hc⟩ : ∃ c, Nm.dCmp a 0 = c := ⟨_, rfl⟩
      obtain ⟨ok, hok⟩ : ∃ ok, Nm.dCok a 0 = ok := ⟨_, rfl⟩
      have CC : Hid (∀ w, Calls Try.prog 29 #[.int .u64 (a : Nat), .int .u64 0] w fun e w' => e = .returned (.tuple #[.int .i64 c, .bool ok]) ∧ w' = w) := Lib.hid (by rw [← hc, ← hok]; exact fun w => cmp_any a 0 HA.out (by decide) w)
      have hcz := Nm.cmp_zero hn
      rw [hc] at hcz
      rw [hi] at CI
      cases hz : Nm.nought a
      · have CDA : Hid (∀ w, Calls Try.prog 19 #[.int .u64 (a : Nat), .int .u64 (a : Nat)] w (Gives w (.int .u64 4607182418800017408))) := Lib.hid (by
          have h := Nm.div_self hn hi hz
          have h2 := fun w => div_any a a HA.out HA.out w
          rw [h] at h2
          exact h2)
        rw [hz] at hcz
        clear hx hm hna hc hok hi hn hz
        rcases HW.out with ⟨g1, g2⟩ | ⟨g1, g2, g3⟩ | ⟨g1, g2, g3⟩
        · rw [g1] at e1; rw [g2] at e2; clear e3
          clear HW
          have B0 := Lib.hid (Below.refl w.heap.size w)
          go_enter Try.func8, Try.ntmps8
          go_wp2_with fail
          refine (CA.out _).mono ?_
          rintro e w2 ⟨rfl, hb⟩
          have B1 := Lib.hid (B0.out.trans (hb.mono B0.out.size))
          clear hb B0
          go_wp2_with fail
          refine (CA2.out _).mono ?_
          rintro e w3 ⟨rfl, hb⟩
          have B2 := Lib.hid (B1.out.trans (hb.mono B1.out.size))
          clear hb B1
          go_wp2_with fail
          refine (CM.out _).mono ?_
          rintro e w4 ⟨rfl, hb⟩
          have B3 := Lib.hid (B2.out.trans (hb.mono B2.out.size))
          clear hb B2
          go_wp2_with fail
          refine (CM2.out _).mono ?_
          rintro e w5 ⟨rfl, hb⟩
          have B4 := Lib.hid (B3.out.trans (hb.mono B3.out.size))
          clear hb B3
          go_wp2_with fail
          refine (CS.out _).mono ?_
          rintro e w6 ⟨rfl, hb⟩
          have B5 := Lib.hid (B4.out.trans (hb.mono B4.out.size))
          clear hb B4
          go_wp2_with fail
          refine (CNB.out _).mono ?_
          rintro e w1 ⟨rfl, rfl⟩
          go_wp2_with fail
          refine (CAN.out _).mono ?_
          rintro e w7 ⟨rfl, hb⟩
          have B6 := Lib.hid (B5.out.trans (hb.mono B5.out.size))
          clear hb B5
          go_wp2_with fail
          refine (CS.out _).mono ?_
          rintro e w8 ⟨rfl, hb⟩
          have B7 := Lib.hid (B6.out.trans (hb.mono B6.out.size))
          clear hb B6
          go_wp2_with fail
          refine (CS2.out _).mono ?_
          rintro e w9 ⟨rfl, hb⟩
          have B8 := Lib.hid (B7.out.trans (hb.mono B7.out.size))
          clear hb B7
          go_wp2_with fail
          refine (CNT.out _).mono ?_
          rintro e w1 ⟨rfl, rfl⟩
          go_wp2_with fail
          refine (CS.out _).mono ?_
          rintro e w10 ⟨rfl, hb⟩
          have B9 := Lib.hid (B8.out.trans (hb.mono B8.out.size))
          clear hb B8
          go_wp2_with fail
          refine (CN.out _).mono ?_
          rintro e w1 ⟨rfl, rfl⟩
          go_wp2_with fail
          refine (CNA.out _).mono ?_
          rintro e w1 ⟨rfl, rfl⟩
          go_wp2_with fail
          refine (CNN.out _).mono ?_
          rintro e w1 ⟨rfl, rfl⟩
          go_wp2_with fail
          refine (I1.out _).mono ?_
          rintro e w1 ⟨rfl, rfl⟩
          go_wp2_with fail
          refine (CM1.out _).mono ?_
          rintro e w11 ⟨rfl, hb⟩
          have B10 := Lib.hid (B9.out.trans (hb.mono B9.out.size))
          clear hb B9
          go_wp2_with fail
          refine (I1.out _).mono ?_
          rintro e w1 ⟨rfl, rfl⟩
          go_wp2_with fail
          refine (CD1.out _).mono ?_
          rintro e w12 ⟨rfl, hb⟩
          have B11 := Lib.hid (B10.out.trans (hb.mono B10.out.size))
          clear hb B10
          go_wp2_with fail
          refine (CS0.out _).mono ?_
          rintro e w13 ⟨rfl, hb⟩
          have B12 := Lib.hid (B11.out.trans (hb.mono B11.out.size))
          clear hb B11
          go_wp2_with fail
          refine (CI.out _).mono ?_
          rintro e w1 ⟨rfl, rfl⟩
          go_wp2_with fail
          refine (CC.out _).mono ?_
          rintro e w1 ⟨rfl, rfl⟩
          go_wp2_with fail
          refine (CK.out _).mono ?_
          rintro e w14 ⟨rfl, hb⟩
          have B13 := Lib.hid (B12.out.trans (hb.mono B12.out.size))
          clear hb B12
          go_wp2_with fail
          refine (CSA.out _).mono ?_
          rintro e w15 ⟨rfl, hb⟩
          have B14 := Lib.hid (B13.out.trans (hb.mono B13.out.size))
          clear hb B13
          go_wp2_with fail
          refine (CDA.out _).mono ?_
          rintro e w16 ⟨rfl, hb⟩
          have B15 := Lib.hid (B14.out.trans (hb.mono B14.out.size))
          clear hb B14
          go_wp2_with fail
          refine (I1.out _).mono ?_
          rintro e w1 ⟨rfl, rfl⟩
          go_wp2
          go_ret
          exact ⟨rfl, B15.out⟩
        · rw [g1] at e1; rw [g2] at e2; rw [g3] at e3
          clear HW
          have B0 := Lib.hid (Below.refl w.heap.size w)
          go_enter Try.func8, Try.ntmps8
          go_wp2_with fail
          refine (CA.out _).mono ?_
          rintro e w2 ⟨rfl, hb⟩
          have B1 := Lib.hid (B0.out.trans (hb.mono B0.out.size))
          clear hb B0
          go_wp2_with fail
          refine (CA2.out _).mono ?_
          rintro e w3 ⟨rfl, hb⟩
          have B2 := Lib.hid (B1.out.trans (hb.mono B1.out.size))
          clear hb B1
          go_wp2_with fail
          refine (CM.out _).mono ?_
          rintro e w4 ⟨rfl, hb⟩
          have B3 := Lib.hid (B2.out.trans (hb.mono B2.out.size))
          clear hb B2
          go_wp2_with fail
          refine (CM2.out _).mono ?_
          rintro e w5 ⟨rfl, hb⟩
          have B4 := Lib.hid (B3.out.trans (hb.mono B3.out.size))
          clear hb B3
          go_wp2_with fail
          refine (CS.out _).mono ?_
          rintro e w6 ⟨rfl, hb⟩
          have B5 := Lib.hid (B4.out.trans (hb.mono B4.out.size))
          clear hb B4
          go_wp2_with fail
          refine (CNB.out _).mono ?_
          rintro e w1 ⟨rfl, rfl⟩
          go_wp2_with fail
          refine (CAN.out _).mono ?_
          rintro e w7 ⟨rfl, hb⟩
          have B6 := Lib.hid (B5.out.trans (hb.mono B5.out.size))
          clear hb B5
          go_wp2_with fail
          refine (CS.out _).mono ?_
          rintro e w8 ⟨rfl, hb⟩
          have B7 := Lib.hid (B6.out.trans (hb.mono B6.out.size))
          clear hb B6
          go_wp2_with fail
          refine (CS2.out _).mono ?_
          rintro e w9 ⟨rfl, hb⟩
          have B8 := Lib.hid (B7.out.trans (hb.mono B7.out.size))
          clear hb B7
          go_wp2_with fail
          refine (CNT.out _).mono ?_
          rintro e w1 ⟨rfl, rfl⟩
          go_wp2_with fail
          refine (CS.out _).mono ?_
          rintro e w10 ⟨rfl, hb⟩
          have B9 := Lib.hid (B8.out.trans (hb.mono B8.out.size))
          clear hb B8
          go_wp2_with fail
          refine (CS2.out _).mono ?_
          rintro e w11 ⟨rfl, hb⟩
          have B10 := Lib.hid (B9.out.trans (hb.mono B9.out.size))
          clear hb B9
          go_wp2_with fail
          refine (CN.out _).mono ?_
          rintro e w1 ⟨rfl, rfl⟩
          go_wp2_with fail
          refine (CNA.out _).mono ?_
          rintro e w1 ⟨rfl, rfl⟩
          go_wp2_with fail
          refine (CNN.out _).mono ?_
          rintro e w1 ⟨rfl, rfl⟩
          go_wp2_with fail
          refine (I1.out _).mono ?_
          rintro e w1 ⟨rfl, rfl⟩
          go_wp2_with fail
          refine (CM1.out _).mono ?_
          rintro e w12 ⟨rfl, hb⟩
          have B11 := Lib.hid (B10.out.trans (hb.mono B10.out.size))
          clear hb B10
          go_wp2_with fail
          refine (I1.out _).mono ?_
          rintro e w1 ⟨rfl, rfl⟩
          go_wp2_with fail
          refine (CD1.out _).mono ?_
          rintro e w13 ⟨rfl, hb⟩
          have B12 := Lib.hid (B11.out.trans (hb.mono B11.out.size))
          clear hb B11
          go_wp2_with fail
          refine (CS0.out _).mono ?_
          rintro e w14 ⟨rfl, hb⟩
          have B13 := Lib.hid (B12.out.trans (hb.mono B12.out.size))
          clear hb B12
          go_wp2_with fail
          refine (CI.out _).mono ?_
          rintro e w1 ⟨rfl, rfl⟩
          go_wp2_with fail
          refine (CC.out _).mono ?_
          rintro e w1 ⟨rfl, rfl⟩
          go_wp2_with fail
          refine (CK.out _).mono ?_
          rintro e w15 ⟨rfl, hb⟩
          have B14 := Lib.hid (B13.out.trans (hb.mono B13.out.size))
          clear hb B13
          go_wp2_with fail
          refine (CSA.out _).mono ?_
          rintro e w16 ⟨rfl, hb⟩
          have B15 := Lib.hid (B14.out.trans (hb.mono B14.out.size))
          clear hb B14
          go_wp2_with fail
          refine (CDA.out _).mono ?_
          rintro e w17 ⟨rfl, hb⟩
          have B16 := Lib.hid (B15.out.trans (hb.mono B15.out.size))
          clear hb B15
          go_wp2_with fail
          refine (I1.out _).mono ?_
          rintro e w1 ⟨rfl, rfl⟩
          go_wp2
          go_ret
          exact ⟨rfl, B16.out⟩
        · rw [g1] at e1; rw [g2] at e2; rw [g3] at e3
          clear HW
          have B0 := Lib.hid (Below.refl w.heap.size w)
          go_enter Try.func8, Try.ntmps8
          go_wp2_with fail
          refine (CA.out _).mono ?_
          rintro e w2 ⟨rfl, hb⟩
          have B1 := Lib.hid (B0.out.trans (hb.mono B0.out.size))
          clear hb B0
          go_wp2_with fail
          refine (CA2.out _).mono ?_
          rintro e w3 ⟨rfl, hb⟩
          have B2 := Lib.hid (B1.out.trans (hb.mono B1.out.size))
          clear hb B1
          go_wp2_with fail
          refine (CM.out _).mono ?_
          rintro e w4 ⟨rfl, hb⟩
          have B3 := Lib.hid (B2.out.trans (hb.mono B2.out.size))
          clear hb B2
          go_wp2_with fail
          refine (CM2.out _).mono ?_
          rintro e w5 ⟨rfl, hb⟩
          have B4 := Lib.hid (B3.out.trans (hb.mono B3.out.size))
          clear hb B3
          go_wp2_with fail
          refine (CS.out _).mono ?_
          rintro e w6 ⟨rfl, hb⟩
          have B5 := Lib.hid (B4.out.trans (hb.mono B4.out.size))
          clear hb B4
          go_wp2_with fail
          refine (CNB.out _).mono ?_
          rintro e w1 ⟨rfl, rfl⟩
          go_wp2_with fail
          refine (CAN.out _).mono ?_
          rintro e w7 ⟨rfl, hb⟩
          have B6 := Lib.hid (B5.out.trans (hb.mono B5.out.size))
          clear hb B5
          go_wp2_with fail
          refine (CS.out _).mono ?_
          rintro e w8 ⟨rfl, hb⟩
          have B7 := Lib.hid (B6.out.trans (hb.mono B6.out.size))
          clear hb B6
          go_wp2_with fail
          refine (CS2.out _).mono ?_
          rintro e w9 ⟨rfl, hb⟩
          have B8 := Lib.hid (B7.out.trans (hb.mono B7.out.size))
          clear hb B7
          go_wp2_with fail
          refine (CNT.out _).mono ?_
          rintro e w1 ⟨rfl, rfl⟩
          go_wp2_with fail
          refine (CS.out _).mono ?_
          rintro e w10 ⟨rfl, hb⟩
          have B9 := Lib.hid (B8.out.trans (hb.mono B8.out.size))
          clear hb B8
          go_wp2_with fail
          refine (CS2.out _).mono ?_
          rintro e w11 ⟨rfl, hb⟩
          have B10 := Lib.hid (B9.out.trans (hb.mono B9.out.size))
          clear hb B9
          go_wp2_with fail
          refine (CA.out _).mono ?_
          rintro e w12 ⟨rfl, hb⟩
          have B11 := Lib.hid (B10.out.trans (hb.mono B10.out.size))
          clear hb B10
          go_wp2_with fail
          refine (CA2.out _).mono ?_
          rintro e w13 ⟨rfl, hb⟩
          have B12 := Lib.hid (B11.out.trans (hb.mono B11.out.size))
          clear hb B11
          go_wp2_with fail
          refine (CM.out _).mono ?_
          rintro e w14 ⟨rfl, hb⟩
          have B13 := Lib.hid (B12.out.trans (hb.mono B12.out.size))
          clear hb B12
          go_wp2_with fail
          refine (CM2.out _).mono ?_
          rintro e w15 ⟨rfl, hb⟩
          have B14 := Lib.hid (B13.out.trans (hb.mono B13.out.size))
          clear hb B13
          go_wp2_with fail
          refine (CN.out _).mono ?_
          rintro e w1 ⟨rfl, rfl⟩
          go_wp2_with fail
          refine (CNA.out _).mono ?_
          rintro e w1 ⟨rfl, rfl⟩
          go_wp2_with fail
          refine (CNN.out _).mono ?_
          rintro e w1 ⟨rfl, rfl⟩
          go_wp2_with fail
          refine (I1.out _).mono ?_
          rintro e w1 ⟨rfl, rfl⟩
          go_wp2_with fail
          refine (CM1.out _).mono ?_
          rintro e w16 ⟨rfl, hb⟩
          have B15 := Lib.hid (B14.out.trans (hb.mono B14.out.size))
          clear hb B14
          go_wp2_with fail
          refine (I1.out _).mono ?_
          rintro e w1 ⟨rfl, rfl⟩
          go_wp2_with fail
          refine (CD1.out _).mono ?_
          rintro e w17 ⟨rfl, hb⟩
          have B16 := Lib.hid (B15.out.trans (hb.mono B15.out.size))
          clear hb B15
          go_wp2_with fail
          refine (CS0.out _).mono ?_
          rintro e w18 ⟨rfl, hb⟩
          have B17 := Lib.hid (B16.out.trans (hb.mono B16.out.size))
          clear hb B16
          go_wp2_with fail
          refine (CI.out _).mono ?_
          rintro e w1 ⟨rfl, rfl⟩
          go_wp2_with fail
          refine (CC.out _).mono ?_
          rintro e w1 ⟨rfl, rfl⟩
          go_wp2_with fail
          refine (CK.out _).mono ?_
          rintro e w19 ⟨rfl, hb⟩
          have B18 := Lib.hid (B17.out.trans (hb.mono B17.out.size))
          clear hb B17
          go_wp2_with fail
          refine (CSA.out _).mono ?_
          rintro e w20 ⟨rfl, hb⟩
          have B19 := Lib.hid (B18.out.trans (hb.mono B18.out.size))
          clear hb B18
          go_wp2_with fail
          refine (CDA.out _).mono ?_
          rintro e w21 ⟨rfl, hb⟩
          have B20 := Lib.hid (B19.out.trans (hb.mono B19.out.size))
          clear hb B19
          go_wp2_with fail
          refine (I1.out _).mono ?_
          rintro e w1 ⟨rfl, rfl⟩
          go_wp2
          go_ret
          exact ⟨rfl, B20.out⟩
      · rw [hz] at hcz
        clear hx hm hna hc hok hi hn hz
        rcases HW.out with ⟨g1, g2⟩ | ⟨g1, g2, g3⟩ | ⟨g1, g2, g3⟩
        · rw [g1] at e1; rw [g2] at e2; clear e3
          clear HW
          have B0 := Lib.hid (Below.refl w.heap.size w)
          go_enter Try.func8, Try.ntmps8
          go_wp2_with fail
          refine (CA.out _).mono ?_
          rintro e w2 ⟨rfl, hb⟩
          have B1 := Lib.hid (B0.out.trans (hb.mono B0.out.size))
          clear hb B0
          go_wp2_with fail
          refine (CA2.out _).mono ?_
          rintro e w3 ⟨rfl, hb⟩
          have B2 := Lib.hid (B1.out.trans (hb.mono B1.out.size))
          clear hb B1
          go_wp2_with fail
          refine (CM.out _).mono ?_
          rintro e w4 ⟨rfl, hb⟩
          have B3 := Lib.hid (B2.out.trans (hb.mono B2.out.size))
          clear hb B2
          go_wp2_with fail
          refine (CM2.out _).mono ?_
          rintro e w5 ⟨rfl, hb⟩
          have B4 := Lib.hid (B3.out.trans (hb.mono B3.out.size))
          clear hb B3
          go_wp2_with fail
          refine (CS.out _).mono ?_
          rintro e w6 ⟨rfl, hb⟩
          have B5 := Lib.hid (B4.out.trans (hb.mono B4.out.size))
          clear hb B4
          go_wp2_with fail
          refine (CNB.out _).mono ?_
          rintro e w1 ⟨rfl, rfl⟩
          go_wp2_with fail
          refine (CAN.out _).mono ?_
          rintro e w7 ⟨rfl, hb⟩
          have B6 := Lib.hid (B5.out.trans (hb.mono B5.out.size))
          clear hb B5
          go_wp2_with fail
          refine (CS.out _).mono ?_
          rintro e w8 ⟨rfl, hb⟩
          have B7 := Lib.hid (B6.out.trans (hb.mono B6.out.size))
          clear hb B6
          go_wp2_with fail
          refine (CS2.out _).mono ?_
          rintro e w9 ⟨rfl, hb⟩
          have B8 := Lib.hid (B7.out.trans (hb.mono B7.out.size))
          clear hb B7
          go_wp2_with fail
          refine (CNT.out _).mono ?_
          rintro e w1 ⟨rfl, rfl⟩
          go_wp2_with fail
          refine (CS.out _).mono ?_
          rintro e w10 ⟨rfl, hb⟩
          have B9 := Lib.hid (B8.out.trans (hb.mono B8.out.size))
          clear hb B8
          go_wp2_with fail
          refine (CN.out _).mono ?_
          rintro e w1 ⟨rfl, rfl⟩
          go_wp2_with fail
          refine (CNA.out _).mono ?_
          rintro e w1 ⟨rfl, rfl⟩
          go_wp2_with fail
          refine (CNN.out _).mono ?_
          rintro e w1 ⟨rfl, rfl⟩
          go_wp2_with fail
          refine (I1.out _).mono ?_
          rintro e w1 ⟨rfl, rfl⟩
          go_wp2_with fail
          refine (CM1.out _).mono ?_
          rintro e w11 ⟨rfl, hb⟩
          have B10 := Lib.hid (B9.out.trans (hb.mono B9.out.size))
          clear hb B9
          go_wp2_with fail
          refine (I1.out _).mono ?_
          rintro e w1 ⟨rfl, rfl⟩
          go_wp2_with fail
          refine (CD1.out _).mono ?_
          rintro e w12 ⟨rfl, hb⟩
          have B11 := Lib.hid (B10.out.trans (hb.mono B10.out.size))
          clear hb B10
          go_wp2_with fail
          refine (CS0.out _).mono ?_
          rintro e w13 ⟨rfl, hb⟩
          have B12 := Lib.hid (B11.out.trans (hb.mono B11.out.size))
          clear hb B11
          go_wp2_with fail
          refine (CI.out _).mono ?_
          rintro e w1 ⟨rfl, rfl⟩
          go_wp2_with fail
          refine (CC.out _).mono ?_
          rintro e w1 ⟨rfl, rfl⟩
          go_wp2_with fail
          refine (CK.out _).mono ?_
          rintro e w14 ⟨rfl, hb⟩
          have B13 := Lib.hid (B12.out.trans (hb.mono B12.out.size))
          clear hb B12
          go_wp2_with fail
          refine (CSA.out _).mono ?_
          rintro e w15 ⟨rfl, hb⟩
          have B14 := Lib.hid (B13.out.trans (hb.mono B13.out.size))
          clear hb B13
          go_wp2
          go_ret
          exact ⟨rfl, B14.out⟩
        · rw [g1] at e1; rw [g2] at e2; rw [g3] at e3
          clear HW
          have B0 := Lib.hid (Below.refl w.heap.size w)
          go_enter Try.func8, Try.ntmps8
          go_wp2_with fail
          refine (CA.out _).mono ?_
          rintro e w2 ⟨rfl, hb⟩
          have B1 := Lib.hid (B0.out.trans (hb.mono B0.out.size))
          clear hb B0
          go_wp2_with fail
          refine (CA2.out _).mono ?_
          rintro e w3 ⟨rfl, hb⟩
          have B2 := Lib.hid (B1.out.trans (hb.mono B1.out.size))
          clear hb B1
          go_wp2_with fail
          refine (CM.out _).mono ?_
          rintro e w4 ⟨rfl, hb⟩
          have B3 := Lib.hid (B2.out.trans (hb.mono B2.out.size))
          clear hb B2
          go_wp2_with fail
          refine (CM2.out _).mono ?_
          rintro e w5 ⟨rfl, hb⟩
          have B4 := Lib.hid (B3.out.trans (hb.mono B3.out.size))
          clear hb B3
          go_wp2_with fail
          refine (CS.out _).mono ?_
          rintro e w6 ⟨rfl, hb⟩
          have B5 := Lib.hid (B4.out.trans (hb.mono B4.out.size))
          clear hb B4
          go_wp2_with fail
          refine (CNB.out _).mono ?_
          rintro e w1 ⟨rfl, rfl⟩
          go_wp2_with fail
          refine (CAN.out _).mono ?_
          rintro e w7 ⟨rfl, hb⟩
          have B6 := Lib.hid (B5.out.trans (hb.mono B5.out.size))
          clear hb B5
          go_wp2_with fail
          refine (CS.out _).mono ?_
          rintro e w8 ⟨rfl, hb⟩
          have B7 := Lib.hid (B6.out.trans (hb.mono B6.out.size))
          clear hb B6
          go_wp2_with fail
          refine (CS2.out _).mono ?_
          rintro e w9 ⟨rfl, hb⟩
          have B8 := Lib.hid (B7.out.trans (hb.mono B7.out.size))
          clear hb B7
          go_wp2_with fail
          refine (CNT.out _).mono ?_
          rintro e w1 ⟨rfl, rfl⟩
          go_wp2_with fail
          refine (CS.out _).mono ?_
          rintro e w10 ⟨rfl, hb⟩
          have B9 := Lib.hid (B8.out.trans (hb.mono B8.out.size))
          clear hb B8
          go_wp2_with fail
          refine (CS2.out _).mono ?_
          rintro e w11 ⟨rfl, hb⟩
          have B10 := Lib.hid (B9.out.trans (hb.mono B9.out.size))
          clear hb B9
          go_wp2_with fail
          refine (CN.out _).mono ?_
          rintro e w1 ⟨rfl, rfl⟩
          go_wp2_with fail
          refine (CNA.out _).mono ?_
          rintro e w1 ⟨rfl, rfl⟩
          go_wp2_with fail
          refine (CNN.out _).mono ?_
          rintro e w1 ⟨rfl, rfl⟩
          go_wp2_with fail
          refine (I1.out _).mono ?_
          rintro e w1 ⟨rfl, rfl⟩
          go_wp2_with fail
          refine (CM1.out _).mono ?_
          rintro e w12 ⟨rfl, hb⟩
          have B11 := Lib.hid (B10.out.trans (hb.mono B10.out.size))
          clear hb B10
          go_wp2_with fail
          refine (I1.out _).mono ?_
          rintro e w1 ⟨rfl, rfl⟩
          go_wp2_with fail
          refine (CD1.out _).mono ?_
          rintro e w13 ⟨rfl, hb⟩
          have B12 := Lib.hid (B11.out.trans (hb.mono B11.out.size))
          clear hb B11
          go_wp2_with fail
          refine (CS0.out _).mono ?_
          rintro e w14 ⟨rfl, hb⟩
          have B13 := Lib.hid (B12.out.trans (hb.mono B12.out.size))
          clear hb B12
          go_wp2_with fail
          refine (CI.out _).mono ?_
          rintro e w1 ⟨rfl, rfl⟩
          go_wp2_with fail
          refine (CC.out _).mono ?_
          rintro e w1 ⟨rfl, rfl⟩
          go_wp2_with fail
          refine (CK.out _).mono ?_
          rintro e w15 ⟨rfl, hb⟩
          have B14 := Lib.hid (B13.out.trans (hb.mono B13.out.size))
          clear hb B13
          go_wp2_with fail
          refine (CSA.out _).mono ?_
          rintro e w16 ⟨rfl, hb⟩
          have B15 := Lib.hid (B14.out.trans (hb.mono B14.out.size))
          clear hb B14
          go_wp2
          go_ret
          exact ⟨rfl, B15.out⟩
        · rw [g1] at e1; rw [g2] at e2; rw [g3] at e3
          clear HW
          have B0 := Lib.hid (Below.refl w.heap.size w)
          go_enter Try.func8, Try.ntmps8
          go_wp2_with fail
          refine (CA.out _).mono ?_
          rintro e w2 ⟨rfl, hb⟩
          have B1 := Lib.hid (B0.out.trans (hb.mono B0.out.size))
          clear hb B0
          go_wp2_with fail
          refine (CA2.out _).mono ?_
          rintro e w3 ⟨rfl, hb⟩
          have B2 := Lib.hid (B1.out.trans (hb.mono B1.out.size))
          clear hb B1
          go_wp2_with fail
          refine (CM.out _).mono ?_
          rintro e w4 ⟨rfl, hb⟩
          have B3 := Lib.hid (B2.out.trans (hb.mono B2.out.size))
          clear hb B2
          go_wp2_with fail
          refine (CM2.out _).mono ?_
          rintro e w5 ⟨rfl, hb⟩
          have B4 := Lib.hid (B3.out.trans (hb.mono B3.out.size))
          clear hb B3
          go_wp2_with fail
          refine (CS.out _).mono ?_
          rintro e w6 ⟨rfl, hb⟩
          have B5 := Lib.hid (B4.out.trans (hb.mono B4.out.size))
          clear hb B4
          go_wp2_with fail
          refine (CNB.out _).mono ?_
          rintro e w1 ⟨rfl, rfl⟩
          go_wp2_with fail
          refine (CAN.out _).mono ?_
          rintro e w7 ⟨rfl, hb⟩
          have B6 := Lib.hid (B5.out.trans (hb.mono B5.out.size))
          clear hb B5
          go_wp2_with fail
          refine (CS.out _).mono ?_
          rintro e w8 ⟨rfl, hb⟩
          have B7 := Lib.hid (B6.out.trans (hb.mono B6.out.size))
          clear hb B6
          go_wp2_with fail
          refine (CS2.out _).mono ?_
          rintro e w9 ⟨rfl, hb⟩
          have B8 := Lib.hid (B7.out.trans (hb.mono B7.out.size))
          clear hb B7
          go_wp2_with fail
          refine (CNT.out _).mono ?_
          rintro e w1 ⟨rfl, rfl⟩
          go_wp2_with fail
          refine (CS.out _).mono ?_
          rintro e w10 ⟨rfl, hb⟩
          have B9 := Lib.hid (B8.out.trans (hb.mono B8.out.size))
          clear hb B8
          go_wp2_with fail
          refine (CS2.out _).mono ?_
          rintro e w11 ⟨rfl, hb⟩
          have B10 := Lib.hid (B9.out.trans (hb.mono B9.out.size))
          clear hb B9
          go_wp2_with fail
          refine (CA.out _).mono ?_
          rintro e w12 ⟨rfl, hb⟩
          have B11 := Lib.hid (B10.out.trans (hb.mono B10.out.size))
          clear hb B10
          go_wp2_with fail
          refine (CA2.out _).mono ?_
          rintro e w13 ⟨rfl, hb⟩
          have B12 := Lib.hid (B11.out.trans (hb.mono B11.out.size))
          clear hb B11
          go_wp2_with fail
          refine (CM.out _).mono ?_
          rintro e w14 ⟨rfl, hb⟩
          have B13 := Lib.hid (B12.out.trans (hb.mono B12.out.size))
          clear hb B12
          go_wp2_with fail
          refine (CM2.out _).mono ?_
          rintro e w15 ⟨rfl, hb⟩
          have B14 := Lib.hid (B13.out.trans (hb.mono B13.out.size))
          clear hb B13
          go_wp2_with fail
          refine (CN.out _).mono ?_
          rintro e w1 ⟨rfl, rfl⟩
          go_wp2_with fail
          refine (CNA.out _).mono ?_
          rintro e w1 ⟨rfl, rfl⟩
          go_wp2_with fail
          refine (CNN.out _).mono ?_
          rintro e w1 ⟨rfl, rfl⟩
          go_wp2_with fail
          refine (I1.out _).mono ?_
          rintro e w1 ⟨rfl, rfl⟩
          go_wp2_with fail
          refine (CM1.out _).mono ?_
          rintro e w16 ⟨rfl, hb⟩
          have B15 := Lib.hid (B14.out.trans (hb.mono B14.out.size))
          clear hb B14
          go_wp2_with fail
          refine (I1.out _).mono ?_
          rintro e w1 ⟨rfl, rfl⟩
          go_wp2_with fail
          refine (CD1.out _).mono ?_
          rintro e w17 ⟨rfl, hb⟩
          have B16 := Lib.hid (B15.out.trans (hb.mono B15.out.size))
          clear hb B15
          go_wp2_with fail
          refine (CS0.out _).mono ?_
          rintro e w18 ⟨rfl, hb⟩
          have B17 := Lib.hid (B16.out.trans (hb.mono B16.out.size))
          clear hb B16
          go_wp2_with fail
          refine (CI.out _).mono ?_
          rintro e w1 ⟨rfl, rfl⟩
          go_wp2_with fail
          refine (CC.out _).mono ?_
          rintro e w1 ⟨rfl, rfl⟩
          go_wp2_with fail
          refine (CK.out _).mono ?_
          rintro e w19 ⟨rfl, hb⟩
          have B18 := Lib.hid (B17.out.trans (hb.mono B17.out.size))
          clear hb B17
          go_wp2_with fail
          refine (CSA.out _).mono ?_
          rintro e w20 ⟨rfl, hb⟩
          have B19 := Lib.hid (B18.out.trans (hb.mono B18.out.size))
          clear hb B18
          go_wp2
          go_ret
          exact ⟨rfl, B19.out⟩
    · have CSI : Hid (∀ w, Calls Try.prog 15 #[.int .u64 (a : Nat), .int .u64 (a : Nat)] w (Gives w (.int .u64 (Nm.nan : Nat)))) := Lib.hid (by
        have h := Nm.sub_inf HA.out hi
        have h2 := fun w => sub_any a a HA.out HA.out w
        rw [h] at h2
        exact h2)
      rw [hi] at CI
      clear hx hm hna hi hn
      rcases HW.out with ⟨g1, g2⟩ | ⟨g1, g2, g3⟩ | ⟨g1, g2, g3⟩
      · rw [g1] at e1; rw [g2] at e2; clear e3
        clear HW
        have B0 := Lib.hid (Below.refl w.heap.size w)
        go_enter Try.func8, Try.ntmps8
        go_wp2_with fail
        refine (CA.out _).mono ?_
        rintro e w2 ⟨rfl, hb⟩
        have B1 := Lib.hid (B0.out.trans (hb.mono B0.out.size))
        clear hb B0
        go_wp2_with fail
        refine (CA2.out _).mono ?_
        rintro e w3 ⟨rfl, hb⟩
        have B2 := Lib.hid (B1.out.trans (hb.mono B1.out.size))
        clear hb B1
        go_wp2_with fail
        refine (CM.out _).mono ?_
        rintro e w4 ⟨rfl, hb⟩
        have B3 := Lib.hid (B2.out.trans (hb.mono B2.out.size))
        clear hb B2
        go_wp2_with fail
        refine (CM2.out _).mono ?_
        rintro e w5 ⟨rfl, hb⟩
        have B4 := Lib.hid (B3.out.trans (hb.mono B3.out.size))
        clear hb B3
        go_wp2_with fail
        refine (CS.out _).mono ?_
        rintro e w6 ⟨rfl, hb⟩
        have B5 := Lib.hid (B4.out.trans (hb.mono B4.out.size))
        clear hb B4
        go_wp2_with fail
        refine (CNB.out _).mono ?_
        rintro e w1 ⟨rfl, rfl⟩
        go_wp2_with fail
        refine (CAN.out _).mono ?_
        rintro e w7 ⟨rfl, hb⟩
        have B6 := Lib.hid (B5.out.trans (hb.mono B5.out.size))
        clear hb B5
        go_wp2_with fail
        refine (CS.out _).mono ?_
        rintro e w8 ⟨rfl, hb⟩
        have B7 := Lib.hid (B6.out.trans (hb.mono B6.out.size))
        clear hb B6
        go_wp2_with fail
        refine (CS2.out _).mono ?_
        rintro e w9 ⟨rfl, hb⟩
        have B8 := Lib.hid (B7.out.trans (hb.mono B7.out.size))
        clear hb B7
        go_wp2_with fail
        refine (CNT.out _).mono ?_
        rintro e w1 ⟨rfl, rfl⟩
        go_wp2_with fail
        refine (CS.out _).mono ?_
        rintro e w10 ⟨rfl, hb⟩
        have B9 := Lib.hid (B8.out.trans (hb.mono B8.out.size))
        clear hb B8
        go_wp2_with fail
        refine (CN.out _).mono ?_
        rintro e w1 ⟨rfl, rfl⟩
        go_wp2_with fail
        refine (CNA.out _).mono ?_
        rintro e w1 ⟨rfl, rfl⟩
        go_wp2_with fail
        refine (CNN.out _).mono ?_
        rintro e w1 ⟨rfl, rfl⟩
        go_wp2_with fail
        refine (I1.out _).mono ?_
        rintro e w1 ⟨rfl, rfl⟩
        go_wp2_with fail
        refine (CM1.out _).mono ?_
        rintro e w11 ⟨rfl, hb⟩
        have B10 := Lib.hid (B9.out.trans (hb.mono B9.out.size))
        clear hb B9
        go_wp2_with fail
        refine (I1.out _).mono ?_
        rintro e w1 ⟨rfl, rfl⟩
        go_wp2_with fail
        refine (CD1.out _).mono ?_
        rintro e w12 ⟨rfl, hb⟩
        have B11 := Lib.hid (B10.out.trans (hb.mono B10.out.size))
        clear hb B10
        go_wp2_with fail
        refine (CS0.out _).mono ?_
        rintro e w13 ⟨rfl, hb⟩
        have B12 := Lib.hid (B11.out.trans (hb.mono B11.out.size))
        clear hb B11
        go_wp2_with fail
        refine (CI.out _).mono ?_
        rintro e w1 ⟨rfl, rfl⟩
        go_wp2_with fail
        refine (CK.out _).mono ?_
        rintro e w14 ⟨rfl, hb⟩
        have B13 := Lib.hid (B12.out.trans (hb.mono B12.out.size))
        clear hb B12
        go_wp2_with fail
        refine (CSI.out _).mono ?_
        rintro e w15 ⟨rfl, hb⟩
        have B14 := Lib.hid (B13.out.trans (hb.mono B13.out.size))
        clear hb B13
        go_wp2_with fail
        refine (CV.out _).mono ?_
        rintro e w1 ⟨rfl, rfl⟩
        go_wp2
        go_ret
        exact ⟨rfl, B14.out⟩
      · rw [g1] at e1; rw [g2] at e2; rw [g3] at e3
        clear HW
        have B0 := Lib.hid (Below.refl w.heap.size w)
        go_enter Try.func8, Try.ntmps8
        go_wp2_with fail
        refine (CA.out _).mono ?_
        rintro e w2 ⟨rfl, hb⟩
        have B1 := Lib.hid (B0.out.trans (hb.mono B0.out.size))
        clear hb B0
        go_wp2_with fail
        refine (CA2.out _).mono ?_
        rintro e w3 ⟨rfl, hb⟩
        have B2 := Lib.hid (B1.out.trans (hb.mono B1.out.size))
        clear hb B1
        go_wp2_with fail
        refine (CM.out _).mono ?_
        rintro e w4 ⟨rfl, hb⟩
        have B3 := Lib.hid (B2.out.trans (hb.mono B2.out.size))
        clear hb B2
        go_wp2_with fail
        refine (CM2.out _).mono ?_
        rintro e w5 ⟨rfl, hb⟩
        have B4 := Lib.hid (B3.out.trans (hb.mono B3.out.size))
        clear hb B3
        go_wp2_with fail
        refine (CS.out _).mono ?_
        rintro e w6 ⟨rfl, hb⟩
        have B5 := Lib.hid (B4.out.trans (hb.mono B4.out.size))
        clear hb B4
        go_wp2_with fail
        refine (CNB.out _).mono ?_
        rintro e w1 ⟨rfl, rfl⟩
        go_wp2_with fail
        refine (CAN.out _).mono ?_
        rintro e w7 ⟨rfl, hb⟩
        have B6 := Lib.hid (B5.out.trans (hb.mono B5.out.size))
        clear hb B5
        go_wp2_with fail
        refine (CS.out _).mono ?_
        rintro e w8 ⟨rfl, hb⟩
        have B7 := Lib.hid (B6.out.trans (hb.mono B6.out.size))
        clear hb B6
        go_wp2_with fail
        refine (CS2.out _).mono ?_
        rintro e w9 ⟨rfl, hb⟩
        have B8 := Lib.hid (B7.out.trans (hb.mono B7.out.size))
        clear hb B7
        go_wp2_with fail
        refine (CNT.out _).mono ?_
        rintro e w1 ⟨rfl, rfl⟩
        go_wp2_with fail
        refine (CS.out _).mono ?_
        rintro e w10 ⟨rfl, hb⟩
        have B9 := Lib.hid (B8.out.trans (hb.mono B8.out.size))
        clear hb B8
        go_wp2_with fail
        refine (CS2.out _).mono ?_
        rintro e w11 ⟨rfl, hb⟩
        have B10 := Lib.hid (B9.out.trans (hb.mono B9.out.size))
        clear hb B9
        go_wp2_with fail
        refine (CN.out _).mono ?_
        rintro e w1 ⟨rfl, rfl⟩
        go_wp2_with fail
        refine (CNA.out _).mono ?_
        rintro e w1 ⟨rfl, rfl⟩
        go_wp2_with fail
        refine (CNN.out _).mono ?_
        rintro e w1 ⟨rfl, rfl⟩
        go_wp2_with fail
        refine (I1.out _).mono ?_
        rintro e w1 ⟨rfl, rfl⟩
        go_wp2_with fail
        refine (CM1.out _).mono ?_
        rintro e w12 ⟨rfl, hb⟩
        have B11 := Lib.hid (B10.out.trans (hb.mono B10.out.size))
        clear hb B10
        go_wp2_with fail
        refine (I1.out _).mono ?_
        rintro e w1 ⟨rfl, rfl⟩
        go_wp2_with fail
        refine (CD1.out _).mono ?_
        rintro e w13 ⟨rfl, hb⟩
        have B12 := Lib.hid (B11.out.trans (hb.mono B11.out.size))
        clear hb B11
        go_wp2_with fail
        refine (CS0.out _).mono ?_
        rintro e w14 ⟨rfl, hb⟩
        have B13 := Lib.hid (B12.out.trans (hb.mono B12.out.size))
        clear hb B12
        go_wp2_with fail
        refine (CI.out _).mono ?_
        rintro e w1 ⟨rfl, rfl⟩
        go_wp2_with fail
        refine (CK.out _).mono ?_
        rintro e w15 ⟨rfl, hb⟩
        have B14 := Lib.hid (B13.out.trans (hb.mono B13.out.size))
        clear hb B13
        go_wp2_with fail
        refine (CSI.out _).mono ?_
        rintro e w16 ⟨rfl, hb⟩
        have B15 := Lib.hid (B14.out.trans (hb.mono B14.out.size))
        clear hb B14
        go_wp2_with fail
        refine (CV.out _).mono ?_
        rintro e w1 ⟨rfl, rfl⟩
        go_wp2
        go_ret
        exact ⟨rfl, B15.out⟩
      · rw [g1] at e1; rw [g2] at e2; rw [g3] at e3
        clear HW
        have B0 := Lib.hid (Below.refl w.heap.size w)
        go_enter Try.func8, Try.ntmps8
        go_wp2_with fail
        refine (CA.out _).mono ?_
        rintro e w2 ⟨rfl, hb⟩
        have B1 := Lib.hid (B0.out.trans (hb.mono B0.out.size))
        clear hb B0
        go_wp2_with fail
        refine (CA2.out _).mono ?_
        rintro e w3 ⟨rfl, hb⟩
        have B2 := Lib.hid (B1.out.trans (hb.mono B1.out.size))
        clear hb B1
        go_wp2_with fail
        refine (CM.out _).mono ?_
        rintro e w4 ⟨rfl, hb⟩
        have B3 := Lib.hid (B2.out.trans (hb.mono B2.out.size))
        clear hb B2
        go_wp2_with fail
        refine (CM2.out _).mono ?_
        rintro e w5 ⟨rfl, hb⟩
        have B4 := Lib.hid (B3.out.trans (hb.mono B3.out.size))
        clear hb B3
        go_wp2_with fail
        refine (CS.out _).mono ?_
        rintro e w6 ⟨rfl, hb⟩
        have B5 := Lib.hid (B4.out.trans (hb.mono B4.out.size))
        clear hb B4
        go_wp2_with fail
        refine (CNB.out _).mono ?_
        rintro e w1 ⟨rfl, rfl⟩
        go_wp2_with fail
        refine (CAN.out _).mono ?_
        rintro e w7 ⟨rfl, hb⟩
        have B6 := Lib.hid (B5.out.trans (hb.mono B5.out.size))
        clear hb B5
        go_wp2_with fail
        refine (CS.out _).mono ?_
        rintro e w8 ⟨rfl, hb⟩
        have B7 := Lib.hid (B6.out.trans (hb.mono B6.out.size))
        clear hb B6
        go_wp2_with fail
        refine (CS2.out _).mono ?_
        rintro e w9 ⟨rfl, hb⟩
        have B8 := Lib.hid (B7.out.trans (hb.mono B7.out.size))
        clear hb B7
        go_wp2_with fail
        refine (CNT.out _).mono ?_
        rintro e w1 ⟨rfl, rfl⟩
        go_wp2_with fail
        refine (CS.out _).mono ?_
        rintro e w10 ⟨rfl, hb⟩
        have B9 := Lib.hid (B8.out.trans (hb.mono B8.out.size))
        clear hb B8
        go_wp2_with fail
        refine (CS2.out _).mono ?_
        rintro e w11 ⟨rfl, hb⟩
        have B10 := Lib.hid (B9.out.trans (hb.mono B9.out.size))
        clear hb B9
        go_wp2_with fail
        refine (CA.out _).mono ?_
        rintro e w12 ⟨rfl, hb⟩
        have B11 := Lib.hid (B10.out.trans (hb.mono B10.out.size))
        clear hb B10
        go_wp2_with fail
        refine (CA2.out _).mono ?_
        rintro e w13 ⟨rfl, hb⟩
        have B12 := Lib.hid (B11.out.trans (hb.mono B11.out.size))
        clear hb B11
        go_wp2_with fail
        refine (CM.out _).mono ?_
        rintro e w14 ⟨rfl, hb⟩
        have B13 := Lib.hid (B12.out.trans (hb.mono B12.out.size))
        clear hb B12
        go_wp2_with fail
        refine (CM2.out _).mono ?_
        rintro e w15 ⟨rfl, hb⟩
        have B14 := Lib.hid (B13.out.trans (hb.mono B13.out.size))
        clear hb B13
        go_wp2_with fail
        refine (CN.out _).mono ?_
        rintro e w1 ⟨rfl, rfl⟩
        go_wp2_with fail
        refine (CNA.out _).mono ?_
        rintro e w1 ⟨rfl, rfl⟩
        go_wp2_with fail
        refine (CNN.out _).mono ?_
        rintro e w1 ⟨rfl, rfl⟩
        go_wp2_with fail
        refine (I1.out _).mono ?_
        rintro e w1 ⟨rfl, rfl⟩
        go_wp2_with fail
        refine (CM1.out _).mono ?_
        rintro e w16 ⟨rfl, hb⟩
        have B15 := Lib.hid (B14.out.trans (hb.mono B14.out.size))
        clear hb B14
        go_wp2_with fail
        refine (I1.out _).mono ?_
        rintro e w1 ⟨rfl, rfl⟩
        go_wp2_with fail
        refine (CD1.out _).mono ?_
        rintro e w17 ⟨rfl, hb⟩
        have B16 := Lib.hid (B15.out.trans (hb.mono B15.out.size))
        clear hb B15
        go_wp2_with fail
        refine (CS0.out _).mono ?_
        rintro e w18 ⟨rfl, hb⟩
        have B17 := Lib.hid (B16.out.trans (hb.mono B16.out.size))
        clear hb B16
        go_wp2_with fail
        refine (CI.out _).mono ?_
        rintro e w1 ⟨rfl, rfl⟩
        go_wp2_with fail
        refine (CK.out _).mono ?_
        rintro e w19 ⟨rfl, hb⟩
        have B18 := Lib.hid (B17.out.trans (hb.mono B17.out.size))
        clear hb B17
        go_wp2_with fail
        refine (CSI.out _).mono ?_
        rintro e w20 ⟨rfl, hb⟩
        have B19 := Lib.hid (B18.out.trans (hb.mono B18.out.size))
        clear hb B18
        go_wp2_with fail
        refine (CV.out _).mono ?_
        rintro e w1 ⟨rfl, rfl⟩
        go_wp2
        go_ret
        exact ⟨rfl, B19.out⟩
  · rw [hn] at CN
    rw [Nm.add_nan b hn] at hx
    rw [Nm.mul_nan b hn] at hm
    rw [Nm.neg_nan hn] at hna
    subst hx hm hna
    clear hn
    rcases HW.out with ⟨g1, g2⟩ | ⟨g1, g2, g3⟩ | ⟨g1, g2, g3⟩
    · rw [g1] at e1; rw [g2] at e2; clear e3
      clear HW
      have B0 := Lib.hid (Below.refl w.heap.size w)
      go_enter Try.func8, Try.ntmps8
      go_wp2_with fail
      refine (CA.out _).mono ?_
      rintro e w2 ⟨rfl, hb⟩
      have B1 := Lib.hid (B0.out.trans (hb.mono B0.out.size))
      clear hb B0
      go_wp2_with fail
      refine (CA2.out _).mono ?_
      rintro e w3 ⟨rfl, hb⟩
      have B2 := Lib.hid (B1.out.trans (hb.mono B1.out.size))
      clear hb B1
      go_wp2_with fail
      refine (CM.out _).mono ?_
      rintro e w4 ⟨rfl, hb⟩
      have B3 := Lib.hid (B2.out.trans (hb.mono B2.out.size))
      clear hb B2
      go_wp2_with fail
      refine (CM2.out _).mono ?_
      rintro e w5 ⟨rfl, hb⟩
      have B4 := Lib.hid (B3.out.trans (hb.mono B3.out.size))
      clear hb B3
      go_wp2_with fail
      refine (CS.out _).mono ?_
      rintro e w6 ⟨rfl, hb⟩
      have B5 := Lib.hid (B4.out.trans (hb.mono B4.out.size))
      clear hb B4
      go_wp2_with fail
      refine (CNB.out _).mono ?_
      rintro e w1 ⟨rfl, rfl⟩
      go_wp2_with fail
      refine (CAN.out _).mono ?_
      rintro e w7 ⟨rfl, hb⟩
      have B6 := Lib.hid (B5.out.trans (hb.mono B5.out.size))
      clear hb B5
      go_wp2_with fail
      refine (CS.out _).mono ?_
      rintro e w8 ⟨rfl, hb⟩
      have B7 := Lib.hid (B6.out.trans (hb.mono B6.out.size))
      clear hb B6
      go_wp2_with fail
      refine (CS2.out _).mono ?_
      rintro e w9 ⟨rfl, hb⟩
      have B8 := Lib.hid (B7.out.trans (hb.mono B7.out.size))
      clear hb B7
      go_wp2_with fail
      refine (CNT.out _).mono ?_
      rintro e w1 ⟨rfl, rfl⟩
      go_wp2_with fail
      refine (CS.out _).mono ?_
      rintro e w10 ⟨rfl, hb⟩
      have B9 := Lib.hid (B8.out.trans (hb.mono B8.out.size))
      clear hb B8
      go_wp2_with fail
      refine (CN.out _).mono ?_
      rintro e w1 ⟨rfl, rfl⟩
      go_wp2_with fail
      refine (CK.out _).mono ?_
      rintro e w11 ⟨rfl, hb⟩
      have B10 := Lib.hid (B9.out.trans (hb.mono B9.out.size))
      clear hb B9
      go_wp2_with fail
      refine (CA.out _).mono ?_
      rintro e w12 ⟨rfl, hb⟩
      have B11 := Lib.hid (B10.out.trans (hb.mono B10.out.size))
      clear hb B10
      go_wp2_with fail
      refine (CV.out _).mono ?_
      rintro e w1 ⟨rfl, rfl⟩
      go_wp2_with fail
      refine (CNA.out _).mono ?_
      rintro e w1 ⟨rfl, rfl⟩
      go_wp2_with fail
      refine (CV.out _).mono ?_
      rintro e w1 ⟨rfl, rfl⟩
      go_wp2_with fail
      refine (CM2.out _).mono ?_
      rintro e w13 ⟨rfl, hb⟩
      have B12 := Lib.hid (B11.out.trans (hb.mono B11.out.size))
      clear hb B11
      go_wp2_with fail
      refine (CV.out _).mono ?_
      rintro e w1 ⟨rfl, rfl⟩
      go_wp2
      go_ret
      exact ⟨rfl, B12.out⟩
    · rw [g1] at e1; rw [g2] at e2; rw [g3] at e3
      clear HW
      have B0 := Lib.hid (Below.refl w.heap.size w)
      go_enter Try.func8, Try.ntmps8
      go_wp2_with fail
      refine (CA.out _).mono ?_
      rintro e w2 ⟨rfl, hb⟩
      have B1 := Lib.hid (B0.out.trans (hb.mono B0.out.size))
      clear hb B0
      go_wp2_with fail
      refine (CA2.out _).mono ?_
      rintro e w3 ⟨rfl, hb⟩
      have B2 := Lib.hid (B1.out.trans (hb.mono B1.out.size))
      clear hb B1
      go_wp2_with fail
      refine (CM.out _).mono ?_
      rintro e w4 ⟨rfl, hb⟩
      have B3 := Lib.hid (B2.out.trans (hb.mono B2.out.size))
      clear hb B2
      go_wp2_with fail
      refine (CM2.out _).mono ?_
      rintro e w5 ⟨rfl, hb⟩
      have B4 := Lib.hid (B3.out.trans (hb.mono B3.out.size))
      clear hb B3
      go_wp2_with fail
      refine (CS.out _).mono ?_
      rintro e w6 ⟨rfl, hb⟩
      have B5 := Lib.hid (B4.out.trans (hb.mono B4.out.size))
      clear hb B4
      go_wp2_with fail
      refine (CNB.out _).mono ?_
      rintro e w1 ⟨rfl, rfl⟩
      go_wp2_with fail
      refine (CAN.out _).mono ?_
      rintro e w7 ⟨rfl, hb⟩
      have B6 := Lib.hid (B5.out.trans (hb.mono B5.out.size))
      clear hb B5
      go_wp2_with fail
      refine (CS.out _).mono ?_
      rintro e w8 ⟨rfl, hb⟩
      have B7 := Lib.hid (B6.out.trans (hb.mono B6.out.size))
      clear hb B6
      go_wp2_with fail
      refine (CS2.out _).mono ?_
      rintro e w9 ⟨rfl, hb⟩
      have B8 := Lib.hid (B7.out.trans (hb.mono B7.out.size))
      clear hb B7
      go_wp2_with fail
      refine (CNT.out _).mono ?_
      rintro e w1 ⟨rfl, rfl⟩
      go_wp2_with fail
      refine (CS.out _).mono ?_
      rintro e w10 ⟨rfl, hb⟩
      have B9 := Lib.hid (B8.out.trans (hb.mono B8.out.size))
      clear hb B8
      go_wp2_with fail
      refine (CS2.out _).mono ?_
      rintro e w11 ⟨rfl, hb⟩
      have B10 := Lib.hid (B9.out.trans (hb.mono B9.out.size))
      clear hb B9
      go_wp2_with fail
      refine (CN.out _).mono ?_
      rintro e w1 ⟨rfl, rfl⟩
      go_wp2_with fail
      refine (CK.out _).mono ?_
      rintro e w12 ⟨rfl, hb⟩
      have B11 := Lib.hid (B10.out.trans (hb.mono B10.out.size))
      clear hb B10
      go_wp2_with fail
      refine (CA.out _).mono ?_
      rintro e w13 ⟨rfl, hb⟩
      have B12 := Lib.hid (B11.out.trans (hb.mono B11.out.size))
      clear hb B11
      go_wp2_with fail
      refine (CV.out _).mono ?_
      rintro e w1 ⟨rfl, rfl⟩
      go_wp2_with fail
      refine (CNA.out _).mono ?_
      rintro e w1 ⟨rfl, rfl⟩
      go_wp2_with fail
      refine (CV.out _).mono ?_
      rintro e w1 ⟨rfl, rfl⟩
      go_wp2_with fail
      refine (CM2.out _).mono ?_
      rintro e w14 ⟨rfl, hb⟩
      have B13 := Lib.hid (B12.out.trans (hb.mono B12.out.size))
      clear hb B12
      go_wp2_with fail
      refine (CV.out _).mono ?_
      rintro e w1 ⟨rfl, rfl⟩
      go_wp2
      go_ret
      exact ⟨rfl, B13.out⟩
    · rw [g1] at e1; rw [g2] at e2; rw [g3] at e3
      clear HW
      have B0 := Lib.hid (Below.refl w.heap.size w)
      go_enter Try.func8, Try.ntmps8
      go_wp2_with fail
      refine (CA.out _).mono ?_
      rintro e w2 ⟨rfl, hb⟩
      have B1 := Lib.hid (B0.out.trans (hb.mono B0.out.size))
      clear hb B0
      go_wp2_with fail
      refine (CA2.out _).mono ?_
      rintro e w3 ⟨rfl, hb⟩
      have B2 := Lib.hid (B1.out.trans (hb.mono B1.out.size))
      clear hb B1
      go_wp2_with fail
      refine (CM.out _).mono ?_
      rintro e w4 ⟨rfl, hb⟩
      have B3 := Lib.hid (B2.out.trans (hb.mono B2.out.size))
      clear hb B2
      go_wp2_with fail
      refine (CM2.out _).mono ?_
      rintro e w5 ⟨rfl, hb⟩
      have B4 := Lib.hid (B3.out.trans (hb.mono B3.out.size))
      clear hb B3
      go_wp2_with fail
      refine (CS.out _).mono ?_
      rintro e w6 ⟨rfl, hb⟩
      have B5 := Lib.hid (B4.out.trans (hb.mono B4.out.size))
      clear hb B4
      go_wp2_with fail
      refine (CNB.out _).mono ?_
      rintro e w1 ⟨rfl, rfl⟩
      go_wp2_with fail
      refine (CAN.out _).mono ?_
      rintro e w7 ⟨rfl, hb⟩
      have B6 := Lib.hid (B5.out.trans (hb.mono B5.out.size))
      clear hb B5
      go_wp2_with fail
      refine (CS.out _).mono ?_
      rintro e w8 ⟨rfl, hb⟩
      have B7 := Lib.hid (B6.out.trans (hb.mono B6.out.size))
      clear hb B6
      go_wp2_with fail
      refine (CS2.out _).mono ?_
      rintro e w9 ⟨rfl, hb⟩
      have B8 := Lib.hid (B7.out.trans (hb.mono B7.out.size))
      clear hb B7
      go_wp2_with fail
      refine (CNT.out _).mono ?_
      rintro e w1 ⟨rfl, rfl⟩
      go_wp2_with fail
      refine (CS.out _).mono ?_
      rintro e w10 ⟨rfl, hb⟩
      have B9 := Lib.hid (B8.out.trans (hb.mono B8.out.size))
      clear hb B8
      go_wp2_with fail
      refine (CS2.out _).mono ?_
      rintro e w11 ⟨rfl, hb⟩
      have B10 := Lib.hid (B9.out.trans (hb.mono B9.out.size))
      clear hb B9
      go_wp2_with fail
      refine (CA.out _).mono ?_
      rintro e w12 ⟨rfl, hb⟩
      have B11 := Lib.hid (B10.out.trans (hb.mono B10.out.size))
      clear hb B10
      go_wp2_with fail
      refine (CA2.out _).mono ?_
      rintro e w13 ⟨rfl, hb⟩
      have B12 := Lib.hid (B11.out.trans (hb.mono B11.out.size))
      clear hb B11
      go_wp2_with fail
      refine (CM.out _).mono ?_
      rintro e w14 ⟨rfl, hb⟩
      have B13 := Lib.hid (B12.out.trans (hb.mono B12.out.size))
      clear hb B12
      go_wp2_with fail
      refine (CM2.out _).mono ?_
      rintro e w15 ⟨rfl, hb⟩
      have B14 := Lib.hid (B13.out.trans (hb.mono B13.out.size))
      clear hb B13
      go_wp2_with fail
      refine (CN.out _).mono ?_
      rintro e w1 ⟨rfl, rfl⟩
      go_wp2_with fail
      refine (CK.out _).mono ?_
      rintro e w16 ⟨rfl, hb⟩
      have B15 := Lib.hid (B14.out.trans (hb.mono B14.out.size))
      clear hb B14
      go_wp2_with fail
      refine (CA.out _).mono ?_
      rintro e w17 ⟨rfl, hb⟩
      have B16 := Lib.hid (B15.out.trans (hb.mono B15.out.size))
      clear hb B15
      go_wp2_with fail
      refine (CV.out _).mono ?_
      rintro e w1 ⟨rfl, rfl⟩
      go_wp2_with fail
      refine (CNA.out _).mono ?_
      rintro e w1 ⟨rfl, rfl⟩
      go_wp2_with fail
      refine (CV.out _).mono ?_
      rintro e w1 ⟨rfl, rfl⟩
      go_wp2_with fail
      refine (CM2.out _).mono ?_
      rintro e w18 ⟨rfl, hb⟩
      have B17 := Lib.hid (B16.out.trans (hb.mono B16.out.size))
      clear hb B16
      go_wp2_with fail
      refine (CV.out _).mono ?_
      rintro e w1 ⟨rfl, rfl⟩
      go_wp2
      go_ret
      exact ⟨rfl, B17.out⟩
end Go.Proofs.Ytlklnmoecagjmaa
