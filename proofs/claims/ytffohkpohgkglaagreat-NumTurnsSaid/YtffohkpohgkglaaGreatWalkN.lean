/-
  WALKS: what a division leaves, by the code.
-/
import Derived.Test.YtffohkpohgkglaaGreatWalkM
import Derived.Deep.LoopGhost
import Derived.Test.YtffohkpohgkglaaGreatNumN
namespace Go.Proofs.YtffohkpohgkglaaGreat
set_option linter.unusedVariables false
set_option linter.unusedSimpArgs false
open Go.RowKit
open Ieee
theorem rem_next (ma mb D d s : Nat) (hs : s ≤ d) (hd : d ≤ D) : (ma * 2 ^ (D - d) % mb) * 2 ^ s % mb = ma * 2 ^ (D - (d - s)) % mb := by
  rw [Nat.mod_mul_mod, Nat.mul_assoc, ← Nat.pow_add]
  congr 3; omega
theorem fits_rest {r b : Nat} (hb : b % 2 ^ 63 < Nm.inf) (hr : r < Nm.mag b) (h0 : r ≠ 0) : Nm.plc b + (r.log2 : Nat) ≤ 1023 := by
  have h1 := Nm.plc_log hb
  have h2 := Nm.log2_small (Nat.lt_trans hr (Nm.mag_lt b))
  omega
theorem conv_fl (m : Nat) : floatOfInt .f64 (m : Int) = Nm.fl m := by
  rw [int_bits]
  unfold dInt Nm.fl
  rw [decide_eq_false (by omega), Int.natAbs_natCast]
set_option maxRecDepth 100000 in
set_option maxHeartbeats 2000000 in
theorem remainder_any (a b : Nat) (ha : a < 2 ^ 63) (hb : b < 2 ^ 63) (fa : a % 2 ^ 63 < Nm.inf) (fb : b % 2 ^ 63 < Nm.inf) (hz : Nm.mag b ≠ 0) (w : World) :
    Calls Tryz.prog 126 #[.int .u64 (a : Int), .int .u64 (b : Int)] w (Gives w (.int .u64 (Nm.round false (Nm.mx a b % Nm.my a b) (min (Nm.plc a) (Nm.plc b)) false : Nat))) := by
  have PA := Lib.hid (fun w => parts122_any a ha w)
  have PB := Lib.hid (fun w => parts122_any b hb w)
  have hsmall : Nm.plc a < Nm.plc b → Nm.round false (Nm.mx a b % Nm.my a b) (min (Nm.plc a) (Nm.plc b)) false = a := fun h => by
    obtain ⟨e1, e2⟩ := Nm.mod_small h
    rw [e1, e2]
    have hn : Nm.neg a = false := by unfold Nm.neg; rw [decide_eq_false (by omega)]
    have := Nm.round_self (x := a) (by omega) fa 0 (Nm.plc a) (by omega)
    rw [hn, Nat.pow_zero, Nat.mul_one] at this
    exact this
  have hgreat : Nm.plc b ≤ Nm.plc a → Nm.mx a b % Nm.my a b = Nm.mag a * 2 ^ (Nm.plc a - Nm.plc b).toNat % Nm.mag b ∧ min (Nm.plc a) (Nm.plc b) = Nm.plc b := fun h => Nm.mod_great h
  have hfit : ∀ r, r < Nm.mag b → r ≠ 0 → Nm.plc b + (r.log2 : Nat) ≤ 1023 := fun r h1 h2 => fits_rest fb h1 h2
  have lma := Nm.mag_lt a
  have lmb := Nm.mag_lt b
  have pa1 := Nm.plc_ge a
  have pb1 := Nm.plc_ge b
  have pa2 := Nm.plc_log fa
  have pb2 := Nm.plc_log fb
  obtain ⟨R, hR⟩ : ∃ R, Nm.round false (Nm.mx a b % Nm.my a b) (min (Nm.plc a) (Nm.plc b)) false = R := ⟨_, rfl⟩
  rw [hR] at hsmall ⊢
  have HGR := Lib.hid (show Nm.plc b ≤ Nm.plc a → Nm.round false (Nm.mag a * 2 ^ (Nm.plc a - Nm.plc b).toNat % Nm.mag b) (Nm.plc b) false = R from fun h => by
    obtain ⟨e1, e2⟩ := hgreat h
    rw [← hR, e1, e2])
  obtain ⟨ma, hma⟩ : ∃ x, Nm.mag a = x := ⟨_, rfl⟩
  obtain ⟨mb, hmb⟩ : ∃ x, Nm.mag b = x := ⟨_, rfl⟩
  obtain ⟨pa, hpa⟩ : ∃ x, Nm.plc a = x := ⟨_, rfl⟩
  obtain ⟨pb, hpb⟩ : ∃ x, Nm.plc b = x := ⟨_, rfl⟩
  rw [hma, hpa] at PA
  rw [hmb, hpb] at PB
  rw [hma, hmb, hpa, hpb] at HGR
  rw [hpa, hpb] at hsmall
  rw [hmb, hpb] at hfit
  rw [hma] at lma
  rw [hmb] at lmb hz
  rw [hpa] at pa1 pa2
  rw [hpb] at pb1 pb2
  have HFIT := Lib.hid hfit
  clear hgreat hma hmb hpa hpb hR ha hb fa fb hfit
  by_cases hlt : pa < pb
  · have d0 : decide (pa < pb) = true := decide_eq_true hlt
    obtain rfl : R = a := hsmall hlt
    clear hsmall
    go_enter Tryz.func126, Tryz.ntmps126
    go_wp2_with fail
    refine (PA.out _).mono ?_
    rintro e w1 ⟨rfl, rfl⟩
    go_wp2_with fail
    refine (PB.out _).mono ?_
    rintro e w1 ⟨rfl, rfl⟩
    go_wp2
    go_ret
    exact ⟨rfl, Below.refl _ _⟩
  · have d0 : decide (pa < pb) = false := decide_eq_false hlt
    obtain ⟨D, hD⟩ : ∃ D : Nat, pa - pb = (D : Int) := ⟨(pa - pb).toNat, by omega⟩
    have hF := HGR.out (by omega)
    rw [hD, Int.toNat_natCast] at hF
    have HF := Lib.hid hF
    have hpa2 : pa = pb + (D : Int) := by omega
    have hD2 : D ≤ 2100 := by omega
    subst hpa2
    have hmb0 : ((mb : Int) == 0) = false := by simpa using hz
    have hpos : 0 < mb := by omega
    have HPOS := Lib.hid hpos
    have T0 := Lib.hid (show ma % mb = ma * 2 ^ (D - D) % mb by rw [Nat.sub_self, Nat.pow_zero, Nat.mul_one])
    have hmod0 : (ma : Int) % (mb : Int) = ((ma % mb : Nat) : Int) := by simp
    obtain ⟨t0, ht0⟩ : ∃ t, ma % mb = t := ⟨_, rfl⟩
    have lt0 : t0 < mb := by rw [← ht0]; exact Nat.mod_lt _ hpos
    rw [ht0] at hmod0 T0
    have htm0 : Int.tmod (ma : Int) (mb : Int) = (t0 : Int) := by rw [← hmod0]; exact Int.tmod_eq_emod_of_nonneg (by omega)
    have B0 := Lib.hid (Below.refl w.heap.size w)
    clear hsmall HGR hF hD hlt ht0
    go_enter Tryz.func126, Tryz.ntmps126
    go_wp2_with fail
    refine (PA.out _).mono ?_
    rintro e w1 ⟨rfl, rfl⟩
    go_wp2_with fail
    refine (PB.out _).mono ?_
    rintro e w1 ⟨rfl, rfl⟩
    go_wp2
    go_loop [5, 6, 9] (fun m e _ => ∃ d t : Nat, e = .int .i64 (pb + (d : Int)) ∧ m = .int .u64 (t : Nat) ∧ d ≤ D ∧ t < mb ∧ Hid (t = ma * 2 ^ (D - d) % mb)) (fun _ e _ => (intOf e - pb).toNat)
    case atStart => exact ⟨D, t0, rfl, rfl, Nat.le_refl _, lt0, T0⟩
    case round =>
      obtain ⟨d, t, rfl, rfl, hd, ht, HT⟩ := hrel
      by_cases h0 : d = 0
      · subst h0
        have dz : decide (pb < pb + ((0 : Nat) : Int)) = false := decide_eq_false (by omega)
        have hc := conv_fl t
        have hF2 := HF.out
        have ht2 := HT.out
        rw [Nat.sub_zero] at ht2
        rw [← ht2] at hF2
        have CLD := Lib.hid (fun w => ldexp_any t pb (by omega) (by omega) (fun h => HFIT.out t ht h) w)
        rw [hF2] at CLD
        obtain ⟨x, hx⟩ : ∃ x, Nm.fl t = x := ⟨_, rfl⟩
        rw [hx] at CLD hc
        clear hx ht2 hF2
        go_wp2_with fail
        refine (CLD.out _).mono ?_
        rintro e w2 ⟨r, rfl, hl, ht3, hb⟩
        have H1 := Lib.hid hl
        have H2 := Lib.hid ht3
        have H3 := Lib.hid hb
        clear hl ht3 hb
        go_wp2_with fail
        refine (number_any r H1.out _).mono ?_
        rintro e w3 ⟨rfl, rfl⟩
        rw [H2.out]
        go_wp2
        go_ret
        exact ⟨rfl, H3.out⟩
      · have dz : decide (pb < pb + (d : Int)) = true := decide_eq_true (by omega)
        obtain ⟨s, hs⟩ : ∃ s, min d 11 = s := ⟨_, rfl⟩
        have hsub : pb + (d : Int) - pb = (d : Int) := by omega
        have hm1 : (if (11 : Int) < (d : Int) then (11 : Int) else (d : Int)) = (s : Int) := by split <;> omega
        have hm2 : (if (d : Int) < 11 then (d : Int) else (11 : Int)) = (s : Int) := by split <;> omega
        have hs1 : s ≤ 11 := by omega
        have hs2 : s ≤ d := by omega
        have hs3 : 1 ≤ s := by omega
        have h2s : (2 : Nat) ^ s ≤ 2 ^ 11 := Nat.pow_le_pow_right (by decide) hs1
        have hprod : t * 2 ^ s < 2 ^ 64 := Nat.lt_of_le_of_lt (Nat.mul_le_mul (show t ≤ 2 ^ 53 - 1 by omega) h2s) (by decide)
        have hsh : IntKind.u64.wrap ((t : Int) * 2 ^ s) = ((t * 2 ^ s : Nat) : Int) := by
          have e : (t : Int) * 2 ^ s = ((t * 2 ^ s : Nat) : Int) := by simp
          rw [e, IntKind.wrap_u64]; omega
        have hnx := rem_next ma mb D d s hs2 hd
        rw [← HT.out] at hnx
        obtain ⟨P, hP⟩ : ∃ P, t * 2 ^ s = P := ⟨_, rfl⟩
        rw [hP] at hsh hnx hprod
        obtain ⟨t2, ht2⟩ : ∃ t, P % mb = t := ⟨_, rfl⟩
        have lt2 : t2 < mb := by rw [← ht2]; exact Nat.mod_lt _ HPOS.out
        rw [ht2] at hnx
        have htm : Int.tmod (P : Int) (mb : Int) = (t2 : Int) := by rw [← ht2]; exact (Int.tmod_eq_emod_of_nonneg (by omega)).trans (by simp)
        have hmm : (P : Int) % (mb : Int) = (t2 : Int) := by rw [← ht2]; simp
        have HNX := Lib.hid hnx
        clear hP ht2 hs hnx h2s
        go_wp2
        go_round
        case rel => exact ⟨d - s, t2, by first | rfl | (congr 1; omega), rfl, by omega, lt2, HNX⟩
        case measure => simp [intOf]; omega

set_option maxRecDepth 100000 in
set_option maxHeartbeats 4000000 in
theorem mod_any (a b : Nat) (ha : a < 2 ^ 64) (hb : b < 2 ^ 64) (w : World) : Calls Tryz.prog 112 #[.int .u64 (a : Int), .int .u64 (b : Int)] w (Gives w (.int .u64 (Nm.dMod a b : Nat))) := by
  obtain ⟨R, hR⟩ : ∃ R, Nm.dMod a b = R := ⟨_, rfl⟩
  rw [hR]
  obtain ⟨na, hna⟩ : ∃ x, Nm.isNaN a = x := ⟨_, rfl⟩
  obtain ⟨nb, hnb⟩ : ∃ x, Nm.isNaN b = x := ⟨_, rfl⟩
  obtain ⟨ia, hia⟩ : ∃ x, Nm.isInf a = x := ⟨_, rfl⟩
  obtain ⟨ib, hib⟩ : ∃ x, Nm.isInf b = x := ⟨_, rfl⟩
  obtain ⟨za, hza⟩ : ∃ x, Nm.nought a = x := ⟨_, rfl⟩
  obtain ⟨zb, hzb⟩ : ∃ x, Nm.nought b = x := ⟨_, rfl⟩
  obtain ⟨sa, hsa⟩ : ∃ x, Nm.neg a = x := ⟨_, rfl⟩
  have NA : Hid (∀ w, Calls Tryz.prog 38 #[.int .u64 (a : Nat)] w fun e w' => e = .returned (.bool na) ∧ w' = w) := Lib.hid (by rw [← hna]; exact fun w => nannum_any a ha w)
  have NB : Hid (∀ w, Calls Tryz.prog 38 #[.int .u64 (b : Nat)] w fun e w' => e = .returned (.bool nb) ∧ w' = w) := Lib.hid (by rw [← hnb]; exact fun w => nannum_any b hb w)
  have IA : Hid (∀ w, Calls Tryz.prog 64 #[.int .u64 (a : Nat)] w fun e w' => e = .returned (.bool ia) ∧ w' = w) := Lib.hid (by rw [← hia]; exact fun w => infnum_any a ha w)
  have IB : Hid (∀ w, Calls Tryz.prog 64 #[.int .u64 (b : Nat)] w fun e w' => e = .returned (.bool ib) ∧ w' = w) := Lib.hid (by rw [← hib]; exact fun w => infnum_any b hb w)
  have ZA : Hid (∀ w, Calls Tryz.prog 61 #[.int .u64 (a : Nat)] w fun e w' => e = .returned (.bool za) ∧ w' = w) := Lib.hid (by rw [← hza]; exact fun w => zero_any a ha w)
  have ZB : Hid (∀ w, Calls Tryz.prog 61 #[.int .u64 (b : Nat)] w fun e w' => e = .returned (.bool zb) ∧ w' = w) := Lib.hid (by rw [← hzb]; exact fun w => zero_any b hb w)
  have SA : Hid (∀ w, Calls Tryz.prog 63 #[.int .u64 (a : Nat)] w fun e w' => e = .returned (.bool sa) ∧ w' = w) := Lib.hid (by rw [← hsa]; exact fun w => sign_any a ha w)
  have BAD := Lib.hid (show (na || nb || ia || zb) = true → Nm.nan = R from fun h => by
    rw [← hR]; unfold Nm.dMod; rw [hna, hnb, hia, hzb, if_pos h])
  have OWN := Lib.hid (show (na || nb || ia || zb) = false → (ib || za) = true → a = R from fun h h2 => by
    rw [← hR]; unfold Nm.dMod; rw [hna, hnb, hia, hzb, hib, hza, h, if_neg (by decide), if_pos h2])
  have AA := Lib.hid (fun w => abs_any a ha w)
  have AB := Lib.hid (fun w => abs_any b hb w)
  have FIN := Lib.hid (show (na || nb || ia || zb) = false → (ib || za) = false → ∃ r, r < 2 ^ 64 ∧ (∀ w, Calls Tryz.prog 126 #[.int .u64 ((Nm.dAbs a : Nat) : Int), .int .u64 ((Nm.dAbs b : Nat) : Int)] w (Gives w (.int .u64 (r : Nat)))) ∧ (if sa then Nm.dNeg r else r) = R from fun h h2 => by
    have h2' := h2
    rw [Bool.or_eq_false_iff] at h2'
    rw [Bool.or_eq_false_iff, Bool.or_eq_false_iff, Bool.or_eq_false_iff] at h
    obtain ⟨⟨⟨q1, q2⟩, q3⟩, q4⟩ := h
    obtain ⟨q5, q6⟩ := h2'
    have na' : Nm.isNaN a = false := hna.trans q1
    have nb' : Nm.isNaN b = false := hnb.trans q2
    obtain ⟨la, a2, a3⟩ := Nm.abs_facts na'
    obtain ⟨lb, b2, b3⟩ := Nm.abs_facts nb'
    have ea : Nm.dAbs a % 2 ^ 63 = a % 2 ^ 63 := by unfold Nm.dAbs; rw [na']; simp
    have eb : Nm.dAbs b % 2 ^ 63 = b % 2 ^ 63 := by unfold Nm.dAbs; rw [nb']; simp
    have fa := Nm.fin_lt na' (hia.trans q3)
    have fb := Nm.fin_lt nb' (hib.trans q5)
    obtain ⟨m1, p1⟩ := Nm.mag_mod ea
    obtain ⟨m2, p2⟩ := Nm.mag_mod eb
    have hz : Nm.mag (Nm.dAbs b) ≠ 0 := by
      rw [m2]
      have := hzb.trans q4
      rw [Nm.nought_mag] at this
      exact of_decide_eq_false this
    refine ⟨_, Nm.round_lt _ _ _ _, fun w => remainder_any (Nm.dAbs a) (Nm.dAbs b) la lb (by rw [ea]; exact fa) (by rw [eb]; exact fb) hz w, ?_⟩
    have ex : Nm.mx (Nm.dAbs a) (Nm.dAbs b) = Nm.mx a b := by unfold Nm.mx; rw [m1, p1, p2]
    have ey : Nm.my (Nm.dAbs a) (Nm.dAbs b) = Nm.my a b := by unfold Nm.my; rw [m2, p1, p2]
    rw [ex, ey, p1, p2, ← hR]
    unfold Nm.dMod
    rw [hna, hnb, hia, hzb, hib, hza, hsa, q1, q2, q3, q4, q5, q6]
    simp only [Bool.or_self, Bool.false_eq_true, if_false]
    cases sa
    · simp
    · simp only [if_true]
      unfold Nm.round
      exact Nm.neg_word false (Nm.round_le _ _ _))
  obtain ⟨aa, haa⟩ : ∃ x, Nm.dAbs a = x := ⟨_, rfl⟩
  obtain ⟨ab, hab⟩ : ∃ x, Nm.dAbs b = x := ⟨_, rfl⟩
  rw [haa] at AA FIN
  rw [hab] at AB FIN
  clear haa hab hR hna hnb hia hib hza hzb hsa ha hb
  cases na
  · cases nb
    · cases ia
      · cases zb
        · cases ib
          · cases za
            · cases sa
              · obtain ⟨r, hr, hrem, hF⟩ := FIN.out rfl rfl
                have HREM := Lib.hid hrem
                clear hrem BAD OWN FIN
                rw [if_neg (by decide)] at hF
                subst hF
                clear hr
                have BB := Lib.hid (Below.refl w.heap.size w)
                go_enter Tryz.func112, Tryz.ntmps112
                go_wp2_with fail
                refine (NA.out _).mono ?_
                rintro e' wq1 ⟨rfl, rfl⟩
                go_wp2_with fail
                refine (NB.out _).mono ?_
                rintro e' wq2 ⟨rfl, rfl⟩
                go_wp2_with fail
                refine (IA.out _).mono ?_
                rintro e' wq3 ⟨rfl, rfl⟩
                go_wp2_with fail
                refine (ZB.out _).mono ?_
                rintro e' wq4 ⟨rfl, rfl⟩
                go_wp2_with fail
                refine (IB.out _).mono ?_
                rintro e' wq5 ⟨rfl, rfl⟩
                go_wp2_with fail
                refine (ZA.out _).mono ?_
                rintro e' wq6 ⟨rfl, rfl⟩
                go_wp2_with fail
                refine (AA.out _).mono ?_
                rintro e' wq7 ⟨rfl, rfl⟩
                go_wp2_with fail
                refine (AB.out _).mono ?_
                rintro e' wq8 ⟨rfl, rfl⟩
                go_wp2_with fail
                refine (HREM.out _).mono ?_
                rintro e' wm9 ⟨rfl, hb⟩
                have BB := Lib.hid (BB.out.trans (hb.mono BB.out.size))
                clear hb
                go_wp2_with fail
                refine (SA.out _).mono ?_
                rintro e' wq10 ⟨rfl, rfl⟩
                go_wp2
                go_ret
                exact ⟨rfl, BB.out⟩
              · obtain ⟨r, hr, hrem, hF⟩ := FIN.out rfl rfl
                have HREM := Lib.hid hrem
                clear hrem BAD OWN FIN
                rw [if_pos rfl] at hF
                have CN := Lib.hid (fun w => neg_any r hr w)
                rw [hF] at CN
                clear hF hr
                have BB := Lib.hid (Below.refl w.heap.size w)
                go_enter Tryz.func112, Tryz.ntmps112
                go_wp2_with fail
                refine (NA.out _).mono ?_
                rintro e' wq1 ⟨rfl, rfl⟩
                go_wp2_with fail
                refine (NB.out _).mono ?_
                rintro e' wq2 ⟨rfl, rfl⟩
                go_wp2_with fail
                refine (IA.out _).mono ?_
                rintro e' wq3 ⟨rfl, rfl⟩
                go_wp2_with fail
                refine (ZB.out _).mono ?_
                rintro e' wq4 ⟨rfl, rfl⟩
                go_wp2_with fail
                refine (IB.out _).mono ?_
                rintro e' wq5 ⟨rfl, rfl⟩
                go_wp2_with fail
                refine (ZA.out _).mono ?_
                rintro e' wq6 ⟨rfl, rfl⟩
                go_wp2_with fail
                refine (AA.out _).mono ?_
                rintro e' wq7 ⟨rfl, rfl⟩
                go_wp2_with fail
                refine (AB.out _).mono ?_
                rintro e' wq8 ⟨rfl, rfl⟩
                go_wp2_with fail
                refine (HREM.out _).mono ?_
                rintro e' wm9 ⟨rfl, hb⟩
                have BB := Lib.hid (BB.out.trans (hb.mono BB.out.size))
                clear hb
                go_wp2_with fail
                refine (SA.out _).mono ?_
                rintro e' wq10 ⟨rfl, rfl⟩
                go_wp2_with fail
                refine (CN.out _).mono ?_
                rintro e' wq11 ⟨rfl, rfl⟩
                go_wp2
                go_ret
                exact ⟨rfl, BB.out⟩
            · obtain rfl : a = R := OWN.out rfl rfl
              clear BAD OWN FIN
              have BB := Lib.hid (Below.refl w.heap.size w)
              go_enter Tryz.func112, Tryz.ntmps112
              go_wp2_with fail
              refine (NA.out _).mono ?_
              rintro e' wq1 ⟨rfl, rfl⟩
              go_wp2_with fail
              refine (NB.out _).mono ?_
              rintro e' wq2 ⟨rfl, rfl⟩
              go_wp2_with fail
              refine (IA.out _).mono ?_
              rintro e' wq3 ⟨rfl, rfl⟩
              go_wp2_with fail
              refine (ZB.out _).mono ?_
              rintro e' wq4 ⟨rfl, rfl⟩
              go_wp2_with fail
              refine (IB.out _).mono ?_
              rintro e' wq5 ⟨rfl, rfl⟩
              go_wp2_with fail
              refine (ZA.out _).mono ?_
              rintro e' wq6 ⟨rfl, rfl⟩
              go_wp2
              go_ret
              exact ⟨rfl, BB.out⟩
          · obtain rfl : a = R := OWN.out rfl rfl
            clear BAD OWN FIN
            have BB := Lib.hid (Below.refl w.heap.size w)
            go_enter Tryz.func112, Tryz.ntmps112
            go_wp2_with fail
            refine (NA.out _).mono ?_
            rintro e' wq1 ⟨rfl, rfl⟩
            go_wp2_with fail
            refine (NB.out _).mono ?_
            rintro e' wq2 ⟨rfl, rfl⟩
            go_wp2_with fail
            refine (IA.out _).mono ?_
            rintro e' wq3 ⟨rfl, rfl⟩
            go_wp2_with fail
            refine (ZB.out _).mono ?_
            rintro e' wq4 ⟨rfl, rfl⟩
            go_wp2_with fail
            refine (IB.out _).mono ?_
            rintro e' wq5 ⟨rfl, rfl⟩
            go_wp2
            go_ret
            exact ⟨rfl, BB.out⟩
        · obtain rfl : Nm.nan = R := BAD.out rfl
          clear BAD OWN FIN
          have BB := Lib.hid (Below.refl w.heap.size w)
          go_enter Tryz.func112, Tryz.ntmps112
          go_wp2_with fail
          refine (NA.out _).mono ?_
          rintro e' wq1 ⟨rfl, rfl⟩
          go_wp2_with fail
          refine (NB.out _).mono ?_
          rintro e' wq2 ⟨rfl, rfl⟩
          go_wp2_with fail
          refine (IA.out _).mono ?_
          rintro e' wq3 ⟨rfl, rfl⟩
          go_wp2_with fail
          refine (ZB.out _).mono ?_
          rintro e' wq4 ⟨rfl, rfl⟩
          go_wp2
          go_ret
          exact ⟨rfl, BB.out⟩
      · obtain rfl : Nm.nan = R := BAD.out rfl
        clear BAD OWN FIN
        have BB := Lib.hid (Below.refl w.heap.size w)
        go_enter Tryz.func112, Tryz.ntmps112
        go_wp2_with fail
        refine (NA.out _).mono ?_
        rintro e' wq1 ⟨rfl, rfl⟩
        go_wp2_with fail
        refine (NB.out _).mono ?_
        rintro e' wq2 ⟨rfl, rfl⟩
        go_wp2_with fail
        refine (IA.out _).mono ?_
        rintro e' wq3 ⟨rfl, rfl⟩
        go_wp2
        go_ret
        exact ⟨rfl, BB.out⟩
    · obtain rfl : Nm.nan = R := BAD.out rfl
      clear BAD OWN FIN
      have BB := Lib.hid (Below.refl w.heap.size w)
      go_enter Tryz.func112, Tryz.ntmps112
      go_wp2_with fail
      refine (NA.out _).mono ?_
      rintro e' wq1 ⟨rfl, rfl⟩
      go_wp2_with fail
      refine (NB.out _).mono ?_
      rintro e' wq2 ⟨rfl, rfl⟩
      go_wp2
      go_ret
      exact ⟨rfl, BB.out⟩
  · obtain rfl : Nm.nan = R := BAD.out rfl
    clear BAD OWN FIN
    have BB := Lib.hid (Below.refl w.heap.size w)
    go_enter Tryz.func112, Tryz.ntmps112
    go_wp2_with fail
    refine (NA.out _).mono ?_
    rintro e' wq1 ⟨rfl, rfl⟩
    go_wp2
    go_ret
    exact ⟨rfl, BB.out⟩
end Go.Proofs.YtffohkpohgkglaaGreat
