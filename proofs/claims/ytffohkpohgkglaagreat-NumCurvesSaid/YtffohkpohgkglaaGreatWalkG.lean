/-
  WALKS: Whole of any number; the infinities; a whole number by the document.
-/
import Derived.Test.YtffohkpohgkglaaGreatWalkF
import Derived.Test.YtffohkpohgkglaaGreatBigF
import Derived.Test.YtffohkpohgkglaaGreatNumQ
namespace Go.Proofs.YtffohkpohgkglaaGreat
set_option linter.unusedVariables false
set_option linter.unusedSimpArgs false
open Go.RowKit
open Ieee
theorem whole_any (a : Nat) (ha : a < 2 ^ 64) (w : World) : Calls Tryz.prog 48 #[.int .u64 (a : Int)] w (WholePost w (Nm.dWhole a) (Nm.fits a)) := by
  have hno : Nm.fits a = false → Nm.dWhole a = 0 := fun h => by unfold Nm.dWhole; rw [h]; rfl
  cases hn : Nm.isNaN a
  · obtain ⟨e1, e2, e3, e4, e5, e6, e7, e8, e9, e10, e11, e12⟩ := Nm.edge_facts
    obtain ⟨p1, _, _⟩ := Nm.ord_eq ha e9 hn e11
    obtain ⟨_, p2, _⟩ := Nm.ord_eq ha e10 hn e12
    have p1' : (FloatKind.f64.format.order a 14114281232179134464 == some .lt) = decide (Nm.key a < Nm.key Nm.lo63) := p1
    have p2' : (FloatKind.f64.format.order a 4890909195324358656 == some .gt || FloatKind.f64.format.order a 4890909195324358656 == some .eq) = decide (Nm.key Nm.hi63 ≤ Nm.key a) := p2
    cases hi : Nm.isInf a
    · have hf := Nm.fin_lt hn hi
      cases hl : Nm.left a
      · have ht := Nm.trunc_whole ha hf hl
        have h1 : (FloatKind.f64.format.order a (Nm.dTrunc a) != some .eq) = false := by
          rw [ht]
          have := (Nm.ord_eq ha ha hn hn).2.2
          rw [decide_eq_false (by simp)] at this
          exact this
        by_cases hlo : Nm.neg a = true ∧ 2 ^ 63 < Nm.wv a
        · have hfit : Nm.fits a = false := by
            unfold Nm.fits
            rw [hn, hi, hl, hlo.1, if_pos rfl, decide_eq_false (by have := hlo.2; omega)]; rfl
          rw [hfit, hno hfit]
          exact whole_low a ha hn h1 (by rw [p1', decide_eq_true ((Nm.fin_low hf hl).2 hlo)]) w
        · by_cases hhi : Nm.neg a = false ∧ 2 ^ 63 ≤ Nm.wv a
          · have hfit : Nm.fits a = false := by
              unfold Nm.fits
              rw [hn, hi, hl, hhi.1, if_neg (by decide), decide_eq_false (by have := hhi.2; omega)]; rfl
            rw [hfit, hno hfit]
            exact whole_high a ha hn h1 (by rw [p1', decide_eq_false (fun h => hlo ((Nm.fin_low hf hl).1 h))]) (by rw [p2', decide_eq_true ((Nm.fin_high hf hl).2 hhi)]) w
          · have hfit : Nm.fits a = true := by
              unfold Nm.fits
              rw [hn, hi, hl]
              cases hs : Nm.neg a
              · rw [if_neg (by decide), decide_eq_true (by
                  refine Decidable.by_contra fun h => hhi ⟨hs, by omega⟩)]; rfl
              · rw [if_pos rfl, decide_eq_true (by
                  refine Decidable.by_contra fun h => hlo ⟨hs, by omega⟩)]; rfl
            have hw : Nm.dWhole a = Nm.sg (Nm.neg a) (Nm.wv a) := by unfold Nm.dWhole; rw [hfit, if_pos rfl]
            rw [hfit, hw]
            refine whole_fits a ha hn h1 (by rw [p1', decide_eq_false (fun h => hlo ((Nm.fin_low hf hl).1 h))]) (by rw [p2', decide_eq_false (fun h => hhi ((Nm.fin_high hf hl).1 h))]) _ ?_ w
            unfold floatToIntVal
            rw [show (FloatKind.f64.decode a).toInt .zero = (double.read a).toInt .zero from rfl, Nm.toInt_eq ha hf]
            simp only []
            rw [if_pos]
            rw [show IntKind.i64.min = -9223372036854775808 from rfl, show IntKind.i64.max = 9223372036854775807 from rfl]
            unfold Nm.sg
            cases hs : Nm.neg a
            · have : Nm.wv a < 2 ^ 63 := Decidable.by_contra fun h => hhi ⟨hs, by omega⟩
              rw [if_neg (by decide)]
              omega
            · have : Nm.wv a ≤ 2 ^ 63 := Decidable.by_contra fun h => hlo ⟨hs, by omega⟩
              rw [if_pos rfl]
              omega
      · have hfit : Nm.fits a = false := by
          unfold Nm.fits
          rw [hn, hi, hl]; rfl
        rw [hfit, hno hfit]
        obtain ⟨t1, t2, t3⟩ := Nm.trunc_left ha hf hl
        have h1 : (FloatKind.f64.format.order a (Nm.dTrunc a) != some .eq) = true := by
          have := (Nm.ord_eq ha t3 hn t2).2.2
          rw [decide_eq_true (Ne.symm t1)] at this
          exact this
        exact whole_rest a ha hn h1 w
    · have hfit : Nm.fits a = false := by
        unfold Nm.fits
        rw [hn, hi]; rfl
      rw [hfit, hno hfit]
      have ht : Nm.dTrunc a = a := by unfold Nm.dTrunc Nm.dStep; rw [hn, hi]; rfl
      have h1 : (FloatKind.f64.format.order a (Nm.dTrunc a) != some .eq) = false := by
        rw [ht]
        have := (Nm.ord_eq ha ha hn hn).2.2
        rw [decide_eq_false (by simp)] at this
        exact this
      have f1 := Nm.key_fin e4
      have f2 := Nm.key_fin e8
      cases hs : Nm.neg a
      · have hk := Nm.key_inf_pos hi hs
        exact whole_high a ha hn h1 (by rw [p1', decide_eq_false (by omega)]) (by rw [p2', decide_eq_true (by omega)]) w
      · have hk := Nm.key_inf_neg hi hs
        exact whole_low a ha hn h1 (by rw [p1', decide_eq_true (by omega)]) w
  · have hfit : Nm.fits a = false := by
      unfold Nm.fits
      rw [hn]; rfl
    rw [hfit, hno hfit]
    exact whole_nan a ha hn w
theorem inf_any (s : Bool) (w : World) : Calls Tryz.prog 62 #[.bool s] w fun e w' => e = .returned (.int .u64 (if s then 18442240474082181120 else 9218868437227405312)) ∧ w' = w := by
  cases s
  · go_enter Tryz.func62, Tryz.ntmps62
    go_wp2
    go_ret
    exact ⟨rfl, rfl⟩
  · go_enter Tryz.func62, Tryz.ntmps62
    go_wp2
    go_ret
    exact ⟨rfl, rfl⟩
/-- the document's own -/
theorem rint_any (n : Int) (h1 : -9223372036854775808 ≤ n) (h2 : n ≤ 9223372036854775807) (w : World) : Calls Tryz.prog 58 #[.int .i64 n] w (Gives w (.int .u64 (dInt n : Nat))) := by
  obtain ⟨m, hm⟩ : ∃ m, n.natAbs = m := ⟨_, rfl⟩
  have hl : m < 2 ^ 64 := by omega
  have CF := Lib.hid (fun w => from_any m hl w)
  have hlen : (Nm.wds m).length ≤ 2 := Nm.wds_len2 hl
  have CR : Hid (∀ w v, Big w v m → Calls Tryz.prog 76 #[.bool (decide (n < 0)), v, .int .i64 0, .bool false] w (Gives w (.int .u64 (dInt n : Nat)))) := Lib.hid (by
    unfold dInt
    rw [hm]
    exact fun w v H => round_any _ false v m 0 w H (by omega) (by omega) (by omega))
  obtain ⟨R, hR⟩ : ∃ R, dInt n = R := ⟨_, rfl⟩
  rw [hR] at CR ⊢
  clear hR hlen
  by_cases hn : n < 0
  · have d1 : decide (n < 0) = true := decide_eq_true hn
    have hu : IntKind.u64.wrap (-IntKind.u64.wrap n) = (m : Int) := by rw [IntKind.wrap_u64, IntKind.wrap_u64]; omega
    rw [d1] at CR
    clear hm hl
    go_enter Tryz.func58, Tryz.ntmps58
    go_wp2_with fail
    refine (CF.out _).mono ?_
    rintro e w2 ⟨v2, rfl, hbig2, hb2⟩
    have G2 := Lib.hid hbig2
    have B2 := Lib.hid hb2
    clear hbig2 hb2
    go_wp2_with fail
    refine (CR.out _ _ G2.out).mono ?_
    rintro e w3 ⟨rfl, hb3⟩
    have B3 := Lib.hid (B2.out.trans (hb3.mono B2.out.size))
    clear hb3
    go_wp2
    go_ret
    exact ⟨rfl, B3.out⟩
  · have d1 : decide (n < 0) = false := decide_eq_false hn
    obtain rfl : n = (m : Int) := by omega
    rw [d1] at CR
    clear hm hl
    go_enter Tryz.func58, Tryz.ntmps58
    go_wp2_with fail
    refine (CF.out _).mono ?_
    rintro e w2 ⟨v2, rfl, hbig2, hb2⟩
    have G2 := Lib.hid hbig2
    have B2 := Lib.hid hb2
    clear hbig2 hb2
    go_wp2_with fail
    refine (CR.out _ _ G2.out).mono ?_
    rintro e w3 ⟨rfl, hb3⟩
    have B3 := Lib.hid (B2.out.trans (hb3.mono B2.out.size))
    clear hb3
    go_wp2
    go_ret
    exact ⟨rfl, B3.out⟩
end Go.Proofs.YtffohkpohgkglaaGreat
