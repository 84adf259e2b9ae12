/-
  CURVES, put together of CurveD, CurveE, CurveF (a claim holds at most 60 files).
-/
import Derived.Test.YtffohkpohgkglaaGreatCurveP
import Derived.Test.YtffohkpohgkglaaGreatWalkM
/-! ## CURVES: Atan, the code's and the document's. -/
namespace Go.Proofs.YtffohkpohgkglaaGreat
set_option linter.unusedVariables false
set_option linter.unusedSimpArgs false
open Go.RowKit
def dOdd (z : Nat) : Nat := Nm.dMul z (serN (fAtan (Nm.dMul z z)) 2 1 23 (Nm.dDiv 4607182418800017408 (dInt 47)))
def dLeast (y : Nat) : Nat := if dLt 4601133428098527026 y then Nm.dAdd 4605249457297304856 (dOdd (Nm.dDiv (Nm.dSub y 4607182418800017408) (Nm.dAdd y 4607182418800017408))) else dOdd y
def aAtan (x : Nat) : Nat := if dLt 4607182418800017408 x then Nm.dSub 4609753056924675352 (dLeast (Nm.dDiv 4607182418800017408 x)) else dLeast x
def dAtan (a : Nat) : Nat := if Nm.neg a then Nm.dNeg (aAtan (Nm.dAbs a)) else aAtan (Nm.dAbs a)
theorem dOdd_ok (z : Nat) : dOdd z < 2 ^ 64 := (Nm.ok_mul _ _).1
theorem dLeast_ok (z : Nat) : dLeast z < 2 ^ 64 := by
  unfold dLeast
  split
  · exact (Nm.ok_add _ _ (by decide) (dOdd_ok _)).1
  · exact dOdd_ok _
theorem aAtan_ok (z : Nat) : aAtan z < 2 ^ 64 := by
  unfold aAtan
  split
  · exact sub_ok _ _ (by decide) (dLeast_ok _)
  · exact dLeast_ok _
theorem dAtan_ok (z : Nat) : dAtan z < 2 ^ 64 := by
  unfold dAtan
  split
  · exact Nm.neg_lt _ (aAtan_ok _)
  · exact aAtan_ok _
theorem dAtan_nan {a : Nat} (h : Nm.isNaN a = true) : dAtan a = Nm.nan := by
  have e1 : Nm.dAbs a = Nm.nan := by unfold Nm.dAbs; rw [if_pos h]
  have l1 : ∀ x, dLt x Nm.nan = false := fun x => by
    unfold dLt
    rw [Nm.cmp_turn Nm.nan x, Nm.cmp_nan (a := x) (b := Nm.nan) (by decide)]
    rfl
  have e2 : dOdd Nm.nan = Nm.nan := by unfold dOdd; exact Nm.mul_nan (a := Nm.nan) _ (by decide)
  unfold dAtan aAtan dLeast
  rw [e1]
  simp only [l1, e2, Bool.false_eq_true, if_false]
  split
  · exact Nm.neg_nan (a := Nm.nan) (by decide)
  · rfl
set_option maxHeartbeats 2000000 in
theorem odd_any (z : Nat) (hz : z < 2 ^ 64) (w : World) : Calls Tryz.prog 117 #[.int .u64 (z : Int)] w (Gives w (.int .u64 (dOdd z : Nat))) := by
  have hmf : ∀ (fn : Fn) (first cap : Array Value) (w : World), (Instr.makeFunc fn first cap).run Tryz.prog w = .ok (.func fn first cap) w := fun _ _ _ _ => rfl
  have Cq : Hid (∀ w, Calls Tryz.prog 42 #[.int .u64 (z : Nat), .int .u64 (z : Nat)] w (Gives w (.int .u64 (Nm.dMul z z : Nat)))) := Lib.hid (fun w => mul_any z z hz hz w)
  have oq : Nm.dMul z z < 2 ^ 64 := (Nm.ok_mul _ _).1
  obtain ⟨q, hq⟩ : ∃ vv, Nm.dMul z z = vv := ⟨_, rfl⟩
  rw [hq] at Cq oq
  have Ci : Hid (∀ w, Calls Tryz.prog 47 #[.int .i64 (47)] w (Gives w (.int .u64 (dInt (47) : Nat)))) := Lib.hid (fun w => (int_any (47) w).mono fun _ _ h => gives_of h)
  have oi : dInt (47) < 2 ^ 64 := (ok_int _).1
  obtain ⟨i, hi⟩ : ∃ vv, dInt (47) = vv := ⟨_, rfl⟩
  rw [hi] at Ci oi
  have Cd : Hid (∀ w, Calls Tryz.prog 46 #[.int .u64 4607182418800017408, .int .u64 (i : Nat)] w (Gives w (.int .u64 (Nm.dDiv 4607182418800017408 i : Nat)))) := Lib.hid (fun w => div_any 4607182418800017408 i (by decide) oi w)
  have od : Nm.dDiv 4607182418800017408 i < 2 ^ 64 := (Nm.ok_div _ _).1
  obtain ⟨d, hd⟩ : ∃ vv, Nm.dDiv 4607182418800017408 i = vv := ⟨_, rfl⟩
  rw [hd] at Cd od
  have CS : Hid (∀ (w : World) (g : Nat), g < w.heap.size → w.cell? ⟨g, 0, none⟩ = some (.int .u64 (q : Nat)) → Calls Tryz.prog 44 #[.int .u64 (d : Nat), .int .i64 45, .int .i64 2, .int .i64 1, .func (.func 129) #[] #[.pointer (some ⟨g, 0, none⟩)]] w (Gives w (.int .u64 (serN (fAtan q) 2 1 23 d : Nat)))) := Lib.hid (fun w g hg hc => serAtan_any q d g 23 (by decide) oq od w hg hc 45 (by decide))
  have oP : serN (fAtan q) 2 1 23 d < 2 ^ 64 := serN_ok _ (fun p i => fAtan_ok _ p i) _ _ _ _ od
  obtain ⟨P, hP⟩ : ∃ x, serN (fAtan q) 2 1 23 d = x := ⟨_, rfl⟩
  rw [hP] at CS oP
  have CE : Hid (∀ w, Calls Tryz.prog 42 #[.int .u64 (z : Nat), .int .u64 (P : Nat)] w (Gives w (.int .u64 (Nm.dMul z P : Nat)))) := Lib.hid (fun w => mul_any z P hz oP w)
  have oE : Nm.dMul z P < 2 ^ 64 := (Nm.ok_mul _ _).1
  obtain ⟨E, hE⟩ : ∃ vv, Nm.dMul z P = vv := ⟨_, rfl⟩
  rw [hE] at CE oE
  rw [show dOdd z = E by unfold dOdd; rw [hq, hi, hd, hP, hE]]
  clear hq hi hd hE oq oi od oE hP oP hz
  have BB := Lib.hid (Below.refl w.heap.size w)
  go_enter Tryz.func117, Tryz.ntmps117
  go_wp2_with fail
  refine (Cq.out _).mono ?_
  rintro e' wm1 ⟨rfl, hb⟩
  have BB := Lib.hid (BB.out.trans (hb.mono BB.out.size))
  clear hb
  have BB := Lib.hid (BB.out.alloc BB.out.size (Obj.cells #[.int .u64 (q : Nat)] 23))
  have LV := Lib.hid (Since.same (wm1.alloc (Obj.cells #[.int .u64 (q : Nat)] 23)))
  go_wp2_with fail
  refine (Ci.out _).mono ?_
  rintro e' wm2 ⟨rfl, hb⟩
  have LV := Lib.hid (LV.out.below hb)
  have BB := Lib.hid (BB.out.trans (hb.mono BB.out.size))
  clear hb
  go_wp2_with fail
  refine (Cd.out _).mono ?_
  rintro e' wm3 ⟨rfl, hb⟩
  have LV := Lib.hid (LV.out.below hb)
  have BB := Lib.hid (BB.out.trans (hb.mono BB.out.size))
  clear hb
  go_wp2_with fail
  refine (CS.out _ _ (Nat.lt_of_lt_of_le (alloc_lt _ _) LV.out.out.size) ((LV.out.out.cell (alloc_lt _ _)).trans (World.cell?_alloc_at _ _ _ _ rfl))).mono ?_
  rintro e' wm4 ⟨rfl, hb⟩
  have LV := Lib.hid (LV.out.below hb)
  have BB := Lib.hid (BB.out.trans (hb.mono BB.out.size))
  clear hb
  go_wp2_with fail
  refine (CE.out _).mono ?_
  rintro e' wm5 ⟨rfl, hb⟩
  have LV := Lib.hid (LV.out.below hb)
  have BB := Lib.hid (BB.out.trans (hb.mono BB.out.size))
  clear hb
  go_wp2
  go_ret
  exact ⟨rfl, BB.out⟩
set_option maxHeartbeats 2000000 in
theorem rodd_any (z : Nat) (hz : z < 2 ^ 64) (w : World) : Calls Tryz.prog 118 #[.int .u64 (z : Int)] w (Gives w (.int .u64 (dOdd z : Nat))) := by
  have Cq : Hid (∀ w, Calls Tryz.prog 55 #[.int .u64 (z : Nat), .int .u64 (z : Nat)] w (Gives w (.int .u64 (Nm.dMul z z : Nat)))) := Lib.hid (fun w => rmul_any z z hz hz w)
  have oq : Nm.dMul z z < 2 ^ 64 := (Nm.ok_mul _ _).1
  obtain ⟨q, hq⟩ : ∃ vv, Nm.dMul z z = vv := ⟨_, rfl⟩
  rw [hq] at Cq oq
  have Ci : Hid (∀ w, Calls Tryz.prog 58 #[.int .i64 (47)] w (Gives w (.int .u64 (dInt (47) : Nat)))) := Lib.hid (fun w => rint_any (47) (by decide) (by decide) w)
  have oi : dInt (47) < 2 ^ 64 := (ok_int _).1
  obtain ⟨i, hi⟩ : ∃ vv, dInt (47) = vv := ⟨_, rfl⟩
  rw [hi] at Ci oi
  have Cd : Hid (∀ w, Calls Tryz.prog 57 #[.int .u64 4607182418800017408, .int .u64 (i : Nat)] w (Gives w (.int .u64 (Nm.dDiv 4607182418800017408 i : Nat)))) := Lib.hid (fun w => rdiv_any 4607182418800017408 i (by decide) oi w)
  have od : Nm.dDiv 4607182418800017408 i < 2 ^ 64 := (Nm.ok_div _ _).1
  obtain ⟨d, hd⟩ : ∃ vv, Nm.dDiv 4607182418800017408 i = vv := ⟨_, rfl⟩
  rw [hd] at Cd od
  have oP : serN (fAtan q) 2 1 23 d < 2 ^ 64 := serN_ok _ (fun p i => fAtan_ok _ p i) _ _ _ _ od
  obtain ⟨P, hP⟩ : ∃ x, serN (fAtan q) 2 1 23 d = x := ⟨_, rfl⟩
  have HP := Lib.hid hP
  have HQ := Lib.hid oq
  have HD := Lib.hid od
  rw [hP] at oP
  have CE : Hid (∀ w, Calls Tryz.prog 55 #[.int .u64 (z : Nat), .int .u64 (P : Nat)] w (Gives w (.int .u64 (Nm.dMul z P : Nat)))) := Lib.hid (fun w => rmul_any z P hz oP w)
  have oE : Nm.dMul z P < 2 ^ 64 := (Nm.ok_mul _ _).1
  obtain ⟨E, hE⟩ : ∃ vv, Nm.dMul z P = vv := ⟨_, rfl⟩
  rw [hE] at CE oE
  rw [show dOdd z = E by unfold dOdd; rw [hq, hi, hd, hP, hE]]
  clear hq hi hd hE oq oi od oE hP oP hz
  have BB := Lib.hid (Below.refl w.heap.size w)
  go_enter Tryz.func118, Tryz.ntmps118
  go_wp2_with fail
  refine (Cq.out _).mono ?_
  rintro e' wm1 ⟨rfl, hb⟩
  have BB := Lib.hid (BB.out.trans (hb.mono BB.out.size))
  clear hb
  go_wp2_with fail
  refine (Ci.out _).mono ?_
  rintro e' wm2 ⟨rfl, hb⟩
  have BB := Lib.hid (BB.out.trans (hb.mono BB.out.size))
  clear hb
  go_wp2_with fail
  refine (Cd.out _).mono ?_
  rintro e' wm3 ⟨rfl, hb⟩
  have BB := Lib.hid (BB.out.trans (hb.mono BB.out.size))
  clear hb
  go_wp2
  go_loopw [4, 5] (fun q' i' wr => ∃ (m t : Nat) (j : Int), i' = .int .i64 j ∧ q' = .int .u64 (t : Nat) ∧ -1 ≤ j ∧ j ≤ 100 ∧ Hid (j = (2 * m : Nat) - 1) ∧ Hid (t < 2 ^ 64) ∧ Hid (serN (fAtan q) 2 1 m t = P) ∧ Hid (Below w.heap.size w wr)) (fun _ i _ => (intOf i + 2).toNat)
  case atStart => exact ⟨23, d, 45, rfl, rfl, by omega, by omega, Lib.hid (by decide), HD, HP, BB⟩
  case round =>
    obtain ⟨m, t, j, rfl, rfl, hj1, hj2, HJ, HT, HS, BB⟩ := hrel
    cases m with
    | zero =>
      have d1 : decide (j ≥ 1) = false := by have := HJ.out; apply decide_eq_false; omega
      have d2 : decide ((1 : Int) ≤ j) = false := d1
      obtain rfl : t = P := HS.out
      go_wp2_with fail
      refine (CE.out _).mono ?_
      rintro e' wm4 ⟨rfl, hb⟩
      have BB := Lib.hid (BB.out.trans (hb.mono BB.out.size))
      clear hb
      go_wp2
      go_ret
      exact ⟨rfl, BB.out⟩
    | succ m =>
      have d1 : decide (j ≥ 1) = true := by have := HJ.out; apply decide_eq_true; omega
      have d2 : decide ((1 : Int) ≤ j) = true := d1
      have hj3 : 1 ≤ j := of_decide_eq_true d2
      have e3 : IntKind.i64.wrap (j - 2) = j - 2 := by rw [IntKind.wrap_i64]; omega
      have HS2 : Hid (serN (fAtan q) 2 1 m (fAtan q t j) = P) := Lib.hid (by
        have h := HS.out
        have ej : ((2 * (m + 1) : Nat) : Int) - ((1 : Nat) : Int) = j := by have := HJ.out; omega
        rw [serN, ej] at h
        exact h)
      have HF := Lib.hid (fAtan_ok q t j)
      have CX1 := Lib.hid (fun w => rint_any j (by omega) (by omega) w)
      have CX2 : Hid (∀ w, Calls Tryz.prog 57 #[.int .u64 4607182418800017408, .int .u64 (dInt j : Nat)] w (Gives w (.int .u64 (Nm.dDiv 4607182418800017408 (dInt j) : Nat)))) := Lib.hid (fun w => rdiv_any 4607182418800017408 (dInt j) (by decide) (ok_int _).1 w)
      have CX3 := Lib.hid (fun w => rmul_any q t HQ.out HT.out w)
      have CX4 : Hid (∀ w, Calls Tryz.prog 56 #[.int .u64 (Nm.dDiv 4607182418800017408 (dInt j) : Nat), .int .u64 (Nm.dMul q t : Nat)] w (Gives w (.int .u64 (fAtan q t j : Nat)))) := Lib.hid (fun w => rsub_any _ _ (Nm.ok_div _ _).1 (Nm.ok_mul _ _).1 w)
      obtain ⟨Q, hQ⟩ : ∃ R, fAtan q t j = R := ⟨_, rfl⟩
      rw [hQ] at CX4 HS2 HF
      obtain ⟨D, hD⟩ : ∃ R, Nm.dDiv 4607182418800017408 (dInt j) = R := ⟨_, rfl⟩
      rw [hD] at CX2 CX4
      obtain ⟨M, hM⟩ : ∃ R, Nm.dMul q t = R := ⟨_, rfl⟩
      rw [hM] at CX3 CX4
      obtain ⟨I, hI⟩ : ∃ R, dInt j = R := ⟨_, rfl⟩
      rw [hI] at CX1 CX2
      clear hQ hD hM hI
      go_wp2_with fail
      refine (CX1.out _).mono ?_
      rintro e' wm5 ⟨rfl, hb⟩
      have BB := Lib.hid (BB.out.trans (hb.mono BB.out.size))
      clear hb
      go_wp2_with fail
      refine (CX2.out _).mono ?_
      rintro e' wm6 ⟨rfl, hb⟩
      have BB := Lib.hid (BB.out.trans (hb.mono BB.out.size))
      clear hb
      go_wp2_with fail
      refine (CX3.out _).mono ?_
      rintro e' wm7 ⟨rfl, hb⟩
      have BB := Lib.hid (BB.out.trans (hb.mono BB.out.size))
      clear hb
      go_wp2_with fail
      refine (CX4.out _).mono ?_
      rintro e' wm8 ⟨rfl, hb⟩
      have BB := Lib.hid (BB.out.trans (hb.mono BB.out.size))
      clear hb
      go_wp2
      go_roundw
      case rel => exact ⟨m, _, j - 2, by first | rfl | rw [e3], rfl, by omega, by omega, Lib.hid (by have := HJ.out; omega), HF, HS2, BB⟩
      case measure => simp [intOf]; omega
set_option maxHeartbeats 2000000 in
theorem least_any (y : Nat) (hy : y < 2 ^ 64) (w : World) : Calls Tryz.prog 87 #[.int .u64 (y : Int)] w (Gives w (.int .u64 (dLeast y : Nat))) := by
  have Cl : Hid (∀ w, Calls Tryz.prog 39 #[.int .u64 4601133428098527026, .int .u64 (y : Nat)] w (Gives w (.bool (dLt 4601133428098527026 y)))) := Lib.hid (fun w => (isless_any 4601133428098527026 y (by decide) hy w).mono fun _ _ h => gives_of h)
  obtain ⟨l, hl⟩ : ∃ vv, dLt 4601133428098527026 y = vv := ⟨_, rfl⟩
  rw [hl] at Cl
  obtain ⟨R, hR⟩ : ∃ x, dLeast y = x := ⟨_, rfl⟩
  rw [hR]
  unfold dLeast at hR
  rw [hl] at hR
  cases l
  · rw [if_neg (by decide)] at hR
    have CE : Hid (∀ w, Calls Tryz.prog 117 #[.int .u64 (y : Nat)] w (Gives w (.int .u64 (dOdd y : Nat)))) := Lib.hid (fun w => odd_any y hy w)
    have oE : dOdd y < 2 ^ 64 := dOdd_ok _
    obtain ⟨E, hE⟩ : ∃ vv, dOdd y = vv := ⟨_, rfl⟩
    rw [hE] at CE oE
    obtain rfl : E = R := by rw [← hR, hE]
    clear hl hE oE hy hR
    have BB := Lib.hid (Below.refl w.heap.size w)
    go_enter Tryz.func87, Tryz.ntmps87
    go_wp2_with fail
    refine (Cl.out _).mono ?_
    rintro e' wm1 ⟨rfl, hb⟩
    have BB := Lib.hid (BB.out.trans (hb.mono BB.out.size))
    clear hb
    go_wp2_with fail
    refine (CE.out _).mono ?_
    rintro e' wm2 ⟨rfl, hb⟩
    have BB := Lib.hid (BB.out.trans (hb.mono BB.out.size))
    clear hb
    go_wp2
    go_ret
    exact ⟨rfl, BB.out⟩
  · rw [if_pos rfl] at hR
    have Cu : Hid (∀ w, Calls Tryz.prog 43 #[.int .u64 (y : Nat), .int .u64 4607182418800017408] w (Gives w (.int .u64 (Nm.dSub y 4607182418800017408 : Nat)))) := Lib.hid (fun w => sub_any y 4607182418800017408 hy (by decide) w)
    have ou : Nm.dSub y 4607182418800017408 < 2 ^ 64 := sub_ok _ _ hy (by decide)
    obtain ⟨u, hu⟩ : ∃ vv, Nm.dSub y 4607182418800017408 = vv := ⟨_, rfl⟩
    rw [hu] at Cu ou
    have Cv : Hid (∀ w, Calls Tryz.prog 41 #[.int .u64 (y : Nat), .int .u64 4607182418800017408] w (Gives w (.int .u64 (Nm.dAdd y 4607182418800017408 : Nat)))) := Lib.hid (fun w => add_any y 4607182418800017408 hy (by decide) w)
    have ov : Nm.dAdd y 4607182418800017408 < 2 ^ 64 := (Nm.ok_add _ _ hy (by decide)).1
    obtain ⟨v, hv⟩ : ∃ vv, Nm.dAdd y 4607182418800017408 = vv := ⟨_, rfl⟩
    rw [hv] at Cv ov
    have Cz : Hid (∀ w, Calls Tryz.prog 46 #[.int .u64 (u : Nat), .int .u64 (v : Nat)] w (Gives w (.int .u64 (Nm.dDiv u v : Nat)))) := Lib.hid (fun w => div_any u v ou ov w)
    have oz : Nm.dDiv u v < 2 ^ 64 := (Nm.ok_div _ _).1
    obtain ⟨z, hz⟩ : ∃ vv, Nm.dDiv u v = vv := ⟨_, rfl⟩
    rw [hz] at Cz oz
    have Co : Hid (∀ w, Calls Tryz.prog 117 #[.int .u64 (z : Nat)] w (Gives w (.int .u64 (dOdd z : Nat)))) := Lib.hid (fun w => odd_any z oz w)
    have oo : dOdd z < 2 ^ 64 := dOdd_ok _
    obtain ⟨o, ho⟩ : ∃ vv, dOdd z = vv := ⟨_, rfl⟩
    rw [ho] at Co oo
    have CE : Hid (∀ w, Calls Tryz.prog 41 #[.int .u64 4605249457297304856, .int .u64 (o : Nat)] w (Gives w (.int .u64 (Nm.dAdd 4605249457297304856 o : Nat)))) := Lib.hid (fun w => add_any 4605249457297304856 o (by decide) oo w)
    have oE : Nm.dAdd 4605249457297304856 o < 2 ^ 64 := (Nm.ok_add _ _ (by decide) oo).1
    obtain ⟨E, hE⟩ : ∃ vv, Nm.dAdd 4605249457297304856 o = vv := ⟨_, rfl⟩
    rw [hE] at CE oE
    obtain rfl : E = R := by rw [← hR, hu, hv, hz, ho, hE]
    clear hl hu hv hz ho hE ou ov oz oo oE hy hR
    have BB := Lib.hid (Below.refl w.heap.size w)
    go_enter Tryz.func87, Tryz.ntmps87
    go_wp2_with fail
    refine (Cl.out _).mono ?_
    rintro e' wm1 ⟨rfl, hb⟩
    have BB := Lib.hid (BB.out.trans (hb.mono BB.out.size))
    clear hb
    go_wp2_with fail
    refine (Cu.out _).mono ?_
    rintro e' wm2 ⟨rfl, hb⟩
    have BB := Lib.hid (BB.out.trans (hb.mono BB.out.size))
    clear hb
    go_wp2_with fail
    refine (Cv.out _).mono ?_
    rintro e' wm3 ⟨rfl, hb⟩
    have BB := Lib.hid (BB.out.trans (hb.mono BB.out.size))
    clear hb
    go_wp2_with fail
    refine (Cz.out _).mono ?_
    rintro e' wm4 ⟨rfl, hb⟩
    have BB := Lib.hid (BB.out.trans (hb.mono BB.out.size))
    clear hb
    go_wp2_with fail
    refine (Co.out _).mono ?_
    rintro e' wm5 ⟨rfl, hb⟩
    have BB := Lib.hid (BB.out.trans (hb.mono BB.out.size))
    clear hb
    go_wp2_with fail
    refine (CE.out _).mono ?_
    rintro e' wm6 ⟨rfl, hb⟩
    have BB := Lib.hid (BB.out.trans (hb.mono BB.out.size))
    clear hb
    go_wp2
    go_ret
    exact ⟨rfl, BB.out⟩
set_option maxHeartbeats 2000000 in
theorem rleast_any (y : Nat) (hy : y < 2 ^ 64) (w : World) : Calls Tryz.prog 88 #[.int .u64 (y : Int)] w (Gives w (.int .u64 (dLeast y : Nat))) := by
  have Cl : Hid (∀ w, Calls Tryz.prog 51 #[.int .u64 (y : Nat), .int .u64 4601133428098527026] w (Gives w (.bool (dLt 4601133428098527026 y)))) := Lib.hid (fun w => rabove_any y 4601133428098527026 hy (by decide) w)
  obtain ⟨l, hl⟩ : ∃ vv, dLt 4601133428098527026 y = vv := ⟨_, rfl⟩
  rw [hl] at Cl
  obtain ⟨R, hR⟩ : ∃ x, dLeast y = x := ⟨_, rfl⟩
  rw [hR]
  unfold dLeast at hR
  rw [hl] at hR
  cases l
  · rw [if_neg (by decide)] at hR
    have CE : Hid (∀ w, Calls Tryz.prog 118 #[.int .u64 (y : Nat)] w (Gives w (.int .u64 (dOdd y : Nat)))) := Lib.hid (fun w => rodd_any y hy w)
    have oE : dOdd y < 2 ^ 64 := dOdd_ok _
    obtain ⟨E, hE⟩ : ∃ vv, dOdd y = vv := ⟨_, rfl⟩
    rw [hE] at CE oE
    obtain rfl : E = R := by rw [← hR, hE]
    clear hl hE oE hy hR
    have BB := Lib.hid (Below.refl w.heap.size w)
    go_enter Tryz.func88, Tryz.ntmps88
    go_wp2_with fail
    refine (Cl.out _).mono ?_
    rintro e' wm1 ⟨rfl, hb⟩
    have BB := Lib.hid (BB.out.trans (hb.mono BB.out.size))
    clear hb
    go_wp2_with fail
    refine (CE.out _).mono ?_
    rintro e' wm2 ⟨rfl, hb⟩
    have BB := Lib.hid (BB.out.trans (hb.mono BB.out.size))
    clear hb
    go_wp2
    go_ret
    exact ⟨rfl, BB.out⟩
  · rw [if_pos rfl] at hR
    have Cu : Hid (∀ w, Calls Tryz.prog 56 #[.int .u64 (y : Nat), .int .u64 4607182418800017408] w (Gives w (.int .u64 (Nm.dSub y 4607182418800017408 : Nat)))) := Lib.hid (fun w => rsub_any y 4607182418800017408 hy (by decide) w)
    have ou : Nm.dSub y 4607182418800017408 < 2 ^ 64 := sub_ok _ _ hy (by decide)
    obtain ⟨u, hu⟩ : ∃ vv, Nm.dSub y 4607182418800017408 = vv := ⟨_, rfl⟩
    rw [hu] at Cu ou
    have Cv : Hid (∀ w, Calls Tryz.prog 54 #[.int .u64 (y : Nat), .int .u64 4607182418800017408] w (Gives w (.int .u64 (Nm.dAdd y 4607182418800017408 : Nat)))) := Lib.hid (fun w => radd_any y 4607182418800017408 hy (by decide) w)
    have ov : Nm.dAdd y 4607182418800017408 < 2 ^ 64 := (Nm.ok_add _ _ hy (by decide)).1
    obtain ⟨v, hv⟩ : ∃ vv, Nm.dAdd y 4607182418800017408 = vv := ⟨_, rfl⟩
    rw [hv] at Cv ov
    have Cz : Hid (∀ w, Calls Tryz.prog 57 #[.int .u64 (u : Nat), .int .u64 (v : Nat)] w (Gives w (.int .u64 (Nm.dDiv u v : Nat)))) := Lib.hid (fun w => rdiv_any u v ou ov w)
    have oz : Nm.dDiv u v < 2 ^ 64 := (Nm.ok_div _ _).1
    obtain ⟨z, hz⟩ : ∃ vv, Nm.dDiv u v = vv := ⟨_, rfl⟩
    rw [hz] at Cz oz
    have Co : Hid (∀ w, Calls Tryz.prog 118 #[.int .u64 (z : Nat)] w (Gives w (.int .u64 (dOdd z : Nat)))) := Lib.hid (fun w => rodd_any z oz w)
    have oo : dOdd z < 2 ^ 64 := dOdd_ok _
    obtain ⟨o, ho⟩ : ∃ vv, dOdd z = vv := ⟨_, rfl⟩
    rw [ho] at Co oo
    have CE : Hid (∀ w, Calls Tryz.prog 54 #[.int .u64 4605249457297304856, .int .u64 (o : Nat)] w (Gives w (.int .u64 (Nm.dAdd 4605249457297304856 o : Nat)))) := Lib.hid (fun w => radd_any 4605249457297304856 o (by decide) oo w)
    have oE : Nm.dAdd 4605249457297304856 o < 2 ^ 64 := (Nm.ok_add _ _ (by decide) oo).1
    obtain ⟨E, hE⟩ : ∃ vv, Nm.dAdd 4605249457297304856 o = vv := ⟨_, rfl⟩
    rw [hE] at CE oE
    obtain rfl : E = R := by rw [← hR, hu, hv, hz, ho, hE]
    clear hl hu hv hz ho hE ou ov oz oo oE hy hR
    have BB := Lib.hid (Below.refl w.heap.size w)
    go_enter Tryz.func88, Tryz.ntmps88
    go_wp2_with fail
    refine (Cl.out _).mono ?_
    rintro e' wm1 ⟨rfl, hb⟩
    have BB := Lib.hid (BB.out.trans (hb.mono BB.out.size))
    clear hb
    go_wp2_with fail
    refine (Cu.out _).mono ?_
    rintro e' wm2 ⟨rfl, hb⟩
    have BB := Lib.hid (BB.out.trans (hb.mono BB.out.size))
    clear hb
    go_wp2_with fail
    refine (Cv.out _).mono ?_
    rintro e' wm3 ⟨rfl, hb⟩
    have BB := Lib.hid (BB.out.trans (hb.mono BB.out.size))
    clear hb
    go_wp2_with fail
    refine (Cz.out _).mono ?_
    rintro e' wm4 ⟨rfl, hb⟩
    have BB := Lib.hid (BB.out.trans (hb.mono BB.out.size))
    clear hb
    go_wp2_with fail
    refine (Co.out _).mono ?_
    rintro e' wm5 ⟨rfl, hb⟩
    have BB := Lib.hid (BB.out.trans (hb.mono BB.out.size))
    clear hb
    go_wp2_with fail
    refine (CE.out _).mono ?_
    rintro e' wm6 ⟨rfl, hb⟩
    have BB := Lib.hid (BB.out.trans (hb.mono BB.out.size))
    clear hb
    go_wp2
    go_ret
    exact ⟨rfl, BB.out⟩
end Go.Proofs.YtffohkpohgkglaaGreat
/-! ## CURVES: Atan whole, Atan2: the code's and the document's. -/
namespace Go.Proofs.YtffohkpohgkglaaGreat
set_option linter.unusedVariables false
set_option linter.unusedSimpArgs false
open Go.RowKit
def dSigned (x a : Nat) : Nat := if Nm.neg a then Nm.dNeg x else x
theorem dSigned_ok (x a : Nat) (hx : x < 2 ^ 64) : dSigned x a < 2 ^ 64 := by
  unfold dSigned
  split
  · exact Nm.neg_lt _ hx
  · exact hx
theorem signed_any (x a : Nat) (hx : x < 2 ^ 64) (ha : a < 2 ^ 64) (w : World) : Calls Tryz.prog 82 #[.int .u64 (x : Int), .int .u64 (a : Int)] w (Gives w (.int .u64 (dSigned x a : Nat))) := by
  have Csg : Hid (∀ w, Calls Tryz.prog 71 #[.int .u64 (a : Nat)] w (Gives w (.bool (Nm.neg a)))) := Lib.hid (fun w => (rsign_any a ha w).mono fun _ _ h => gives_of h)
  obtain ⟨sg, hsg⟩ : ∃ vv, Nm.neg a = vv := ⟨_, rfl⟩
  rw [hsg] at Csg
  have CE : Hid (∀ w, Calls Tryz.prog 78 #[.int .u64 (x : Nat)] w (Gives w (.int .u64 (Nm.dNeg x : Nat)))) := Lib.hid (fun w => (rneg_any x hx w).mono fun _ _ h => gives_of h)
  have oE : Nm.dNeg x < 2 ^ 64 := Nm.neg_lt _ hx
  obtain ⟨E, hE⟩ : ∃ vv, Nm.dNeg x = vv := ⟨_, rfl⟩
  rw [hE] at CE oE
  obtain ⟨R, hR⟩ : ∃ r, dSigned x a = r := ⟨_, rfl⟩
  rw [hR]
  unfold dSigned at hR
  rw [hsg, hE] at hR
  clear hsg hE oE hx ha
  cases sg
  · rw [if_neg (by decide)] at hR
    subst hR
    have BB := Lib.hid (Below.refl w.heap.size w)
    go_enter Tryz.func82, Tryz.ntmps82
    go_wp2_with fail
    refine (Csg.out _).mono ?_
    rintro e' wm1 ⟨rfl, hb⟩
    have BB := Lib.hid (BB.out.trans (hb.mono BB.out.size))
    clear hb
    go_wp2
    go_ret
    exact ⟨rfl, BB.out⟩
  · rw [if_pos rfl] at hR
    subst hR
    have BB := Lib.hid (Below.refl w.heap.size w)
    go_enter Tryz.func82, Tryz.ntmps82
    go_wp2_with fail
    refine (Csg.out _).mono ?_
    rintro e' wm1 ⟨rfl, hb⟩
    have BB := Lib.hid (BB.out.trans (hb.mono BB.out.size))
    clear hb
    go_wp2_with fail
    refine (CE.out _).mono ?_
    rintro e' wm2 ⟨rfl, hb⟩
    have BB := Lib.hid (BB.out.trans (hb.mono BB.out.size))
    clear hb
    go_wp2
    go_ret
    exact ⟨rfl, BB.out⟩
set_option maxHeartbeats 4000000 in
theorem atan_any (a : Nat) (ha : a < 2 ^ 64) (w : World) : Calls Tryz.prog 36 #[.int .u64 (a : Int)] w (Gives w (.int .u64 (dAtan a : Nat))) := by
  have Cx : Hid (∀ w, Calls Tryz.prog 79 #[.int .u64 (a : Nat)] w (Gives w (.int .u64 (Nm.dAbs a : Nat)))) := Lib.hid (fun w => (abs_any a ha w).mono fun _ _ h => gives_of h)
  have ox : Nm.dAbs a < 2 ^ 64 := (Nm.ok_abs _ ha).1
  obtain ⟨x, hx⟩ : ∃ vv, Nm.dAbs a = vv := ⟨_, rfl⟩
  rw [hx] at Cx ox
  have Cl : Hid (∀ w, Calls Tryz.prog 39 #[.int .u64 4607182418800017408, .int .u64 (x : Nat)] w (Gives w (.bool (dLt 4607182418800017408 x)))) := Lib.hid (fun w => (isless_any 4607182418800017408 x (by decide) ox w).mono fun _ _ h => gives_of h)
  obtain ⟨l, hl⟩ : ∃ vv, dLt 4607182418800017408 x = vv := ⟨_, rfl⟩
  rw [hl] at Cl
  have Csg : Hid (∀ w, Calls Tryz.prog 63 #[.int .u64 (a : Nat)] w (Gives w (.bool (Nm.neg a)))) := Lib.hid (fun w => (sign_any a ha w).mono fun _ _ h => gives_of h)
  obtain ⟨sg, hsg⟩ : ∃ vv, Nm.neg a = vv := ⟨_, rfl⟩
  rw [hsg] at Csg
  obtain ⟨R, hR⟩ : ∃ x, dAtan a = x := ⟨_, rfl⟩
  rw [hR]
  unfold dAtan aAtan at hR
  rw [hx, hl, hsg] at hR
  cases l
  · cases sg
    · have Cg : Hid (∀ w, Calls Tryz.prog 87 #[.int .u64 (x : Nat)] w (Gives w (.int .u64 (dLeast x : Nat)))) := Lib.hid (fun w => least_any x ox w)
      have og : dLeast x < 2 ^ 64 := dLeast_ok _
      obtain ⟨g, hg⟩ : ∃ vv, dLeast x = vv := ⟨_, rfl⟩
      rw [hg] at Cg og
      simp only [Bool.false_eq_true, if_false, if_true] at hR
      obtain rfl : g = R := by rw [← hR, hg]
      clear hx hl hsg hg ox og hR ha
      have BB := Lib.hid (Below.refl w.heap.size w)
      go_enter Tryz.func36, Tryz.ntmps36
      go_wp2_with fail
      refine (Cx.out _).mono ?_
      rintro e' wm1 ⟨rfl, hb⟩
      have BB := Lib.hid (BB.out.trans (hb.mono BB.out.size))
      clear hb
      go_wp2_with fail
      refine (Cl.out _).mono ?_
      rintro e' wm2 ⟨rfl, hb⟩
      have BB := Lib.hid (BB.out.trans (hb.mono BB.out.size))
      clear hb
      go_wp2_with fail
      refine (Cg.out _).mono ?_
      rintro e' wm3 ⟨rfl, hb⟩
      have BB := Lib.hid (BB.out.trans (hb.mono BB.out.size))
      clear hb
      go_wp2_with fail
      refine (Csg.out _).mono ?_
      rintro e' wm4 ⟨rfl, hb⟩
      have BB := Lib.hid (BB.out.trans (hb.mono BB.out.size))
      clear hb
      go_wp2
      go_ret
      exact ⟨rfl, BB.out⟩
    · have Cg : Hid (∀ w, Calls Tryz.prog 87 #[.int .u64 (x : Nat)] w (Gives w (.int .u64 (dLeast x : Nat)))) := Lib.hid (fun w => least_any x ox w)
      have og : dLeast x < 2 ^ 64 := dLeast_ok _
      obtain ⟨g, hg⟩ : ∃ vv, dLeast x = vv := ⟨_, rfl⟩
      rw [hg] at Cg og
      simp only [Bool.false_eq_true, if_false, if_true] at hR
      have CE : Hid (∀ w, Calls Tryz.prog 77 #[.int .u64 (g : Nat)] w (Gives w (.int .u64 (Nm.dNeg g : Nat)))) := Lib.hid (fun w => (neg_any g og w).mono fun _ _ h => gives_of h)
      have oE : Nm.dNeg g < 2 ^ 64 := Nm.neg_lt _ og
      obtain ⟨E, hE⟩ : ∃ vv, Nm.dNeg g = vv := ⟨_, rfl⟩
      rw [hE] at CE oE
      obtain rfl : E = R := by rw [← hR, hg, hE]
      clear hx hl hsg hg hE ox og oE hR ha
      have BB := Lib.hid (Below.refl w.heap.size w)
      go_enter Tryz.func36, Tryz.ntmps36
      go_wp2_with fail
      refine (Cx.out _).mono ?_
      rintro e' wm1 ⟨rfl, hb⟩
      have BB := Lib.hid (BB.out.trans (hb.mono BB.out.size))
      clear hb
      go_wp2_with fail
      refine (Cl.out _).mono ?_
      rintro e' wm2 ⟨rfl, hb⟩
      have BB := Lib.hid (BB.out.trans (hb.mono BB.out.size))
      clear hb
      go_wp2_with fail
      refine (Cg.out _).mono ?_
      rintro e' wm3 ⟨rfl, hb⟩
      have BB := Lib.hid (BB.out.trans (hb.mono BB.out.size))
      clear hb
      go_wp2_with fail
      refine (Csg.out _).mono ?_
      rintro e' wm4 ⟨rfl, hb⟩
      have BB := Lib.hid (BB.out.trans (hb.mono BB.out.size))
      clear hb
      go_wp2_with fail
      refine (CE.out _).mono ?_
      rintro e' wm5 ⟨rfl, hb⟩
      have BB := Lib.hid (BB.out.trans (hb.mono BB.out.size))
      clear hb
      go_wp2
      go_ret
      exact ⟨rfl, BB.out⟩
  · cases sg
    · have Cz : Hid (∀ w, Calls Tryz.prog 46 #[.int .u64 4607182418800017408, .int .u64 (x : Nat)] w (Gives w (.int .u64 (Nm.dDiv 4607182418800017408 x : Nat)))) := Lib.hid (fun w => div_any 4607182418800017408 x (by decide) ox w)
      have oz : Nm.dDiv 4607182418800017408 x < 2 ^ 64 := (Nm.ok_div _ _).1
      obtain ⟨z, hz⟩ : ∃ vv, Nm.dDiv 4607182418800017408 x = vv := ⟨_, rfl⟩
      rw [hz] at Cz oz
      have Cq : Hid (∀ w, Calls Tryz.prog 87 #[.int .u64 (z : Nat)] w (Gives w (.int .u64 (dLeast z : Nat)))) := Lib.hid (fun w => least_any z oz w)
      have oq : dLeast z < 2 ^ 64 := dLeast_ok _
      obtain ⟨q, hq⟩ : ∃ vv, dLeast z = vv := ⟨_, rfl⟩
      rw [hq] at Cq oq
      have Cg : Hid (∀ w, Calls Tryz.prog 43 #[.int .u64 4609753056924675352, .int .u64 (q : Nat)] w (Gives w (.int .u64 (Nm.dSub 4609753056924675352 q : Nat)))) := Lib.hid (fun w => sub_any 4609753056924675352 q (by decide) oq w)
      have og : Nm.dSub 4609753056924675352 q < 2 ^ 64 := sub_ok _ _ (by decide) oq
      obtain ⟨g, hg⟩ : ∃ vv, Nm.dSub 4609753056924675352 q = vv := ⟨_, rfl⟩
      rw [hg] at Cg og
      simp only [Bool.false_eq_true, if_false, if_true] at hR
      obtain rfl : g = R := by rw [← hR, hz, hq, hg]
      clear hx hl hsg hz hq hg ox oz oq og hR ha
      have BB := Lib.hid (Below.refl w.heap.size w)
      go_enter Tryz.func36, Tryz.ntmps36
      go_wp2_with fail
      refine (Cx.out _).mono ?_
      rintro e' wm1 ⟨rfl, hb⟩
      have BB := Lib.hid (BB.out.trans (hb.mono BB.out.size))
      clear hb
      go_wp2_with fail
      refine (Cl.out _).mono ?_
      rintro e' wm2 ⟨rfl, hb⟩
      have BB := Lib.hid (BB.out.trans (hb.mono BB.out.size))
      clear hb
      go_wp2_with fail
      refine (Cz.out _).mono ?_
      rintro e' wm3 ⟨rfl, hb⟩
      have BB := Lib.hid (BB.out.trans (hb.mono BB.out.size))
      clear hb
      go_wp2_with fail
      refine (Cq.out _).mono ?_
      rintro e' wm4 ⟨rfl, hb⟩
      have BB := Lib.hid (BB.out.trans (hb.mono BB.out.size))
      clear hb
      go_wp2_with fail
      refine (Cg.out _).mono ?_
      rintro e' wm5 ⟨rfl, hb⟩
      have BB := Lib.hid (BB.out.trans (hb.mono BB.out.size))
      clear hb
      go_wp2_with fail
      refine (Csg.out _).mono ?_
      rintro e' wm6 ⟨rfl, hb⟩
      have BB := Lib.hid (BB.out.trans (hb.mono BB.out.size))
      clear hb
      go_wp2
      go_ret
      exact ⟨rfl, BB.out⟩
    · have Cz : Hid (∀ w, Calls Tryz.prog 46 #[.int .u64 4607182418800017408, .int .u64 (x : Nat)] w (Gives w (.int .u64 (Nm.dDiv 4607182418800017408 x : Nat)))) := Lib.hid (fun w => div_any 4607182418800017408 x (by decide) ox w)
      have oz : Nm.dDiv 4607182418800017408 x < 2 ^ 64 := (Nm.ok_div _ _).1
      obtain ⟨z, hz⟩ : ∃ vv, Nm.dDiv 4607182418800017408 x = vv := ⟨_, rfl⟩
      rw [hz] at Cz oz
      have Cq : Hid (∀ w, Calls Tryz.prog 87 #[.int .u64 (z : Nat)] w (Gives w (.int .u64 (dLeast z : Nat)))) := Lib.hid (fun w => least_any z oz w)
      have oq : dLeast z < 2 ^ 64 := dLeast_ok _
      obtain ⟨q, hq⟩ : ∃ vv, dLeast z = vv := ⟨_, rfl⟩
      rw [hq] at Cq oq
      have Cg : Hid (∀ w, Calls Tryz.prog 43 #[.int .u64 4609753056924675352, .int .u64 (q : Nat)] w (Gives w (.int .u64 (Nm.dSub 4609753056924675352 q : Nat)))) := Lib.hid (fun w => sub_any 4609753056924675352 q (by decide) oq w)
      have og : Nm.dSub 4609753056924675352 q < 2 ^ 64 := sub_ok _ _ (by decide) oq
      obtain ⟨g, hg⟩ : ∃ vv, Nm.dSub 4609753056924675352 q = vv := ⟨_, rfl⟩
      rw [hg] at Cg og
      simp only [Bool.false_eq_true, if_false, if_true] at hR
      have CE : Hid (∀ w, Calls Tryz.prog 77 #[.int .u64 (g : Nat)] w (Gives w (.int .u64 (Nm.dNeg g : Nat)))) := Lib.hid (fun w => (neg_any g og w).mono fun _ _ h => gives_of h)
      have oE : Nm.dNeg g < 2 ^ 64 := Nm.neg_lt _ og
      obtain ⟨E, hE⟩ : ∃ vv, Nm.dNeg g = vv := ⟨_, rfl⟩
      rw [hE] at CE oE
      obtain rfl : E = R := by rw [← hR, hz, hq, hg, hE]
      clear hx hl hsg hz hq hg hE ox oz oq og oE hR ha
      have BB := Lib.hid (Below.refl w.heap.size w)
      go_enter Tryz.func36, Tryz.ntmps36
      go_wp2_with fail
      refine (Cx.out _).mono ?_
      rintro e' wm1 ⟨rfl, hb⟩
      have BB := Lib.hid (BB.out.trans (hb.mono BB.out.size))
      clear hb
      go_wp2_with fail
      refine (Cl.out _).mono ?_
      rintro e' wm2 ⟨rfl, hb⟩
      have BB := Lib.hid (BB.out.trans (hb.mono BB.out.size))
      clear hb
      go_wp2_with fail
      refine (Cz.out _).mono ?_
      rintro e' wm3 ⟨rfl, hb⟩
      have BB := Lib.hid (BB.out.trans (hb.mono BB.out.size))
      clear hb
      go_wp2_with fail
      refine (Cq.out _).mono ?_
      rintro e' wm4 ⟨rfl, hb⟩
      have BB := Lib.hid (BB.out.trans (hb.mono BB.out.size))
      clear hb
      go_wp2_with fail
      refine (Cg.out _).mono ?_
      rintro e' wm5 ⟨rfl, hb⟩
      have BB := Lib.hid (BB.out.trans (hb.mono BB.out.size))
      clear hb
      go_wp2_with fail
      refine (Csg.out _).mono ?_
      rintro e' wm6 ⟨rfl, hb⟩
      have BB := Lib.hid (BB.out.trans (hb.mono BB.out.size))
      clear hb
      go_wp2_with fail
      refine (CE.out _).mono ?_
      rintro e' wm7 ⟨rfl, hb⟩
      have BB := Lib.hid (BB.out.trans (hb.mono BB.out.size))
      clear hb
      go_wp2
      go_ret
      exact ⟨rfl, BB.out⟩
set_option maxHeartbeats 4000000 in
theorem ratan_any (a : Nat) (ha : a < 2 ^ 64) (w : World) : Calls Tryz.prog 37 #[.int .u64 (a : Int)] w (Gives w (.int .u64 (dAtan a : Nat))) := by
  have Cn : Hid (∀ w, Calls Tryz.prog 50 #[.int .u64 (a : Nat)] w (Gives w (.bool (Nm.isNaN a)))) := Lib.hid (fun w => (rnan_any a ha w).mono fun _ _ h => gives_of h)
  obtain ⟨n, hn⟩ : ∃ vv, Nm.isNaN a = vv := ⟨_, rfl⟩
  rw [hn] at Cn
  have Cx : Hid (∀ w, Calls Tryz.prog 81 #[.int .u64 (a : Nat)] w (Gives w (.int .u64 (Nm.dAbs a : Nat)))) := Lib.hid (fun w => (rabs_any a ha w).mono fun _ _ h => gives_of h)
  have ox : Nm.dAbs a < 2 ^ 64 := (Nm.ok_abs _ ha).1
  obtain ⟨x, hx⟩ : ∃ vv, Nm.dAbs a = vv := ⟨_, rfl⟩
  rw [hx] at Cx ox
  have Cl : Hid (∀ w, Calls Tryz.prog 51 #[.int .u64 (x : Nat), .int .u64 4607182418800017408] w (Gives w (.bool (dLt 4607182418800017408 x)))) := Lib.hid (fun w => rabove_any x 4607182418800017408 ox (by decide) w)
  obtain ⟨l, hl⟩ : ∃ vv, dLt 4607182418800017408 x = vv := ⟨_, rfl⟩
  rw [hl] at Cl
  have Csg : Hid (∀ w, Calls Tryz.prog 71 #[.int .u64 (a : Nat)] w (Gives w (.bool (Nm.neg a)))) := Lib.hid (fun w => (rsign_any a ha w).mono fun _ _ h => gives_of h)
  obtain ⟨sg, hsg⟩ : ∃ vv, Nm.neg a = vv := ⟨_, rfl⟩
  rw [hsg] at Csg
  obtain ⟨R, hR⟩ : ∃ x, dAtan a = x := ⟨_, rfl⟩
  have hnn : n = true → R = Nm.nan := fun h => by rw [← hR]; exact dAtan_nan (by rw [hn, h])
  rw [hR]
  unfold dAtan aAtan at hR
  rw [hx, hl, hsg] at hR
  cases n
  · cases l
    · cases sg
      · have Cg : Hid (∀ w, Calls Tryz.prog 88 #[.int .u64 (x : Nat)] w (Gives w (.int .u64 (dLeast x : Nat)))) := Lib.hid (fun w => rleast_any x ox w)
        have og : dLeast x < 2 ^ 64 := dLeast_ok _
        obtain ⟨g, hg⟩ : ∃ vv, dLeast x = vv := ⟨_, rfl⟩
        rw [hg] at Cg og
        simp only [Bool.false_eq_true, if_false, if_true] at hR
        have hsd : dSigned g a = R := by
          unfold dSigned
          rw [hsg, ← hR]
          simp only [Bool.false_eq_true, if_false, if_true]
          first | rfl | rw [hg]
        have CE : Hid (∀ w, Calls Tryz.prog 82 #[.int .u64 (g : Nat), .int .u64 (a : Nat)] w (Gives w (.int .u64 (R : Nat)))) := Lib.hid (by rw [← hsd]; exact fun w => signed_any g a og ha w)
        clear hsd
        clear hn hx hl hsg hg ox og hR ha hnn
        have BB := Lib.hid (Below.refl w.heap.size w)
        go_enter Tryz.func37, Tryz.ntmps37
        go_wp2_with fail
        refine (Cn.out _).mono ?_
        rintro e' wm1 ⟨rfl, hb⟩
        have BB := Lib.hid (BB.out.trans (hb.mono BB.out.size))
        clear hb
        go_wp2_with fail
        refine (Cx.out _).mono ?_
        rintro e' wm2 ⟨rfl, hb⟩
        have BB := Lib.hid (BB.out.trans (hb.mono BB.out.size))
        clear hb
        go_wp2_with fail
        refine (Cl.out _).mono ?_
        rintro e' wm3 ⟨rfl, hb⟩
        have BB := Lib.hid (BB.out.trans (hb.mono BB.out.size))
        clear hb
        go_wp2_with fail
        refine (Cg.out _).mono ?_
        rintro e' wm4 ⟨rfl, hb⟩
        have BB := Lib.hid (BB.out.trans (hb.mono BB.out.size))
        clear hb
        go_wp2_with fail
        refine (CE.out _).mono ?_
        rintro e' wm5 ⟨rfl, hb⟩
        have BB := Lib.hid (BB.out.trans (hb.mono BB.out.size))
        clear hb
        go_wp2
        go_ret
        exact ⟨rfl, BB.out⟩
      · have Cg : Hid (∀ w, Calls Tryz.prog 88 #[.int .u64 (x : Nat)] w (Gives w (.int .u64 (dLeast x : Nat)))) := Lib.hid (fun w => rleast_any x ox w)
        have og : dLeast x < 2 ^ 64 := dLeast_ok _
        obtain ⟨g, hg⟩ : ∃ vv, dLeast x = vv := ⟨_, rfl⟩
        rw [hg] at Cg og
        simp only [Bool.false_eq_true, if_false, if_true] at hR
        have hsd : dSigned g a = R := by
          unfold dSigned
          rw [hsg, ← hR]
          simp only [Bool.false_eq_true, if_false, if_true]
          first | rfl | rw [hg]
        have CE : Hid (∀ w, Calls Tryz.prog 82 #[.int .u64 (g : Nat), .int .u64 (a : Nat)] w (Gives w (.int .u64 (R : Nat)))) := Lib.hid (by rw [← hsd]; exact fun w => signed_any g a og ha w)
        clear hsd
        clear hn hx hl hsg hg ox og hR ha hnn
        have BB := Lib.hid (Below.refl w.heap.size w)
        go_enter Tryz.func37, Tryz.ntmps37
        go_wp2_with fail
        refine (Cn.out _).mono ?_
        rintro e' wm1 ⟨rfl, hb⟩
        have BB := Lib.hid (BB.out.trans (hb.mono BB.out.size))
        clear hb
        go_wp2_with fail
        refine (Cx.out _).mono ?_
        rintro e' wm2 ⟨rfl, hb⟩
        have BB := Lib.hid (BB.out.trans (hb.mono BB.out.size))
        clear hb
        go_wp2_with fail
        refine (Cl.out _).mono ?_
        rintro e' wm3 ⟨rfl, hb⟩
        have BB := Lib.hid (BB.out.trans (hb.mono BB.out.size))
        clear hb
        go_wp2_with fail
        refine (Cg.out _).mono ?_
        rintro e' wm4 ⟨rfl, hb⟩
        have BB := Lib.hid (BB.out.trans (hb.mono BB.out.size))
        clear hb
        go_wp2_with fail
        refine (CE.out _).mono ?_
        rintro e' wm5 ⟨rfl, hb⟩
        have BB := Lib.hid (BB.out.trans (hb.mono BB.out.size))
        clear hb
        go_wp2
        go_ret
        exact ⟨rfl, BB.out⟩
    · cases sg
      · have Cz : Hid (∀ w, Calls Tryz.prog 57 #[.int .u64 4607182418800017408, .int .u64 (x : Nat)] w (Gives w (.int .u64 (Nm.dDiv 4607182418800017408 x : Nat)))) := Lib.hid (fun w => rdiv_any 4607182418800017408 x (by decide) ox w)
        have oz : Nm.dDiv 4607182418800017408 x < 2 ^ 64 := (Nm.ok_div _ _).1
        obtain ⟨z, hz⟩ : ∃ vv, Nm.dDiv 4607182418800017408 x = vv := ⟨_, rfl⟩
        rw [hz] at Cz oz
        have Cq : Hid (∀ w, Calls Tryz.prog 88 #[.int .u64 (z : Nat)] w (Gives w (.int .u64 (dLeast z : Nat)))) := Lib.hid (fun w => rleast_any z oz w)
        have oq : dLeast z < 2 ^ 64 := dLeast_ok _
        obtain ⟨q, hq⟩ : ∃ vv, dLeast z = vv := ⟨_, rfl⟩
        rw [hq] at Cq oq
        have Cg : Hid (∀ w, Calls Tryz.prog 56 #[.int .u64 4609753056924675352, .int .u64 (q : Nat)] w (Gives w (.int .u64 (Nm.dSub 4609753056924675352 q : Nat)))) := Lib.hid (fun w => rsub_any 4609753056924675352 q (by decide) oq w)
        have og : Nm.dSub 4609753056924675352 q < 2 ^ 64 := sub_ok _ _ (by decide) oq
        obtain ⟨g, hg⟩ : ∃ vv, Nm.dSub 4609753056924675352 q = vv := ⟨_, rfl⟩
        rw [hg] at Cg og
        simp only [Bool.false_eq_true, if_false, if_true] at hR
        have hsd : dSigned g a = R := by
          unfold dSigned
          rw [hsg, ← hR]
          simp only [Bool.false_eq_true, if_false, if_true]
          first | rfl | rw [hz, hq, hg]
        have CE : Hid (∀ w, Calls Tryz.prog 82 #[.int .u64 (g : Nat), .int .u64 (a : Nat)] w (Gives w (.int .u64 (R : Nat)))) := Lib.hid (by rw [← hsd]; exact fun w => signed_any g a og ha w)
        clear hsd
        clear hn hx hl hsg hz hq hg ox oz oq og hR ha hnn
        have BB := Lib.hid (Below.refl w.heap.size w)
        go_enter Tryz.func37, Tryz.ntmps37
        go_wp2_with fail
        refine (Cn.out _).mono ?_
        rintro e' wm1 ⟨rfl, hb⟩
        have BB := Lib.hid (BB.out.trans (hb.mono BB.out.size))
        clear hb
        go_wp2_with fail
        refine (Cx.out _).mono ?_
        rintro e' wm2 ⟨rfl, hb⟩
        have BB := Lib.hid (BB.out.trans (hb.mono BB.out.size))
        clear hb
        go_wp2_with fail
        refine (Cl.out _).mono ?_
        rintro e' wm3 ⟨rfl, hb⟩
        have BB := Lib.hid (BB.out.trans (hb.mono BB.out.size))
        clear hb
        go_wp2_with fail
        refine (Cz.out _).mono ?_
        rintro e' wm4 ⟨rfl, hb⟩
        have BB := Lib.hid (BB.out.trans (hb.mono BB.out.size))
        clear hb
        go_wp2_with fail
        refine (Cq.out _).mono ?_
        rintro e' wm5 ⟨rfl, hb⟩
        have BB := Lib.hid (BB.out.trans (hb.mono BB.out.size))
        clear hb
        go_wp2_with fail
        refine (Cg.out _).mono ?_
        rintro e' wm6 ⟨rfl, hb⟩
        have BB := Lib.hid (BB.out.trans (hb.mono BB.out.size))
        clear hb
        go_wp2_with fail
        refine (CE.out _).mono ?_
        rintro e' wm7 ⟨rfl, hb⟩
        have BB := Lib.hid (BB.out.trans (hb.mono BB.out.size))
        clear hb
        go_wp2
        go_ret
        exact ⟨rfl, BB.out⟩
      · have Cz : Hid (∀ w, Calls Tryz.prog 57 #[.int .u64 4607182418800017408, .int .u64 (x : Nat)] w (Gives w (.int .u64 (Nm.dDiv 4607182418800017408 x : Nat)))) := Lib.hid (fun w => rdiv_any 4607182418800017408 x (by decide) ox w)
        have oz : Nm.dDiv 4607182418800017408 x < 2 ^ 64 := (Nm.ok_div _ _).1
        obtain ⟨z, hz⟩ : ∃ vv, Nm.dDiv 4607182418800017408 x = vv := ⟨_, rfl⟩
        rw [hz] at Cz oz
        have Cq : Hid (∀ w, Calls Tryz.prog 88 #[.int .u64 (z : Nat)] w (Gives w (.int .u64 (dLeast z : Nat)))) := Lib.hid (fun w => rleast_any z oz w)
        have oq : dLeast z < 2 ^ 64 := dLeast_ok _
        obtain ⟨q, hq⟩ : ∃ vv, dLeast z = vv := ⟨_, rfl⟩
        rw [hq] at Cq oq
        have Cg : Hid (∀ w, Calls Tryz.prog 56 #[.int .u64 4609753056924675352, .int .u64 (q : Nat)] w (Gives w (.int .u64 (Nm.dSub 4609753056924675352 q : Nat)))) := Lib.hid (fun w => rsub_any 4609753056924675352 q (by decide) oq w)
        have og : Nm.dSub 4609753056924675352 q < 2 ^ 64 := sub_ok _ _ (by decide) oq
        obtain ⟨g, hg⟩ : ∃ vv, Nm.dSub 4609753056924675352 q = vv := ⟨_, rfl⟩
        rw [hg] at Cg og
        simp only [Bool.false_eq_true, if_false, if_true] at hR
        have hsd : dSigned g a = R := by
          unfold dSigned
          rw [hsg, ← hR]
          simp only [Bool.false_eq_true, if_false, if_true]
          first | rfl | rw [hz, hq, hg]
        have CE : Hid (∀ w, Calls Tryz.prog 82 #[.int .u64 (g : Nat), .int .u64 (a : Nat)] w (Gives w (.int .u64 (R : Nat)))) := Lib.hid (by rw [← hsd]; exact fun w => signed_any g a og ha w)
        clear hsd
        clear hn hx hl hsg hz hq hg ox oz oq og hR ha hnn
        have BB := Lib.hid (Below.refl w.heap.size w)
        go_enter Tryz.func37, Tryz.ntmps37
        go_wp2_with fail
        refine (Cn.out _).mono ?_
        rintro e' wm1 ⟨rfl, hb⟩
        have BB := Lib.hid (BB.out.trans (hb.mono BB.out.size))
        clear hb
        go_wp2_with fail
        refine (Cx.out _).mono ?_
        rintro e' wm2 ⟨rfl, hb⟩
        have BB := Lib.hid (BB.out.trans (hb.mono BB.out.size))
        clear hb
        go_wp2_with fail
        refine (Cl.out _).mono ?_
        rintro e' wm3 ⟨rfl, hb⟩
        have BB := Lib.hid (BB.out.trans (hb.mono BB.out.size))
        clear hb
        go_wp2_with fail
        refine (Cz.out _).mono ?_
        rintro e' wm4 ⟨rfl, hb⟩
        have BB := Lib.hid (BB.out.trans (hb.mono BB.out.size))
        clear hb
        go_wp2_with fail
        refine (Cq.out _).mono ?_
        rintro e' wm5 ⟨rfl, hb⟩
        have BB := Lib.hid (BB.out.trans (hb.mono BB.out.size))
        clear hb
        go_wp2_with fail
        refine (Cg.out _).mono ?_
        rintro e' wm6 ⟨rfl, hb⟩
        have BB := Lib.hid (BB.out.trans (hb.mono BB.out.size))
        clear hb
        go_wp2_with fail
        refine (CE.out _).mono ?_
        rintro e' wm7 ⟨rfl, hb⟩
        have BB := Lib.hid (BB.out.trans (hb.mono BB.out.size))
        clear hb
        go_wp2
        go_ret
        exact ⟨rfl, BB.out⟩
  · obtain rfl := hnn rfl
    clear hR hnn hn hx hl hsg ha ox
    have BB := Lib.hid (Below.refl w.heap.size w)
    go_enter Tryz.func37, Tryz.ntmps37
    go_wp2_with fail
    refine (Cn.out _).mono ?_
    rintro e' wm1 ⟨rfl, hb⟩
    have BB := Lib.hid (BB.out.trans (hb.mono BB.out.size))
    clear hb
    go_wp2
    go_ret
    exact ⟨rfl, BB.out⟩
end Go.Proofs.YtffohkpohgkglaaGreat
/-! ## WALK: math.Frexp on positive numbers. -/
namespace Go.Proofs.YtffohkpohgkglaaGreat
set_option linter.unusedVariables false
set_option linter.unusedSimpArgs false
open Go.RowKit
def fracOf (m : Nat) : Nat := 1022 * 2 ^ 52 + (m * 2 ^ (52 - m.log2) - 2 ^ 52)
theorem frac_parts {m : Nat} (h0 : m ≠ 0) (hm : m < 2 ^ 53) : m.log2 ≤ 52 ∧ 2 ^ 52 ≤ m * 2 ^ (52 - m.log2) ∧ m * 2 ^ (52 - m.log2) < 2 ^ 53 ∧
    ∀ t : Nat, 1 ≤ t → t ≤ 2046 → Nm.rung m ((t : Int) - 1023 - (m.log2 : Nat)) = t * 2 ^ 52 + (m * 2 ^ (52 - m.log2) - 2 ^ 52) := by
  obtain ⟨L, hL, h1, h2, h3, _⟩ := Nm.fl_parts h0 hm
  rw [h3]
  obtain ⟨b1, b2⟩ := Nm.shl_bounds h1 h2 hL
  refine ⟨hL, b1, b2, fun t ht1 ht2 => ?_⟩
  have ei : (t : Int) - 1075 + ((52 - L : Nat) : Int) = (t : Int) - 1023 - (L : Nat) := by omega
  obtain ⟨S, hS⟩ : ∃ S, m * 2 ^ (52 - L) = S := ⟨_, rfl⟩
  rw [hS] at b1 b2 ⊢
  have hF : S - 2 ^ 52 < 2 ^ 52 := by omega
  obtain ⟨m1, p1, n1, _, _, _⟩ := Nm.mk_parts t (S - 2 ^ 52) ht1 ht2 hF
  have hy : (t * 2 ^ 52 + (S - 2 ^ 52)) % 2 ^ 63 = t * 2 ^ 52 + (S - 2 ^ 52) := Nat.mod_eq_of_lt (by clear m1 p1 n1 hS ei; omega)
  have hi : t * 2 ^ 52 + (S - 2 ^ 52) < Nm.inf := by clear m1 p1 n1 hS ei hy; unfold Nm.inf; omega
  have hm0 : 2 ^ 52 + (S - 2 ^ 52) ≠ 0 := by clear m1 p1 n1 hS ei hy; omega
  have h := Nm.rung_own (t * 2 ^ 52 + (S - 2 ^ 52)) (by rw [hy]; exact hi) (by rw [m1]; exact hm0)
  rw [m1, p1, hy, Nat.add_sub_cancel' b1] at h
  have e := Nm.rung_scale m (52 - L) ((t : Int) - 1075) h0
  rw [hS, ei] at e
  exact e.symm.trans h
theorem tidy_inv {r Y : Nat} (h : Nm.tidy r = Y) (hn : Nm.isNaN Y = false) : r = Y := by
  unfold Nm.tidy at h
  split at h
  · subst h
    exact absurd hn (by decide)
  · exact h
theorem is_lt {x y : Nat} (h1 : x < 2 ^ 64) (h2 : y < 2 ^ 64) (n1 : Nm.isNaN x = false) (n2 : Nm.isNaN y = false) (h : Nm.key x < Nm.key y) : (FloatKind.f64.format.order x y == some .lt) = true := by
  have : FloatKind.f64.format.order x y = some (compare (Nm.key x) (Nm.key y)) := Nm.order_eq h1 h2 n1 n2
  rw [this, Int.compare_eq_lt.2 h]
  rfl
theorem small_parts {x : Nat} (h : x < 2 ^ 52) : Nm.mag x = x ∧ Nm.plc x = -1074 := by
  unfold Nm.mag Nm.plc
  have e : x / 2 ^ 52 % 2048 = 0 := by omega
  rw [e, if_pos rfl, if_pos rfl]
  exact ⟨Nat.mod_eq_of_lt h, rfl⟩
theorem fnorm_sub (x : Nat) (h1 : 1 ≤ x) (h2 : x < 4503599627370496) (w : World) :
    Calls Tryz.prog 124 #[.float .f64 x] w (Gives w (.tuple #[.float .f64 ((x.log2 + 1) * 2 ^ 52 + (x * 2 ^ (52 - x.log2) - 2 ^ 52)), .int .i64 (-52)])) := by
  have hp : Pos x := ⟨by omega⟩
  have hm : x % 2 ^ 63 = x := Nat.mod_eq_of_lt (by omega)
  have CA := Lib.hid (fun w => fabs_any x (by omega) w)
  rw [hm] at CA
  have hg : (FloatKind.f64.format.order x 4503599627370496 == some .lt) = true := is_lt (by omega) (by decide) hp.nan (by decide) (by rw [key_pos (x := x) (by omega), key_pos (x := 4503599627370496) (by decide)]; omega)
  have hz : x ≠ 0 := by omega
  obtain ⟨f1, f2, f3, f4⟩ := frac_parts (m := x) (by omega) (by omega)
  have hi : ((x.log2 + 1 : Nat) : Int) - 1023 - (x.log2 : Nat) = -1022 := by clear f4; omega
  have hr := f4 (x.log2 + 1) (by clear f4; omega) (by clear f4; omega)
  rw [hi] at hr
  have HR := Lib.hid hr
  clear f4 hr
  obtain ⟨m1, p1⟩ := small_parts (x := x) h2
  have hY : Nm.dMul x 4841369599423283200 = (x.log2 + 1) * 2 ^ 52 + (x * 2 ^ (52 - x.log2) - 2 ^ 52) := by
    obtain ⟨na, ia⟩ := fin_facts (a := x) (by rw [hm]; unfold Nm.inf; omega)
    have ng : Nm.neg x = false := by unfold Nm.neg; exact decide_eq_false (by omega)
    unfold Nm.dMul
    rw [na, ia, ng, m1, p1, show Nm.isNaN 4841369599423283200 = false by decide, show Nm.isInf 4841369599423283200 = false by decide, show Nm.neg 4841369599423283200 = false by decide, show Nm.mag 4841369599423283200 = 2 ^ 52 by decide, show Nm.plc 4841369599423283200 = 0 by decide]
    simp only [Bool.false_and, Bool.or_self, Bool.false_eq_true, if_false, bne_self_eq_false]
    rw [Nm.round_pos _ _ (Nat.mul_ne_zero hz (by decide)), Nm.rung_scale x 52 _ hz, ← HR.out]
    rfl
  have AR := arith_run .mul x 4841369599423283200 (.inr (.inl rfl))
  rw [mul_bits x 4841369599423283200 (by omega) (by decide), hY] at AR
  have hyl : (x.log2 + 1) * 2 ^ 52 + (x * 2 ^ (52 - x.log2) - 2 ^ 52) < 2 ^ 63 - 2 ^ 52 := by
    have : x.log2 + 1 ≤ 53 := by omega
    omega
  obtain ⟨Y, hYe⟩ : ∃ Y, (x.log2 + 1) * 2 ^ 52 + (x * 2 ^ (52 - x.log2) - 2 ^ 52) = Y := ⟨_, rfl⟩
  rw [hYe] at AR hyl ⊢
  obtain ⟨r, w2, hrun, hb, hl, ht⟩ := AR w
  obtain rfl : r = Y := tidy_inv ht (Pos.nan ⟨by omega⟩)
  have HB := Lib.hid hb
  clear AR hYe hY HR f1 f2 f3 m1 p1 hm hyl hb hl ht hz
  go_enter Tryz.func124, Tryz.ntmps124
  go_wp2_with fail
  refine (CA.out _).mono ?_
  rintro e w1 ⟨rfl, rfl⟩
  go_wp2_with (simp only [hrun])
  go_ret2
  exact ⟨rfl, HB.out⟩
theorem frexp_norm (x y : Nat) (e0 K : Int) (hx : 1 ≤ x) (hp : Pos x) (hy1 : 4503599627370496 ≤ y) (hy2 : y < 9218868437227405312) (h1 : -52 ≤ e0) (h2 : e0 ≤ 0) (hK : e0 + (((y / 2 ^ 52 : Nat) : Int) - 1023 + 1) = K) (w : World)
    (CO : ∀ w, Calls Tryz.prog 124 #[.float .f64 x] w (Gives w (.tuple #[.float .f64 y, .int .i64 e0]))) :
    Calls Tryz.prog 103 #[.float .f64 x] w (Gives w (.tuple #[.float .f64 (1022 * 2 ^ 52 + y % 2 ^ 52), .int .i64 K])) := by
  have hz : (FloatKind.f64.format.order x 0 == some .eq) = false := not_eq (by have := hp.lt; omega) (by decide) hp.nan (by decide) (by rw [key_pos (x := x) (by have := hp.lt; omega), key_pos (x := 0) (by decide)]; omega)
  have CI := Lib.hid (fun w => finf_any x hp w)
  have CN := Lib.hid (fun w => isnan_any x (by have := hp.lt; omega) w)
  rw [hp.nan] at CN
  have CO := Lib.hid CO
  have hE := exp_bits y (by omega)
  rw [Nat.mod_eq_of_lt (by omega : y / 2 ^ 52 < 2048)] at hE
  have hE2 : y / 2 ^ 52 ≤ 2046 := by omega
  have hclr := clear_bits y (by omega)
  have hF3 : y % 2 ^ 52 < 4503599627370496 := Nat.mod_lt _ (by decide)
  have hy117 := ext117 y
  have hy118 := ext118 (1022 * 2 ^ 52 + y % 2 ^ 52)
  obtain ⟨E, hEe⟩ : ∃ E, y / 2 ^ 52 = E := ⟨_, rfl⟩
  rw [hEe] at hE hE2 hK
  obtain ⟨F, hF⟩ : ∃ F, y % 2 ^ 52 = F := ⟨_, rfl⟩
  rw [hF] at hclr hF3 hy118 ⊢
  have hor : bits .or .u64 (F : Int) 4602678819172646912 = ((1022 * 2 ^ 52 + F : Nat) : Int) := by
    rw [show (4602678819172646912 : Int) = ((1022 * 2 ^ 52 : Nat) : Int) by decide, u64_or_nat F (1022 * 2 ^ 52) (by omega) (by decide), Nat.or_comm, nat_join 52 (1022 * 2 ^ 52) F (Nat.mul_mod_left _ _) hF3]
  obtain ⟨G, hG⟩ : ∃ G, 1022 * 2 ^ 52 + F = G := ⟨_, rfl⟩
  rw [hG] at hor hy118 ⊢
  have w1 : IntKind.i64.wrap (E : Int) = (E : Int) := by rw [IntKind.wrap_i64]; omega
  have w2 : IntKind.i64.wrap ((E : Int) - 1023) = (E : Int) - 1023 := by rw [IntKind.wrap_i64]; omega
  have w3 : IntKind.i64.wrap ((E : Int) - 1023 + 1) = (E : Int) - 1023 + 1 := by rw [IntKind.wrap_i64]; omega
  have w4 : IntKind.i64.wrap (e0 + ((E : Int) - 1023 + 1)) = K := by rw [IntKind.wrap_i64]; omega
  clear hEe hF hG hF3 hy1 hy2 hp hx
  have BB := Lib.hid (Below.refl w.heap.size w)
  go_enter Tryz.func103, Tryz.ntmps103
  go_wp2_with fail
  refine ((CI.out _).mono fun _ _ h => gives_of h).mono ?_
  rintro e wa ⟨rfl, hb⟩
  have BB := Lib.hid (BB.out.trans (hb.mono BB.out.size))
  clear hb
  go_wp2_with fail
  refine ((CN.out _).mono fun _ _ h => gives_of h).mono ?_
  rintro e wb ⟨rfl, hb⟩
  have BB := Lib.hid (BB.out.trans (hb.mono BB.out.size))
  clear hb
  go_wp2_with fail
  refine (CO.out _).mono ?_
  rintro e wc ⟨rfl, hb⟩
  have BB := Lib.hid (BB.out.trans (hb.mono BB.out.size))
  clear hb
  go_wp2
  go_ret2
  refine ⟨?_, BB.out⟩
  first | rfl | (rw [hK]; rfl) | (rw [← hK]; rfl)
theorem frexp_any (a : Nat) (h1 : 1 ≤ a) (h2 : a < 9218868437227405312) (w : World) :
    Calls Tryz.prog 65 #[.float .f64 a] w (Gives w (.tuple #[.float .f64 (fracOf (Nm.mag a)), .int .i64 (Nm.plc a + (((Nm.mag a).log2 : Nat) : Int) + 1)])) := by
  have hp : Pos a := ⟨h2⟩
  have C : Calls Tryz.prog 103 #[.float .f64 a] w (Gives w (.tuple #[.float .f64 (fracOf (Nm.mag a)), .int .i64 (Nm.plc a + (((Nm.mag a).log2 : Nat) : Int) + 1)])) := by
    by_cases hs : a < 4503599627370496
    · obtain ⟨m1, p1⟩ := small_parts (x := a) hs
      rw [m1, p1]
      obtain ⟨f1, f2, f3, f4⟩ := frac_parts (m := a) (by omega) (by omega)
      clear f4
      unfold fracOf
      obtain ⟨L, hL⟩ : ∃ L, a.log2 = L := ⟨_, rfl⟩
      have CO := fun w => fnorm_sub a h1 hs w
      rw [hL] at f1 f2 f3 CO ⊢
      obtain ⟨S, hS⟩ : ∃ S, a * 2 ^ (52 - L) = S := ⟨_, rfl⟩
      rw [hS] at f2 f3 CO ⊢
      have := frexp_norm a ((L + 1) * 2 ^ 52 + (S - 2 ^ 52)) (-52) (-1074 + (L : Int) + 1) h1 hp (by omega) (by omega) (by decide) (by decide) (by omega) w CO
      rw [show ((L + 1) * 2 ^ 52 + (S - 2 ^ 52)) % 2 ^ 52 = S - 2 ^ 52 by omega] at this
      exact this
    · have m1 : Nm.mag a = 2 ^ 52 + a % 2 ^ 52 := by unfold Nm.mag; rw [if_neg (by omega)]
      have p1 : Nm.plc a = ((a / 2 ^ 52 : Nat) : Int) - 1075 := by unfold Nm.plc; rw [if_neg (by omega), Nat.mod_eq_of_lt (by omega)]
      have hm : Nm.mag a < 2 ^ 53 := Nm.mag_lt a
      have h52 : 2 ^ 52 ≤ Nm.mag a := by rw [m1]; exact Nat.le_add_right _ _
      obtain ⟨f1, f2, f3, f4⟩ := frac_parts (m := Nm.mag a) (by omega) hm
      clear f4
      have hL : (Nm.mag a).log2 = 52 := by
        have := (Nat.le_log2 (by omega : Nm.mag a ≠ 0)).2 h52
        omega
      unfold fracOf
      rw [hL, m1, p1, show 52 - 52 = 0 from rfl, Nat.pow_zero, Nat.mul_one, Nat.add_sub_cancel_left]
      exact frexp_norm a a 0 _ h1 hp (by omega) h2 (by decide) (by decide) (by omega) w (fun w => (fnorm_any a hp (by omega) w).mono fun _ _ h => gives_of h)
  obtain ⟨X, hX⟩ : ∃ X, fracOf (Nm.mag a) = X := ⟨_, rfl⟩
  obtain ⟨K, hK⟩ : ∃ K, Nm.plc a + (((Nm.mag a).log2 : Nat) : Int) + 1 = K := ⟨_, rfl⟩
  rw [hX, hK] at C ⊢
  have HC := Lib.hid C
  clear C hX hK hp h1 h2
  go_enter Tryz.func65, Tryz.ntmps65
  refine wp_seq ?_
  apply wp_region_lit
  iterate 8 (first | go_step | skip)
  refine wp_seq ?_
  refine wp_cond_false rfl ?_
  go_wp2_with fail
  refine HC.out.mono ?_
  rintro e w2 ⟨rfl, hb⟩
  go_wp2
  go_ret2
  exact ⟨rfl, hb⟩
end Go.Proofs.YtffohkpohgkglaaGreat
