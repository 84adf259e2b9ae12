/-
  CURVES: Ln, the code's and the document's.
-/
import Derived.Test.YtffohkpohgkglaaGreatCurveQ
namespace Go.Proofs.YtffohkpohgkglaaGreat
set_option linter.unusedVariables false
set_option linter.unusedSimpArgs false
open Go.RowKit
def xLn (a : Nat) : Nat := if dLt (fracOf (Nm.mag a)) 4604544271217802189 then Nm.dMul (fracOf (Nm.mag a)) 4611686018427387904 else fracOf (Nm.mag a)
def eLn (a : Nat) : Int := if dLt (fracOf (Nm.mag a)) 4604544271217802189 then Nm.plc a + ((Nm.mag a).log2 : Nat) + 1 - 1 else Nm.plc a + ((Nm.mag a).log2 : Nat) + 1
def tLn (x : Nat) (k : Int) : Nat :=
  Nm.dAdd (Nm.dMul (dInt k) 4604418534311723008) (Nm.dAdd (Nm.dMul (Nm.dMul 4611686018427387904 (Nm.dDiv (Nm.dSub x 4607182418800017408) (Nm.dAdd x 4607182418800017408))) (serN (fLn (Nm.dMul (Nm.dDiv (Nm.dSub x 4607182418800017408) (Nm.dAdd x 4607182418800017408)) (Nm.dDiv (Nm.dSub x 4607182418800017408) (Nm.dAdd x 4607182418800017408)))) 2 1 11 (Nm.dDiv 4607182418800017408 (dInt 23)))) (Nm.dMul (dInt k) 4461442080421002358))
def dLn (a : Nat) : Nat := if Nm.isNaN a then Nm.nan else if Nm.nought a then 18442240474082181120 else if Nm.neg a then Nm.nan else if Nm.isInf a then a else tLn (xLn a) (eLn a)
theorem tLn_ok (x : Nat) (k : Int) : tLn x k < 2 ^ 64 := (Nm.ok_add _ _ (Nm.ok_mul _ _).1 (Nm.ok_add _ _ (Nm.ok_mul _ _).1 (Nm.ok_mul _ _).1).1).1
theorem dLn_ok (a : Nat) (ha : a < 2 ^ 64) : dLn a < 2 ^ 64 := by
  unfold dLn
  split
  · decide
  · split
    · decide
    · split
      · decide
      · split
        · exact ha
        · exact tLn_ok _ _
theorem frac_lt {m : Nat} (h0 : m ≠ 0) (hm : m < 2 ^ 53) : fracOf m < 1023 * 2 ^ 52 := by
  obtain ⟨f1, f2, f3, f4⟩ := frac_parts h0 hm
  clear f4
  unfold fracOf
  omega
theorem frac_round {m : Nat} (h0 : m ≠ 0) (hm : m < 2 ^ 53) : Nm.round false m (-((m.log2 + 1 : Nat) : Int)) false = fracOf m := by
  have h := (frac_parts h0 hm).2.2.2 1022 (by decide) (by decide)
  rw [show ((1022 : Nat) : Int) - 1023 - (m.log2 : Nat) = -((m.log2 + 1 : Nat) : Int) by clear h; omega] at h
  rw [Nm.round_pos _ _ h0]
  exact h
set_option maxHeartbeats 4000000 in
theorem ln_any (a : Nat) (ha : a < 2 ^ 64) (w : World) : Calls Tryz.prog 7 #[.int .u64 (a : Int)] w (Gives w (.int .u64 (dLn a : Nat))) := by
  have Cn : Hid (∀ w, Calls Tryz.prog 38 #[.int .u64 (a : Nat)] w (Gives w (.bool (Nm.isNaN a)))) := Lib.hid (fun w => (nannum_any a ha w).mono fun _ _ h => gives_of h)
  obtain ⟨n, hn⟩ : ∃ vv, Nm.isNaN a = vv := ⟨_, rfl⟩
  rw [hn] at Cn
  have Cz : Hid (∀ w, Calls Tryz.prog 61 #[.int .u64 (a : Nat)] w (Gives w (.bool (Nm.nought a)))) := Lib.hid (fun w => (zero_any a ha w).mono fun _ _ h => gives_of h)
  obtain ⟨z, hz⟩ : ∃ vv, Nm.nought a = vv := ⟨_, rfl⟩
  rw [hz] at Cz
  have Csg : Hid (∀ w, Calls Tryz.prog 63 #[.int .u64 (a : Nat)] w (Gives w (.bool (Nm.neg a)))) := Lib.hid (fun w => (sign_any a ha w).mono fun _ _ h => gives_of h)
  obtain ⟨sg, hsg⟩ : ∃ vv, Nm.neg a = vv := ⟨_, rfl⟩
  rw [hsg] at Csg
  have Cfi : Hid (∀ w, Calls Tryz.prog 64 #[.int .u64 (a : Nat)] w (Gives w (.bool (Nm.isInf a)))) := Lib.hid (fun w => (infnum_any a ha w).mono fun _ _ h => gives_of h)
  obtain ⟨fi, hfi⟩ : ∃ vv, Nm.isInf a = vv := ⟨_, rfl⟩
  rw [hfi] at Cfi
  have hzn : z = true → n = false := fun h => by rw [← hn]; exact Nm.nought_nan (hz.trans h)
  obtain ⟨R, hR⟩ : ∃ x, dLn a = x := ⟨_, rfl⟩
  rw [hR]
  unfold dLn at hR
  rw [hn, hz, hsg, hfi] at hR
  have CIN : Hid (∀ w, Calls Tryz.prog 62 #[.bool true] w (Gives w (.int .u64 18442240474082181120))) := Lib.hid (fun w => (inf_any true w).mono fun _ _ h => gives_of h)
  cases z
  · cases n
    · cases sg
      · cases fi
        · simp only [Bool.false_eq_true, if_false] at hR
          have fa : a % 2 ^ 63 < Nm.inf := Nm.fin_lt hn hfi
          have hsm : a < 9223372036854775808 := by
            unfold Nm.neg at hsg
            have := of_decide_eq_false hsg
            omega
          have hz0 : a % 2 ^ 63 ≠ 0 := by
            unfold Nm.nought at hz
            exact of_decide_eq_false hz
          have hm0 : Nm.mag a ≠ 0 := by
            have := Nm.nought_mag a
            rw [hz] at this
            exact of_decide_eq_false this.symm
          have hml := Nm.mag_lt a
          have pa1 := Nm.plc_ge a
          have pa2 := plc_le a
          have hfl := frac_lt hm0 hml
          have hlg := (frac_parts hm0 hml).1
          have hfr := frac_round hm0 hml
          unfold Nm.inf at fa
          have CFL := Lib.hid (fun w => (float_any a w).mono fun _ _ h => gives_of h)
          have CFR := Lib.hid (fun w => frexp_any a (by omega) (by omega) w)
          have CNU : Hid (∀ w, Calls Tryz.prog 67 #[.float .f64 (fracOf (Nm.mag a))] w (Gives w (.int .u64 (fracOf (Nm.mag a) : Nat)))) := Lib.hid (fun w => (number_any (fracOf (Nm.mag a)) (by omega) w).mono fun _ _ h => by
            have e : Nm.tidy (fracOf (Nm.mag a)) = fracOf (Nm.mag a) := Nm.tidy_ok (Nm.ok_of (by omega) (Pos.nan ⟨by omega⟩))
            rw [e] at h
            exact gives_of h)
          unfold xLn eLn at hR
          obtain ⟨y, hy⟩ : ∃ vv, fracOf (Nm.mag a) = vv := ⟨_, rfl⟩
          clear hfr
          rw [hy] at hR CFR CNU hfl
          have oy : y < 2 ^ 64 := by omega
          obtain ⟨k0, hk0⟩ : ∃ vv, Nm.plc a + ((Nm.mag a).log2 : Nat) + 1 = vv := ⟨_, rfl⟩
          rw [hk0] at hR CFR
          have hkb : -1074 ≤ k0 ∧ k0 ≤ 1030 := by omega
          have Cls : Hid (∀ w, Calls Tryz.prog 39 #[.int .u64 (y : Nat), .int .u64 4604544271217802189] w (Gives w (.bool (dLt y 4604544271217802189)))) := Lib.hid (fun w => (isless_any y 4604544271217802189 oy (by decide) w).mono fun _ _ h => gives_of h)
          obtain ⟨ls, hls⟩ : ∃ vv, dLt y 4604544271217802189 = vv := ⟨_, rfl⟩
          rw [hls] at Cls
          rw [hls] at hR
          cases ls
          · simp only [Bool.false_eq_true, if_false, if_true] at hR
            obtain ⟨x, hx⟩ : ∃ vv, y = vv := ⟨_, rfl⟩
            have ox := oy
            rw [hx] at hR ox
            obtain ⟨k, hk⟩ : ∃ vv, k0 = vv := ⟨_, rfl⟩
            rw [hk] at hR
            have hkb2 : -1075 ≤ k ∧ k ≤ 1030 := by omega
            have Cu : Hid (∀ w, Calls Tryz.prog 43 #[.int .u64 (x : Nat), .int .u64 4607182418800017408] w (Gives w (.int .u64 (Nm.dSub x 4607182418800017408 : Nat)))) := Lib.hid (fun w => sub_any x 4607182418800017408 ox (by decide) w)
            have ou : Nm.dSub x 4607182418800017408 < 2 ^ 64 := sub_ok _ _ ox (by decide)
            obtain ⟨u, hu⟩ : ∃ vv, Nm.dSub x 4607182418800017408 = vv := ⟨_, rfl⟩
            rw [hu] at Cu ou
            have Cv : Hid (∀ w, Calls Tryz.prog 41 #[.int .u64 (x : Nat), .int .u64 4607182418800017408] w (Gives w (.int .u64 (Nm.dAdd x 4607182418800017408 : Nat)))) := Lib.hid (fun w => add_any x 4607182418800017408 ox (by decide) w)
            have ov : Nm.dAdd x 4607182418800017408 < 2 ^ 64 := (Nm.ok_add _ _ ox (by decide)).1
            obtain ⟨v, hv⟩ : ∃ vv, Nm.dAdd x 4607182418800017408 = vv := ⟨_, rfl⟩
            rw [hv] at Cv ov
            have Cf : Hid (∀ w, Calls Tryz.prog 46 #[.int .u64 (u : Nat), .int .u64 (v : Nat)] w (Gives w (.int .u64 (Nm.dDiv u v : Nat)))) := Lib.hid (fun w => div_any u v ou ov w)
            have of : Nm.dDiv u v < 2 ^ 64 := (Nm.ok_div _ _).1
            obtain ⟨f, hf⟩ : ∃ vv, Nm.dDiv u v = vv := ⟨_, rfl⟩
            rw [hf] at Cf of
            have Cs : Hid (∀ w, Calls Tryz.prog 42 #[.int .u64 (f : Nat), .int .u64 (f : Nat)] w (Gives w (.int .u64 (Nm.dMul f f : Nat)))) := Lib.hid (fun w => mul_any f f of of w)
            have os : Nm.dMul f f < 2 ^ 64 := (Nm.ok_mul _ _).1
            obtain ⟨s, hs⟩ : ∃ vv, Nm.dMul f f = vv := ⟨_, rfl⟩
            rw [hs] at Cs os
            have Ci : Hid (∀ w, Calls Tryz.prog 47 #[.int .i64 (23)] w (Gives w (.int .u64 (dInt (23) : Nat)))) := Lib.hid (fun w => (int_any (23) w).mono fun _ _ h => gives_of h)
            have oi : dInt (23) < 2 ^ 64 := (ok_int _).1
            obtain ⟨i, hi⟩ : ∃ vv, dInt (23) = vv := ⟨_, rfl⟩
            rw [hi] at Ci oi
            have Cd : Hid (∀ w, Calls Tryz.prog 46 #[.int .u64 4607182418800017408, .int .u64 (i : Nat)] w (Gives w (.int .u64 (Nm.dDiv 4607182418800017408 i : Nat)))) := Lib.hid (fun w => div_any 4607182418800017408 i (by decide) oi w)
            have od : Nm.dDiv 4607182418800017408 i < 2 ^ 64 := (Nm.ok_div _ _).1
            obtain ⟨d, hd⟩ : ∃ vv, Nm.dDiv 4607182418800017408 i = vv := ⟨_, rfl⟩
            rw [hd] at Cd od
            have CS : Hid (∀ (w : World) (g : Nat), g < w.heap.size → w.cell? ⟨g, 0, none⟩ = some (.int .u64 (s : Nat)) → Calls Tryz.prog 44 #[.int .u64 (d : Nat), .int .i64 21, .int .i64 2, .int .i64 1, .func (.func 68) #[] #[.pointer (some ⟨g, 0, none⟩)]] w (Gives w (.int .u64 (serN (fLn s) 2 1 11 d : Nat)))) := Lib.hid (fun w g hg hc => serLn_any s d g 11 (by decide) os od w hg hc 21 (by decide))
            have oP : serN (fLn s) 2 1 11 d < 2 ^ 64 := serN_ok _ (fun p i => fLn_ok _ p i) _ _ _ _ od
            obtain ⟨P, hP⟩ : ∃ vv, serN (fLn s) 2 1 11 d = vv := ⟨_, rfl⟩
            rw [hP] at CS oP
            have Ce : Hid (∀ w, Calls Tryz.prog 47 #[.int .i64 k] w (Gives w (.int .u64 (dInt k : Nat)))) := Lib.hid (fun w => (int_any k w).mono fun _ _ h => gives_of h)
            have oe : dInt k < 2 ^ 64 := (ok_int _).1
            obtain ⟨e, he⟩ : ∃ vv, dInt k = vv := ⟨_, rfl⟩
            rw [he] at Ce oe
            have Cg1 : Hid (∀ w, Calls Tryz.prog 42 #[.int .u64 (e : Nat), .int .u64 4604418534311723008] w (Gives w (.int .u64 (Nm.dMul e 4604418534311723008 : Nat)))) := Lib.hid (fun w => mul_any e 4604418534311723008 oe (by decide) w)
            have og1 : Nm.dMul e 4604418534311723008 < 2 ^ 64 := (Nm.ok_mul _ _).1
            obtain ⟨g1, hg1⟩ : ∃ vv, Nm.dMul e 4604418534311723008 = vv := ⟨_, rfl⟩
            rw [hg1] at Cg1 og1
            have Cg2 : Hid (∀ w, Calls Tryz.prog 42 #[.int .u64 4611686018427387904, .int .u64 (f : Nat)] w (Gives w (.int .u64 (Nm.dMul 4611686018427387904 f : Nat)))) := Lib.hid (fun w => mul_any 4611686018427387904 f (by decide) of w)
            have og2 : Nm.dMul 4611686018427387904 f < 2 ^ 64 := (Nm.ok_mul _ _).1
            obtain ⟨g2, hg2⟩ : ∃ vv, Nm.dMul 4611686018427387904 f = vv := ⟨_, rfl⟩
            rw [hg2] at Cg2 og2
            have Cg3 : Hid (∀ w, Calls Tryz.prog 42 #[.int .u64 (g2 : Nat), .int .u64 (P : Nat)] w (Gives w (.int .u64 (Nm.dMul g2 P : Nat)))) := Lib.hid (fun w => mul_any g2 P og2 oP w)
            have og3 : Nm.dMul g2 P < 2 ^ 64 := (Nm.ok_mul _ _).1
            obtain ⟨g3, hg3⟩ : ∃ vv, Nm.dMul g2 P = vv := ⟨_, rfl⟩
            rw [hg3] at Cg3 og3
            have Cg4 : Hid (∀ w, Calls Tryz.prog 42 #[.int .u64 (e : Nat), .int .u64 4461442080421002358] w (Gives w (.int .u64 (Nm.dMul e 4461442080421002358 : Nat)))) := Lib.hid (fun w => mul_any e 4461442080421002358 oe (by decide) w)
            have og4 : Nm.dMul e 4461442080421002358 < 2 ^ 64 := (Nm.ok_mul _ _).1
            obtain ⟨g4, hg4⟩ : ∃ vv, Nm.dMul e 4461442080421002358 = vv := ⟨_, rfl⟩
            rw [hg4] at Cg4 og4
            have Cg5 : Hid (∀ w, Calls Tryz.prog 41 #[.int .u64 (g3 : Nat), .int .u64 (g4 : Nat)] w (Gives w (.int .u64 (Nm.dAdd g3 g4 : Nat)))) := Lib.hid (fun w => add_any g3 g4 og3 og4 w)
            have og5 : Nm.dAdd g3 g4 < 2 ^ 64 := (Nm.ok_add _ _ og3 og4).1
            obtain ⟨g5, hg5⟩ : ∃ vv, Nm.dAdd g3 g4 = vv := ⟨_, rfl⟩
            rw [hg5] at Cg5 og5
            have CE : Hid (∀ w, Calls Tryz.prog 41 #[.int .u64 (g1 : Nat), .int .u64 (g5 : Nat)] w (Gives w (.int .u64 (Nm.dAdd g1 g5 : Nat)))) := Lib.hid (fun w => add_any g1 g5 og1 og5 w)
            have oE : Nm.dAdd g1 g5 < 2 ^ 64 := (Nm.ok_add _ _ og1 og5).1
            obtain ⟨E, hE⟩ : ∃ vv, Nm.dAdd g1 g5 = vv := ⟨_, rfl⟩
            rw [hE] at CE oE
            obtain rfl : E = R := by
              rw [← hR]
              unfold tLn
              rw [hu, hv, hf, hs, hi, hd, hP, he, hg1, hg2, hg3, hg4, hg5, hE]
            subst hx hk
            clear hu hv hf hs hi hd he hg1 hg2 hg3 hg4 hg5 hE ou ov of os oi od oe og1 og2 og3 og4 og5 oE hP oP hls ha fa hz0 hm0 hml pa1 pa2 hfl hlg hy oy hkb2 hn hz hsg hfi hzn hk0 
            have BB := Lib.hid (Below.refl w.heap.size w)
            go_enter Tryz.func7, Tryz.ntmps7
            go_wp2_with fail
            refine (Cz.out _).mono ?_
            rintro e' wm1 ⟨rfl, hb⟩
            have BB := Lib.hid (BB.out.trans (hb.mono BB.out.size))
            clear hb
            go_wp2_with fail
            refine (Cn.out _).mono ?_
            rintro e' wm2 ⟨rfl, hb⟩
            have BB := Lib.hid (BB.out.trans (hb.mono BB.out.size))
            clear hb
            go_wp2_with fail
            refine (Csg.out _).mono ?_
            rintro e' wm3 ⟨rfl, hb⟩
            have BB := Lib.hid (BB.out.trans (hb.mono BB.out.size))
            clear hb
            go_wp2_with fail
            refine (Cfi.out _).mono ?_
            rintro e' wm4 ⟨rfl, hb⟩
            have BB := Lib.hid (BB.out.trans (hb.mono BB.out.size))
            clear hb
            go_wp2_with fail
            refine (CFL.out _).mono ?_
            rintro e' wm5 ⟨rfl, hb⟩
            have BB := Lib.hid (BB.out.trans (hb.mono BB.out.size))
            clear hb
            go_wp2_with fail
            refine (CFR.out _).mono ?_
            rintro e' wm6 ⟨rfl, hb⟩
            have BB := Lib.hid (BB.out.trans (hb.mono BB.out.size))
            clear hb
            go_wp2_with fail
            refine (CNU.out _).mono ?_
            rintro e' wm7 ⟨rfl, hb⟩
            have BB := Lib.hid (BB.out.trans (hb.mono BB.out.size))
            clear hb
            go_wp2_with fail
            refine (Cls.out _).mono ?_
            rintro e' wm8 ⟨rfl, hb⟩
            have BB := Lib.hid (BB.out.trans (hb.mono BB.out.size))
            clear hb
            go_wp2_with fail
            refine (Cu.out _).mono ?_
            rintro e' wm9 ⟨rfl, hb⟩
            have BB := Lib.hid (BB.out.trans (hb.mono BB.out.size))
            clear hb
            go_wp2_with fail
            refine (Cv.out _).mono ?_
            rintro e' wm10 ⟨rfl, hb⟩
            have BB := Lib.hid (BB.out.trans (hb.mono BB.out.size))
            clear hb
            go_wp2_with fail
            refine (Cf.out _).mono ?_
            rintro e' wm11 ⟨rfl, hb⟩
            have BB := Lib.hid (BB.out.trans (hb.mono BB.out.size))
            clear hb
            go_wp2_with fail
            refine (Cs.out _).mono ?_
            rintro e' wm12 ⟨rfl, hb⟩
            have BB := Lib.hid (BB.out.trans (hb.mono BB.out.size))
            clear hb
            have BB := Lib.hid (BB.out.alloc BB.out.size (Obj.cells #[.int .u64 (s : Nat)] 23))
            have LV := Lib.hid (Since.same (wm12.alloc (Obj.cells #[.int .u64 (s : Nat)] 23)))
            go_wp2_with fail
            refine (Ci.out _).mono ?_
            rintro e' wm13 ⟨rfl, hb⟩
            have LV := Lib.hid (LV.out.below hb)
            have BB := Lib.hid (BB.out.trans (hb.mono BB.out.size))
            clear hb
            go_wp2_with fail
            refine (Cd.out _).mono ?_
            rintro e' wm14 ⟨rfl, hb⟩
            have LV := Lib.hid (LV.out.below hb)
            have BB := Lib.hid (BB.out.trans (hb.mono BB.out.size))
            clear hb
            go_wp2_with fail
            refine (CS.out _ _ (Nat.lt_of_lt_of_le (alloc_lt _ _) LV.out.out.size) ((LV.out.out.cell (alloc_lt _ _)).trans (World.cell?_alloc_at _ _ _ _ rfl))).mono ?_
            rintro e' wm15 ⟨rfl, hb⟩
            have LV := Lib.hid (LV.out.below hb)
            have BB := Lib.hid (BB.out.trans (hb.mono BB.out.size))
            clear hb
            go_wp2_with fail
            refine (Ce.out _).mono ?_
            rintro e' wm16 ⟨rfl, hb⟩
            have LV := Lib.hid (LV.out.below hb)
            have BB := Lib.hid (BB.out.trans (hb.mono BB.out.size))
            clear hb
            go_wp2_with fail
            refine (Cg1.out _).mono ?_
            rintro e' wm17 ⟨rfl, hb⟩
            have LV := Lib.hid (LV.out.below hb)
            have BB := Lib.hid (BB.out.trans (hb.mono BB.out.size))
            clear hb
            go_wp2_with fail
            refine (Cg2.out _).mono ?_
            rintro e' wm18 ⟨rfl, hb⟩
            have LV := Lib.hid (LV.out.below hb)
            have BB := Lib.hid (BB.out.trans (hb.mono BB.out.size))
            clear hb
            go_wp2_with fail
            refine (Cg3.out _).mono ?_
            rintro e' wm19 ⟨rfl, hb⟩
            have LV := Lib.hid (LV.out.below hb)
            have BB := Lib.hid (BB.out.trans (hb.mono BB.out.size))
            clear hb
            go_wp2_with fail
            refine (Cg4.out _).mono ?_
            rintro e' wm20 ⟨rfl, hb⟩
            have LV := Lib.hid (LV.out.below hb)
            have BB := Lib.hid (BB.out.trans (hb.mono BB.out.size))
            clear hb
            go_wp2_with fail
            refine (Cg5.out _).mono ?_
            rintro e' wm21 ⟨rfl, hb⟩
            have LV := Lib.hid (LV.out.below hb)
            have BB := Lib.hid (BB.out.trans (hb.mono BB.out.size))
            clear hb
            go_wp2_with fail
            refine (CE.out _).mono ?_
            rintro e' wm22 ⟨rfl, hb⟩
            have LV := Lib.hid (LV.out.below hb)
            have BB := Lib.hid (BB.out.trans (hb.mono BB.out.size))
            clear hb
            go_wp2
            go_ret
            exact ⟨rfl, BB.out⟩
          · simp only [Bool.false_eq_true, if_false, if_true] at hR
            have ek : IntKind.i64.wrap (k0 - 1) = k0 - 1 := by rw [IntKind.wrap_i64]; omega
            have Cx : Hid (∀ w, Calls Tryz.prog 42 #[.int .u64 (y : Nat), .int .u64 4611686018427387904] w (Gives w (.int .u64 (Nm.dMul y 4611686018427387904 : Nat)))) := Lib.hid (fun w => mul_any y 4611686018427387904 oy (by decide) w)
            have ox : Nm.dMul y 4611686018427387904 < 2 ^ 64 := (Nm.ok_mul _ _).1
            obtain ⟨x, hx⟩ : ∃ vv, Nm.dMul y 4611686018427387904 = vv := ⟨_, rfl⟩
            rw [hx] at Cx ox
            rw [hx] at hR
            obtain ⟨k, hk⟩ : ∃ vv, k0 - 1 = vv := ⟨_, rfl⟩
            rw [hk] at hR ek
            have hkb2 : -1075 ≤ k ∧ k ≤ 1030 := by omega
            have Cu : Hid (∀ w, Calls Tryz.prog 43 #[.int .u64 (x : Nat), .int .u64 4607182418800017408] w (Gives w (.int .u64 (Nm.dSub x 4607182418800017408 : Nat)))) := Lib.hid (fun w => sub_any x 4607182418800017408 ox (by decide) w)
            have ou : Nm.dSub x 4607182418800017408 < 2 ^ 64 := sub_ok _ _ ox (by decide)
            obtain ⟨u, hu⟩ : ∃ vv, Nm.dSub x 4607182418800017408 = vv := ⟨_, rfl⟩
            rw [hu] at Cu ou
            have Cv : Hid (∀ w, Calls Tryz.prog 41 #[.int .u64 (x : Nat), .int .u64 4607182418800017408] w (Gives w (.int .u64 (Nm.dAdd x 4607182418800017408 : Nat)))) := Lib.hid (fun w => add_any x 4607182418800017408 ox (by decide) w)
            have ov : Nm.dAdd x 4607182418800017408 < 2 ^ 64 := (Nm.ok_add _ _ ox (by decide)).1
            obtain ⟨v, hv⟩ : ∃ vv, Nm.dAdd x 4607182418800017408 = vv := ⟨_, rfl⟩
            rw [hv] at Cv ov
            have Cf : Hid (∀ w, Calls Tryz.prog 46 #[.int .u64 (u : Nat), .int .u64 (v : Nat)] w (Gives w (.int .u64 (Nm.dDiv u v : Nat)))) := Lib.hid (fun w => div_any u v ou ov w)
            have of : Nm.dDiv u v < 2 ^ 64 := (Nm.ok_div _ _).1
            obtain ⟨f, hf⟩ : ∃ vv, Nm.dDiv u v = vv := ⟨_, rfl⟩
            rw [hf] at Cf of
            have Cs : Hid (∀ w, Calls Tryz.prog 42 #[.int .u64 (f : Nat), .int .u64 (f : Nat)] w (Gives w (.int .u64 (Nm.dMul f f : Nat)))) := Lib.hid (fun w => mul_any f f of of w)
            have os : Nm.dMul f f < 2 ^ 64 := (Nm.ok_mul _ _).1
            obtain ⟨s, hs⟩ : ∃ vv, Nm.dMul f f = vv := ⟨_, rfl⟩
            rw [hs] at Cs os
            have Ci : Hid (∀ w, Calls Tryz.prog 47 #[.int .i64 (23)] w (Gives w (.int .u64 (dInt (23) : Nat)))) := Lib.hid (fun w => (int_any (23) w).mono fun _ _ h => gives_of h)
            have oi : dInt (23) < 2 ^ 64 := (ok_int _).1
            obtain ⟨i, hi⟩ : ∃ vv, dInt (23) = vv := ⟨_, rfl⟩
            rw [hi] at Ci oi
            have Cd : Hid (∀ w, Calls Tryz.prog 46 #[.int .u64 4607182418800017408, .int .u64 (i : Nat)] w (Gives w (.int .u64 (Nm.dDiv 4607182418800017408 i : Nat)))) := Lib.hid (fun w => div_any 4607182418800017408 i (by decide) oi w)
            have od : Nm.dDiv 4607182418800017408 i < 2 ^ 64 := (Nm.ok_div _ _).1
            obtain ⟨d, hd⟩ : ∃ vv, Nm.dDiv 4607182418800017408 i = vv := ⟨_, rfl⟩
            rw [hd] at Cd od
            have CS : Hid (∀ (w : World) (g : Nat), g < w.heap.size → w.cell? ⟨g, 0, none⟩ = some (.int .u64 (s : Nat)) → Calls Tryz.prog 44 #[.int .u64 (d : Nat), .int .i64 21, .int .i64 2, .int .i64 1, .func (.func 68) #[] #[.pointer (some ⟨g, 0, none⟩)]] w (Gives w (.int .u64 (serN (fLn s) 2 1 11 d : Nat)))) := Lib.hid (fun w g hg hc => serLn_any s d g 11 (by decide) os od w hg hc 21 (by decide))
            have oP : serN (fLn s) 2 1 11 d < 2 ^ 64 := serN_ok _ (fun p i => fLn_ok _ p i) _ _ _ _ od
            obtain ⟨P, hP⟩ : ∃ vv, serN (fLn s) 2 1 11 d = vv := ⟨_, rfl⟩
            rw [hP] at CS oP
            have Ce : Hid (∀ w, Calls Tryz.prog 47 #[.int .i64 k] w (Gives w (.int .u64 (dInt k : Nat)))) := Lib.hid (fun w => (int_any k w).mono fun _ _ h => gives_of h)
            have oe : dInt k < 2 ^ 64 := (ok_int _).1
            obtain ⟨e, he⟩ : ∃ vv, dInt k = vv := ⟨_, rfl⟩
            rw [he] at Ce oe
            have Cg1 : Hid (∀ w, Calls Tryz.prog 42 #[.int .u64 (e : Nat), .int .u64 4604418534311723008] w (Gives w (.int .u64 (Nm.dMul e 4604418534311723008 : Nat)))) := Lib.hid (fun w => mul_any e 4604418534311723008 oe (by decide) w)
            have og1 : Nm.dMul e 4604418534311723008 < 2 ^ 64 := (Nm.ok_mul _ _).1
            obtain ⟨g1, hg1⟩ : ∃ vv, Nm.dMul e 4604418534311723008 = vv := ⟨_, rfl⟩
            rw [hg1] at Cg1 og1
            have Cg2 : Hid (∀ w, Calls Tryz.prog 42 #[.int .u64 4611686018427387904, .int .u64 (f : Nat)] w (Gives w (.int .u64 (Nm.dMul 4611686018427387904 f : Nat)))) := Lib.hid (fun w => mul_any 4611686018427387904 f (by decide) of w)
            have og2 : Nm.dMul 4611686018427387904 f < 2 ^ 64 := (Nm.ok_mul _ _).1
            obtain ⟨g2, hg2⟩ : ∃ vv, Nm.dMul 4611686018427387904 f = vv := ⟨_, rfl⟩
            rw [hg2] at Cg2 og2
            have Cg3 : Hid (∀ w, Calls Tryz.prog 42 #[.int .u64 (g2 : Nat), .int .u64 (P : Nat)] w (Gives w (.int .u64 (Nm.dMul g2 P : Nat)))) := Lib.hid (fun w => mul_any g2 P og2 oP w)
            have og3 : Nm.dMul g2 P < 2 ^ 64 := (Nm.ok_mul _ _).1
            obtain ⟨g3, hg3⟩ : ∃ vv, Nm.dMul g2 P = vv := ⟨_, rfl⟩
            rw [hg3] at Cg3 og3
            have Cg4 : Hid (∀ w, Calls Tryz.prog 42 #[.int .u64 (e : Nat), .int .u64 4461442080421002358] w (Gives w (.int .u64 (Nm.dMul e 4461442080421002358 : Nat)))) := Lib.hid (fun w => mul_any e 4461442080421002358 oe (by decide) w)
            have og4 : Nm.dMul e 4461442080421002358 < 2 ^ 64 := (Nm.ok_mul _ _).1
            obtain ⟨g4, hg4⟩ : ∃ vv, Nm.dMul e 4461442080421002358 = vv := ⟨_, rfl⟩
            rw [hg4] at Cg4 og4
            have Cg5 : Hid (∀ w, Calls Tryz.prog 41 #[.int .u64 (g3 : Nat), .int .u64 (g4 : Nat)] w (Gives w (.int .u64 (Nm.dAdd g3 g4 : Nat)))) := Lib.hid (fun w => add_any g3 g4 og3 og4 w)
            have og5 : Nm.dAdd g3 g4 < 2 ^ 64 := (Nm.ok_add _ _ og3 og4).1
            obtain ⟨g5, hg5⟩ : ∃ vv, Nm.dAdd g3 g4 = vv := ⟨_, rfl⟩
            rw [hg5] at Cg5 og5
            have CE : Hid (∀ w, Calls Tryz.prog 41 #[.int .u64 (g1 : Nat), .int .u64 (g5 : Nat)] w (Gives w (.int .u64 (Nm.dAdd g1 g5 : Nat)))) := Lib.hid (fun w => add_any g1 g5 og1 og5 w)
            have oE : Nm.dAdd g1 g5 < 2 ^ 64 := (Nm.ok_add _ _ og1 og5).1
            obtain ⟨E, hE⟩ : ∃ vv, Nm.dAdd g1 g5 = vv := ⟨_, rfl⟩
            rw [hE] at CE oE
            obtain rfl : E = R := by
              rw [← hR]
              unfold tLn
              rw [hu, hv, hf, hs, hi, hd, hP, he, hg1, hg2, hg3, hg4, hg5, hE]
            have ek2 : k0 - 1 = k := hk
            clear hu hv hf hs hi hd he hg1 hg2 hg3 hg4 hg5 hE ou ov of os oi od oe og1 og2 og3 og4 og5 oE hP oP hls ha fa hz0 hm0 hml pa1 pa2 hfl hlg hy oy hkb2 hn hz hsg hfi hzn hk0 ox hx 
            have BB := Lib.hid (Below.refl w.heap.size w)
            go_enter Tryz.func7, Tryz.ntmps7
            go_wp2_with fail
            refine (Cz.out _).mono ?_
            rintro e' wm1 ⟨rfl, hb⟩
            have BB := Lib.hid (BB.out.trans (hb.mono BB.out.size))
            clear hb
            go_wp2_with fail
            refine (Cn.out _).mono ?_
            rintro e' wm2 ⟨rfl, hb⟩
            have BB := Lib.hid (BB.out.trans (hb.mono BB.out.size))
            clear hb
            go_wp2_with fail
            refine (Csg.out _).mono ?_
            rintro e' wm3 ⟨rfl, hb⟩
            have BB := Lib.hid (BB.out.trans (hb.mono BB.out.size))
            clear hb
            go_wp2_with fail
            refine (Cfi.out _).mono ?_
            rintro e' wm4 ⟨rfl, hb⟩
            have BB := Lib.hid (BB.out.trans (hb.mono BB.out.size))
            clear hb
            go_wp2_with fail
            refine (CFL.out _).mono ?_
            rintro e' wm5 ⟨rfl, hb⟩
            have BB := Lib.hid (BB.out.trans (hb.mono BB.out.size))
            clear hb
            go_wp2_with fail
            refine (CFR.out _).mono ?_
            rintro e' wm6 ⟨rfl, hb⟩
            have BB := Lib.hid (BB.out.trans (hb.mono BB.out.size))
            clear hb
            go_wp2_with fail
            refine (CNU.out _).mono ?_
            rintro e' wm7 ⟨rfl, hb⟩
            have BB := Lib.hid (BB.out.trans (hb.mono BB.out.size))
            clear hb
            go_wp2_with fail
            refine (Cls.out _).mono ?_
            rintro e' wm8 ⟨rfl, hb⟩
            have BB := Lib.hid (BB.out.trans (hb.mono BB.out.size))
            clear hb
            go_wp2_with fail
            refine (Cx.out _).mono ?_
            rintro e' wm9 ⟨rfl, hb⟩
            have BB := Lib.hid (BB.out.trans (hb.mono BB.out.size))
            clear hb
            go_wp2_with fail
            refine (Cu.out _).mono ?_
            rintro e' wm10 ⟨rfl, hb⟩
            have BB := Lib.hid (BB.out.trans (hb.mono BB.out.size))
            clear hb
            go_wp2_with fail
            refine (Cv.out _).mono ?_
            rintro e' wm11 ⟨rfl, hb⟩
            have BB := Lib.hid (BB.out.trans (hb.mono BB.out.size))
            clear hb
            go_wp2_with fail
            refine (Cf.out _).mono ?_
            rintro e' wm12 ⟨rfl, hb⟩
            have BB := Lib.hid (BB.out.trans (hb.mono BB.out.size))
            clear hb
            go_wp2_with fail
            refine (Cs.out _).mono ?_
            rintro e' wm13 ⟨rfl, hb⟩
            have BB := Lib.hid (BB.out.trans (hb.mono BB.out.size))
            clear hb
            have BB := Lib.hid (BB.out.alloc BB.out.size (Obj.cells #[.int .u64 (s : Nat)] 23))
            have LV := Lib.hid (Since.same (wm13.alloc (Obj.cells #[.int .u64 (s : Nat)] 23)))
            go_wp2_with fail
            refine (Ci.out _).mono ?_
            rintro e' wm14 ⟨rfl, hb⟩
            have LV := Lib.hid (LV.out.below hb)
            have BB := Lib.hid (BB.out.trans (hb.mono BB.out.size))
            clear hb
            go_wp2_with fail
            refine (Cd.out _).mono ?_
            rintro e' wm15 ⟨rfl, hb⟩
            have LV := Lib.hid (LV.out.below hb)
            have BB := Lib.hid (BB.out.trans (hb.mono BB.out.size))
            clear hb
            go_wp2_with fail
            refine (CS.out _ _ (Nat.lt_of_lt_of_le (alloc_lt _ _) LV.out.out.size) ((LV.out.out.cell (alloc_lt _ _)).trans (World.cell?_alloc_at _ _ _ _ rfl))).mono ?_
            rintro e' wm16 ⟨rfl, hb⟩
            have LV := Lib.hid (LV.out.below hb)
            have BB := Lib.hid (BB.out.trans (hb.mono BB.out.size))
            clear hb
            go_wp2_with fail
            refine (Ce.out _).mono ?_
            rintro e' wm17 ⟨rfl, hb⟩
            have LV := Lib.hid (LV.out.below hb)
            have BB := Lib.hid (BB.out.trans (hb.mono BB.out.size))
            clear hb
            go_wp2_with fail
            refine (Cg1.out _).mono ?_
            rintro e' wm18 ⟨rfl, hb⟩
            have LV := Lib.hid (LV.out.below hb)
            have BB := Lib.hid (BB.out.trans (hb.mono BB.out.size))
            clear hb
            go_wp2_with fail
            refine (Cg2.out _).mono ?_
            rintro e' wm19 ⟨rfl, hb⟩
            have LV := Lib.hid (LV.out.below hb)
            have BB := Lib.hid (BB.out.trans (hb.mono BB.out.size))
            clear hb
            go_wp2_with fail
            refine (Cg3.out _).mono ?_
            rintro e' wm20 ⟨rfl, hb⟩
            have LV := Lib.hid (LV.out.below hb)
            have BB := Lib.hid (BB.out.trans (hb.mono BB.out.size))
            clear hb
            go_wp2_with fail
            refine (Cg4.out _).mono ?_
            rintro e' wm21 ⟨rfl, hb⟩
            have LV := Lib.hid (LV.out.below hb)
            have BB := Lib.hid (BB.out.trans (hb.mono BB.out.size))
            clear hb
            go_wp2_with fail
            refine (Cg5.out _).mono ?_
            rintro e' wm22 ⟨rfl, hb⟩
            have LV := Lib.hid (LV.out.below hb)
            have BB := Lib.hid (BB.out.trans (hb.mono BB.out.size))
            clear hb
            go_wp2_with fail
            refine (CE.out _).mono ?_
            rintro e' wm23 ⟨rfl, hb⟩
            have LV := Lib.hid (LV.out.below hb)
            have BB := Lib.hid (BB.out.trans (hb.mono BB.out.size))
            clear hb
            go_wp2
            go_ret
            exact ⟨rfl, BB.out⟩
        · simp only [Bool.false_eq_true, if_false, if_true] at hR
          subst hR
          clear hn hz hsg hfi hzn ha
          have BB := Lib.hid (Below.refl w.heap.size w)
          go_enter Tryz.func7, Tryz.ntmps7
          go_wp2_with fail
          refine (Cz.out _).mono ?_
          rintro e' wm1 ⟨rfl, hb⟩
          have BB := Lib.hid (BB.out.trans (hb.mono BB.out.size))
          clear hb
          go_wp2_with fail
          refine (Cn.out _).mono ?_
          rintro e' wm2 ⟨rfl, hb⟩
          have BB := Lib.hid (BB.out.trans (hb.mono BB.out.size))
          clear hb
          go_wp2_with fail
          refine (Csg.out _).mono ?_
          rintro e' wm3 ⟨rfl, hb⟩
          have BB := Lib.hid (BB.out.trans (hb.mono BB.out.size))
          clear hb
          go_wp2_with fail
          refine (Cfi.out _).mono ?_
          rintro e' wm4 ⟨rfl, hb⟩
          have BB := Lib.hid (BB.out.trans (hb.mono BB.out.size))
          clear hb
          go_wp2
          go_ret
          exact ⟨rfl, BB.out⟩
      · simp only [Bool.false_eq_true, if_false, if_true] at hR
        subst hR
        clear hn hz hsg hfi hzn ha
        have BB := Lib.hid (Below.refl w.heap.size w)
        go_enter Tryz.func7, Tryz.ntmps7
        go_wp2_with fail
        refine (Cz.out _).mono ?_
        rintro e' wm1 ⟨rfl, hb⟩
        have BB := Lib.hid (BB.out.trans (hb.mono BB.out.size))
        clear hb
        go_wp2_with fail
        refine (Cn.out _).mono ?_
        rintro e' wm2 ⟨rfl, hb⟩
        have BB := Lib.hid (BB.out.trans (hb.mono BB.out.size))
        clear hb
        go_wp2_with fail
        refine (Csg.out _).mono ?_
        rintro e' wm3 ⟨rfl, hb⟩
        have BB := Lib.hid (BB.out.trans (hb.mono BB.out.size))
        clear hb
        go_wp2
        go_ret
        exact ⟨rfl, BB.out⟩
    · simp only [Bool.false_eq_true, if_false, if_true] at hR
      subst hR
      clear hn hz hsg hfi hzn ha
      have BB := Lib.hid (Below.refl w.heap.size w)
      go_enter Tryz.func7, Tryz.ntmps7
      go_wp2_with fail
      refine (Cz.out _).mono ?_
      rintro e' wm1 ⟨rfl, hb⟩
      have BB := Lib.hid (BB.out.trans (hb.mono BB.out.size))
      clear hb
      go_wp2_with fail
      refine (Cn.out _).mono ?_
      rintro e' wm2 ⟨rfl, hb⟩
      have BB := Lib.hid (BB.out.trans (hb.mono BB.out.size))
      clear hb
      go_wp2
      go_ret
      exact ⟨rfl, BB.out⟩
  · obtain rfl := hzn rfl
    simp only [Bool.false_eq_true, if_false, if_true] at hR
    subst hR
    clear hn hz hsg hfi hzn ha
    have BB := Lib.hid (Below.refl w.heap.size w)
    go_enter Tryz.func7, Tryz.ntmps7
    go_wp2_with fail
    refine (Cz.out _).mono ?_
    rintro e' wm1 ⟨rfl, hb⟩
    have BB := Lib.hid (BB.out.trans (hb.mono BB.out.size))
    clear hb
    go_wp2_with fail
    refine (CIN.out _).mono ?_
    rintro e' wm2 ⟨rfl, hb⟩
    have BB := Lib.hid (BB.out.trans (hb.mono BB.out.size))
    clear hb
    go_wp2
    go_ret
    exact ⟨rfl, BB.out⟩
set_option maxHeartbeats 4000000 in
theorem rln_any (a : Nat) (ha : a < 2 ^ 64) (w : World) : Calls Tryz.prog 8 #[.int .u64 (a : Int)] w (Gives w (.int .u64 (dLn a : Nat))) := by
  have Cn : Hid (∀ w, Calls Tryz.prog 50 #[.int .u64 (a : Nat)] w (Gives w (.bool (Nm.isNaN a)))) := Lib.hid (fun w => (rnan_any a ha w).mono fun _ _ h => gives_of h)
  obtain ⟨n, hn⟩ : ∃ vv, Nm.isNaN a = vv := ⟨_, rfl⟩
  rw [hn] at Cn
  have Cz : Hid (∀ w, Calls Tryz.prog 69 #[.int .u64 (a : Nat)] w (Gives w (.bool (Nm.nought a)))) := Lib.hid (fun w => (rzero_any a ha w).mono fun _ _ h => gives_of h)
  obtain ⟨z, hz⟩ : ∃ vv, Nm.nought a = vv := ⟨_, rfl⟩
  rw [hz] at Cz
  have Csg : Hid (∀ w, Calls Tryz.prog 71 #[.int .u64 (a : Nat)] w (Gives w (.bool (Nm.neg a)))) := Lib.hid (fun w => (rsign_any a ha w).mono fun _ _ h => gives_of h)
  obtain ⟨sg, hsg⟩ : ∃ vv, Nm.neg a = vv := ⟨_, rfl⟩
  rw [hsg] at Csg
  have Cfi : Hid (∀ w, Calls Tryz.prog 72 #[.int .u64 (a : Nat)] w (Gives w (.bool (Nm.isInf a)))) := Lib.hid (fun w => (rinf_any a ha w).mono fun _ _ h => gives_of h)
  obtain ⟨fi, hfi⟩ : ∃ vv, Nm.isInf a = vv := ⟨_, rfl⟩
  rw [hfi] at Cfi
  have hzn : z = true → n = false := fun h => by rw [← hn]; exact Nm.nought_nan (hz.trans h)
  obtain ⟨R, hR⟩ : ∃ x, dLn a = x := ⟨_, rfl⟩
  rw [hR]
  unfold dLn at hR
  rw [hn, hz, hsg, hfi] at hR
  have CIN : Hid (∀ w, Calls Tryz.prog 70 #[.bool true] w (Gives w (.int .u64 18442240474082181120))) := Lib.hid (fun w => (rinfv_any true w).mono fun _ _ h => gives_of h)
  cases n
  · cases z
    · cases sg
      · cases fi
        · simp only [Bool.false_eq_true, if_false] at hR
          have fa : a % 2 ^ 63 < Nm.inf := Nm.fin_lt hn hfi
          have hsm : a < 9223372036854775808 := by
            unfold Nm.neg at hsg
            have := of_decide_eq_false hsg
            omega
          have hz0 : a % 2 ^ 63 ≠ 0 := by
            unfold Nm.nought at hz
            exact of_decide_eq_false hz
          have hm0 : Nm.mag a ≠ 0 := by
            have := Nm.nought_mag a
            rw [hz] at this
            exact of_decide_eq_false this.symm
          have hml := Nm.mag_lt a
          have pa1 := Nm.plc_ge a
          have pa2 := plc_le a
          have hfl := frac_lt hm0 hml
          have hlg := (frac_parts hm0 hml).1
          have hfr := frac_round hm0 hml
          unfold Nm.inf at fa
          have COP := Lib.hid (fun w => (open_any a ha w).mono fun _ _ h => gives_of h)
          have CBI : Hid (∀ w v, Big w v (Nm.mag a) → Calls Tryz.prog 74 #[v] w (Gives w (.int .i64 (((Nm.mag a).log2 + 1 : Nat) : Int)))) := Lib.hid (fun w v H => (bits_any v (Nm.mag a) w H).mono fun _ _ h => by
            have e : Nm.nb (Nm.mag a) = (Nm.mag a).log2 + 1 := by unfold Nm.nb; rw [if_neg hm0]
            rw [e] at h
            exact gives_of h)
          have CRO : Hid (∀ w v, Big w v (Nm.mag a) → Calls Tryz.prog 76 #[.bool false, v, .int .i64 (-(((Nm.mag a).log2 + 1 : Nat) : Int)), .bool false] w (Gives w (.int .u64 (fracOf (Nm.mag a) : Nat)))) := Lib.hid (by
            rw [← hfr]
            exact fun w v H => round_any _ false v _ _ w H (Nat.le_trans (len_mag a) (by decide)) (by omega) (by omega))
          have CFM := Lib.hid (fun w => from_any (Nm.mag a) (by omega) w)
          unfold xLn eLn at hR
          obtain ⟨y, hy⟩ : ∃ vv, fracOf (Nm.mag a) = vv := ⟨_, rfl⟩
          clear hfr
          rw [hy] at hR CRO hfl
          have oy : y < 2 ^ 64 := by omega
          obtain ⟨M, hM⟩ : ∃ vv, Nm.mag a = vv := ⟨_, rfl⟩
          rw [hM] at hR COP CBI CRO CFM hlg
          obtain ⟨p, hp⟩ : ∃ vv, Nm.plc a = vv := ⟨_, rfl⟩
          rw [hp] at hR COP pa1 pa2
          obtain ⟨l, hl⟩ : ∃ vv, M.log2 + 1 = vv := ⟨_, rfl⟩
          rw [hl] at CBI CRO
          obtain ⟨k0, hk0⟩ : ∃ vv, p + (M.log2 : Nat) + 1 = vv := ⟨_, rfl⟩
          rw [hk0] at hR
          have hkb : -1074 ≤ k0 ∧ k0 ≤ 1030 := by omega
          have hlb : l ≤ 53 := by omega
          have hpl : p + (l : Int) = k0 := by omega
          have en : IntKind.i64.wrap (-(l : Int)) = -(l : Int) := by rw [IntKind.wrap_i64]; omega
          have ep : IntKind.i64.wrap (p + (l : Int)) = k0 := by rw [hpl, IntKind.wrap_i64]; omega
          clear hM hp hl hk0
          have Cls : Hid (∀ w, Calls Tryz.prog 52 #[.int .u64 (y : Nat), .int .u64 4604544271217802189] w (Gives w (.bool (dLt y 4604544271217802189)))) := Lib.hid (fun w => rbelow_any y 4604544271217802189 oy (by decide) w)
          obtain ⟨ls, hls⟩ : ∃ vv, dLt y 4604544271217802189 = vv := ⟨_, rfl⟩
          rw [hls] at Cls
          rw [hls] at hR
          cases ls
          · simp only [Bool.false_eq_true, if_false, if_true] at hR
            obtain ⟨x, hx⟩ : ∃ vv, y = vv := ⟨_, rfl⟩
            have ox := oy
            rw [hx] at hR ox
            obtain ⟨k, hk⟩ : ∃ vv, k0 = vv := ⟨_, rfl⟩
            rw [hk] at hR
            have hkb2 : -1075 ≤ k ∧ k ≤ 1030 := by omega
            have Cu : Hid (∀ w, Calls Tryz.prog 56 #[.int .u64 (x : Nat), .int .u64 4607182418800017408] w (Gives w (.int .u64 (Nm.dSub x 4607182418800017408 : Nat)))) := Lib.hid (fun w => rsub_any x 4607182418800017408 ox (by decide) w)
            have ou : Nm.dSub x 4607182418800017408 < 2 ^ 64 := sub_ok _ _ ox (by decide)
            obtain ⟨u, hu⟩ : ∃ vv, Nm.dSub x 4607182418800017408 = vv := ⟨_, rfl⟩
            rw [hu] at Cu ou
            have Cv : Hid (∀ w, Calls Tryz.prog 54 #[.int .u64 (x : Nat), .int .u64 4607182418800017408] w (Gives w (.int .u64 (Nm.dAdd x 4607182418800017408 : Nat)))) := Lib.hid (fun w => radd_any x 4607182418800017408 ox (by decide) w)
            have ov : Nm.dAdd x 4607182418800017408 < 2 ^ 64 := (Nm.ok_add _ _ ox (by decide)).1
            obtain ⟨v, hv⟩ : ∃ vv, Nm.dAdd x 4607182418800017408 = vv := ⟨_, rfl⟩
            rw [hv] at Cv ov
            have Cf : Hid (∀ w, Calls Tryz.prog 57 #[.int .u64 (u : Nat), .int .u64 (v : Nat)] w (Gives w (.int .u64 (Nm.dDiv u v : Nat)))) := Lib.hid (fun w => rdiv_any u v ou ov w)
            have of : Nm.dDiv u v < 2 ^ 64 := (Nm.ok_div _ _).1
            obtain ⟨f, hf⟩ : ∃ vv, Nm.dDiv u v = vv := ⟨_, rfl⟩
            rw [hf] at Cf of
            have Cs : Hid (∀ w, Calls Tryz.prog 55 #[.int .u64 (f : Nat), .int .u64 (f : Nat)] w (Gives w (.int .u64 (Nm.dMul f f : Nat)))) := Lib.hid (fun w => rmul_any f f of of w)
            have os : Nm.dMul f f < 2 ^ 64 := (Nm.ok_mul _ _).1
            obtain ⟨s, hs⟩ : ∃ vv, Nm.dMul f f = vv := ⟨_, rfl⟩
            rw [hs] at Cs os
            have Ci : Hid (∀ w, Calls Tryz.prog 58 #[.int .i64 (23)] w (Gives w (.int .u64 (dInt (23) : Nat)))) := Lib.hid (fun w => rint_any (23) (by decide) (by decide) w)
            have oi : dInt (23) < 2 ^ 64 := (ok_int _).1
            obtain ⟨i, hi⟩ : ∃ vv, dInt (23) = vv := ⟨_, rfl⟩
            rw [hi] at Ci oi
            have Cd : Hid (∀ w, Calls Tryz.prog 57 #[.int .u64 4607182418800017408, .int .u64 (i : Nat)] w (Gives w (.int .u64 (Nm.dDiv 4607182418800017408 i : Nat)))) := Lib.hid (fun w => rdiv_any 4607182418800017408 i (by decide) oi w)
            have od : Nm.dDiv 4607182418800017408 i < 2 ^ 64 := (Nm.ok_div _ _).1
            obtain ⟨d, hd⟩ : ∃ vv, Nm.dDiv 4607182418800017408 i = vv := ⟨_, rfl⟩
            rw [hd] at Cd od
            have oP : serN (fLn s) 2 1 11 d < 2 ^ 64 := serN_ok _ (fun p i => fLn_ok _ p i) _ _ _ _ od
            obtain ⟨P, hP⟩ : ∃ vv, serN (fLn s) 2 1 11 d = vv := ⟨_, rfl⟩
            have HP := Lib.hid hP
            have HQ := Lib.hid os
            have HD := Lib.hid od
            rw [hP] at oP
            have Ce : Hid (∀ w, Calls Tryz.prog 58 #[.int .i64 k] w (Gives w (.int .u64 (dInt k : Nat)))) := Lib.hid (fun w => rint_any k (by omega) (by omega) w)
            have oe : dInt k < 2 ^ 64 := (ok_int _).1
            obtain ⟨e, he⟩ : ∃ vv, dInt k = vv := ⟨_, rfl⟩
            rw [he] at Ce oe
            have Cg1 : Hid (∀ w, Calls Tryz.prog 55 #[.int .u64 (e : Nat), .int .u64 4604418534311723008] w (Gives w (.int .u64 (Nm.dMul e 4604418534311723008 : Nat)))) := Lib.hid (fun w => rmul_any e 4604418534311723008 oe (by decide) w)
            have og1 : Nm.dMul e 4604418534311723008 < 2 ^ 64 := (Nm.ok_mul _ _).1
            obtain ⟨g1, hg1⟩ : ∃ vv, Nm.dMul e 4604418534311723008 = vv := ⟨_, rfl⟩
            rw [hg1] at Cg1 og1
            have Cg2 : Hid (∀ w, Calls Tryz.prog 55 #[.int .u64 4611686018427387904, .int .u64 (f : Nat)] w (Gives w (.int .u64 (Nm.dMul 4611686018427387904 f : Nat)))) := Lib.hid (fun w => rmul_any 4611686018427387904 f (by decide) of w)
            have og2 : Nm.dMul 4611686018427387904 f < 2 ^ 64 := (Nm.ok_mul _ _).1
            obtain ⟨g2, hg2⟩ : ∃ vv, Nm.dMul 4611686018427387904 f = vv := ⟨_, rfl⟩
            rw [hg2] at Cg2 og2
            have Cg3 : Hid (∀ w, Calls Tryz.prog 55 #[.int .u64 (g2 : Nat), .int .u64 (P : Nat)] w (Gives w (.int .u64 (Nm.dMul g2 P : Nat)))) := Lib.hid (fun w => rmul_any g2 P og2 oP w)
            have og3 : Nm.dMul g2 P < 2 ^ 64 := (Nm.ok_mul _ _).1
            obtain ⟨g3, hg3⟩ : ∃ vv, Nm.dMul g2 P = vv := ⟨_, rfl⟩
            rw [hg3] at Cg3 og3
            have Cg4 : Hid (∀ w, Calls Tryz.prog 55 #[.int .u64 (e : Nat), .int .u64 4461442080421002358] w (Gives w (.int .u64 (Nm.dMul e 4461442080421002358 : Nat)))) := Lib.hid (fun w => rmul_any e 4461442080421002358 oe (by decide) w)
            have og4 : Nm.dMul e 4461442080421002358 < 2 ^ 64 := (Nm.ok_mul _ _).1
            obtain ⟨g4, hg4⟩ : ∃ vv, Nm.dMul e 4461442080421002358 = vv := ⟨_, rfl⟩
            rw [hg4] at Cg4 og4
            have Cg5 : Hid (∀ w, Calls Tryz.prog 54 #[.int .u64 (g3 : Nat), .int .u64 (g4 : Nat)] w (Gives w (.int .u64 (Nm.dAdd g3 g4 : Nat)))) := Lib.hid (fun w => radd_any g3 g4 og3 og4 w)
            have og5 : Nm.dAdd g3 g4 < 2 ^ 64 := (Nm.ok_add _ _ og3 og4).1
            obtain ⟨g5, hg5⟩ : ∃ vv, Nm.dAdd g3 g4 = vv := ⟨_, rfl⟩
            rw [hg5] at Cg5 og5
            have CE : Hid (∀ w, Calls Tryz.prog 54 #[.int .u64 (g1 : Nat), .int .u64 (g5 : Nat)] w (Gives w (.int .u64 (Nm.dAdd g1 g5 : Nat)))) := Lib.hid (fun w => radd_any g1 g5 og1 og5 w)
            have oE : Nm.dAdd g1 g5 < 2 ^ 64 := (Nm.ok_add _ _ og1 og5).1
            obtain ⟨E, hE⟩ : ∃ vv, Nm.dAdd g1 g5 = vv := ⟨_, rfl⟩
            rw [hE] at CE oE
            obtain rfl : E = R := by
              rw [← hR]
              unfold tLn
              rw [hu, hv, hf, hs, hi, hd, hP, he, hg1, hg2, hg3, hg4, hg5, hE]
            subst hx hk
            clear hu hv hf hs hi hd he hg1 hg2 hg3 hg4 hg5 hE ou ov of os oi od oe og1 og2 og3 og4 og5 oE hP oP hls ha fa hz0 hm0 hml pa1 pa2 hfl hlg hy oy hkb2 hn hz hsg hfi hzn 
            have BB := Lib.hid (Below.refl w.heap.size w)
            go_enter Tryz.func8, Tryz.ntmps8
            go_wp2_with fail
            refine (Cn.out _).mono ?_
            rintro e' wm1 ⟨rfl, hb⟩
            have BB := Lib.hid (BB.out.trans (hb.mono BB.out.size))
            clear hb
            go_wp2_with fail
            refine (Cz.out _).mono ?_
            rintro e' wm2 ⟨rfl, hb⟩
            have BB := Lib.hid (BB.out.trans (hb.mono BB.out.size))
            clear hb
            go_wp2_with fail
            refine (Csg.out _).mono ?_
            rintro e' wm3 ⟨rfl, hb⟩
            have BB := Lib.hid (BB.out.trans (hb.mono BB.out.size))
            clear hb
            go_wp2_with fail
            refine (Cfi.out _).mono ?_
            rintro e' wm4 ⟨rfl, hb⟩
            have BB := Lib.hid (BB.out.trans (hb.mono BB.out.size))
            clear hb
            go_wp2_with fail
            refine (COP.out _).mono ?_
            rintro e' wm5 ⟨rfl, hb⟩
            have BB := Lib.hid (BB.out.trans (hb.mono BB.out.size))
            clear hb
            go_wp2_with fail
            refine (CFM.out _).mono ?_
            rintro e' wb6 ⟨vG1, rfl, hbig, hb⟩
            have BB := Lib.hid (BB.out.trans (hb.mono BB.out.size))
            clear hb
            have G1 := Lib.hid hbig
            clear hbig
            go_wp2_with fail
            refine (CBI.out _ _ G1.out).mono ?_
            rintro e' wm7 ⟨rfl, hb⟩
            have G1 := Lib.hid (G1.out.below hb)
            have BB := Lib.hid (BB.out.trans (hb.mono BB.out.size))
            clear hb
            go_wp2_with fail
            refine (CFM.out _).mono ?_
            rintro e' wb8 ⟨vG2, rfl, hbig, hb⟩
            have G1 := Lib.hid (G1.out.below hb)
            have BB := Lib.hid (BB.out.trans (hb.mono BB.out.size))
            clear hb
            have G2 := Lib.hid hbig
            clear hbig
            go_wp2_with fail
            refine (CRO.out _ _ G2.out).mono ?_
            rintro e' wm9 ⟨rfl, hb⟩
            have G1 := Lib.hid (G1.out.below hb)
            have G2 := Lib.hid (G2.out.below hb)
            have BB := Lib.hid (BB.out.trans (hb.mono BB.out.size))
            clear hb
            go_wp2_with fail
            refine (Cls.out _).mono ?_
            rintro e' wm10 ⟨rfl, hb⟩
            have G1 := Lib.hid (G1.out.below hb)
            have G2 := Lib.hid (G2.out.below hb)
            have BB := Lib.hid (BB.out.trans (hb.mono BB.out.size))
            clear hb
            go_wp2_with fail
            refine (Cu.out _).mono ?_
            rintro e' wm11 ⟨rfl, hb⟩
            have BB := Lib.hid (BB.out.trans (hb.mono BB.out.size))
            clear hb
            go_wp2_with fail
            refine (Cv.out _).mono ?_
            rintro e' wm12 ⟨rfl, hb⟩
            have BB := Lib.hid (BB.out.trans (hb.mono BB.out.size))
            clear hb
            go_wp2_with fail
            refine (Cf.out _).mono ?_
            rintro e' wm13 ⟨rfl, hb⟩
            have BB := Lib.hid (BB.out.trans (hb.mono BB.out.size))
            clear hb
            go_wp2_with fail
            refine (Cs.out _).mono ?_
            rintro e' wm14 ⟨rfl, hb⟩
            have BB := Lib.hid (BB.out.trans (hb.mono BB.out.size))
            clear hb
            go_wp2_with fail
            refine (Ci.out _).mono ?_
            rintro e' wm15 ⟨rfl, hb⟩
            have BB := Lib.hid (BB.out.trans (hb.mono BB.out.size))
            clear hb
            go_wp2_with fail
            refine (Cd.out _).mono ?_
            rintro e' wm16 ⟨rfl, hb⟩
            have BB := Lib.hid (BB.out.trans (hb.mono BB.out.size))
            clear hb
            go_wp2
            go_loopw [9, 10] (fun q' i' wr => ∃ (m t : Nat) (j : Int), i' = .int .i64 j ∧ q' = .int .u64 (t : Nat) ∧ -1 ≤ j ∧ j ≤ 100 ∧ Hid (j = (2 * m : Nat) - 1) ∧ Hid (t < 2 ^ 64) ∧ Hid (serN (fLn s) 2 1 m t = P) ∧ Hid (Below w.heap.size w wr)) (fun _ i _ => (intOf i + 2).toNat)
            case atStart => exact ⟨11, d, 21, rfl, rfl, by omega, by omega, Lib.hid (by decide), HD, HP, BB⟩
            case round =>
              obtain ⟨m, t, j, rfl, rfl, hj1, hj2, HJ, HT, HS, BB⟩ := hrel
              cases m with
              | zero =>
                have d1 : decide (j ≥ 1) = false := by have := HJ.out; apply decide_eq_false; omega
                have d2 : decide ((1 : Int) ≤ j) = false := d1
                obtain rfl : t = P := HS.out
                go_wp2_with fail
                refine (Ce.out _).mono ?_
                rintro e' wm17 ⟨rfl, hb⟩
                have BB := Lib.hid (BB.out.trans (hb.mono BB.out.size))
                clear hb
                go_wp2_with fail
                refine (Cg1.out _).mono ?_
                rintro e' wm18 ⟨rfl, hb⟩
                have BB := Lib.hid (BB.out.trans (hb.mono BB.out.size))
                clear hb
                go_wp2_with fail
                refine (Cg2.out _).mono ?_
                rintro e' wm19 ⟨rfl, hb⟩
                have BB := Lib.hid (BB.out.trans (hb.mono BB.out.size))
                clear hb
                go_wp2_with fail
                refine (Cg3.out _).mono ?_
                rintro e' wm20 ⟨rfl, hb⟩
                have BB := Lib.hid (BB.out.trans (hb.mono BB.out.size))
                clear hb
                go_wp2_with fail
                refine (Cg4.out _).mono ?_
                rintro e' wm21 ⟨rfl, hb⟩
                have BB := Lib.hid (BB.out.trans (hb.mono BB.out.size))
                clear hb
                go_wp2_with fail
                refine (Cg5.out _).mono ?_
                rintro e' wm22 ⟨rfl, hb⟩
                have BB := Lib.hid (BB.out.trans (hb.mono BB.out.size))
                clear hb
                go_wp2_with fail
                refine (CE.out _).mono ?_
                rintro e' wm23 ⟨rfl, hb⟩
                have BB := Lib.hid (BB.out.trans (hb.mono BB.out.size))
                clear hb
                go_wp2
                go_ret
                exact ⟨rfl, BB.out⟩
              | succ m =>
                have d1 : decide (j ≥ 1) = true := by have := HJ.out; apply decide_eq_true; omega
                have d2 : decide ((1 : Int) ≤ j) = true := d1
                have hj3 : 1 ≤ j := of_decide_eq_true d2
                have e3 : IntKind.i64.wrap (j - 2) = j - 2 := by rw [IntKind.wrap_i64]; omega
                have HS2 : Hid (serN (fLn s) 2 1 m (fLn s t j) = P) := Lib.hid (by
                  have h := HS.out
                  have ej : ((2 * (m + 1) : Nat) : Int) - ((1 : Nat) : Int) = j := by have := HJ.out; omega
                  rw [serN, ej] at h
                  exact h)
                have HF := Lib.hid (fLn_ok s t j)
                have CX1 := Lib.hid (fun w => rint_any j (by omega) (by omega) w)
                have CX2 : Hid (∀ w, Calls Tryz.prog 57 #[.int .u64 4607182418800017408, .int .u64 (dInt j : Nat)] w (Gives w (.int .u64 (Nm.dDiv 4607182418800017408 (dInt j) : Nat)))) := Lib.hid (fun w => rdiv_any 4607182418800017408 (dInt j) (by decide) (ok_int _).1 w)
                have CX3 := Lib.hid (fun w => rmul_any s t HQ.out HT.out w)
                have CX4 : Hid (∀ w, Calls Tryz.prog 54 #[.int .u64 (Nm.dDiv 4607182418800017408 (dInt j) : Nat), .int .u64 (Nm.dMul s t : Nat)] w (Gives w (.int .u64 (fLn s t j : Nat)))) := Lib.hid (fun w => radd_any _ _ (Nm.ok_div _ _).1 (Nm.ok_mul _ _).1 w)
                obtain ⟨Q, hQ⟩ : ∃ R, fLn s t j = R := ⟨_, rfl⟩
                rw [hQ] at CX4 HS2 HF
                obtain ⟨D, hD⟩ : ∃ R, Nm.dDiv 4607182418800017408 (dInt j) = R := ⟨_, rfl⟩
                rw [hD] at CX2 CX4
                obtain ⟨M, hM⟩ : ∃ R, Nm.dMul s t = R := ⟨_, rfl⟩
                rw [hM] at CX3 CX4
                obtain ⟨I, hI⟩ : ∃ R, dInt j = R := ⟨_, rfl⟩
                rw [hI] at CX1 CX2
                clear hQ hD hM hI
                go_wp2_with fail
                refine (CX1.out _).mono ?_
                rintro e' wm24 ⟨rfl, hb⟩
                have BB := Lib.hid (BB.out.trans (hb.mono BB.out.size))
                clear hb
                go_wp2_with fail
                refine (CX2.out _).mono ?_
                rintro e' wm25 ⟨rfl, hb⟩
                have BB := Lib.hid (BB.out.trans (hb.mono BB.out.size))
                clear hb
                go_wp2_with fail
                refine (CX3.out _).mono ?_
                rintro e' wm26 ⟨rfl, hb⟩
                have BB := Lib.hid (BB.out.trans (hb.mono BB.out.size))
                clear hb
                go_wp2_with fail
                refine (CX4.out _).mono ?_
                rintro e' wm27 ⟨rfl, hb⟩
                have BB := Lib.hid (BB.out.trans (hb.mono BB.out.size))
                clear hb
                go_wp2
                go_roundw
                case rel => exact ⟨m, _, j - 2, by first | rfl | rw [e3], rfl, by omega, by omega, Lib.hid (by have := HJ.out; omega), HF, HS2, BB⟩
                case measure => simp [intOf]; omega
          · simp only [Bool.false_eq_true, if_false, if_true] at hR
            have ek : IntKind.i64.wrap (k0 - 1) = k0 - 1 := by rw [IntKind.wrap_i64]; omega
            rw [Nm.dMul_comm y 4611686018427387904] at hR
            have Cx : Hid (∀ w, Calls Tryz.prog 55 #[.int .u64 4611686018427387904, .int .u64 (y : Nat)] w (Gives w (.int .u64 (Nm.dMul 4611686018427387904 y : Nat)))) := Lib.hid (fun w => rmul_any 4611686018427387904 y (by decide) oy w)
            have ox : Nm.dMul 4611686018427387904 y < 2 ^ 64 := (Nm.ok_mul _ _).1
            obtain ⟨x, hx⟩ : ∃ vv, Nm.dMul 4611686018427387904 y = vv := ⟨_, rfl⟩
            rw [hx] at Cx ox
            rw [hx] at hR
            obtain ⟨k, hk⟩ : ∃ vv, k0 - 1 = vv := ⟨_, rfl⟩
            rw [hk] at hR ek
            have hkb2 : -1075 ≤ k ∧ k ≤ 1030 := by omega
            have Cu : Hid (∀ w, Calls Tryz.prog 56 #[.int .u64 (x : Nat), .int .u64 4607182418800017408] w (Gives w (.int .u64 (Nm.dSub x 4607182418800017408 : Nat)))) := Lib.hid (fun w => rsub_any x 4607182418800017408 ox (by decide) w)
            have ou : Nm.dSub x 4607182418800017408 < 2 ^ 64 := sub_ok _ _ ox (by decide)
            obtain ⟨u, hu⟩ : ∃ vv, Nm.dSub x 4607182418800017408 = vv := ⟨_, rfl⟩
            rw [hu] at Cu ou
            have Cv : Hid (∀ w, Calls Tryz.prog 54 #[.int .u64 (x : Nat), .int .u64 4607182418800017408] w (Gives w (.int .u64 (Nm.dAdd x 4607182418800017408 : Nat)))) := Lib.hid (fun w => radd_any x 4607182418800017408 ox (by decide) w)
            have ov : Nm.dAdd x 4607182418800017408 < 2 ^ 64 := (Nm.ok_add _ _ ox (by decide)).1
            obtain ⟨v, hv⟩ : ∃ vv, Nm.dAdd x 4607182418800017408 = vv := ⟨_, rfl⟩
            rw [hv] at Cv ov
            have Cf : Hid (∀ w, Calls Tryz.prog 57 #[.int .u64 (u : Nat), .int .u64 (v : Nat)] w (Gives w (.int .u64 (Nm.dDiv u v : Nat)))) := Lib.hid (fun w => rdiv_any u v ou ov w)
            have of : Nm.dDiv u v < 2 ^ 64 := (Nm.ok_div _ _).1
            obtain ⟨f, hf⟩ : ∃ vv, Nm.dDiv u v = vv := ⟨_, rfl⟩
            rw [hf] at Cf of
            have Cs : Hid (∀ w, Calls Tryz.prog 55 #[.int .u64 (f : Nat), .int .u64 (f : Nat)] w (Gives w (.int .u64 (Nm.dMul f f : Nat)))) := Lib.hid (fun w => rmul_any f f of of w)
            have os : Nm.dMul f f < 2 ^ 64 := (Nm.ok_mul _ _).1
            obtain ⟨s, hs⟩ : ∃ vv, Nm.dMul f f = vv := ⟨_, rfl⟩
            rw [hs] at Cs os
            have Ci : Hid (∀ w, Calls Tryz.prog 58 #[.int .i64 (23)] w (Gives w (.int .u64 (dInt (23) : Nat)))) := Lib.hid (fun w => rint_any (23) (by decide) (by decide) w)
            have oi : dInt (23) < 2 ^ 64 := (ok_int _).1
            obtain ⟨i, hi⟩ : ∃ vv, dInt (23) = vv := ⟨_, rfl⟩
            rw [hi] at Ci oi
            have Cd : Hid (∀ w, Calls Tryz.prog 57 #[.int .u64 4607182418800017408, .int .u64 (i : Nat)] w (Gives w (.int .u64 (Nm.dDiv 4607182418800017408 i : Nat)))) := Lib.hid (fun w => rdiv_any 4607182418800017408 i (by decide) oi w)
            have od : Nm.dDiv 4607182418800017408 i < 2 ^ 64 := (Nm.ok_div _ _).1
            obtain ⟨d, hd⟩ : ∃ vv, Nm.dDiv 4607182418800017408 i = vv := ⟨_, rfl⟩
            rw [hd] at Cd od
            have oP : serN (fLn s) 2 1 11 d < 2 ^ 64 := serN_ok _ (fun p i => fLn_ok _ p i) _ _ _ _ od
            obtain ⟨P, hP⟩ : ∃ vv, serN (fLn s) 2 1 11 d = vv := ⟨_, rfl⟩
            have HP := Lib.hid hP
            have HQ := Lib.hid os
            have HD := Lib.hid od
            rw [hP] at oP
            have Ce : Hid (∀ w, Calls Tryz.prog 58 #[.int .i64 k] w (Gives w (.int .u64 (dInt k : Nat)))) := Lib.hid (fun w => rint_any k (by omega) (by omega) w)
            have oe : dInt k < 2 ^ 64 := (ok_int _).1
            obtain ⟨e, he⟩ : ∃ vv, dInt k = vv := ⟨_, rfl⟩
            rw [he] at Ce oe
            have Cg1 : Hid (∀ w, Calls Tryz.prog 55 #[.int .u64 (e : Nat), .int .u64 4604418534311723008] w (Gives w (.int .u64 (Nm.dMul e 4604418534311723008 : Nat)))) := Lib.hid (fun w => rmul_any e 4604418534311723008 oe (by decide) w)
            have og1 : Nm.dMul e 4604418534311723008 < 2 ^ 64 := (Nm.ok_mul _ _).1
            obtain ⟨g1, hg1⟩ : ∃ vv, Nm.dMul e 4604418534311723008 = vv := ⟨_, rfl⟩
            rw [hg1] at Cg1 og1
            have Cg2 : Hid (∀ w, Calls Tryz.prog 55 #[.int .u64 4611686018427387904, .int .u64 (f : Nat)] w (Gives w (.int .u64 (Nm.dMul 4611686018427387904 f : Nat)))) := Lib.hid (fun w => rmul_any 4611686018427387904 f (by decide) of w)
            have og2 : Nm.dMul 4611686018427387904 f < 2 ^ 64 := (Nm.ok_mul _ _).1
            obtain ⟨g2, hg2⟩ : ∃ vv, Nm.dMul 4611686018427387904 f = vv := ⟨_, rfl⟩
            rw [hg2] at Cg2 og2
            have Cg3 : Hid (∀ w, Calls Tryz.prog 55 #[.int .u64 (g2 : Nat), .int .u64 (P : Nat)] w (Gives w (.int .u64 (Nm.dMul g2 P : Nat)))) := Lib.hid (fun w => rmul_any g2 P og2 oP w)
            have og3 : Nm.dMul g2 P < 2 ^ 64 := (Nm.ok_mul _ _).1
            obtain ⟨g3, hg3⟩ : ∃ vv, Nm.dMul g2 P = vv := ⟨_, rfl⟩
            rw [hg3] at Cg3 og3
            have Cg4 : Hid (∀ w, Calls Tryz.prog 55 #[.int .u64 (e : Nat), .int .u64 4461442080421002358] w (Gives w (.int .u64 (Nm.dMul e 4461442080421002358 : Nat)))) := Lib.hid (fun w => rmul_any e 4461442080421002358 oe (by decide) w)
            have og4 : Nm.dMul e 4461442080421002358 < 2 ^ 64 := (Nm.ok_mul _ _).1
            obtain ⟨g4, hg4⟩ : ∃ vv, Nm.dMul e 4461442080421002358 = vv := ⟨_, rfl⟩
            rw [hg4] at Cg4 og4
            have Cg5 : Hid (∀ w, Calls Tryz.prog 54 #[.int .u64 (g3 : Nat), .int .u64 (g4 : Nat)] w (Gives w (.int .u64 (Nm.dAdd g3 g4 : Nat)))) := Lib.hid (fun w => radd_any g3 g4 og3 og4 w)
            have og5 : Nm.dAdd g3 g4 < 2 ^ 64 := (Nm.ok_add _ _ og3 og4).1
            obtain ⟨g5, hg5⟩ : ∃ vv, Nm.dAdd g3 g4 = vv := ⟨_, rfl⟩
            rw [hg5] at Cg5 og5
            have CE : Hid (∀ w, Calls Tryz.prog 54 #[.int .u64 (g1 : Nat), .int .u64 (g5 : Nat)] w (Gives w (.int .u64 (Nm.dAdd g1 g5 : Nat)))) := Lib.hid (fun w => radd_any g1 g5 og1 og5 w)
            have oE : Nm.dAdd g1 g5 < 2 ^ 64 := (Nm.ok_add _ _ og1 og5).1
            obtain ⟨E, hE⟩ : ∃ vv, Nm.dAdd g1 g5 = vv := ⟨_, rfl⟩
            rw [hE] at CE oE
            obtain rfl : E = R := by
              rw [← hR]
              unfold tLn
              rw [hu, hv, hf, hs, hi, hd, hP, he, hg1, hg2, hg3, hg4, hg5, hE]
            have ek2 : k0 - 1 = k := hk
            clear hu hv hf hs hi hd he hg1 hg2 hg3 hg4 hg5 hE ou ov of os oi od oe og1 og2 og3 og4 og5 oE hP oP hls ha fa hz0 hm0 hml pa1 pa2 hfl hlg hy oy hkb2 hn hz hsg hfi hzn ox hx 
            have BB := Lib.hid (Below.refl w.heap.size w)
            go_enter Tryz.func8, Tryz.ntmps8
            go_wp2_with fail
            refine (Cn.out _).mono ?_
            rintro e' wm1 ⟨rfl, hb⟩
            have BB := Lib.hid (BB.out.trans (hb.mono BB.out.size))
            clear hb
            go_wp2_with fail
            refine (Cz.out _).mono ?_
            rintro e' wm2 ⟨rfl, hb⟩
            have BB := Lib.hid (BB.out.trans (hb.mono BB.out.size))
            clear hb
            go_wp2_with fail
            refine (Csg.out _).mono ?_
            rintro e' wm3 ⟨rfl, hb⟩
            have BB := Lib.hid (BB.out.trans (hb.mono BB.out.size))
            clear hb
            go_wp2_with fail
            refine (Cfi.out _).mono ?_
            rintro e' wm4 ⟨rfl, hb⟩
            have BB := Lib.hid (BB.out.trans (hb.mono BB.out.size))
            clear hb
            go_wp2_with fail
            refine (COP.out _).mono ?_
            rintro e' wm5 ⟨rfl, hb⟩
            have BB := Lib.hid (BB.out.trans (hb.mono BB.out.size))
            clear hb
            go_wp2_with fail
            refine (CFM.out _).mono ?_
            rintro e' wb6 ⟨vG1, rfl, hbig, hb⟩
            have BB := Lib.hid (BB.out.trans (hb.mono BB.out.size))
            clear hb
            have G1 := Lib.hid hbig
            clear hbig
            go_wp2_with fail
            refine (CBI.out _ _ G1.out).mono ?_
            rintro e' wm7 ⟨rfl, hb⟩
            have G1 := Lib.hid (G1.out.below hb)
            have BB := Lib.hid (BB.out.trans (hb.mono BB.out.size))
            clear hb
            go_wp2_with fail
            refine (CFM.out _).mono ?_
            rintro e' wb8 ⟨vG2, rfl, hbig, hb⟩
            have G1 := Lib.hid (G1.out.below hb)
            have BB := Lib.hid (BB.out.trans (hb.mono BB.out.size))
            clear hb
            have G2 := Lib.hid hbig
            clear hbig
            go_wp2_with fail
            refine (CRO.out _ _ G2.out).mono ?_
            rintro e' wm9 ⟨rfl, hb⟩
            have G1 := Lib.hid (G1.out.below hb)
            have G2 := Lib.hid (G2.out.below hb)
            have BB := Lib.hid (BB.out.trans (hb.mono BB.out.size))
            clear hb
            go_wp2_with fail
            refine (Cls.out _).mono ?_
            rintro e' wm10 ⟨rfl, hb⟩
            have G1 := Lib.hid (G1.out.below hb)
            have G2 := Lib.hid (G2.out.below hb)
            have BB := Lib.hid (BB.out.trans (hb.mono BB.out.size))
            clear hb
            go_wp2_with fail
            refine (Cx.out _).mono ?_
            rintro e' wm11 ⟨rfl, hb⟩
            have G1 := Lib.hid (G1.out.below hb)
            have G2 := Lib.hid (G2.out.below hb)
            have BB := Lib.hid (BB.out.trans (hb.mono BB.out.size))
            clear hb
            go_wp2_with fail
            refine (Cu.out _).mono ?_
            rintro e' wm12 ⟨rfl, hb⟩
            have BB := Lib.hid (BB.out.trans (hb.mono BB.out.size))
            clear hb
            go_wp2_with fail
            refine (Cv.out _).mono ?_
            rintro e' wm13 ⟨rfl, hb⟩
            have BB := Lib.hid (BB.out.trans (hb.mono BB.out.size))
            clear hb
            go_wp2_with fail
            refine (Cf.out _).mono ?_
            rintro e' wm14 ⟨rfl, hb⟩
            have BB := Lib.hid (BB.out.trans (hb.mono BB.out.size))
            clear hb
            go_wp2_with fail
            refine (Cs.out _).mono ?_
            rintro e' wm15 ⟨rfl, hb⟩
            have BB := Lib.hid (BB.out.trans (hb.mono BB.out.size))
            clear hb
            go_wp2_with fail
            refine (Ci.out _).mono ?_
            rintro e' wm16 ⟨rfl, hb⟩
            have BB := Lib.hid (BB.out.trans (hb.mono BB.out.size))
            clear hb
            go_wp2_with fail
            refine (Cd.out _).mono ?_
            rintro e' wm17 ⟨rfl, hb⟩
            have BB := Lib.hid (BB.out.trans (hb.mono BB.out.size))
            clear hb
            go_wp2
            go_loopw [9, 10] (fun q' i' wr => ∃ (m t : Nat) (j : Int), i' = .int .i64 j ∧ q' = .int .u64 (t : Nat) ∧ -1 ≤ j ∧ j ≤ 100 ∧ Hid (j = (2 * m : Nat) - 1) ∧ Hid (t < 2 ^ 64) ∧ Hid (serN (fLn s) 2 1 m t = P) ∧ Hid (Below w.heap.size w wr)) (fun _ i _ => (intOf i + 2).toNat)
            case atStart => exact ⟨11, d, 21, rfl, rfl, by omega, by omega, Lib.hid (by decide), HD, HP, BB⟩
            case round =>
              obtain ⟨m, t, j, rfl, rfl, hj1, hj2, HJ, HT, HS, BB⟩ := hrel
              cases m with
              | zero =>
                have d1 : decide (j ≥ 1) = false := by have := HJ.out; apply decide_eq_false; omega
                have d2 : decide ((1 : Int) ≤ j) = false := d1
                obtain rfl : t = P := HS.out
                go_wp2_with fail
                refine (Ce.out _).mono ?_
                rintro e' wm18 ⟨rfl, hb⟩
                have BB := Lib.hid (BB.out.trans (hb.mono BB.out.size))
                clear hb
                go_wp2_with fail
                refine (Cg1.out _).mono ?_
                rintro e' wm19 ⟨rfl, hb⟩
                have BB := Lib.hid (BB.out.trans (hb.mono BB.out.size))
                clear hb
                go_wp2_with fail
                refine (Cg2.out _).mono ?_
                rintro e' wm20 ⟨rfl, hb⟩
                have BB := Lib.hid (BB.out.trans (hb.mono BB.out.size))
                clear hb
                go_wp2_with fail
                refine (Cg3.out _).mono ?_
                rintro e' wm21 ⟨rfl, hb⟩
                have BB := Lib.hid (BB.out.trans (hb.mono BB.out.size))
                clear hb
                go_wp2_with fail
                refine (Cg4.out _).mono ?_
                rintro e' wm22 ⟨rfl, hb⟩
                have BB := Lib.hid (BB.out.trans (hb.mono BB.out.size))
                clear hb
                go_wp2_with fail
                refine (Cg5.out _).mono ?_
                rintro e' wm23 ⟨rfl, hb⟩
                have BB := Lib.hid (BB.out.trans (hb.mono BB.out.size))
                clear hb
                go_wp2_with fail
                refine (CE.out _).mono ?_
                rintro e' wm24 ⟨rfl, hb⟩
                have BB := Lib.hid (BB.out.trans (hb.mono BB.out.size))
                clear hb
                go_wp2
                go_ret
                exact ⟨rfl, BB.out⟩
              | succ m =>
                have d1 : decide (j ≥ 1) = true := by have := HJ.out; apply decide_eq_true; omega
                have d2 : decide ((1 : Int) ≤ j) = true := d1
                have hj3 : 1 ≤ j := of_decide_eq_true d2
                have e3 : IntKind.i64.wrap (j - 2) = j - 2 := by rw [IntKind.wrap_i64]; omega
                have HS2 : Hid (serN (fLn s) 2 1 m (fLn s t j) = P) := Lib.hid (by
                  have h := HS.out
                  have ej : ((2 * (m + 1) : Nat) : Int) - ((1 : Nat) : Int) = j := by have := HJ.out; omega
                  rw [serN, ej] at h
                  exact h)
                have HF := Lib.hid (fLn_ok s t j)
                have CX1 := Lib.hid (fun w => rint_any j (by omega) (by omega) w)
                have CX2 : Hid (∀ w, Calls Tryz.prog 57 #[.int .u64 4607182418800017408, .int .u64 (dInt j : Nat)] w (Gives w (.int .u64 (Nm.dDiv 4607182418800017408 (dInt j) : Nat)))) := Lib.hid (fun w => rdiv_any 4607182418800017408 (dInt j) (by decide) (ok_int _).1 w)
                have CX3 := Lib.hid (fun w => rmul_any s t HQ.out HT.out w)
                have CX4 : Hid (∀ w, Calls Tryz.prog 54 #[.int .u64 (Nm.dDiv 4607182418800017408 (dInt j) : Nat), .int .u64 (Nm.dMul s t : Nat)] w (Gives w (.int .u64 (fLn s t j : Nat)))) := Lib.hid (fun w => radd_any _ _ (Nm.ok_div _ _).1 (Nm.ok_mul _ _).1 w)
                obtain ⟨Q, hQ⟩ : ∃ R, fLn s t j = R := ⟨_, rfl⟩
                rw [hQ] at CX4 HS2 HF
                obtain ⟨D, hD⟩ : ∃ R, Nm.dDiv 4607182418800017408 (dInt j) = R := ⟨_, rfl⟩
                rw [hD] at CX2 CX4
                obtain ⟨M, hM⟩ : ∃ R, Nm.dMul s t = R := ⟨_, rfl⟩
                rw [hM] at CX3 CX4
                obtain ⟨I, hI⟩ : ∃ R, dInt j = R := ⟨_, rfl⟩
                rw [hI] at CX1 CX2
                clear hQ hD hM hI
                go_wp2_with fail
                refine (CX1.out _).mono ?_
                rintro e' wm25 ⟨rfl, hb⟩
                have BB := Lib.hid (BB.out.trans (hb.mono BB.out.size))
                clear hb
                go_wp2_with fail
                refine (CX2.out _).mono ?_
                rintro e' wm26 ⟨rfl, hb⟩
                have BB := Lib.hid (BB.out.trans (hb.mono BB.out.size))
                clear hb
                go_wp2_with fail
                refine (CX3.out _).mono ?_
                rintro e' wm27 ⟨rfl, hb⟩
                have BB := Lib.hid (BB.out.trans (hb.mono BB.out.size))
                clear hb
                go_wp2_with fail
                refine (CX4.out _).mono ?_
                rintro e' wm28 ⟨rfl, hb⟩
                have BB := Lib.hid (BB.out.trans (hb.mono BB.out.size))
                clear hb
                go_wp2
                go_roundw
                case rel => exact ⟨m, _, j - 2, by first | rfl | rw [e3], rfl, by omega, by omega, Lib.hid (by have := HJ.out; omega), HF, HS2, BB⟩
                case measure => simp [intOf]; omega
        · simp only [Bool.false_eq_true, if_false, if_true] at hR
          subst hR
          clear hn hz hsg hfi hzn ha
          have BB := Lib.hid (Below.refl w.heap.size w)
          go_enter Tryz.func8, Tryz.ntmps8
          go_wp2_with fail
          refine (Cn.out _).mono ?_
          rintro e' wm1 ⟨rfl, hb⟩
          have BB := Lib.hid (BB.out.trans (hb.mono BB.out.size))
          clear hb
          go_wp2_with fail
          refine (Cz.out _).mono ?_
          rintro e' wm2 ⟨rfl, hb⟩
          have BB := Lib.hid (BB.out.trans (hb.mono BB.out.size))
          clear hb
          go_wp2_with fail
          refine (Csg.out _).mono ?_
          rintro e' wm3 ⟨rfl, hb⟩
          have BB := Lib.hid (BB.out.trans (hb.mono BB.out.size))
          clear hb
          go_wp2_with fail
          refine (Cfi.out _).mono ?_
          rintro e' wm4 ⟨rfl, hb⟩
          have BB := Lib.hid (BB.out.trans (hb.mono BB.out.size))
          clear hb
          go_wp2
          go_ret
          exact ⟨rfl, BB.out⟩
      · simp only [Bool.false_eq_true, if_false, if_true] at hR
        subst hR
        clear hn hz hsg hfi hzn ha
        have BB := Lib.hid (Below.refl w.heap.size w)
        go_enter Tryz.func8, Tryz.ntmps8
        go_wp2_with fail
        refine (Cn.out _).mono ?_
        rintro e' wm1 ⟨rfl, hb⟩
        have BB := Lib.hid (BB.out.trans (hb.mono BB.out.size))
        clear hb
        go_wp2_with fail
        refine (Cz.out _).mono ?_
        rintro e' wm2 ⟨rfl, hb⟩
        have BB := Lib.hid (BB.out.trans (hb.mono BB.out.size))
        clear hb
        go_wp2_with fail
        refine (Csg.out _).mono ?_
        rintro e' wm3 ⟨rfl, hb⟩
        have BB := Lib.hid (BB.out.trans (hb.mono BB.out.size))
        clear hb
        go_wp2
        go_ret
        exact ⟨rfl, BB.out⟩
    · simp only [Bool.false_eq_true, if_false, if_true] at hR
      subst hR
      clear hn hz hsg hfi hzn ha
      have BB := Lib.hid (Below.refl w.heap.size w)
      go_enter Tryz.func8, Tryz.ntmps8
      go_wp2_with fail
      refine (Cn.out _).mono ?_
      rintro e' wm1 ⟨rfl, hb⟩
      have BB := Lib.hid (BB.out.trans (hb.mono BB.out.size))
      clear hb
      go_wp2_with fail
      refine (Cz.out _).mono ?_
      rintro e' wm2 ⟨rfl, hb⟩
      have BB := Lib.hid (BB.out.trans (hb.mono BB.out.size))
      clear hb
      go_wp2_with fail
      refine (CIN.out _).mono ?_
      rintro e' wm3 ⟨rfl, hb⟩
      have BB := Lib.hid (BB.out.trans (hb.mono BB.out.size))
      clear hb
      go_wp2
      go_ret
      exact ⟨rfl, BB.out⟩
  · simp only [Bool.false_eq_true, if_false, if_true] at hR
    subst hR
    clear hn hz hsg hfi hzn ha
    have BB := Lib.hid (Below.refl w.heap.size w)
    go_enter Tryz.func8, Tryz.ntmps8
    go_wp2_with fail
    refine (Cn.out _).mono ?_
    rintro e' wm1 ⟨rfl, hb⟩
    have BB := Lib.hid (BB.out.trans (hb.mono BB.out.size))
    clear hb
    go_wp2
    go_ret
    exact ⟨rfl, BB.out⟩
end Go.Proofs.YtffohkpohgkglaaGreat
