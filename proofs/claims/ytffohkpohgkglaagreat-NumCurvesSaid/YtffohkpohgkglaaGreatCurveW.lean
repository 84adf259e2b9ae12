/-
  CURVES: Asin, Acos, Sinh, Cosh, Tanh, Asinh, Acosh, Atanh, Log10: the code's and the document's.
-/
import Derived.Test.YtffohkpohgkglaaGreatCurveG
import Derived.Test.YtffohkpohgkglaaGreatNumN
namespace Go.Proofs.YtffohkpohgkglaaGreat
set_option linter.unusedVariables false
set_option linter.unusedSimpArgs false
open Go.RowKit
theorem mul_nan2 (a : Nat) {b : Nat} (h : Nm.isNaN b = true) : Nm.dMul a b = Nm.nan := by
  unfold Nm.dMul
  rw [h, Bool.or_true]
  rfl
theorem div_nan {a : Nat} (b : Nat) (h : Nm.isNaN a = true) : Nm.dDiv a b = Nm.nan := by unfold Nm.dDiv; rw [h]; rfl
theorem sub_nan {a : Nat} (b : Nat) (h : Nm.isNaN a = true) : Nm.dSub a b = Nm.nan := Nm.add_nan _ h
theorem exp_nan {a : Nat} (h : Nm.isNaN a = true) : dExp a = Nm.nan := by unfold dExp; rw [if_pos h]
theorem ln_nan {a : Nat} (h : Nm.isNaN a = true) : dLn a = Nm.nan := by unfold dLn; rw [if_pos h]
theorem abs_nan {a : Nat} (h : Nm.isNaN a = true) : Nm.dAbs a = Nm.nan := by unfold Nm.dAbs; rw [if_pos h]
theorem nn : Nm.isNaN Nm.nan = true := Nm.nan_nan
theorem lt_nan2 (x : Nat) {y : Nat} (h : Nm.isNaN y = true) : dLt x y = false := by
  unfold dLt
  rw [Nm.cmp_turn y x, Nm.cmp_nan (a := x) (b := y) h]
  rfl
theorem lt_nan1 (x : Nat) {y : Nat} (h : Nm.isNaN y = true) : dLt y x = false := by
  unfold dLt
  rw [Nm.cmp_nan (a := x) (b := y) h]
  rfl
def dAsin (a : Nat) : Nat := if dLt 4607182418800017408 (Nm.dAbs a) then Nm.nan else dAtan (Nm.dDiv a (Nm.dSqrt (Nm.dSub 4607182418800017408 (Nm.dMul a a))))
def dAcos (a : Nat) : Nat := Nm.dSub 4609753056924675352 (dAsin a)
def dSinh (a : Nat) : Nat := Nm.dDiv (Nm.dSub (dExp a) (dExp (Nm.dNeg a))) 4611686018427387904
def dCosh (a : Nat) : Nat := Nm.dDiv (Nm.dAdd (dExp a) (dExp (Nm.dNeg a))) 4611686018427387904
def dTanh (a : Nat) : Nat := if dLt (dInt 22) a then 4607182418800017408 else if dLt a (dInt (-22)) then dInt (-1) else Nm.dDiv (Nm.dSub (dExp (Nm.dMul 4611686018427387904 a)) 4607182418800017408) (Nm.dAdd (dExp (Nm.dMul 4611686018427387904 a)) 4607182418800017408)
def yAsinh (a : Nat) : Nat := dLn (Nm.dAdd (Nm.dAbs a) (Nm.dSqrt (Nm.dAdd (Nm.dMul (Nm.dAbs a) (Nm.dAbs a)) 4607182418800017408)))
def dAsinh (a : Nat) : Nat := if Nm.isInf a then a else if Nm.neg a then Nm.dNeg (yAsinh a) else yAsinh a
def dAcosh (a : Nat) : Nat := if dLt a 4607182418800017408 then Nm.nan else dLn (Nm.dAdd a (Nm.dSqrt (Nm.dSub (Nm.dMul a a) 4607182418800017408)))
def dAtanh (a : Nat) : Nat := if dLt 4607182418800017408 (Nm.dAbs a) then Nm.nan else Nm.dMul 4602678819172646912 (dLn (Nm.dDiv (Nm.dAdd 4607182418800017408 a) (Nm.dSub 4607182418800017408 a)))
def dLog10 (a : Nat) : Nat := Nm.dDiv (dLn a) 4612367379483415830
theorem dAsin_nan {a : Nat} (h : Nm.isNaN a = true) : dAsin a = Nm.nan := by
  unfold dAsin
  rw [abs_nan h, lt_nan2 _ nn, div_nan _ h, dAtan_nan nn]
  rfl
theorem dTanh_nan {a : Nat} (h : Nm.isNaN a = true) : dTanh a = Nm.nan := by
  unfold dTanh
  rw [lt_nan2 _ h, lt_nan1 _ h, mul_nan2 _ h, exp_nan nn, sub_nan _ nn, div_nan _ nn]
  rfl
theorem dAsinh_nan {a : Nat} (h : Nm.isNaN a = true) : dAsinh a = Nm.nan := by
  have hi : Nm.isInf a = false := by
    cases hh : Nm.isInf a
    · rfl
    · rw [Nm.inf_nan hh] at h; cases h
  unfold dAsinh yAsinh
  rw [hi, abs_nan h, Nm.add_nan _ nn, ln_nan nn]
  simp only [Bool.false_eq_true, if_false]
  split
  · exact Nm.neg_nan nn
  · rfl
theorem dAcosh_nan {a : Nat} (h : Nm.isNaN a = true) : dAcosh a = Nm.nan := by
  unfold dAcosh
  rw [lt_nan1 _ h, Nm.add_nan _ h, ln_nan nn]
  rfl
theorem dAtanh_nan {a : Nat} (h : Nm.isNaN a = true) : dAtanh a = Nm.nan := by
  unfold dAtanh
  rw [abs_nan h, lt_nan2 _ nn, Nm.add_nan2 _ h, div_nan _ nn, ln_nan nn, mul_nan2 _ nn]
  rfl
theorem dAsin_ok (a : Nat) : dAsin a < 2 ^ 64 := by
  unfold dAsin
  split
  · decide
  · exact dAtan_ok _
set_option maxHeartbeats 4000000 in
theorem asin_any (a : Nat) (ha : a < 2 ^ 64) (w : World) : Calls Tryz.prog 32 #[.int .u64 (a : Int)] w (Gives w (.int .u64 (dAsin a : Nat))) := by
  have Cx : Hid (∀ w, Calls Tryz.prog 79 #[.int .u64 (a : Nat)] w (Gives w (.int .u64 (Nm.dAbs a : Nat)))) := Lib.hid (fun w => (abs_any a ha w).mono fun _ _ h => gives_of h)
  have ox : Nm.dAbs a < 2 ^ 64 := (Nm.ok_abs _ ha).1
  obtain ⟨x, hx⟩ : ∃ vv, Nm.dAbs a = vv := ⟨_, rfl⟩
  rw [hx] at Cx ox
  have Cl : Hid (∀ w, Calls Tryz.prog 39 #[.int .u64 4607182418800017408, .int .u64 (x : Nat)] w (Gives w (.bool (dLt 4607182418800017408 x)))) := Lib.hid (fun w => (isless_any 4607182418800017408 x (by decide) ox w).mono fun _ _ h => gives_of h)
  obtain ⟨l, hl⟩ : ∃ vv, dLt 4607182418800017408 x = vv := ⟨_, rfl⟩
  rw [hl] at Cl
  obtain ⟨R, hR⟩ : ∃ x, dAsin a = x := ⟨_, rfl⟩
  rw [hR]
  unfold dAsin at hR
  rw [hx, hl] at hR
  cases l
  · simp only [Bool.false_eq_true, if_false] at hR
    have Cm : Hid (∀ w, Calls Tryz.prog 42 #[.int .u64 (a : Nat), .int .u64 (a : Nat)] w (Gives w (.int .u64 (Nm.dMul a a : Nat)))) := Lib.hid (fun w => mul_any a a ha ha w)
    have om : Nm.dMul a a < 2 ^ 64 := (Nm.ok_mul _ _).1
    obtain ⟨m, hm⟩ : ∃ vv, Nm.dMul a a = vv := ⟨_, rfl⟩
    rw [hm] at Cm om
    have Cu : Hid (∀ w, Calls Tryz.prog 43 #[.int .u64 4607182418800017408, .int .u64 (m : Nat)] w (Gives w (.int .u64 (Nm.dSub 4607182418800017408 m : Nat)))) := Lib.hid (fun w => sub_any 4607182418800017408 m (by decide) om w)
    have ou : Nm.dSub 4607182418800017408 m < 2 ^ 64 := sub_ok _ _ (by decide) om
    obtain ⟨u, hu⟩ : ∃ vv, Nm.dSub 4607182418800017408 m = vv := ⟨_, rfl⟩
    rw [hu] at Cu ou
    have Cr : Hid (∀ w, Calls Tryz.prog 80 #[.int .u64 (u : Nat)] w (Gives w (.int .u64 (Nm.dSqrt u : Nat)))) := Lib.hid (fun w => sqrt_any u ou w)
    have or : Nm.dSqrt u < 2 ^ 64 := (Nm.ok_sqrt _ ou).1
    obtain ⟨r, hr⟩ : ∃ vv, Nm.dSqrt u = vv := ⟨_, rfl⟩
    rw [hr] at Cr or
    have Cq : Hid (∀ w, Calls Tryz.prog 46 #[.int .u64 (a : Nat), .int .u64 (r : Nat)] w (Gives w (.int .u64 (Nm.dDiv a r : Nat)))) := Lib.hid (fun w => div_any a r ha or w)
    have oq : Nm.dDiv a r < 2 ^ 64 := (Nm.ok_div _ _).1
    obtain ⟨q, hq⟩ : ∃ vv, Nm.dDiv a r = vv := ⟨_, rfl⟩
    rw [hq] at Cq oq
    have CE : Hid (∀ w, Calls Tryz.prog 36 #[.int .u64 (q : Nat)] w (Gives w (.int .u64 (dAtan q : Nat)))) := Lib.hid (fun w => atan_any q oq w)
    have oE : dAtan q < 2 ^ 64 := dAtan_ok _
    obtain ⟨E, hE⟩ : ∃ vv, dAtan q = vv := ⟨_, rfl⟩
    rw [hE] at CE oE
    obtain rfl : E = R := by rw [← hR, hm, hu, hr, hq, hE]
    clear hx hl hm hu hr hq hE ox om ou or oq oE ha hR
    have BB := Lib.hid (Below.refl w.heap.size w)
    go_enter Tryz.func32, Tryz.ntmps32
    go_wp2_with fail
    refine (Cx.out _).mono ?_
    rintro e' wm1 ⟨rfl, hb⟩
    have BB := Lib.hid (BB.out.trans (hb.mono BB.out.size))
    clear hb
    go_wp2_with fail
    refine (Cl.out _).mono ?_
    rintro e' wm2 ⟨rfl, hb⟩
    have BB := Lib.hid (BB.out.trans (hb.mono BB.out.size))
    clear hb
    go_wp2_with fail
    refine (Cm.out _).mono ?_
    rintro e' wm3 ⟨rfl, hb⟩
    have BB := Lib.hid (BB.out.trans (hb.mono BB.out.size))
    clear hb
    go_wp2_with fail
    refine (Cu.out _).mono ?_
    rintro e' wm4 ⟨rfl, hb⟩
    have BB := Lib.hid (BB.out.trans (hb.mono BB.out.size))
    clear hb
    go_wp2_with fail
    refine (Cr.out _).mono ?_
    rintro e' wm5 ⟨rfl, hb⟩
    have BB := Lib.hid (BB.out.trans (hb.mono BB.out.size))
    clear hb
    go_wp2_with fail
    refine (Cq.out _).mono ?_
    rintro e' wm6 ⟨rfl, hb⟩
    have BB := Lib.hid (BB.out.trans (hb.mono BB.out.size))
    clear hb
    go_wp2_with fail
    refine (CE.out _).mono ?_
    rintro e' wm7 ⟨rfl, hb⟩
    have BB := Lib.hid (BB.out.trans (hb.mono BB.out.size))
    clear hb
    go_wp2
    go_ret
    exact ⟨rfl, BB.out⟩
  · simp only [Bool.false_eq_true, if_false, if_true] at hR
    subst hR
    clear hx hl ox ha
    have BB := Lib.hid (Below.refl w.heap.size w)
    go_enter Tryz.func32, Tryz.ntmps32
    go_wp2_with fail
    refine (Cx.out _).mono ?_
    rintro e' wm1 ⟨rfl, hb⟩
    have BB := Lib.hid (BB.out.trans (hb.mono BB.out.size))
    clear hb
    go_wp2_with fail
    refine (Cl.out _).mono ?_
    rintro e' wm2 ⟨rfl, hb⟩
    have BB := Lib.hid (BB.out.trans (hb.mono BB.out.size))
    clear hb
    go_wp2
    go_ret
    exact ⟨rfl, BB.out⟩
set_option maxHeartbeats 4000000 in
theorem rasin_any (a : Nat) (ha : a < 2 ^ 64) (w : World) : Calls Tryz.prog 33 #[.int .u64 (a : Int)] w (Gives w (.int .u64 (dAsin a : Nat))) := by
  have Cna : Hid (∀ w, Calls Tryz.prog 50 #[.int .u64 (a : Nat)] w (Gives w (.bool (Nm.isNaN a)))) := Lib.hid (fun w => (rnan_any a ha w).mono fun _ _ h => gives_of h)
  obtain ⟨na, hna⟩ : ∃ vv, Nm.isNaN a = vv := ⟨_, rfl⟩
  rw [hna] at Cna
  have Cx : Hid (∀ w, Calls Tryz.prog 81 #[.int .u64 (a : Nat)] w (Gives w (.int .u64 (Nm.dAbs a : Nat)))) := Lib.hid (fun w => (rabs_any a ha w).mono fun _ _ h => gives_of h)
  have ox : Nm.dAbs a < 2 ^ 64 := (Nm.ok_abs _ ha).1
  obtain ⟨x, hx⟩ : ∃ vv, Nm.dAbs a = vv := ⟨_, rfl⟩
  rw [hx] at Cx ox
  have Cl : Hid (∀ w, Calls Tryz.prog 51 #[.int .u64 (x : Nat), .int .u64 4607182418800017408] w (Gives w (.bool (dLt 4607182418800017408 x)))) := Lib.hid (fun w => rabove_any x 4607182418800017408 ox (by decide) w)
  obtain ⟨l, hl⟩ : ∃ vv, dLt 4607182418800017408 x = vv := ⟨_, rfl⟩
  rw [hl] at Cl
  obtain ⟨R, hR⟩ : ∃ x, dAsin a = x := ⟨_, rfl⟩
  have hnn : na = true → R = Nm.nan := fun h => by rw [← hR]; exact dAsin_nan (by rw [hna, h])
  rw [hR]
  unfold dAsin at hR
  rw [hx, hl] at hR
  cases na
  · cases l
    · simp only [Bool.false_eq_true, if_false] at hR
      have Cm : Hid (∀ w, Calls Tryz.prog 55 #[.int .u64 (a : Nat), .int .u64 (a : Nat)] w (Gives w (.int .u64 (Nm.dMul a a : Nat)))) := Lib.hid (fun w => rmul_any a a ha ha w)
      have om : Nm.dMul a a < 2 ^ 64 := (Nm.ok_mul _ _).1
      obtain ⟨m, hm⟩ : ∃ vv, Nm.dMul a a = vv := ⟨_, rfl⟩
      rw [hm] at Cm om
      have Cu : Hid (∀ w, Calls Tryz.prog 56 #[.int .u64 4607182418800017408, .int .u64 (m : Nat)] w (Gives w (.int .u64 (Nm.dSub 4607182418800017408 m : Nat)))) := Lib.hid (fun w => rsub_any 4607182418800017408 m (by decide) om w)
      have ou : Nm.dSub 4607182418800017408 m < 2 ^ 64 := sub_ok _ _ (by decide) om
      obtain ⟨u, hu⟩ : ∃ vv, Nm.dSub 4607182418800017408 m = vv := ⟨_, rfl⟩
      rw [hu] at Cu ou
      have Cr : Hid (∀ w, Calls Tryz.prog 83 #[.int .u64 (u : Nat)] w (Gives w (.int .u64 (Nm.dSqrt u : Nat)))) := Lib.hid (fun w => rsqrt_any u ou w)
      have or : Nm.dSqrt u < 2 ^ 64 := (Nm.ok_sqrt _ ou).1
      obtain ⟨r, hr⟩ : ∃ vv, Nm.dSqrt u = vv := ⟨_, rfl⟩
      rw [hr] at Cr or
      have Cq : Hid (∀ w, Calls Tryz.prog 57 #[.int .u64 (a : Nat), .int .u64 (r : Nat)] w (Gives w (.int .u64 (Nm.dDiv a r : Nat)))) := Lib.hid (fun w => rdiv_any a r ha or w)
      have oq : Nm.dDiv a r < 2 ^ 64 := (Nm.ok_div _ _).1
      obtain ⟨q, hq⟩ : ∃ vv, Nm.dDiv a r = vv := ⟨_, rfl⟩
      rw [hq] at Cq oq
      have CE : Hid (∀ w, Calls Tryz.prog 37 #[.int .u64 (q : Nat)] w (Gives w (.int .u64 (dAtan q : Nat)))) := Lib.hid (fun w => ratan_any q oq w)
      have oE : dAtan q < 2 ^ 64 := dAtan_ok _
      obtain ⟨E, hE⟩ : ∃ vv, dAtan q = vv := ⟨_, rfl⟩
      rw [hE] at CE oE
      obtain rfl : E = R := by rw [← hR, hm, hu, hr, hq, hE]
      clear hna hx hl hm hu hr hq hE ox om ou or oq oE ha hR hnn
      have BB := Lib.hid (Below.refl w.heap.size w)
      go_enter Tryz.func33, Tryz.ntmps33
      go_wp2_with fail
      refine (Cna.out _).mono ?_
      rintro e' wm1 ⟨rfl, hb⟩
      have BB := Lib.hid (BB.out.trans (hb.mono BB.out.size))
      clear hb
      go_wp2_with fail
      refine (Cx.out _).mono ?_
      rintro e' wm2 ⟨rfl, hb⟩
      have BB := Lib.hid (BB.out.trans (hb.mono BB.out.size))
      clear hb
      go_wp2_with fail
      refine (Cl.out _).mono ?_
      rintro e' wm3 ⟨rfl, hb⟩
      have BB := Lib.hid (BB.out.trans (hb.mono BB.out.size))
      clear hb
      go_wp2_with fail
      refine (Cm.out _).mono ?_
      rintro e' wm4 ⟨rfl, hb⟩
      have BB := Lib.hid (BB.out.trans (hb.mono BB.out.size))
      clear hb
      go_wp2_with fail
      refine (Cu.out _).mono ?_
      rintro e' wm5 ⟨rfl, hb⟩
      have BB := Lib.hid (BB.out.trans (hb.mono BB.out.size))
      clear hb
      go_wp2_with fail
      refine (Cr.out _).mono ?_
      rintro e' wm6 ⟨rfl, hb⟩
      have BB := Lib.hid (BB.out.trans (hb.mono BB.out.size))
      clear hb
      go_wp2_with fail
      refine (Cq.out _).mono ?_
      rintro e' wm7 ⟨rfl, hb⟩
      have BB := Lib.hid (BB.out.trans (hb.mono BB.out.size))
      clear hb
      go_wp2_with fail
      refine (CE.out _).mono ?_
      rintro e' wm8 ⟨rfl, hb⟩
      have BB := Lib.hid (BB.out.trans (hb.mono BB.out.size))
      clear hb
      go_wp2
      go_ret
      exact ⟨rfl, BB.out⟩
    · simp only [Bool.false_eq_true, if_false, if_true] at hR
      subst hR
      clear hna hx hl ox ha hnn
      have BB := Lib.hid (Below.refl w.heap.size w)
      go_enter Tryz.func33, Tryz.ntmps33
      go_wp2_with fail
      refine (Cna.out _).mono ?_
      rintro e' wm1 ⟨rfl, hb⟩
      have BB := Lib.hid (BB.out.trans (hb.mono BB.out.size))
      clear hb
      go_wp2_with fail
      refine (Cx.out _).mono ?_
      rintro e' wm2 ⟨rfl, hb⟩
      have BB := Lib.hid (BB.out.trans (hb.mono BB.out.size))
      clear hb
      go_wp2_with fail
      refine (Cl.out _).mono ?_
      rintro e' wm3 ⟨rfl, hb⟩
      have BB := Lib.hid (BB.out.trans (hb.mono BB.out.size))
      clear hb
      go_wp2
      go_ret
      exact ⟨rfl, BB.out⟩
  · obtain rfl := hnn rfl
    clear hnn
    clear hna hx hl ox ha hR
    have BB := Lib.hid (Below.refl w.heap.size w)
    go_enter Tryz.func33, Tryz.ntmps33
    go_wp2_with fail
    refine (Cna.out _).mono ?_
    rintro e' wm1 ⟨rfl, hb⟩
    have BB := Lib.hid (BB.out.trans (hb.mono BB.out.size))
    clear hb
    go_wp2
    go_ret
    exact ⟨rfl, BB.out⟩
set_option maxHeartbeats 4000000 in
theorem acos_any (a : Nat) (ha : a < 2 ^ 64) (w : World) : Calls Tryz.prog 34 #[.int .u64 (a : Int)] w (Gives w (.int .u64 (dAcos a : Nat))) := by
  have Cx : Hid (∀ w, Calls Tryz.prog 32 #[.int .u64 (a : Nat)] w (Gives w (.int .u64 (dAsin a : Nat)))) := Lib.hid (fun w => asin_any a ha w)
  have ox : dAsin a < 2 ^ 64 := dAsin_ok _
  obtain ⟨x, hx⟩ : ∃ vv, dAsin a = vv := ⟨_, rfl⟩
  rw [hx] at Cx ox
  have Cy : Hid (∀ w, Calls Tryz.prog 43 #[.int .u64 4609753056924675352, .int .u64 (x : Nat)] w (Gives w (.int .u64 (Nm.dSub 4609753056924675352 x : Nat)))) := Lib.hid (fun w => sub_any 4609753056924675352 x (by decide) ox w)
  have oy : Nm.dSub 4609753056924675352 x < 2 ^ 64 := sub_ok _ _ (by decide) ox
  obtain ⟨y, hy⟩ : ∃ vv, Nm.dSub 4609753056924675352 x = vv := ⟨_, rfl⟩
  rw [hy] at Cy oy
  rw [show dAcos a = y by unfold dAcos; rw [hx, hy]]
  clear hx hy ox oy ha
  have BB := Lib.hid (Below.refl w.heap.size w)
  go_enter Tryz.func34, Tryz.ntmps34
  go_wp2_with fail
  refine (Cx.out _).mono ?_
  rintro e' wm1 ⟨rfl, hb⟩
  have BB := Lib.hid (BB.out.trans (hb.mono BB.out.size))
  clear hb
  go_wp2_with fail
  refine (Cy.out _).mono ?_
  rintro e' wm2 ⟨rfl, hb⟩
  have BB := Lib.hid (BB.out.trans (hb.mono BB.out.size))
  clear hb
  go_wp2
  go_ret
  exact ⟨rfl, BB.out⟩
set_option maxHeartbeats 4000000 in
theorem racos_any (a : Nat) (ha : a < 2 ^ 64) (w : World) : Calls Tryz.prog 35 #[.int .u64 (a : Int)] w (Gives w (.int .u64 (dAcos a : Nat))) := by
  have Cx : Hid (∀ w, Calls Tryz.prog 33 #[.int .u64 (a : Nat)] w (Gives w (.int .u64 (dAsin a : Nat)))) := Lib.hid (fun w => rasin_any a ha w)
  have ox : dAsin a < 2 ^ 64 := dAsin_ok _
  obtain ⟨x, hx⟩ : ∃ vv, dAsin a = vv := ⟨_, rfl⟩
  rw [hx] at Cx ox
  have Cy : Hid (∀ w, Calls Tryz.prog 56 #[.int .u64 4609753056924675352, .int .u64 (x : Nat)] w (Gives w (.int .u64 (Nm.dSub 4609753056924675352 x : Nat)))) := Lib.hid (fun w => rsub_any 4609753056924675352 x (by decide) ox w)
  have oy : Nm.dSub 4609753056924675352 x < 2 ^ 64 := sub_ok _ _ (by decide) ox
  obtain ⟨y, hy⟩ : ∃ vv, Nm.dSub 4609753056924675352 x = vv := ⟨_, rfl⟩
  rw [hy] at Cy oy
  rw [show dAcos a = y by unfold dAcos; rw [hx, hy]]
  clear hx hy ox oy ha
  have BB := Lib.hid (Below.refl w.heap.size w)
  go_enter Tryz.func35, Tryz.ntmps35
  go_wp2_with fail
  refine (Cx.out _).mono ?_
  rintro e' wm1 ⟨rfl, hb⟩
  have BB := Lib.hid (BB.out.trans (hb.mono BB.out.size))
  clear hb
  go_wp2_with fail
  refine (Cy.out _).mono ?_
  rintro e' wm2 ⟨rfl, hb⟩
  have BB := Lib.hid (BB.out.trans (hb.mono BB.out.size))
  clear hb
  go_wp2
  go_ret
  exact ⟨rfl, BB.out⟩
set_option maxHeartbeats 4000000 in
theorem sinh_any (a : Nat) (ha : a < 2 ^ 64) (w : World) : Calls Tryz.prog 13 #[.int .u64 (a : Int)] w (Gives w (.int .u64 (dSinh a : Nat))) := by
  have Cx : Hid (∀ w, Calls Tryz.prog 5 #[.int .u64 (a : Nat)] w (Gives w (.int .u64 (dExp a : Nat)))) := Lib.hid (fun w => exp_any a ha w)
  have ox : dExp a < 2 ^ 64 := dExp_ok _
  obtain ⟨x, hx⟩ : ∃ vv, dExp a = vv := ⟨_, rfl⟩
  rw [hx] at Cx ox
  have Cn : Hid (∀ w, Calls Tryz.prog 77 #[.int .u64 (a : Nat)] w (Gives w (.int .u64 (Nm.dNeg a : Nat)))) := Lib.hid (fun w => (neg_any a ha w).mono fun _ _ h => gives_of h)
  have on : Nm.dNeg a < 2 ^ 64 := Nm.neg_lt _ ha
  obtain ⟨n, hn⟩ : ∃ vv, Nm.dNeg a = vv := ⟨_, rfl⟩
  rw [hn] at Cn on
  have Cy : Hid (∀ w, Calls Tryz.prog 5 #[.int .u64 (n : Nat)] w (Gives w (.int .u64 (dExp n : Nat)))) := Lib.hid (fun w => exp_any n on w)
  have oy : dExp n < 2 ^ 64 := dExp_ok _
  obtain ⟨y, hy⟩ : ∃ vv, dExp n = vv := ⟨_, rfl⟩
  rw [hy] at Cy oy
  have Cz : Hid (∀ w, Calls Tryz.prog 43 #[.int .u64 (x : Nat), .int .u64 (y : Nat)] w (Gives w (.int .u64 (Nm.dSub x y : Nat)))) := Lib.hid (fun w => sub_any x y ox oy w)
  have oz : Nm.dSub x y < 2 ^ 64 := sub_ok _ _ ox oy
  obtain ⟨z, hz⟩ : ∃ vv, Nm.dSub x y = vv := ⟨_, rfl⟩
  rw [hz] at Cz oz
  have Cq : Hid (∀ w, Calls Tryz.prog 46 #[.int .u64 (z : Nat), .int .u64 4611686018427387904] w (Gives w (.int .u64 (Nm.dDiv z 4611686018427387904 : Nat)))) := Lib.hid (fun w => div_any z 4611686018427387904 oz (by decide) w)
  have oq : Nm.dDiv z 4611686018427387904 < 2 ^ 64 := (Nm.ok_div _ _).1
  obtain ⟨q, hq⟩ : ∃ vv, Nm.dDiv z 4611686018427387904 = vv := ⟨_, rfl⟩
  rw [hq] at Cq oq
  rw [show dSinh a = q by unfold dSinh; rw [hx, hn, hy, hz, hq]]
  clear hx hn hy hz hq ox on oy oz oq ha
  have BB := Lib.hid (Below.refl w.heap.size w)
  go_enter Tryz.func13, Tryz.ntmps13
  go_wp2_with fail
  refine (Cx.out _).mono ?_
  rintro e' wm1 ⟨rfl, hb⟩
  have BB := Lib.hid (BB.out.trans (hb.mono BB.out.size))
  clear hb
  go_wp2_with fail
  refine (Cn.out _).mono ?_
  rintro e' wm2 ⟨rfl, hb⟩
  have BB := Lib.hid (BB.out.trans (hb.mono BB.out.size))
  clear hb
  go_wp2_with fail
  refine (Cy.out _).mono ?_
  rintro e' wm3 ⟨rfl, hb⟩
  have BB := Lib.hid (BB.out.trans (hb.mono BB.out.size))
  clear hb
  go_wp2_with fail
  refine (Cz.out _).mono ?_
  rintro e' wm4 ⟨rfl, hb⟩
  have BB := Lib.hid (BB.out.trans (hb.mono BB.out.size))
  clear hb
  go_wp2_with fail
  refine (Cq.out _).mono ?_
  rintro e' wm5 ⟨rfl, hb⟩
  have BB := Lib.hid (BB.out.trans (hb.mono BB.out.size))
  clear hb
  go_wp2
  go_ret
  exact ⟨rfl, BB.out⟩
set_option maxHeartbeats 4000000 in
theorem rsinh_any (a : Nat) (ha : a < 2 ^ 64) (w : World) : Calls Tryz.prog 14 #[.int .u64 (a : Int)] w (Gives w (.int .u64 (dSinh a : Nat))) := by
  have Cx : Hid (∀ w, Calls Tryz.prog 6 #[.int .u64 (a : Nat)] w (Gives w (.int .u64 (dExp a : Nat)))) := Lib.hid (fun w => rexp_any a ha w)
  have ox : dExp a < 2 ^ 64 := dExp_ok _
  obtain ⟨x, hx⟩ : ∃ vv, dExp a = vv := ⟨_, rfl⟩
  rw [hx] at Cx ox
  have Cn : Hid (∀ w, Calls Tryz.prog 78 #[.int .u64 (a : Nat)] w (Gives w (.int .u64 (Nm.dNeg a : Nat)))) := Lib.hid (fun w => (rneg_any a ha w).mono fun _ _ h => gives_of h)
  have on : Nm.dNeg a < 2 ^ 64 := Nm.neg_lt _ ha
  obtain ⟨n, hn⟩ : ∃ vv, Nm.dNeg a = vv := ⟨_, rfl⟩
  rw [hn] at Cn on
  have Cy : Hid (∀ w, Calls Tryz.prog 6 #[.int .u64 (n : Nat)] w (Gives w (.int .u64 (dExp n : Nat)))) := Lib.hid (fun w => rexp_any n on w)
  have oy : dExp n < 2 ^ 64 := dExp_ok _
  obtain ⟨y, hy⟩ : ∃ vv, dExp n = vv := ⟨_, rfl⟩
  rw [hy] at Cy oy
  have Cz : Hid (∀ w, Calls Tryz.prog 56 #[.int .u64 (x : Nat), .int .u64 (y : Nat)] w (Gives w (.int .u64 (Nm.dSub x y : Nat)))) := Lib.hid (fun w => rsub_any x y ox oy w)
  have oz : Nm.dSub x y < 2 ^ 64 := sub_ok _ _ ox oy
  obtain ⟨z, hz⟩ : ∃ vv, Nm.dSub x y = vv := ⟨_, rfl⟩
  rw [hz] at Cz oz
  have Cq : Hid (∀ w, Calls Tryz.prog 57 #[.int .u64 (z : Nat), .int .u64 4611686018427387904] w (Gives w (.int .u64 (Nm.dDiv z 4611686018427387904 : Nat)))) := Lib.hid (fun w => rdiv_any z 4611686018427387904 oz (by decide) w)
  have oq : Nm.dDiv z 4611686018427387904 < 2 ^ 64 := (Nm.ok_div _ _).1
  obtain ⟨q, hq⟩ : ∃ vv, Nm.dDiv z 4611686018427387904 = vv := ⟨_, rfl⟩
  rw [hq] at Cq oq
  rw [show dSinh a = q by unfold dSinh; rw [hx, hn, hy, hz, hq]]
  clear hx hn hy hz hq ox on oy oz oq ha
  have BB := Lib.hid (Below.refl w.heap.size w)
  go_enter Tryz.func14, Tryz.ntmps14
  go_wp2_with fail
  refine (Cx.out _).mono ?_
  rintro e' wm1 ⟨rfl, hb⟩
  have BB := Lib.hid (BB.out.trans (hb.mono BB.out.size))
  clear hb
  go_wp2_with fail
  refine (Cn.out _).mono ?_
  rintro e' wm2 ⟨rfl, hb⟩
  have BB := Lib.hid (BB.out.trans (hb.mono BB.out.size))
  clear hb
  go_wp2_with fail
  refine (Cy.out _).mono ?_
  rintro e' wm3 ⟨rfl, hb⟩
  have BB := Lib.hid (BB.out.trans (hb.mono BB.out.size))
  clear hb
  go_wp2_with fail
  refine (Cz.out _).mono ?_
  rintro e' wm4 ⟨rfl, hb⟩
  have BB := Lib.hid (BB.out.trans (hb.mono BB.out.size))
  clear hb
  go_wp2_with fail
  refine (Cq.out _).mono ?_
  rintro e' wm5 ⟨rfl, hb⟩
  have BB := Lib.hid (BB.out.trans (hb.mono BB.out.size))
  clear hb
  go_wp2
  go_ret
  exact ⟨rfl, BB.out⟩
set_option maxHeartbeats 4000000 in
theorem cosh_any (a : Nat) (ha : a < 2 ^ 64) (w : World) : Calls Tryz.prog 15 #[.int .u64 (a : Int)] w (Gives w (.int .u64 (dCosh a : Nat))) := by
  have Cx : Hid (∀ w, Calls Tryz.prog 5 #[.int .u64 (a : Nat)] w (Gives w (.int .u64 (dExp a : Nat)))) := Lib.hid (fun w => exp_any a ha w)
  have ox : dExp a < 2 ^ 64 := dExp_ok _
  obtain ⟨x, hx⟩ : ∃ vv, dExp a = vv := ⟨_, rfl⟩
  rw [hx] at Cx ox
  have Cn : Hid (∀ w, Calls Tryz.prog 77 #[.int .u64 (a : Nat)] w (Gives w (.int .u64 (Nm.dNeg a : Nat)))) := Lib.hid (fun w => (neg_any a ha w).mono fun _ _ h => gives_of h)
  have on : Nm.dNeg a < 2 ^ 64 := Nm.neg_lt _ ha
  obtain ⟨n, hn⟩ : ∃ vv, Nm.dNeg a = vv := ⟨_, rfl⟩
  rw [hn] at Cn on
  have Cy : Hid (∀ w, Calls Tryz.prog 5 #[.int .u64 (n : Nat)] w (Gives w (.int .u64 (dExp n : Nat)))) := Lib.hid (fun w => exp_any n on w)
  have oy : dExp n < 2 ^ 64 := dExp_ok _
  obtain ⟨y, hy⟩ : ∃ vv, dExp n = vv := ⟨_, rfl⟩
  rw [hy] at Cy oy
  have Cz : Hid (∀ w, Calls Tryz.prog 41 #[.int .u64 (x : Nat), .int .u64 (y : Nat)] w (Gives w (.int .u64 (Nm.dAdd x y : Nat)))) := Lib.hid (fun w => add_any x y ox oy w)
  have oz : Nm.dAdd x y < 2 ^ 64 := (Nm.ok_add _ _ ox oy).1
  obtain ⟨z, hz⟩ : ∃ vv, Nm.dAdd x y = vv := ⟨_, rfl⟩
  rw [hz] at Cz oz
  have Cq : Hid (∀ w, Calls Tryz.prog 46 #[.int .u64 (z : Nat), .int .u64 4611686018427387904] w (Gives w (.int .u64 (Nm.dDiv z 4611686018427387904 : Nat)))) := Lib.hid (fun w => div_any z 4611686018427387904 oz (by decide) w)
  have oq : Nm.dDiv z 4611686018427387904 < 2 ^ 64 := (Nm.ok_div _ _).1
  obtain ⟨q, hq⟩ : ∃ vv, Nm.dDiv z 4611686018427387904 = vv := ⟨_, rfl⟩
  rw [hq] at Cq oq
  rw [show dCosh a = q by unfold dCosh; rw [hx, hn, hy, hz, hq]]
  clear hx hn hy hz hq ox on oy oz oq ha
  have BB := Lib.hid (Below.refl w.heap.size w)
  go_enter Tryz.func15, Tryz.ntmps15
  go_wp2_with fail
  refine (Cx.out _).mono ?_
  rintro e' wm1 ⟨rfl, hb⟩
  have BB := Lib.hid (BB.out.trans (hb.mono BB.out.size))
  clear hb
  go_wp2_with fail
  refine (Cn.out _).mono ?_
  rintro e' wm2 ⟨rfl, hb⟩
  have BB := Lib.hid (BB.out.trans (hb.mono BB.out.size))
  clear hb
  go_wp2_with fail
  refine (Cy.out _).mono ?_
  rintro e' wm3 ⟨rfl, hb⟩
  have BB := Lib.hid (BB.out.trans (hb.mono BB.out.size))
  clear hb
  go_wp2_with fail
  refine (Cz.out _).mono ?_
  rintro e' wm4 ⟨rfl, hb⟩
  have BB := Lib.hid (BB.out.trans (hb.mono BB.out.size))
  clear hb
  go_wp2_with fail
  refine (Cq.out _).mono ?_
  rintro e' wm5 ⟨rfl, hb⟩
  have BB := Lib.hid (BB.out.trans (hb.mono BB.out.size))
  clear hb
  go_wp2
  go_ret
  exact ⟨rfl, BB.out⟩
set_option maxHeartbeats 4000000 in
theorem rcosh_any (a : Nat) (ha : a < 2 ^ 64) (w : World) : Calls Tryz.prog 16 #[.int .u64 (a : Int)] w (Gives w (.int .u64 (dCosh a : Nat))) := by
  have Cx : Hid (∀ w, Calls Tryz.prog 6 #[.int .u64 (a : Nat)] w (Gives w (.int .u64 (dExp a : Nat)))) := Lib.hid (fun w => rexp_any a ha w)
  have ox : dExp a < 2 ^ 64 := dExp_ok _
  obtain ⟨x, hx⟩ : ∃ vv, dExp a = vv := ⟨_, rfl⟩
  rw [hx] at Cx ox
  have Cn : Hid (∀ w, Calls Tryz.prog 78 #[.int .u64 (a : Nat)] w (Gives w (.int .u64 (Nm.dNeg a : Nat)))) := Lib.hid (fun w => (rneg_any a ha w).mono fun _ _ h => gives_of h)
  have on : Nm.dNeg a < 2 ^ 64 := Nm.neg_lt _ ha
  obtain ⟨n, hn⟩ : ∃ vv, Nm.dNeg a = vv := ⟨_, rfl⟩
  rw [hn] at Cn on
  have Cy : Hid (∀ w, Calls Tryz.prog 6 #[.int .u64 (n : Nat)] w (Gives w (.int .u64 (dExp n : Nat)))) := Lib.hid (fun w => rexp_any n on w)
  have oy : dExp n < 2 ^ 64 := dExp_ok _
  obtain ⟨y, hy⟩ : ∃ vv, dExp n = vv := ⟨_, rfl⟩
  rw [hy] at Cy oy
  have Cz : Hid (∀ w, Calls Tryz.prog 54 #[.int .u64 (x : Nat), .int .u64 (y : Nat)] w (Gives w (.int .u64 (Nm.dAdd x y : Nat)))) := Lib.hid (fun w => radd_any x y ox oy w)
  have oz : Nm.dAdd x y < 2 ^ 64 := (Nm.ok_add _ _ ox oy).1
  obtain ⟨z, hz⟩ : ∃ vv, Nm.dAdd x y = vv := ⟨_, rfl⟩
  rw [hz] at Cz oz
  have Cq : Hid (∀ w, Calls Tryz.prog 57 #[.int .u64 (z : Nat), .int .u64 4611686018427387904] w (Gives w (.int .u64 (Nm.dDiv z 4611686018427387904 : Nat)))) := Lib.hid (fun w => rdiv_any z 4611686018427387904 oz (by decide) w)
  have oq : Nm.dDiv z 4611686018427387904 < 2 ^ 64 := (Nm.ok_div _ _).1
  obtain ⟨q, hq⟩ : ∃ vv, Nm.dDiv z 4611686018427387904 = vv := ⟨_, rfl⟩
  rw [hq] at Cq oq
  rw [show dCosh a = q by unfold dCosh; rw [hx, hn, hy, hz, hq]]
  clear hx hn hy hz hq ox on oy oz oq ha
  have BB := Lib.hid (Below.refl w.heap.size w)
  go_enter Tryz.func16, Tryz.ntmps16
  go_wp2_with fail
  refine (Cx.out _).mono ?_
  rintro e' wm1 ⟨rfl, hb⟩
  have BB := Lib.hid (BB.out.trans (hb.mono BB.out.size))
  clear hb
  go_wp2_with fail
  refine (Cn.out _).mono ?_
  rintro e' wm2 ⟨rfl, hb⟩
  have BB := Lib.hid (BB.out.trans (hb.mono BB.out.size))
  clear hb
  go_wp2_with fail
  refine (Cy.out _).mono ?_
  rintro e' wm3 ⟨rfl, hb⟩
  have BB := Lib.hid (BB.out.trans (hb.mono BB.out.size))
  clear hb
  go_wp2_with fail
  refine (Cz.out _).mono ?_
  rintro e' wm4 ⟨rfl, hb⟩
  have BB := Lib.hid (BB.out.trans (hb.mono BB.out.size))
  clear hb
  go_wp2_with fail
  refine (Cq.out _).mono ?_
  rintro e' wm5 ⟨rfl, hb⟩
  have BB := Lib.hid (BB.out.trans (hb.mono BB.out.size))
  clear hb
  go_wp2
  go_ret
  exact ⟨rfl, BB.out⟩
set_option maxHeartbeats 4000000 in
theorem log10_any (a : Nat) (ha : a < 2 ^ 64) (w : World) : Calls Tryz.prog 11 #[.int .u64 (a : Int)] w (Gives w (.int .u64 (dLog10 a : Nat))) := by
  have Cx : Hid (∀ w, Calls Tryz.prog 7 #[.int .u64 (a : Nat)] w (Gives w (.int .u64 (dLn a : Nat)))) := Lib.hid (fun w => ln_any a ha w)
  have ox : dLn a < 2 ^ 64 := dLn_ok _ ha
  obtain ⟨x, hx⟩ : ∃ vv, dLn a = vv := ⟨_, rfl⟩
  rw [hx] at Cx ox
  have Cy : Hid (∀ w, Calls Tryz.prog 46 #[.int .u64 (x : Nat), .int .u64 4612367379483415830] w (Gives w (.int .u64 (Nm.dDiv x 4612367379483415830 : Nat)))) := Lib.hid (fun w => div_any x 4612367379483415830 ox (by decide) w)
  have oy : Nm.dDiv x 4612367379483415830 < 2 ^ 64 := (Nm.ok_div _ _).1
  obtain ⟨y, hy⟩ : ∃ vv, Nm.dDiv x 4612367379483415830 = vv := ⟨_, rfl⟩
  rw [hy] at Cy oy
  rw [show dLog10 a = y by unfold dLog10; rw [hx, hy]]
  clear hx hy ox oy ha
  have BB := Lib.hid (Below.refl w.heap.size w)
  go_enter Tryz.func11, Tryz.ntmps11
  go_wp2_with fail
  refine (Cx.out _).mono ?_
  rintro e' wm1 ⟨rfl, hb⟩
  have BB := Lib.hid (BB.out.trans (hb.mono BB.out.size))
  clear hb
  go_wp2_with fail
  refine (Cy.out _).mono ?_
  rintro e' wm2 ⟨rfl, hb⟩
  have BB := Lib.hid (BB.out.trans (hb.mono BB.out.size))
  clear hb
  go_wp2
  go_ret
  exact ⟨rfl, BB.out⟩
set_option maxHeartbeats 4000000 in
theorem rlog10_any (a : Nat) (ha : a < 2 ^ 64) (w : World) : Calls Tryz.prog 12 #[.int .u64 (a : Int)] w (Gives w (.int .u64 (dLog10 a : Nat))) := by
  have Cx : Hid (∀ w, Calls Tryz.prog 8 #[.int .u64 (a : Nat)] w (Gives w (.int .u64 (dLn a : Nat)))) := Lib.hid (fun w => rln_any a ha w)
  have ox : dLn a < 2 ^ 64 := dLn_ok _ ha
  obtain ⟨x, hx⟩ : ∃ vv, dLn a = vv := ⟨_, rfl⟩
  rw [hx] at Cx ox
  have Cy : Hid (∀ w, Calls Tryz.prog 57 #[.int .u64 (x : Nat), .int .u64 4612367379483415830] w (Gives w (.int .u64 (Nm.dDiv x 4612367379483415830 : Nat)))) := Lib.hid (fun w => rdiv_any x 4612367379483415830 ox (by decide) w)
  have oy : Nm.dDiv x 4612367379483415830 < 2 ^ 64 := (Nm.ok_div _ _).1
  obtain ⟨y, hy⟩ : ∃ vv, Nm.dDiv x 4612367379483415830 = vv := ⟨_, rfl⟩
  rw [hy] at Cy oy
  rw [show dLog10 a = y by unfold dLog10; rw [hx, hy]]
  clear hx hy ox oy ha
  have BB := Lib.hid (Below.refl w.heap.size w)
  go_enter Tryz.func12, Tryz.ntmps12
  go_wp2_with fail
  refine (Cx.out _).mono ?_
  rintro e' wm1 ⟨rfl, hb⟩
  have BB := Lib.hid (BB.out.trans (hb.mono BB.out.size))
  clear hb
  go_wp2_with fail
  refine (Cy.out _).mono ?_
  rintro e' wm2 ⟨rfl, hb⟩
  have BB := Lib.hid (BB.out.trans (hb.mono BB.out.size))
  clear hb
  go_wp2
  go_ret
  exact ⟨rfl, BB.out⟩
set_option maxHeartbeats 4000000 in
theorem tanh_any (a : Nat) (ha : a < 2 ^ 64) (w : World) : Calls Tryz.prog 17 #[.int .u64 (a : Int)] w (Gives w (.int .u64 (dTanh a : Nat))) := by
  have Ci : Hid (∀ w, Calls Tryz.prog 47 #[.int .i64 (22)] w (Gives w (.int .u64 (dInt (22) : Nat)))) := Lib.hid (fun w => (int_any (22) w).mono fun _ _ h => gives_of h)
  have oi : dInt (22) < 2 ^ 64 := (ok_int _).1
  obtain ⟨i, hi⟩ : ∃ vv, dInt (22) = vv := ⟨_, rfl⟩
  rw [hi] at Ci oi
  have Cl1 : Hid (∀ w, Calls Tryz.prog 39 #[.int .u64 (i : Nat), .int .u64 (a : Nat)] w (Gives w (.bool (dLt i a)))) := Lib.hid (fun w => (isless_any i a oi ha w).mono fun _ _ h => gives_of h)
  obtain ⟨l1, hl1⟩ : ∃ vv, dLt i a = vv := ⟨_, rfl⟩
  rw [hl1] at Cl1
  have Cj : Hid (∀ w, Calls Tryz.prog 47 #[.int .i64 (-22)] w (Gives w (.int .u64 (dInt (-22) : Nat)))) := Lib.hid (fun w => (int_any (-22) w).mono fun _ _ h => gives_of h)
  have oj : dInt (-22) < 2 ^ 64 := (ok_int _).1
  obtain ⟨j, hj⟩ : ∃ vv, dInt (-22) = vv := ⟨_, rfl⟩
  rw [hj] at Cj oj
  have Cl2 : Hid (∀ w, Calls Tryz.prog 39 #[.int .u64 (a : Nat), .int .u64 (j : Nat)] w (Gives w (.bool (dLt a j)))) := Lib.hid (fun w => (isless_any a j ha oj w).mono fun _ _ h => gives_of h)
  obtain ⟨l2, hl2⟩ : ∃ vv, dLt a j = vv := ⟨_, rfl⟩
  rw [hl2] at Cl2
  have Ck : Hid (∀ w, Calls Tryz.prog 47 #[.int .i64 (-1)] w (Gives w (.int .u64 (dInt (-1) : Nat)))) := Lib.hid (fun w => (int_any (-1) w).mono fun _ _ h => gives_of h)
  have ok : dInt (-1) < 2 ^ 64 := (ok_int _).1
  obtain ⟨k, hk⟩ : ∃ vv, dInt (-1) = vv := ⟨_, rfl⟩
  rw [hk] at Ck ok
  obtain ⟨R, hR⟩ : ∃ x, dTanh a = x := ⟨_, rfl⟩
  rw [hR]
  unfold dTanh at hR
  rw [hi, hl1, hj, hl2, hk] at hR
  cases l1
  · cases l2
    · simp only [Bool.false_eq_true, if_false] at hR
      have Cm : Hid (∀ w, Calls Tryz.prog 42 #[.int .u64 4611686018427387904, .int .u64 (a : Nat)] w (Gives w (.int .u64 (Nm.dMul 4611686018427387904 a : Nat)))) := Lib.hid (fun w => mul_any 4611686018427387904 a (by decide) ha w)
      have om : Nm.dMul 4611686018427387904 a < 2 ^ 64 := (Nm.ok_mul _ _).1
      obtain ⟨m, hm⟩ : ∃ vv, Nm.dMul 4611686018427387904 a = vv := ⟨_, rfl⟩
      rw [hm] at Cm om
      have Cx : Hid (∀ w, Calls Tryz.prog 5 #[.int .u64 (m : Nat)] w (Gives w (.int .u64 (dExp m : Nat)))) := Lib.hid (fun w => exp_any m om w)
      have ox : dExp m < 2 ^ 64 := dExp_ok _
      obtain ⟨x, hx⟩ : ∃ vv, dExp m = vv := ⟨_, rfl⟩
      rw [hx] at Cx ox
      have Cu : Hid (∀ w, Calls Tryz.prog 43 #[.int .u64 (x : Nat), .int .u64 4607182418800017408] w (Gives w (.int .u64 (Nm.dSub x 4607182418800017408 : Nat)))) := Lib.hid (fun w => sub_any x 4607182418800017408 ox (by decide) w)
      have ou : Nm.dSub x 4607182418800017408 < 2 ^ 64 := sub_ok _ _ ox (by decide)
      obtain ⟨u, hu⟩ : ∃ vv, Nm.dSub x 4607182418800017408 = vv := ⟨_, rfl⟩
      rw [hu] at Cu ou
      have Cv : Hid (∀ w, Calls Tryz.prog 41 #[.int .u64 (x : Nat), .int .u64 4607182418800017408] w (Gives w (.int .u64 (Nm.dAdd x 4607182418800017408 : Nat)))) := Lib.hid (fun w => add_any x 4607182418800017408 ox (by decide) w)
      have ov : Nm.dAdd x 4607182418800017408 < 2 ^ 64 := (Nm.ok_add _ _ ox (by decide)).1
      obtain ⟨v, hv⟩ : ∃ vv, Nm.dAdd x 4607182418800017408 = vv := ⟨_, rfl⟩
      rw [hv] at Cv ov
      have CE : Hid (∀ w, Calls Tryz.prog 46 #[.int .u64 (u : Nat), .int .u64 (v : Nat)] w (Gives w (.int .u64 (Nm.dDiv u v : Nat)))) := Lib.hid (fun w => div_any u v ou ov w)
      have oE : Nm.dDiv u v < 2 ^ 64 := (Nm.ok_div _ _).1
      obtain ⟨E, hE⟩ : ∃ vv, Nm.dDiv u v = vv := ⟨_, rfl⟩
      rw [hE] at CE oE
      obtain rfl : E = R := by rw [← hR, hm, hx, hu, hv, hE]
      clear hi hl1 hj hl2 hk hm hx hu hv hE oi oj ok om ox ou ov oE ha hR
      have BB := Lib.hid (Below.refl w.heap.size w)
      go_enter Tryz.func17, Tryz.ntmps17
      go_wp2_with fail
      refine (Ci.out _).mono ?_
      rintro e' wm1 ⟨rfl, hb⟩
      have BB := Lib.hid (BB.out.trans (hb.mono BB.out.size))
      clear hb
      go_wp2_with fail
      refine (Cl1.out _).mono ?_
      rintro e' wm2 ⟨rfl, hb⟩
      have BB := Lib.hid (BB.out.trans (hb.mono BB.out.size))
      clear hb
      go_wp2_with fail
      refine (Cj.out _).mono ?_
      rintro e' wm3 ⟨rfl, hb⟩
      have BB := Lib.hid (BB.out.trans (hb.mono BB.out.size))
      clear hb
      go_wp2_with fail
      refine (Cl2.out _).mono ?_
      rintro e' wm4 ⟨rfl, hb⟩
      have BB := Lib.hid (BB.out.trans (hb.mono BB.out.size))
      clear hb
      go_wp2_with fail
      refine (Cm.out _).mono ?_
      rintro e' wm5 ⟨rfl, hb⟩
      have BB := Lib.hid (BB.out.trans (hb.mono BB.out.size))
      clear hb
      go_wp2_with fail
      refine (Cx.out _).mono ?_
      rintro e' wm6 ⟨rfl, hb⟩
      have BB := Lib.hid (BB.out.trans (hb.mono BB.out.size))
      clear hb
      go_wp2_with fail
      refine (Cu.out _).mono ?_
      rintro e' wm7 ⟨rfl, hb⟩
      have BB := Lib.hid (BB.out.trans (hb.mono BB.out.size))
      clear hb
      go_wp2_with fail
      refine (Cv.out _).mono ?_
      rintro e' wm8 ⟨rfl, hb⟩
      have BB := Lib.hid (BB.out.trans (hb.mono BB.out.size))
      clear hb
      go_wp2_with fail
      refine (CE.out _).mono ?_
      rintro e' wm9 ⟨rfl, hb⟩
      have BB := Lib.hid (BB.out.trans (hb.mono BB.out.size))
      clear hb
      go_wp2
      go_ret
      exact ⟨rfl, BB.out⟩
    · simp only [Bool.false_eq_true, if_false, if_true] at hR
      subst hR
      clear hi hl1 hj hl2 hk oi oj ok ha
      have BB := Lib.hid (Below.refl w.heap.size w)
      go_enter Tryz.func17, Tryz.ntmps17
      go_wp2_with fail
      refine (Ci.out _).mono ?_
      rintro e' wm1 ⟨rfl, hb⟩
      have BB := Lib.hid (BB.out.trans (hb.mono BB.out.size))
      clear hb
      go_wp2_with fail
      refine (Cl1.out _).mono ?_
      rintro e' wm2 ⟨rfl, hb⟩
      have BB := Lib.hid (BB.out.trans (hb.mono BB.out.size))
      clear hb
      go_wp2_with fail
      refine (Cj.out _).mono ?_
      rintro e' wm3 ⟨rfl, hb⟩
      have BB := Lib.hid (BB.out.trans (hb.mono BB.out.size))
      clear hb
      go_wp2_with fail
      refine (Cl2.out _).mono ?_
      rintro e' wm4 ⟨rfl, hb⟩
      have BB := Lib.hid (BB.out.trans (hb.mono BB.out.size))
      clear hb
      go_wp2_with fail
      refine (Ck.out _).mono ?_
      rintro e' wm5 ⟨rfl, hb⟩
      have BB := Lib.hid (BB.out.trans (hb.mono BB.out.size))
      clear hb
      go_wp2
      go_ret
      exact ⟨rfl, BB.out⟩
  · simp only [Bool.false_eq_true, if_false, if_true] at hR
    subst hR
    clear hi hl1 hj hl2 hk oi oj ok ha
    have BB := Lib.hid (Below.refl w.heap.size w)
    go_enter Tryz.func17, Tryz.ntmps17
    go_wp2_with fail
    refine (Ci.out _).mono ?_
    rintro e' wm1 ⟨rfl, hb⟩
    have BB := Lib.hid (BB.out.trans (hb.mono BB.out.size))
    clear hb
    go_wp2_with fail
    refine (Cl1.out _).mono ?_
    rintro e' wm2 ⟨rfl, hb⟩
    have BB := Lib.hid (BB.out.trans (hb.mono BB.out.size))
    clear hb
    go_wp2
    go_ret
    exact ⟨rfl, BB.out⟩
set_option maxHeartbeats 4000000 in
theorem rtanh_any (a : Nat) (ha : a < 2 ^ 64) (w : World) : Calls Tryz.prog 18 #[.int .u64 (a : Int)] w (Gives w (.int .u64 (dTanh a : Nat))) := by
  have Cna : Hid (∀ w, Calls Tryz.prog 50 #[.int .u64 (a : Nat)] w (Gives w (.bool (Nm.isNaN a)))) := Lib.hid (fun w => (rnan_any a ha w).mono fun _ _ h => gives_of h)
  obtain ⟨na, hna⟩ : ∃ vv, Nm.isNaN a = vv := ⟨_, rfl⟩
  rw [hna] at Cna
  have Ci : Hid (∀ w, Calls Tryz.prog 58 #[.int .i64 (22)] w (Gives w (.int .u64 (dInt (22) : Nat)))) := Lib.hid (fun w => rint_any (22) (by decide) (by decide) w)
  have oi : dInt (22) < 2 ^ 64 := (ok_int _).1
  obtain ⟨i, hi⟩ : ∃ vv, dInt (22) = vv := ⟨_, rfl⟩
  rw [hi] at Ci oi
  have Cl1 : Hid (∀ w, Calls Tryz.prog 51 #[.int .u64 (a : Nat), .int .u64 (i : Nat)] w (Gives w (.bool (dLt i a)))) := Lib.hid (fun w => rabove_any a i ha oi w)
  obtain ⟨l1, hl1⟩ : ∃ vv, dLt i a = vv := ⟨_, rfl⟩
  rw [hl1] at Cl1
  have Cj : Hid (∀ w, Calls Tryz.prog 58 #[.int .i64 (-22)] w (Gives w (.int .u64 (dInt (-22) : Nat)))) := Lib.hid (fun w => rint_any (-22) (by decide) (by decide) w)
  have oj : dInt (-22) < 2 ^ 64 := (ok_int _).1
  obtain ⟨j, hj⟩ : ∃ vv, dInt (-22) = vv := ⟨_, rfl⟩
  rw [hj] at Cj oj
  have Cl2 : Hid (∀ w, Calls Tryz.prog 52 #[.int .u64 (a : Nat), .int .u64 (j : Nat)] w (Gives w (.bool (dLt a j)))) := Lib.hid (fun w => rbelow_any a j ha oj w)
  obtain ⟨l2, hl2⟩ : ∃ vv, dLt a j = vv := ⟨_, rfl⟩
  rw [hl2] at Cl2
  have Ck : Hid (∀ w, Calls Tryz.prog 58 #[.int .i64 (-1)] w (Gives w (.int .u64 (dInt (-1) : Nat)))) := Lib.hid (fun w => rint_any (-1) (by decide) (by decide) w)
  have ok : dInt (-1) < 2 ^ 64 := (ok_int _).1
  obtain ⟨k, hk⟩ : ∃ vv, dInt (-1) = vv := ⟨_, rfl⟩
  rw [hk] at Ck ok
  obtain ⟨R, hR⟩ : ∃ x, dTanh a = x := ⟨_, rfl⟩
  have hnn : na = true → R = Nm.nan := fun h => by rw [← hR]; exact dTanh_nan (by rw [hna, h])
  rw [hR]
  unfold dTanh at hR
  rw [hi, hl1, hj, hl2, hk] at hR
  cases na
  · cases l1
    · cases l2
      · simp only [Bool.false_eq_true, if_false] at hR
        have Cm : Hid (∀ w, Calls Tryz.prog 55 #[.int .u64 4611686018427387904, .int .u64 (a : Nat)] w (Gives w (.int .u64 (Nm.dMul 4611686018427387904 a : Nat)))) := Lib.hid (fun w => rmul_any 4611686018427387904 a (by decide) ha w)
        have om : Nm.dMul 4611686018427387904 a < 2 ^ 64 := (Nm.ok_mul _ _).1
        obtain ⟨m, hm⟩ : ∃ vv, Nm.dMul 4611686018427387904 a = vv := ⟨_, rfl⟩
        rw [hm] at Cm om
        have Cx : Hid (∀ w, Calls Tryz.prog 6 #[.int .u64 (m : Nat)] w (Gives w (.int .u64 (dExp m : Nat)))) := Lib.hid (fun w => rexp_any m om w)
        have ox : dExp m < 2 ^ 64 := dExp_ok _
        obtain ⟨x, hx⟩ : ∃ vv, dExp m = vv := ⟨_, rfl⟩
        rw [hx] at Cx ox
        have Cu : Hid (∀ w, Calls Tryz.prog 56 #[.int .u64 (x : Nat), .int .u64 4607182418800017408] w (Gives w (.int .u64 (Nm.dSub x 4607182418800017408 : Nat)))) := Lib.hid (fun w => rsub_any x 4607182418800017408 ox (by decide) w)
        have ou : Nm.dSub x 4607182418800017408 < 2 ^ 64 := sub_ok _ _ ox (by decide)
        obtain ⟨u, hu⟩ : ∃ vv, Nm.dSub x 4607182418800017408 = vv := ⟨_, rfl⟩
        rw [hu] at Cu ou
        have Cv : Hid (∀ w, Calls Tryz.prog 54 #[.int .u64 (x : Nat), .int .u64 4607182418800017408] w (Gives w (.int .u64 (Nm.dAdd x 4607182418800017408 : Nat)))) := Lib.hid (fun w => radd_any x 4607182418800017408 ox (by decide) w)
        have ov : Nm.dAdd x 4607182418800017408 < 2 ^ 64 := (Nm.ok_add _ _ ox (by decide)).1
        obtain ⟨v, hv⟩ : ∃ vv, Nm.dAdd x 4607182418800017408 = vv := ⟨_, rfl⟩
        rw [hv] at Cv ov
        have CE : Hid (∀ w, Calls Tryz.prog 57 #[.int .u64 (u : Nat), .int .u64 (v : Nat)] w (Gives w (.int .u64 (Nm.dDiv u v : Nat)))) := Lib.hid (fun w => rdiv_any u v ou ov w)
        have oE : Nm.dDiv u v < 2 ^ 64 := (Nm.ok_div _ _).1
        obtain ⟨E, hE⟩ : ∃ vv, Nm.dDiv u v = vv := ⟨_, rfl⟩
        rw [hE] at CE oE
        obtain rfl : E = R := by rw [← hR, hm, hx, hu, hv, hE]
        clear hna hi hl1 hj hl2 hk hm hx hu hv hE oi oj ok om ox ou ov oE ha hR hnn
        have BB := Lib.hid (Below.refl w.heap.size w)
        go_enter Tryz.func18, Tryz.ntmps18
        go_wp2_with fail
        refine (Cna.out _).mono ?_
        rintro e' wm1 ⟨rfl, hb⟩
        have BB := Lib.hid (BB.out.trans (hb.mono BB.out.size))
        clear hb
        go_wp2_with fail
        refine (Ci.out _).mono ?_
        rintro e' wm2 ⟨rfl, hb⟩
        have BB := Lib.hid (BB.out.trans (hb.mono BB.out.size))
        clear hb
        go_wp2_with fail
        refine (Cl1.out _).mono ?_
        rintro e' wm3 ⟨rfl, hb⟩
        have BB := Lib.hid (BB.out.trans (hb.mono BB.out.size))
        clear hb
        go_wp2_with fail
        refine (Cj.out _).mono ?_
        rintro e' wm4 ⟨rfl, hb⟩
        have BB := Lib.hid (BB.out.trans (hb.mono BB.out.size))
        clear hb
        go_wp2_with fail
        refine (Cl2.out _).mono ?_
        rintro e' wm5 ⟨rfl, hb⟩
        have BB := Lib.hid (BB.out.trans (hb.mono BB.out.size))
        clear hb
        go_wp2_with fail
        refine (Cm.out _).mono ?_
        rintro e' wm6 ⟨rfl, hb⟩
        have BB := Lib.hid (BB.out.trans (hb.mono BB.out.size))
        clear hb
        go_wp2_with fail
        refine (Cx.out _).mono ?_
        rintro e' wm7 ⟨rfl, hb⟩
        have BB := Lib.hid (BB.out.trans (hb.mono BB.out.size))
        clear hb
        go_wp2_with fail
        refine (Cu.out _).mono ?_
        rintro e' wm8 ⟨rfl, hb⟩
        have BB := Lib.hid (BB.out.trans (hb.mono BB.out.size))
        clear hb
        go_wp2_with fail
        refine (Cv.out _).mono ?_
        rintro e' wm9 ⟨rfl, hb⟩
        have BB := Lib.hid (BB.out.trans (hb.mono BB.out.size))
        clear hb
        go_wp2_with fail
        refine (CE.out _).mono ?_
        rintro e' wm10 ⟨rfl, hb⟩
        have BB := Lib.hid (BB.out.trans (hb.mono BB.out.size))
        clear hb
        go_wp2
        go_ret
        exact ⟨rfl, BB.out⟩
      · simp only [Bool.false_eq_true, if_false, if_true] at hR
        subst hR
        clear hna hi hl1 hj hl2 hk oi oj ok ha hnn
        have BB := Lib.hid (Below.refl w.heap.size w)
        go_enter Tryz.func18, Tryz.ntmps18
        go_wp2_with fail
        refine (Cna.out _).mono ?_
        rintro e' wm1 ⟨rfl, hb⟩
        have BB := Lib.hid (BB.out.trans (hb.mono BB.out.size))
        clear hb
        go_wp2_with fail
        refine (Ci.out _).mono ?_
        rintro e' wm2 ⟨rfl, hb⟩
        have BB := Lib.hid (BB.out.trans (hb.mono BB.out.size))
        clear hb
        go_wp2_with fail
        refine (Cl1.out _).mono ?_
        rintro e' wm3 ⟨rfl, hb⟩
        have BB := Lib.hid (BB.out.trans (hb.mono BB.out.size))
        clear hb
        go_wp2_with fail
        refine (Cj.out _).mono ?_
        rintro e' wm4 ⟨rfl, hb⟩
        have BB := Lib.hid (BB.out.trans (hb.mono BB.out.size))
        clear hb
        go_wp2_with fail
        refine (Cl2.out _).mono ?_
        rintro e' wm5 ⟨rfl, hb⟩
        have BB := Lib.hid (BB.out.trans (hb.mono BB.out.size))
        clear hb
        go_wp2_with fail
        refine (Ck.out _).mono ?_
        rintro e' wm6 ⟨rfl, hb⟩
        have BB := Lib.hid (BB.out.trans (hb.mono BB.out.size))
        clear hb
        go_wp2
        go_ret
        exact ⟨rfl, BB.out⟩
    · simp only [Bool.false_eq_true, if_false, if_true] at hR
      subst hR
      clear hna hi hl1 hj hl2 hk oi oj ok ha hnn
      have BB := Lib.hid (Below.refl w.heap.size w)
      go_enter Tryz.func18, Tryz.ntmps18
      go_wp2_with fail
      refine (Cna.out _).mono ?_
      rintro e' wm1 ⟨rfl, hb⟩
      have BB := Lib.hid (BB.out.trans (hb.mono BB.out.size))
      clear hb
      go_wp2_with fail
      refine (Ci.out _).mono ?_
      rintro e' wm2 ⟨rfl, hb⟩
      have BB := Lib.hid (BB.out.trans (hb.mono BB.out.size))
      clear hb
      go_wp2_with fail
      refine (Cl1.out _).mono ?_
      rintro e' wm3 ⟨rfl, hb⟩
      have BB := Lib.hid (BB.out.trans (hb.mono BB.out.size))
      clear hb
      go_wp2
      go_ret
      exact ⟨rfl, BB.out⟩
  · obtain rfl := hnn rfl
    clear hnn
    clear hna hi hl1 hj hl2 hk oi oj ok ha hR
    have BB := Lib.hid (Below.refl w.heap.size w)
    go_enter Tryz.func18, Tryz.ntmps18
    go_wp2_with fail
    refine (Cna.out _).mono ?_
    rintro e' wm1 ⟨rfl, hb⟩
    have BB := Lib.hid (BB.out.trans (hb.mono BB.out.size))
    clear hb
    go_wp2
    go_ret
    exact ⟨rfl, BB.out⟩
set_option maxHeartbeats 4000000 in
theorem acosh_any (a : Nat) (ha : a < 2 ^ 64) (w : World) : Calls Tryz.prog 21 #[.int .u64 (a : Int)] w (Gives w (.int .u64 (dAcosh a : Nat))) := by
  have Cl : Hid (∀ w, Calls Tryz.prog 39 #[.int .u64 (a : Nat), .int .u64 4607182418800017408] w (Gives w (.bool (dLt a 4607182418800017408)))) := Lib.hid (fun w => (isless_any a 4607182418800017408 ha (by decide) w).mono fun _ _ h => gives_of h)
  obtain ⟨l, hl⟩ : ∃ vv, dLt a 4607182418800017408 = vv := ⟨_, rfl⟩
  rw [hl] at Cl
  obtain ⟨R, hR⟩ : ∃ x, dAcosh a = x := ⟨_, rfl⟩
  rw [hR]
  unfold dAcosh at hR
  rw [hl] at hR
  cases l
  · simp only [Bool.false_eq_true, if_false] at hR
    have Cm : Hid (∀ w, Calls Tryz.prog 42 #[.int .u64 (a : Nat), .int .u64 (a : Nat)] w (Gives w (.int .u64 (Nm.dMul a a : Nat)))) := Lib.hid (fun w => mul_any a a ha ha w)
    have om : Nm.dMul a a < 2 ^ 64 := (Nm.ok_mul _ _).1
    obtain ⟨m, hm⟩ : ∃ vv, Nm.dMul a a = vv := ⟨_, rfl⟩
    rw [hm] at Cm om
    have Cu : Hid (∀ w, Calls Tryz.prog 43 #[.int .u64 (m : Nat), .int .u64 4607182418800017408] w (Gives w (.int .u64 (Nm.dSub m 4607182418800017408 : Nat)))) := Lib.hid (fun w => sub_any m 4607182418800017408 om (by decide) w)
    have ou : Nm.dSub m 4607182418800017408 < 2 ^ 64 := sub_ok _ _ om (by decide)
    obtain ⟨u, hu⟩ : ∃ vv, Nm.dSub m 4607182418800017408 = vv := ⟨_, rfl⟩
    rw [hu] at Cu ou
    have Cr : Hid (∀ w, Calls Tryz.prog 80 #[.int .u64 (u : Nat)] w (Gives w (.int .u64 (Nm.dSqrt u : Nat)))) := Lib.hid (fun w => sqrt_any u ou w)
    have or : Nm.dSqrt u < 2 ^ 64 := (Nm.ok_sqrt _ ou).1
    obtain ⟨r, hr⟩ : ∃ vv, Nm.dSqrt u = vv := ⟨_, rfl⟩
    rw [hr] at Cr or
    have Cq : Hid (∀ w, Calls Tryz.prog 41 #[.int .u64 (a : Nat), .int .u64 (r : Nat)] w (Gives w (.int .u64 (Nm.dAdd a r : Nat)))) := Lib.hid (fun w => add_any a r ha or w)
    have oq : Nm.dAdd a r < 2 ^ 64 := (Nm.ok_add _ _ ha or).1
    obtain ⟨q, hq⟩ : ∃ vv, Nm.dAdd a r = vv := ⟨_, rfl⟩
    rw [hq] at Cq oq
    have CE : Hid (∀ w, Calls Tryz.prog 7 #[.int .u64 (q : Nat)] w (Gives w (.int .u64 (dLn q : Nat)))) := Lib.hid (fun w => ln_any q oq w)
    have oE : dLn q < 2 ^ 64 := dLn_ok _ oq
    obtain ⟨E, hE⟩ : ∃ vv, dLn q = vv := ⟨_, rfl⟩
    rw [hE] at CE oE
    obtain rfl : E = R := by rw [← hR, hm, hu, hr, hq, hE]
    clear hl hm hu hr hq hE om ou or oq oE ha hR
    have BB := Lib.hid (Below.refl w.heap.size w)
    go_enter Tryz.func21, Tryz.ntmps21
    go_wp2_with fail
    refine (Cl.out _).mono ?_
    rintro e' wm1 ⟨rfl, hb⟩
    have BB := Lib.hid (BB.out.trans (hb.mono BB.out.size))
    clear hb
    go_wp2_with fail
    refine (Cm.out _).mono ?_
    rintro e' wm2 ⟨rfl, hb⟩
    have BB := Lib.hid (BB.out.trans (hb.mono BB.out.size))
    clear hb
    go_wp2_with fail
    refine (Cu.out _).mono ?_
    rintro e' wm3 ⟨rfl, hb⟩
    have BB := Lib.hid (BB.out.trans (hb.mono BB.out.size))
    clear hb
    go_wp2_with fail
    refine (Cr.out _).mono ?_
    rintro e' wm4 ⟨rfl, hb⟩
    have BB := Lib.hid (BB.out.trans (hb.mono BB.out.size))
    clear hb
    go_wp2_with fail
    refine (Cq.out _).mono ?_
    rintro e' wm5 ⟨rfl, hb⟩
    have BB := Lib.hid (BB.out.trans (hb.mono BB.out.size))
    clear hb
    go_wp2_with fail
    refine (CE.out _).mono ?_
    rintro e' wm6 ⟨rfl, hb⟩
    have BB := Lib.hid (BB.out.trans (hb.mono BB.out.size))
    clear hb
    go_wp2
    go_ret
    exact ⟨rfl, BB.out⟩
  · simp only [Bool.false_eq_true, if_false, if_true] at hR
    subst hR
    clear hl ha
    have BB := Lib.hid (Below.refl w.heap.size w)
    go_enter Tryz.func21, Tryz.ntmps21
    go_wp2_with fail
    refine (Cl.out _).mono ?_
    rintro e' wm1 ⟨rfl, hb⟩
    have BB := Lib.hid (BB.out.trans (hb.mono BB.out.size))
    clear hb
    go_wp2
    go_ret
    exact ⟨rfl, BB.out⟩
set_option maxHeartbeats 4000000 in
theorem racosh_any (a : Nat) (ha : a < 2 ^ 64) (w : World) : Calls Tryz.prog 22 #[.int .u64 (a : Int)] w (Gives w (.int .u64 (dAcosh a : Nat))) := by
  have Cna : Hid (∀ w, Calls Tryz.prog 50 #[.int .u64 (a : Nat)] w (Gives w (.bool (Nm.isNaN a)))) := Lib.hid (fun w => (rnan_any a ha w).mono fun _ _ h => gives_of h)
  obtain ⟨na, hna⟩ : ∃ vv, Nm.isNaN a = vv := ⟨_, rfl⟩
  rw [hna] at Cna
  have Cl : Hid (∀ w, Calls Tryz.prog 52 #[.int .u64 (a : Nat), .int .u64 4607182418800017408] w (Gives w (.bool (dLt a 4607182418800017408)))) := Lib.hid (fun w => rbelow_any a 4607182418800017408 ha (by decide) w)
  obtain ⟨l, hl⟩ : ∃ vv, dLt a 4607182418800017408 = vv := ⟨_, rfl⟩
  rw [hl] at Cl
  obtain ⟨R, hR⟩ : ∃ x, dAcosh a = x := ⟨_, rfl⟩
  have hnn : na = true → R = Nm.nan := fun h => by rw [← hR]; exact dAcosh_nan (by rw [hna, h])
  rw [hR]
  unfold dAcosh at hR
  rw [hl] at hR
  cases na
  · cases l
    · simp only [Bool.false_eq_true, if_false] at hR
      have Cm : Hid (∀ w, Calls Tryz.prog 55 #[.int .u64 (a : Nat), .int .u64 (a : Nat)] w (Gives w (.int .u64 (Nm.dMul a a : Nat)))) := Lib.hid (fun w => rmul_any a a ha ha w)
      have om : Nm.dMul a a < 2 ^ 64 := (Nm.ok_mul _ _).1
      obtain ⟨m, hm⟩ : ∃ vv, Nm.dMul a a = vv := ⟨_, rfl⟩
      rw [hm] at Cm om
      have Cu : Hid (∀ w, Calls Tryz.prog 56 #[.int .u64 (m : Nat), .int .u64 4607182418800017408] w (Gives w (.int .u64 (Nm.dSub m 4607182418800017408 : Nat)))) := Lib.hid (fun w => rsub_any m 4607182418800017408 om (by decide) w)
      have ou : Nm.dSub m 4607182418800017408 < 2 ^ 64 := sub_ok _ _ om (by decide)
      obtain ⟨u, hu⟩ : ∃ vv, Nm.dSub m 4607182418800017408 = vv := ⟨_, rfl⟩
      rw [hu] at Cu ou
      have Cr : Hid (∀ w, Calls Tryz.prog 83 #[.int .u64 (u : Nat)] w (Gives w (.int .u64 (Nm.dSqrt u : Nat)))) := Lib.hid (fun w => rsqrt_any u ou w)
      have or : Nm.dSqrt u < 2 ^ 64 := (Nm.ok_sqrt _ ou).1
      obtain ⟨r, hr⟩ : ∃ vv, Nm.dSqrt u = vv := ⟨_, rfl⟩
      rw [hr] at Cr or
      have Cq : Hid (∀ w, Calls Tryz.prog 54 #[.int .u64 (a : Nat), .int .u64 (r : Nat)] w (Gives w (.int .u64 (Nm.dAdd a r : Nat)))) := Lib.hid (fun w => radd_any a r ha or w)
      have oq : Nm.dAdd a r < 2 ^ 64 := (Nm.ok_add _ _ ha or).1
      obtain ⟨q, hq⟩ : ∃ vv, Nm.dAdd a r = vv := ⟨_, rfl⟩
      rw [hq] at Cq oq
      have CE : Hid (∀ w, Calls Tryz.prog 8 #[.int .u64 (q : Nat)] w (Gives w (.int .u64 (dLn q : Nat)))) := Lib.hid (fun w => rln_any q oq w)
      have oE : dLn q < 2 ^ 64 := dLn_ok _ oq
      obtain ⟨E, hE⟩ : ∃ vv, dLn q = vv := ⟨_, rfl⟩
      rw [hE] at CE oE
      obtain rfl : E = R := by rw [← hR, hm, hu, hr, hq, hE]
      clear hna hl hm hu hr hq hE om ou or oq oE ha hR hnn
      have BB := Lib.hid (Below.refl w.heap.size w)
      go_enter Tryz.func22, Tryz.ntmps22
      go_wp2_with fail
      refine (Cna.out _).mono ?_
      rintro e' wm1 ⟨rfl, hb⟩
      have BB := Lib.hid (BB.out.trans (hb.mono BB.out.size))
      clear hb
      go_wp2_with fail
      refine (Cl.out _).mono ?_
      rintro e' wm2 ⟨rfl, hb⟩
      have BB := Lib.hid (BB.out.trans (hb.mono BB.out.size))
      clear hb
      go_wp2_with fail
      refine (Cm.out _).mono ?_
      rintro e' wm3 ⟨rfl, hb⟩
      have BB := Lib.hid (BB.out.trans (hb.mono BB.out.size))
      clear hb
      go_wp2_with fail
      refine (Cu.out _).mono ?_
      rintro e' wm4 ⟨rfl, hb⟩
      have BB := Lib.hid (BB.out.trans (hb.mono BB.out.size))
      clear hb
      go_wp2_with fail
      refine (Cr.out _).mono ?_
      rintro e' wm5 ⟨rfl, hb⟩
      have BB := Lib.hid (BB.out.trans (hb.mono BB.out.size))
      clear hb
      go_wp2_with fail
      refine (Cq.out _).mono ?_
      rintro e' wm6 ⟨rfl, hb⟩
      have BB := Lib.hid (BB.out.trans (hb.mono BB.out.size))
      clear hb
      go_wp2_with fail
      refine (CE.out _).mono ?_
      rintro e' wm7 ⟨rfl, hb⟩
      have BB := Lib.hid (BB.out.trans (hb.mono BB.out.size))
      clear hb
      go_wp2
      go_ret
      exact ⟨rfl, BB.out⟩
    · simp only [Bool.false_eq_true, if_false, if_true] at hR
      subst hR
      clear hna hl ha hnn
      have BB := Lib.hid (Below.refl w.heap.size w)
      go_enter Tryz.func22, Tryz.ntmps22
      go_wp2_with fail
      refine (Cna.out _).mono ?_
      rintro e' wm1 ⟨rfl, hb⟩
      have BB := Lib.hid (BB.out.trans (hb.mono BB.out.size))
      clear hb
      go_wp2_with fail
      refine (Cl.out _).mono ?_
      rintro e' wm2 ⟨rfl, hb⟩
      have BB := Lib.hid (BB.out.trans (hb.mono BB.out.size))
      clear hb
      go_wp2
      go_ret
      exact ⟨rfl, BB.out⟩
  · obtain rfl := hnn rfl
    clear hnn
    clear hna hl ha hR
    have BB := Lib.hid (Below.refl w.heap.size w)
    go_enter Tryz.func22, Tryz.ntmps22
    go_wp2_with fail
    refine (Cna.out _).mono ?_
    rintro e' wm1 ⟨rfl, hb⟩
    have BB := Lib.hid (BB.out.trans (hb.mono BB.out.size))
    clear hb
    go_wp2
    go_ret
    exact ⟨rfl, BB.out⟩
set_option maxHeartbeats 4000000 in
theorem atanh_any (a : Nat) (ha : a < 2 ^ 64) (w : World) : Calls Tryz.prog 23 #[.int .u64 (a : Int)] w (Gives w (.int .u64 (dAtanh a : Nat))) := by
  have Cx : Hid (∀ w, Calls Tryz.prog 79 #[.int .u64 (a : Nat)] w (Gives w (.int .u64 (Nm.dAbs a : Nat)))) := Lib.hid (fun w => (abs_any a ha w).mono fun _ _ h => gives_of h)
  have ox : Nm.dAbs a < 2 ^ 64 := (Nm.ok_abs _ ha).1
  obtain ⟨x, hx⟩ : ∃ vv, Nm.dAbs a = vv := ⟨_, rfl⟩
  rw [hx] at Cx ox
  have Cl : Hid (∀ w, Calls Tryz.prog 39 #[.int .u64 4607182418800017408, .int .u64 (x : Nat)] w (Gives w (.bool (dLt 4607182418800017408 x)))) := Lib.hid (fun w => (isless_any 4607182418800017408 x (by decide) ox w).mono fun _ _ h => gives_of h)
  obtain ⟨l, hl⟩ : ∃ vv, dLt 4607182418800017408 x = vv := ⟨_, rfl⟩
  rw [hl] at Cl
  obtain ⟨R, hR⟩ : ∃ x, dAtanh a = x := ⟨_, rfl⟩
  rw [hR]
  unfold dAtanh at hR
  rw [hx, hl] at hR
  cases l
  · simp only [Bool.false_eq_true, if_false] at hR
    have Cu : Hid (∀ w, Calls Tryz.prog 41 #[.int .u64 4607182418800017408, .int .u64 (a : Nat)] w (Gives w (.int .u64 (Nm.dAdd 4607182418800017408 a : Nat)))) := Lib.hid (fun w => add_any 4607182418800017408 a (by decide) ha w)
    have ou : Nm.dAdd 4607182418800017408 a < 2 ^ 64 := (Nm.ok_add _ _ (by decide) ha).1
    obtain ⟨u, hu⟩ : ∃ vv, Nm.dAdd 4607182418800017408 a = vv := ⟨_, rfl⟩
    rw [hu] at Cu ou
    have Cv : Hid (∀ w, Calls Tryz.prog 43 #[.int .u64 4607182418800017408, .int .u64 (a : Nat)] w (Gives w (.int .u64 (Nm.dSub 4607182418800017408 a : Nat)))) := Lib.hid (fun w => sub_any 4607182418800017408 a (by decide) ha w)
    have ov : Nm.dSub 4607182418800017408 a < 2 ^ 64 := sub_ok _ _ (by decide) ha
    obtain ⟨v, hv⟩ : ∃ vv, Nm.dSub 4607182418800017408 a = vv := ⟨_, rfl⟩
    rw [hv] at Cv ov
    have Cq : Hid (∀ w, Calls Tryz.prog 46 #[.int .u64 (u : Nat), .int .u64 (v : Nat)] w (Gives w (.int .u64 (Nm.dDiv u v : Nat)))) := Lib.hid (fun w => div_any u v ou ov w)
    have oq : Nm.dDiv u v < 2 ^ 64 := (Nm.ok_div _ _).1
    obtain ⟨q, hq⟩ : ∃ vv, Nm.dDiv u v = vv := ⟨_, rfl⟩
    rw [hq] at Cq oq
    have Cm : Hid (∀ w, Calls Tryz.prog 7 #[.int .u64 (q : Nat)] w (Gives w (.int .u64 (dLn q : Nat)))) := Lib.hid (fun w => ln_any q oq w)
    have om : dLn q < 2 ^ 64 := dLn_ok _ oq
    obtain ⟨m, hm⟩ : ∃ vv, dLn q = vv := ⟨_, rfl⟩
    rw [hm] at Cm om
    have CE : Hid (∀ w, Calls Tryz.prog 42 #[.int .u64 4602678819172646912, .int .u64 (m : Nat)] w (Gives w (.int .u64 (Nm.dMul 4602678819172646912 m : Nat)))) := Lib.hid (fun w => mul_any 4602678819172646912 m (by decide) om w)
    have oE : Nm.dMul 4602678819172646912 m < 2 ^ 64 := (Nm.ok_mul _ _).1
    obtain ⟨E, hE⟩ : ∃ vv, Nm.dMul 4602678819172646912 m = vv := ⟨_, rfl⟩
    rw [hE] at CE oE
    obtain rfl : E = R := by rw [← hR, hu, hv, hq, hm, hE]
    clear hx hl hu hv hq hm hE ox ou ov oq om oE ha hR
    have BB := Lib.hid (Below.refl w.heap.size w)
    go_enter Tryz.func23, Tryz.ntmps23
    go_wp2_with fail
    refine (Cx.out _).mono ?_
    rintro e' wm1 ⟨rfl, hb⟩
    have BB := Lib.hid (BB.out.trans (hb.mono BB.out.size))
    clear hb
    go_wp2_with fail
    refine (Cl.out _).mono ?_
    rintro e' wm2 ⟨rfl, hb⟩
    have BB := Lib.hid (BB.out.trans (hb.mono BB.out.size))
    clear hb
    go_wp2_with fail
    refine (Cu.out _).mono ?_
    rintro e' wm3 ⟨rfl, hb⟩
    have BB := Lib.hid (BB.out.trans (hb.mono BB.out.size))
    clear hb
    go_wp2_with fail
    refine (Cv.out _).mono ?_
    rintro e' wm4 ⟨rfl, hb⟩
    have BB := Lib.hid (BB.out.trans (hb.mono BB.out.size))
    clear hb
    go_wp2_with fail
    refine (Cq.out _).mono ?_
    rintro e' wm5 ⟨rfl, hb⟩
    have BB := Lib.hid (BB.out.trans (hb.mono BB.out.size))
    clear hb
    go_wp2_with fail
    refine (Cm.out _).mono ?_
    rintro e' wm6 ⟨rfl, hb⟩
    have BB := Lib.hid (BB.out.trans (hb.mono BB.out.size))
    clear hb
    go_wp2_with fail
    refine (CE.out _).mono ?_
    rintro e' wm7 ⟨rfl, hb⟩
    have BB := Lib.hid (BB.out.trans (hb.mono BB.out.size))
    clear hb
    go_wp2
    go_ret
    exact ⟨rfl, BB.out⟩
  · simp only [Bool.false_eq_true, if_false, if_true] at hR
    subst hR
    clear hx hl ox ha
    have BB := Lib.hid (Below.refl w.heap.size w)
    go_enter Tryz.func23, Tryz.ntmps23
    go_wp2_with fail
    refine (Cx.out _).mono ?_
    rintro e' wm1 ⟨rfl, hb⟩
    have BB := Lib.hid (BB.out.trans (hb.mono BB.out.size))
    clear hb
    go_wp2_with fail
    refine (Cl.out _).mono ?_
    rintro e' wm2 ⟨rfl, hb⟩
    have BB := Lib.hid (BB.out.trans (hb.mono BB.out.size))
    clear hb
    go_wp2
    go_ret
    exact ⟨rfl, BB.out⟩
set_option maxHeartbeats 4000000 in
theorem ratanh_any (a : Nat) (ha : a < 2 ^ 64) (w : World) : Calls Tryz.prog 24 #[.int .u64 (a : Int)] w (Gives w (.int .u64 (dAtanh a : Nat))) := by
  have Cna : Hid (∀ w, Calls Tryz.prog 50 #[.int .u64 (a : Nat)] w (Gives w (.bool (Nm.isNaN a)))) := Lib.hid (fun w => (rnan_any a ha w).mono fun _ _ h => gives_of h)
  obtain ⟨na, hna⟩ : ∃ vv, Nm.isNaN a = vv := ⟨_, rfl⟩
  rw [hna] at Cna
  have Cx : Hid (∀ w, Calls Tryz.prog 81 #[.int .u64 (a : Nat)] w (Gives w (.int .u64 (Nm.dAbs a : Nat)))) := Lib.hid (fun w => (rabs_any a ha w).mono fun _ _ h => gives_of h)
  have ox : Nm.dAbs a < 2 ^ 64 := (Nm.ok_abs _ ha).1
  obtain ⟨x, hx⟩ : ∃ vv, Nm.dAbs a = vv := ⟨_, rfl⟩
  rw [hx] at Cx ox
  have Cl : Hid (∀ w, Calls Tryz.prog 51 #[.int .u64 (x : Nat), .int .u64 4607182418800017408] w (Gives w (.bool (dLt 4607182418800017408 x)))) := Lib.hid (fun w => rabove_any x 4607182418800017408 ox (by decide) w)
  obtain ⟨l, hl⟩ : ∃ vv, dLt 4607182418800017408 x = vv := ⟨_, rfl⟩
  rw [hl] at Cl
  obtain ⟨R, hR⟩ : ∃ x, dAtanh a = x := ⟨_, rfl⟩
  have hnn : na = true → R = Nm.nan := fun h => by rw [← hR]; exact dAtanh_nan (by rw [hna, h])
  rw [hR]
  unfold dAtanh at hR
  rw [hx, hl] at hR
  cases na
  · cases l
    · simp only [Bool.false_eq_true, if_false] at hR
      have Cu : Hid (∀ w, Calls Tryz.prog 54 #[.int .u64 4607182418800017408, .int .u64 (a : Nat)] w (Gives w (.int .u64 (Nm.dAdd 4607182418800017408 a : Nat)))) := Lib.hid (fun w => radd_any 4607182418800017408 a (by decide) ha w)
      have ou : Nm.dAdd 4607182418800017408 a < 2 ^ 64 := (Nm.ok_add _ _ (by decide) ha).1
      obtain ⟨u, hu⟩ : ∃ vv, Nm.dAdd 4607182418800017408 a = vv := ⟨_, rfl⟩
      rw [hu] at Cu ou
      have Cv : Hid (∀ w, Calls Tryz.prog 56 #[.int .u64 4607182418800017408, .int .u64 (a : Nat)] w (Gives w (.int .u64 (Nm.dSub 4607182418800017408 a : Nat)))) := Lib.hid (fun w => rsub_any 4607182418800017408 a (by decide) ha w)
      have ov : Nm.dSub 4607182418800017408 a < 2 ^ 64 := sub_ok _ _ (by decide) ha
      obtain ⟨v, hv⟩ : ∃ vv, Nm.dSub 4607182418800017408 a = vv := ⟨_, rfl⟩
      rw [hv] at Cv ov
      have Cq : Hid (∀ w, Calls Tryz.prog 57 #[.int .u64 (u : Nat), .int .u64 (v : Nat)] w (Gives w (.int .u64 (Nm.dDiv u v : Nat)))) := Lib.hid (fun w => rdiv_any u v ou ov w)
      have oq : Nm.dDiv u v < 2 ^ 64 := (Nm.ok_div _ _).1
      obtain ⟨q, hq⟩ : ∃ vv, Nm.dDiv u v = vv := ⟨_, rfl⟩
      rw [hq] at Cq oq
      have Cm : Hid (∀ w, Calls Tryz.prog 8 #[.int .u64 (q : Nat)] w (Gives w (.int .u64 (dLn q : Nat)))) := Lib.hid (fun w => rln_any q oq w)
      have om : dLn q < 2 ^ 64 := dLn_ok _ oq
      obtain ⟨m, hm⟩ : ∃ vv, dLn q = vv := ⟨_, rfl⟩
      rw [hm] at Cm om
      have CE : Hid (∀ w, Calls Tryz.prog 55 #[.int .u64 4602678819172646912, .int .u64 (m : Nat)] w (Gives w (.int .u64 (Nm.dMul 4602678819172646912 m : Nat)))) := Lib.hid (fun w => rmul_any 4602678819172646912 m (by decide) om w)
      have oE : Nm.dMul 4602678819172646912 m < 2 ^ 64 := (Nm.ok_mul _ _).1
      obtain ⟨E, hE⟩ : ∃ vv, Nm.dMul 4602678819172646912 m = vv := ⟨_, rfl⟩
      rw [hE] at CE oE
      obtain rfl : E = R := by rw [← hR, hu, hv, hq, hm, hE]
      clear hna hx hl hu hv hq hm hE ox ou ov oq om oE ha hR hnn
      have BB := Lib.hid (Below.refl w.heap.size w)
      go_enter Tryz.func24, Tryz.ntmps24
      go_wp2_with fail
      refine (Cna.out _).mono ?_
      rintro e' wm1 ⟨rfl, hb⟩
      have BB := Lib.hid (BB.out.trans (hb.mono BB.out.size))
      clear hb
      go_wp2_with fail
      refine (Cx.out _).mono ?_
      rintro e' wm2 ⟨rfl, hb⟩
      have BB := Lib.hid (BB.out.trans (hb.mono BB.out.size))
      clear hb
      go_wp2_with fail
      refine (Cl.out _).mono ?_
      rintro e' wm3 ⟨rfl, hb⟩
      have BB := Lib.hid (BB.out.trans (hb.mono BB.out.size))
      clear hb
      go_wp2_with fail
      refine (Cu.out _).mono ?_
      rintro e' wm4 ⟨rfl, hb⟩
      have BB := Lib.hid (BB.out.trans (hb.mono BB.out.size))
      clear hb
      go_wp2_with fail
      refine (Cv.out _).mono ?_
      rintro e' wm5 ⟨rfl, hb⟩
      have BB := Lib.hid (BB.out.trans (hb.mono BB.out.size))
      clear hb
      go_wp2_with fail
      refine (Cq.out _).mono ?_
      rintro e' wm6 ⟨rfl, hb⟩
      have BB := Lib.hid (BB.out.trans (hb.mono BB.out.size))
      clear hb
      go_wp2_with fail
      refine (Cm.out _).mono ?_
      rintro e' wm7 ⟨rfl, hb⟩
      have BB := Lib.hid (BB.out.trans (hb.mono BB.out.size))
      clear hb
      go_wp2_with fail
      refine (CE.out _).mono ?_
      rintro e' wm8 ⟨rfl, hb⟩
      have BB := Lib.hid (BB.out.trans (hb.mono BB.out.size))
      clear hb
      go_wp2
      go_ret
      exact ⟨rfl, BB.out⟩
    · simp only [Bool.false_eq_true, if_false, if_true] at hR
      subst hR
      clear hna hx hl ox ha hnn
      have BB := Lib.hid (Below.refl w.heap.size w)
      go_enter Tryz.func24, Tryz.ntmps24
      go_wp2_with fail
      refine (Cna.out _).mono ?_
      rintro e' wm1 ⟨rfl, hb⟩
      have BB := Lib.hid (BB.out.trans (hb.mono BB.out.size))
      clear hb
      go_wp2_with fail
      refine (Cx.out _).mono ?_
      rintro e' wm2 ⟨rfl, hb⟩
      have BB := Lib.hid (BB.out.trans (hb.mono BB.out.size))
      clear hb
      go_wp2_with fail
      refine (Cl.out _).mono ?_
      rintro e' wm3 ⟨rfl, hb⟩
      have BB := Lib.hid (BB.out.trans (hb.mono BB.out.size))
      clear hb
      go_wp2
      go_ret
      exact ⟨rfl, BB.out⟩
  · obtain rfl := hnn rfl
    clear hnn
    clear hna hx hl ox ha hR
    have BB := Lib.hid (Below.refl w.heap.size w)
    go_enter Tryz.func24, Tryz.ntmps24
    go_wp2_with fail
    refine (Cna.out _).mono ?_
    rintro e' wm1 ⟨rfl, hb⟩
    have BB := Lib.hid (BB.out.trans (hb.mono BB.out.size))
    clear hb
    go_wp2
    go_ret
    exact ⟨rfl, BB.out⟩
set_option maxHeartbeats 4000000 in
theorem asinh_any (a : Nat) (ha : a < 2 ^ 64) (w : World) : Calls Tryz.prog 19 #[.int .u64 (a : Int)] w (Gives w (.int .u64 (dAsinh a : Nat))) := by
  have Cia : Hid (∀ w, Calls Tryz.prog 64 #[.int .u64 (a : Nat)] w (Gives w (.bool (Nm.isInf a)))) := Lib.hid (fun w => (infnum_any a ha w).mono fun _ _ h => gives_of h)
  obtain ⟨ia, hia⟩ : ∃ vv, Nm.isInf a = vv := ⟨_, rfl⟩
  rw [hia] at Cia
  have Csg : Hid (∀ w, Calls Tryz.prog 63 #[.int .u64 (a : Nat)] w (Gives w (.bool (Nm.neg a)))) := Lib.hid (fun w => (sign_any a ha w).mono fun _ _ h => gives_of h)
  obtain ⟨sg, hsg⟩ : ∃ vv, Nm.neg a = vv := ⟨_, rfl⟩
  rw [hsg] at Csg
  have Cx : Hid (∀ w, Calls Tryz.prog 79 #[.int .u64 (a : Nat)] w (Gives w (.int .u64 (Nm.dAbs a : Nat)))) := Lib.hid (fun w => (abs_any a ha w).mono fun _ _ h => gives_of h)
  have ox : Nm.dAbs a < 2 ^ 64 := (Nm.ok_abs _ ha).1
  obtain ⟨x, hx⟩ : ∃ vv, Nm.dAbs a = vv := ⟨_, rfl⟩
  rw [hx] at Cx ox
  have Cm : Hid (∀ w, Calls Tryz.prog 42 #[.int .u64 (x : Nat), .int .u64 (x : Nat)] w (Gives w (.int .u64 (Nm.dMul x x : Nat)))) := Lib.hid (fun w => mul_any x x ox ox w)
  have om : Nm.dMul x x < 2 ^ 64 := (Nm.ok_mul _ _).1
  obtain ⟨m, hm⟩ : ∃ vv, Nm.dMul x x = vv := ⟨_, rfl⟩
  rw [hm] at Cm om
  have Cu : Hid (∀ w, Calls Tryz.prog 41 #[.int .u64 (m : Nat), .int .u64 4607182418800017408] w (Gives w (.int .u64 (Nm.dAdd m 4607182418800017408 : Nat)))) := Lib.hid (fun w => add_any m 4607182418800017408 om (by decide) w)
  have ou : Nm.dAdd m 4607182418800017408 < 2 ^ 64 := (Nm.ok_add _ _ om (by decide)).1
  obtain ⟨u, hu⟩ : ∃ vv, Nm.dAdd m 4607182418800017408 = vv := ⟨_, rfl⟩
  rw [hu] at Cu ou
  have Cr : Hid (∀ w, Calls Tryz.prog 80 #[.int .u64 (u : Nat)] w (Gives w (.int .u64 (Nm.dSqrt u : Nat)))) := Lib.hid (fun w => sqrt_any u ou w)
  have or : Nm.dSqrt u < 2 ^ 64 := (Nm.ok_sqrt _ ou).1
  obtain ⟨r, hr⟩ : ∃ vv, Nm.dSqrt u = vv := ⟨_, rfl⟩
  rw [hr] at Cr or
  have Cq : Hid (∀ w, Calls Tryz.prog 41 #[.int .u64 (x : Nat), .int .u64 (r : Nat)] w (Gives w (.int .u64 (Nm.dAdd x r : Nat)))) := Lib.hid (fun w => add_any x r ox or w)
  have oq : Nm.dAdd x r < 2 ^ 64 := (Nm.ok_add _ _ ox or).1
  obtain ⟨q, hq⟩ : ∃ vv, Nm.dAdd x r = vv := ⟨_, rfl⟩
  rw [hq] at Cq oq
  have Cy : Hid (∀ w, Calls Tryz.prog 7 #[.int .u64 (q : Nat)] w (Gives w (.int .u64 (dLn q : Nat)))) := Lib.hid (fun w => ln_any q oq w)
  have oy : dLn q < 2 ^ 64 := dLn_ok _ oq
  obtain ⟨y, hy⟩ : ∃ vv, dLn q = vv := ⟨_, rfl⟩
  rw [hy] at Cy oy
  have CE : Hid (∀ w, Calls Tryz.prog 77 #[.int .u64 (y : Nat)] w (Gives w (.int .u64 (Nm.dNeg y : Nat)))) := Lib.hid (fun w => (neg_any y oy w).mono fun _ _ h => gives_of h)
  have oE : Nm.dNeg y < 2 ^ 64 := Nm.neg_lt _ oy
  obtain ⟨E, hE⟩ : ∃ vv, Nm.dNeg y = vv := ⟨_, rfl⟩
  rw [hE] at CE oE
  obtain ⟨R, hR⟩ : ∃ x, dAsinh a = x := ⟨_, rfl⟩
  rw [hR]
  unfold dAsinh yAsinh at hR
  rw [hia, hsg, hx, hm, hu, hr, hq, hy, hE] at hR
  cases ia
  · cases sg
    · simp only [Bool.false_eq_true, if_false, if_true] at hR
      subst hR
      clear hia hsg hx hm hu hr hq hy hE ox om ou or oq oy oE ha
      have BB := Lib.hid (Below.refl w.heap.size w)
      go_enter Tryz.func19, Tryz.ntmps19
      go_wp2_with fail
      refine (Cia.out _).mono ?_
      rintro e' wm1 ⟨rfl, hb⟩
      have BB := Lib.hid (BB.out.trans (hb.mono BB.out.size))
      clear hb
      go_wp2_with fail
      refine (Cx.out _).mono ?_
      rintro e' wm2 ⟨rfl, hb⟩
      have BB := Lib.hid (BB.out.trans (hb.mono BB.out.size))
      clear hb
      go_wp2_with fail
      refine (Cm.out _).mono ?_
      rintro e' wm3 ⟨rfl, hb⟩
      have BB := Lib.hid (BB.out.trans (hb.mono BB.out.size))
      clear hb
      go_wp2_with fail
      refine (Cu.out _).mono ?_
      rintro e' wm4 ⟨rfl, hb⟩
      have BB := Lib.hid (BB.out.trans (hb.mono BB.out.size))
      clear hb
      go_wp2_with fail
      refine (Cr.out _).mono ?_
      rintro e' wm5 ⟨rfl, hb⟩
      have BB := Lib.hid (BB.out.trans (hb.mono BB.out.size))
      clear hb
      go_wp2_with fail
      refine (Cq.out _).mono ?_
      rintro e' wm6 ⟨rfl, hb⟩
      have BB := Lib.hid (BB.out.trans (hb.mono BB.out.size))
      clear hb
      go_wp2_with fail
      refine (Cy.out _).mono ?_
      rintro e' wm7 ⟨rfl, hb⟩
      have BB := Lib.hid (BB.out.trans (hb.mono BB.out.size))
      clear hb
      go_wp2_with fail
      refine (Csg.out _).mono ?_
      rintro e' wm8 ⟨rfl, hb⟩
      have BB := Lib.hid (BB.out.trans (hb.mono BB.out.size))
      clear hb
      go_wp2
      go_ret
      exact ⟨rfl, BB.out⟩
    · simp only [Bool.false_eq_true, if_false, if_true] at hR
      subst hR
      clear hia hsg hx hm hu hr hq hy hE ox om ou or oq oy oE ha
      have BB := Lib.hid (Below.refl w.heap.size w)
      go_enter Tryz.func19, Tryz.ntmps19
      go_wp2_with fail
      refine (Cia.out _).mono ?_
      rintro e' wm1 ⟨rfl, hb⟩
      have BB := Lib.hid (BB.out.trans (hb.mono BB.out.size))
      clear hb
      go_wp2_with fail
      refine (Cx.out _).mono ?_
      rintro e' wm2 ⟨rfl, hb⟩
      have BB := Lib.hid (BB.out.trans (hb.mono BB.out.size))
      clear hb
      go_wp2_with fail
      refine (Cm.out _).mono ?_
      rintro e' wm3 ⟨rfl, hb⟩
      have BB := Lib.hid (BB.out.trans (hb.mono BB.out.size))
      clear hb
      go_wp2_with fail
      refine (Cu.out _).mono ?_
      rintro e' wm4 ⟨rfl, hb⟩
      have BB := Lib.hid (BB.out.trans (hb.mono BB.out.size))
      clear hb
      go_wp2_with fail
      refine (Cr.out _).mono ?_
      rintro e' wm5 ⟨rfl, hb⟩
      have BB := Lib.hid (BB.out.trans (hb.mono BB.out.size))
      clear hb
      go_wp2_with fail
      refine (Cq.out _).mono ?_
      rintro e' wm6 ⟨rfl, hb⟩
      have BB := Lib.hid (BB.out.trans (hb.mono BB.out.size))
      clear hb
      go_wp2_with fail
      refine (Cy.out _).mono ?_
      rintro e' wm7 ⟨rfl, hb⟩
      have BB := Lib.hid (BB.out.trans (hb.mono BB.out.size))
      clear hb
      go_wp2_with fail
      refine (Csg.out _).mono ?_
      rintro e' wm8 ⟨rfl, hb⟩
      have BB := Lib.hid (BB.out.trans (hb.mono BB.out.size))
      clear hb
      go_wp2_with fail
      refine (CE.out _).mono ?_
      rintro e' wm9 ⟨rfl, hb⟩
      have BB := Lib.hid (BB.out.trans (hb.mono BB.out.size))
      clear hb
      go_wp2
      go_ret
      exact ⟨rfl, BB.out⟩
  · simp only [Bool.false_eq_true, if_false, if_true] at hR
    subst hR
    clear hia hsg hx hm hu hr hq hy hE ox om ou or oq oy oE ha
    have BB := Lib.hid (Below.refl w.heap.size w)
    go_enter Tryz.func19, Tryz.ntmps19
    go_wp2_with fail
    refine (Cia.out _).mono ?_
    rintro e' wm1 ⟨rfl, hb⟩
    have BB := Lib.hid (BB.out.trans (hb.mono BB.out.size))
    clear hb
    go_wp2
    go_ret
    exact ⟨rfl, BB.out⟩
set_option maxHeartbeats 4000000 in
theorem rasinh_any (a : Nat) (ha : a < 2 ^ 64) (w : World) : Calls Tryz.prog 20 #[.int .u64 (a : Int)] w (Gives w (.int .u64 (dAsinh a : Nat))) := by
  have Cna : Hid (∀ w, Calls Tryz.prog 50 #[.int .u64 (a : Nat)] w (Gives w (.bool (Nm.isNaN a)))) := Lib.hid (fun w => (rnan_any a ha w).mono fun _ _ h => gives_of h)
  obtain ⟨na, hna⟩ : ∃ vv, Nm.isNaN a = vv := ⟨_, rfl⟩
  rw [hna] at Cna
  have Cia : Hid (∀ w, Calls Tryz.prog 72 #[.int .u64 (a : Nat)] w (Gives w (.bool (Nm.isInf a)))) := Lib.hid (fun w => (rinf_any a ha w).mono fun _ _ h => gives_of h)
  obtain ⟨ia, hia⟩ : ∃ vv, Nm.isInf a = vv := ⟨_, rfl⟩
  rw [hia] at Cia
  have Csg : Hid (∀ w, Calls Tryz.prog 71 #[.int .u64 (a : Nat)] w (Gives w (.bool (Nm.neg a)))) := Lib.hid (fun w => (rsign_any a ha w).mono fun _ _ h => gives_of h)
  obtain ⟨sg, hsg⟩ : ∃ vv, Nm.neg a = vv := ⟨_, rfl⟩
  rw [hsg] at Csg
  have Cx : Hid (∀ w, Calls Tryz.prog 81 #[.int .u64 (a : Nat)] w (Gives w (.int .u64 (Nm.dAbs a : Nat)))) := Lib.hid (fun w => (rabs_any a ha w).mono fun _ _ h => gives_of h)
  have ox : Nm.dAbs a < 2 ^ 64 := (Nm.ok_abs _ ha).1
  obtain ⟨x, hx⟩ : ∃ vv, Nm.dAbs a = vv := ⟨_, rfl⟩
  rw [hx] at Cx ox
  have Cm : Hid (∀ w, Calls Tryz.prog 55 #[.int .u64 (x : Nat), .int .u64 (x : Nat)] w (Gives w (.int .u64 (Nm.dMul x x : Nat)))) := Lib.hid (fun w => rmul_any x x ox ox w)
  have om : Nm.dMul x x < 2 ^ 64 := (Nm.ok_mul _ _).1
  obtain ⟨m, hm⟩ : ∃ vv, Nm.dMul x x = vv := ⟨_, rfl⟩
  rw [hm] at Cm om
  have Cu : Hid (∀ w, Calls Tryz.prog 54 #[.int .u64 (m : Nat), .int .u64 4607182418800017408] w (Gives w (.int .u64 (Nm.dAdd m 4607182418800017408 : Nat)))) := Lib.hid (fun w => radd_any m 4607182418800017408 om (by decide) w)
  have ou : Nm.dAdd m 4607182418800017408 < 2 ^ 64 := (Nm.ok_add _ _ om (by decide)).1
  obtain ⟨u, hu⟩ : ∃ vv, Nm.dAdd m 4607182418800017408 = vv := ⟨_, rfl⟩
  rw [hu] at Cu ou
  have Cr : Hid (∀ w, Calls Tryz.prog 83 #[.int .u64 (u : Nat)] w (Gives w (.int .u64 (Nm.dSqrt u : Nat)))) := Lib.hid (fun w => rsqrt_any u ou w)
  have or : Nm.dSqrt u < 2 ^ 64 := (Nm.ok_sqrt _ ou).1
  obtain ⟨r, hr⟩ : ∃ vv, Nm.dSqrt u = vv := ⟨_, rfl⟩
  rw [hr] at Cr or
  have Cq : Hid (∀ w, Calls Tryz.prog 54 #[.int .u64 (x : Nat), .int .u64 (r : Nat)] w (Gives w (.int .u64 (Nm.dAdd x r : Nat)))) := Lib.hid (fun w => radd_any x r ox or w)
  have oq : Nm.dAdd x r < 2 ^ 64 := (Nm.ok_add _ _ ox or).1
  obtain ⟨q, hq⟩ : ∃ vv, Nm.dAdd x r = vv := ⟨_, rfl⟩
  rw [hq] at Cq oq
  have Cy : Hid (∀ w, Calls Tryz.prog 8 #[.int .u64 (q : Nat)] w (Gives w (.int .u64 (dLn q : Nat)))) := Lib.hid (fun w => rln_any q oq w)
  have oy : dLn q < 2 ^ 64 := dLn_ok _ oq
  obtain ⟨y, hy⟩ : ∃ vv, dLn q = vv := ⟨_, rfl⟩
  rw [hy] at Cy oy
  have CE : Hid (∀ w, Calls Tryz.prog 82 #[.int .u64 (y : Nat), .int .u64 (a : Nat)] w (Gives w (.int .u64 (dSigned y a : Nat)))) := Lib.hid (fun w => signed_any y a oy ha w)
  obtain ⟨E, hE⟩ : ∃ vv, dSigned y a = vv := ⟨_, rfl⟩
  rw [hE] at CE
  have hE2 := hE
  unfold dSigned at hE2
  rw [hsg] at hE2
  obtain ⟨R, hR⟩ : ∃ x, dAsinh a = x := ⟨_, rfl⟩
  have hnn : na = true → R = Nm.nan := fun h => by rw [← hR]; exact dAsinh_nan (by rw [hna, h])
  rw [hR]
  unfold dAsinh yAsinh at hR
  rw [hia, hsg, hx, hm, hu, hr, hq, hy, hE2] at hR
  cases na
  · cases ia
    · simp only [Bool.false_eq_true, if_false, if_true] at hR
      subst hR
      clear hna hia hsg hx hm hu hr hq hy ox om ou or oq oy ha hnn hE hE2
      have BB := Lib.hid (Below.refl w.heap.size w)
      go_enter Tryz.func20, Tryz.ntmps20
      go_wp2_with fail
      refine (Cna.out _).mono ?_
      rintro e' wm1 ⟨rfl, hb⟩
      have BB := Lib.hid (BB.out.trans (hb.mono BB.out.size))
      clear hb
      go_wp2_with fail
      refine (Cia.out _).mono ?_
      rintro e' wm2 ⟨rfl, hb⟩
      have BB := Lib.hid (BB.out.trans (hb.mono BB.out.size))
      clear hb
      go_wp2_with fail
      refine (Cx.out _).mono ?_
      rintro e' wm3 ⟨rfl, hb⟩
      have BB := Lib.hid (BB.out.trans (hb.mono BB.out.size))
      clear hb
      go_wp2_with fail
      refine (Cm.out _).mono ?_
      rintro e' wm4 ⟨rfl, hb⟩
      have BB := Lib.hid (BB.out.trans (hb.mono BB.out.size))
      clear hb
      go_wp2_with fail
      refine (Cu.out _).mono ?_
      rintro e' wm5 ⟨rfl, hb⟩
      have BB := Lib.hid (BB.out.trans (hb.mono BB.out.size))
      clear hb
      go_wp2_with fail
      refine (Cr.out _).mono ?_
      rintro e' wm6 ⟨rfl, hb⟩
      have BB := Lib.hid (BB.out.trans (hb.mono BB.out.size))
      clear hb
      go_wp2_with fail
      refine (Cq.out _).mono ?_
      rintro e' wm7 ⟨rfl, hb⟩
      have BB := Lib.hid (BB.out.trans (hb.mono BB.out.size))
      clear hb
      go_wp2_with fail
      refine (Cy.out _).mono ?_
      rintro e' wm8 ⟨rfl, hb⟩
      have BB := Lib.hid (BB.out.trans (hb.mono BB.out.size))
      clear hb
      go_wp2_with fail
      refine (CE.out _).mono ?_
      rintro e' wm9 ⟨rfl, hb⟩
      have BB := Lib.hid (BB.out.trans (hb.mono BB.out.size))
      clear hb
      go_wp2
      go_ret
      exact ⟨rfl, BB.out⟩
    · simp only [Bool.false_eq_true, if_false, if_true] at hR
      subst hR
      clear hna hia hsg hx hm hu hr hq hy ox om ou or oq oy ha hnn hE hE2
      have BB := Lib.hid (Below.refl w.heap.size w)
      go_enter Tryz.func20, Tryz.ntmps20
      go_wp2_with fail
      refine (Cna.out _).mono ?_
      rintro e' wm1 ⟨rfl, hb⟩
      have BB := Lib.hid (BB.out.trans (hb.mono BB.out.size))
      clear hb
      go_wp2_with fail
      refine (Cia.out _).mono ?_
      rintro e' wm2 ⟨rfl, hb⟩
      have BB := Lib.hid (BB.out.trans (hb.mono BB.out.size))
      clear hb
      go_wp2
      go_ret
      exact ⟨rfl, BB.out⟩
  · obtain rfl := hnn rfl
    clear hR
    clear hna hia hsg hx hm hu hr hq hy ox om ou or oq oy ha hnn hE hE2
    have BB := Lib.hid (Below.refl w.heap.size w)
    go_enter Tryz.func20, Tryz.ntmps20
    go_wp2_with fail
    refine (Cna.out _).mono ?_
    rintro e' wm1 ⟨rfl, hb⟩
    have BB := Lib.hid (BB.out.trans (hb.mono BB.out.size))
    clear hb
    go_wp2
    go_ret
    exact ⟨rfl, BB.out⟩
end Go.Proofs.YtffohkpohgkglaaGreat
