/-
  CURVES: Sin, Cos, Tan: the code's and the document's.
-/
import Derived.Test.YtffohkpohgkglaaGreatCurveU
import Derived.Test.YtffohkpohgkglaaGreatRefG
import Derived.Test.YtffohkpohgkglaaGreatWalkN
namespace Go.Proofs.YtffohkpohgkglaaGreat
set_option linter.unusedVariables false
set_option linter.unusedSimpArgs false
open Go.RowKit
theorem and3 (x : Int) : bits .and .i64 x 3 = x % 4 := by
  have h : (BitVec.ofInt 64 x &&& BitVec.ofInt 64 3).toNat = (x % 4).toNat := by
    rw [BitVec.toNat_and, BitVec.toNat_ofInt]
    have e : (BitVec.ofInt 64 3).toNat = 3 := by decide
    rw [e, show (3 : Nat) = 2 ^ 2 - 1 from rfl, Nat.and_two_pow_sub_one_eq_mod]
    omega
  show IntKind.i64.wrap ((BitVec.ofInt 64 x &&& BitVec.ofInt 64 3).toNat : Int) = _
  rw [h, IntKind.wrap_i64]
  omega
def dTurn (a : Nat) : Nat := if dLt (dInt (1000)) (Nm.dAbs a) then Nm.dMod a 4618760256179416344 else a
def dKk (x : Nat) : Nat := Nm.dFloor (Nm.dAdd (Nm.dMul x 4603909380684499075) 4602678819172646912)
def dRr (x : Nat) : Nat := Nm.dSub (Nm.dSub (Nm.dSub x (Nm.dMul (dKk x) 4609753056924401664)) (Nm.dMul (dKk x) 4454258360616747008)) (Nm.dMul (dKk x) 4297306550709518336)
def dSel (q : Int) (r : Nat) : Nat := if q = 0 then dSinOf r else if q = 1 then dCosOf r else if q = 2 then Nm.dNeg (dSinOf r) else Nm.dNeg (dCosOf r)
def dQuart (a : Nat) (m : Int) : Nat := if Nm.isNaN a || Nm.isInf a then Nm.nan else dSel ((Nm.dWhole (dKk (dTurn a)) + m) % 4) (dRr (dTurn a))
def dTan (a : Nat) : Nat := Nm.dDiv (dQuart a 0) (dQuart a 1)
theorem dSinOf_ok (r : Nat) : dSinOf r < 2 ^ 64 := (Nm.ok_mul _ _).1
theorem dCosOf_ok (r : Nat) : dCosOf r < 2 ^ 64 := dSerS_ok _ _ _
theorem dSel_ok (q : Int) (r : Nat) : dSel q r < 2 ^ 64 := by
  unfold dSel
  split
  · exact dSinOf_ok _
  · split
    · exact dCosOf_ok _
    · split
      · exact Nm.neg_lt _ (dSinOf_ok _)
      · exact Nm.neg_lt _ (dCosOf_ok _)
theorem dQuart_ok (a : Nat) (m : Int) : dQuart a m < 2 ^ 64 := by
  unfold dQuart
  split
  · decide
  · exact dSel_ok _ _
theorem dTurn_ok (a : Nat) (ha : a < 2 ^ 64) : dTurn a < 2 ^ 64 := by
  unfold dTurn
  split
  · exact (Nm.ok_mod _ _ ha).1
  · exact ha
theorem dRr_ok (x : Nat) (hx : x < 2 ^ 64) : dRr x < 2 ^ 64 := sub_ok _ _ (sub_ok _ _ (sub_ok _ _ hx (Nm.ok_mul _ _).1) (Nm.ok_mul _ _).1) (Nm.ok_mul _ _).1
theorem sel0 (r : Nat) : dSel 0 r = dSinOf r := by unfold dSel; rw [if_pos rfl]
theorem sel1 (r : Nat) : dSel 1 r = dCosOf r := by unfold dSel; rw [if_neg (by decide), if_pos rfl]
theorem sel2 (r : Nat) : dSel 2 r = Nm.dNeg (dSinOf r) := by unfold dSel; rw [if_neg (by decide), if_neg (by decide), if_pos rfl]
theorem sel3 (r : Nat) : dSel 3 r = Nm.dNeg (dCosOf r) := by unfold dSel; rw [if_neg (by decide), if_neg (by decide), if_neg (by decide)]
theorem quart_nan {a : Nat} (m : Int) (h : (Nm.isNaN a || Nm.isInf a) = true) : dQuart a m = Nm.nan := by unfold dQuart; rw [if_pos h]
theorem quart_go {a : Nat} (m : Int) (h1 : Nm.isNaN a = false) (h2 : Nm.isInf a = false) : dQuart a m = dSel ((Nm.dWhole (dKk (dTurn a)) + m) % 4) (dRr (dTurn a)) := by
  unfold dQuart
  rw [h1, h2, Bool.or_false, if_neg (by decide)]
theorem turn_big {a : Nat} {b : Bool} (h : dLt (dInt (1000)) (Nm.dAbs a) = b) : dTurn a = if b then Nm.dMod a 4618760256179416344 else a := by
  unfold dTurn
  rw [h]
theorem tmod4 (n : Int) : ∃ T : Int, n.tmod 4 = T ∧ -3 ≤ T ∧ T ≤ 3 ∧ (T + 4) % 4 = n % 4 := by
  refine ⟨_, rfl, ?_⟩
  by_cases h : 0 ≤ n
  · rw [Int.tmod_eq_emod_of_nonneg h]
    omega
  · have e : n.tmod 4 = -((-n) % 4) := by rw [← Int.tmod_eq_emod_of_nonneg (by omega : 0 ≤ -n), Int.neg_tmod, Int.neg_neg]
    rw [e]
    omega
set_option maxHeartbeats 8000000 in
theorem ahead_any (a : Nat) (rt : Int) (hrt1 : 0 ≤ rt) (hrt2 : rt ≤ 1) (ha : a < 2 ^ 64) (w : World) : Calls Tryz.prog 85 #[.int .u64 (a : Int), .int .i64 rt] w (Gives w (.int .u64 (dQuart a rt : Nat))) := by
  have Cna : Hid (∀ w, Calls Tryz.prog 38 #[.int .u64 (a : Nat)] w (Gives w (.bool (Nm.isNaN a)))) := Lib.hid (fun w => (nannum_any a ha w).mono fun _ _ h => gives_of h)
  obtain ⟨na, hna⟩ : ∃ vv, Nm.isNaN a = vv := ⟨_, rfl⟩
  rw [hna] at Cna
  have Cia : Hid (∀ w, Calls Tryz.prog 64 #[.int .u64 (a : Nat)] w (Gives w (.bool (Nm.isInf a)))) := Lib.hid (fun w => (infnum_any a ha w).mono fun _ _ h => gives_of h)
  obtain ⟨ia, hia⟩ : ∃ vv, Nm.isInf a = vv := ⟨_, rfl⟩
  rw [hia] at Cia
  have Cth : Hid (∀ w, Calls Tryz.prog 47 #[.int .i64 (1000)] w (Gives w (.int .u64 (dInt (1000) : Nat)))) := Lib.hid (fun w => (int_any (1000) w).mono fun _ _ h => gives_of h)
  have oth : dInt (1000) < 2 ^ 64 := (ok_int _).1
  obtain ⟨th, hth⟩ : ∃ vv, dInt (1000) = vv := ⟨_, rfl⟩
  rw [hth] at Cth oth
  have Cx : Hid (∀ w, Calls Tryz.prog 79 #[.int .u64 (a : Nat)] w (Gives w (.int .u64 (Nm.dAbs a : Nat)))) := Lib.hid (fun w => (abs_any a ha w).mono fun _ _ h => gives_of h)
  have ox : Nm.dAbs a < 2 ^ 64 := (Nm.ok_abs _ ha).1
  obtain ⟨x, hx⟩ : ∃ vv, Nm.dAbs a = vv := ⟨_, rfl⟩
  rw [hx] at Cx ox
  have Cbig : Hid (∀ w, Calls Tryz.prog 39 #[.int .u64 (th : Nat), .int .u64 (x : Nat)] w (Gives w (.bool (dLt th x)))) := Lib.hid (fun w => (isless_any th x oth ox w).mono fun _ _ h => gives_of h)
  obtain ⟨big, hbig⟩ : ∃ vv, dLt th x = vv := ⟨_, rfl⟩
  rw [hbig] at Cbig
  have hbig' : dLt (dInt (1000)) (Nm.dAbs a) = big := by rw [hth, hx]; exact hbig
  obtain ⟨R, hR⟩ : ∃ vv, dQuart a rt = vv := ⟨_, rfl⟩
  rw [hR]
  cases na
  · cases ia
    · cases big
      · have Cm1 : Hid (∀ w, Calls Tryz.prog 42 #[.int .u64 (a : Nat), .int .u64 4603909380684499075] w (Gives w (.int .u64 (Nm.dMul a 4603909380684499075 : Nat)))) := Lib.hid (fun w => mul_any a 4603909380684499075 ha (by decide) w)
        have om1 : Nm.dMul a 4603909380684499075 < 2 ^ 64 := (Nm.ok_mul _ _).1
        obtain ⟨m1, hm1⟩ : ∃ vv, Nm.dMul a 4603909380684499075 = vv := ⟨_, rfl⟩
        rw [hm1] at Cm1 om1
        have Cm2 : Hid (∀ w, Calls Tryz.prog 41 #[.int .u64 (m1 : Nat), .int .u64 4602678819172646912] w (Gives w (.int .u64 (Nm.dAdd m1 4602678819172646912 : Nat)))) := Lib.hid (fun w => add_any m1 4602678819172646912 om1 (by decide) w)
        have om2 : Nm.dAdd m1 4602678819172646912 < 2 ^ 64 := (Nm.ok_add _ _ om1 (by decide)).1
        obtain ⟨m2, hm2⟩ : ∃ vv, Nm.dAdd m1 4602678819172646912 = vv := ⟨_, rfl⟩
        rw [hm2] at Cm2 om2
        have Ck : Hid (∀ w, Calls Tryz.prog 40 #[.int .u64 (m2 : Nat)] w (Gives w (.int .u64 (Nm.dFloor m2 : Nat)))) := Lib.hid (fun w => floor_any m2 om2 w)
        have ok : Nm.dFloor m2 < 2 ^ 64 := (Nm.ok_step _ _ om2).1
        obtain ⟨k, hk⟩ : ∃ vv, Nm.dFloor m2 = vv := ⟨_, rfl⟩
        rw [hk] at Ck ok
        have Cy1 : Hid (∀ w, Calls Tryz.prog 42 #[.int .u64 (k : Nat), .int .u64 4609753056924401664] w (Gives w (.int .u64 (Nm.dMul k 4609753056924401664 : Nat)))) := Lib.hid (fun w => mul_any k 4609753056924401664 ok (by decide) w)
        have oy1 : Nm.dMul k 4609753056924401664 < 2 ^ 64 := (Nm.ok_mul _ _).1
        obtain ⟨y1, hy1⟩ : ∃ vv, Nm.dMul k 4609753056924401664 = vv := ⟨_, rfl⟩
        rw [hy1] at Cy1 oy1
        have Cz1 : Hid (∀ w, Calls Tryz.prog 43 #[.int .u64 (a : Nat), .int .u64 (y1 : Nat)] w (Gives w (.int .u64 (Nm.dSub a y1 : Nat)))) := Lib.hid (fun w => sub_any a y1 ha oy1 w)
        have oz1 : Nm.dSub a y1 < 2 ^ 64 := sub_ok _ _ ha oy1
        obtain ⟨z1, hz1⟩ : ∃ vv, Nm.dSub a y1 = vv := ⟨_, rfl⟩
        rw [hz1] at Cz1 oz1
        have Cy2 : Hid (∀ w, Calls Tryz.prog 42 #[.int .u64 (k : Nat), .int .u64 4454258360616747008] w (Gives w (.int .u64 (Nm.dMul k 4454258360616747008 : Nat)))) := Lib.hid (fun w => mul_any k 4454258360616747008 ok (by decide) w)
        have oy2 : Nm.dMul k 4454258360616747008 < 2 ^ 64 := (Nm.ok_mul _ _).1
        obtain ⟨y2, hy2⟩ : ∃ vv, Nm.dMul k 4454258360616747008 = vv := ⟨_, rfl⟩
        rw [hy2] at Cy2 oy2
        have Cz2 : Hid (∀ w, Calls Tryz.prog 43 #[.int .u64 (z1 : Nat), .int .u64 (y2 : Nat)] w (Gives w (.int .u64 (Nm.dSub z1 y2 : Nat)))) := Lib.hid (fun w => sub_any z1 y2 oz1 oy2 w)
        have oz2 : Nm.dSub z1 y2 < 2 ^ 64 := sub_ok _ _ oz1 oy2
        obtain ⟨z2, hz2⟩ : ∃ vv, Nm.dSub z1 y2 = vv := ⟨_, rfl⟩
        rw [hz2] at Cz2 oz2
        have Cy3 : Hid (∀ w, Calls Tryz.prog 42 #[.int .u64 (k : Nat), .int .u64 4297306550709518336] w (Gives w (.int .u64 (Nm.dMul k 4297306550709518336 : Nat)))) := Lib.hid (fun w => mul_any k 4297306550709518336 ok (by decide) w)
        have oy3 : Nm.dMul k 4297306550709518336 < 2 ^ 64 := (Nm.ok_mul _ _).1
        obtain ⟨y3, hy3⟩ : ∃ vv, Nm.dMul k 4297306550709518336 = vv := ⟨_, rfl⟩
        rw [hy3] at Cy3 oy3
        have Cr : Hid (∀ w, Calls Tryz.prog 43 #[.int .u64 (z2 : Nat), .int .u64 (y3 : Nat)] w (Gives w (.int .u64 (Nm.dSub z2 y3 : Nat)))) := Lib.hid (fun w => sub_any z2 y3 oz2 oy3 w)
        have or : Nm.dSub z2 y3 < 2 ^ 64 := sub_ok _ _ oz2 oy3
        obtain ⟨r, hr⟩ : ∃ vv, Nm.dSub z2 y3 = vv := ⟨_, rfl⟩
        rw [hr] at Cr or
        have CW : Hid (∀ w, Calls Tryz.prog 48 #[.int .u64 (k : Nat)] w (WholePost w (Nm.dWhole k) (Nm.fits k))) := Lib.hid (fun w => whole_any k ok w)
        obtain ⟨n, hn⟩ : ∃ vv, Nm.dWhole k = vv := ⟨_, rfl⟩
        obtain ⟨fk, hfk⟩ : ∃ vv, Nm.fits k = vv := ⟨_, rfl⟩
        rw [hn, hfk] at CW
        have hA1 : dTurn a = a := by rw [turn_big hbig']; rfl
        have hk1 : dKk a = k := by unfold dKk; rw [hm1, hm2, hk]
        have hr1 : dRr a = r := by unfold dRr; rw [hk1, hy1, hz1, hy2, hz2, hy3, hr]
        have CS : Hid (∀ w, Calls Tryz.prog 113 #[.int .u64 (r : Nat)] w (Gives w (.int .u64 (dSinOf r : Nat)))) := Lib.hid (fun w => sineof_any r or w)
        have oS : dSinOf r < 2 ^ 64 := dSinOf_ok _
        obtain ⟨S, hS⟩ : ∃ vv, dSinOf r = vv := ⟨_, rfl⟩
        rw [hS] at CS oS
        have CD : Hid (∀ w, Calls Tryz.prog 114 #[.int .u64 (r : Nat)] w (Gives w (.int .u64 (dCosOf r : Nat)))) := Lib.hid (fun w => cosineof_any r or w)
        have oD : dCosOf r < 2 ^ 64 := dCosOf_ok _
        obtain ⟨D, hD⟩ : ∃ vv, dCosOf r = vv := ⟨_, rfl⟩
        rw [hD] at CD oD
        have CNS : Hid (∀ w, Calls Tryz.prog 77 #[.int .u64 (S : Nat)] w (Gives w (.int .u64 (Nm.dNeg S : Nat)))) := Lib.hid (fun w => (neg_any S oS w).mono fun _ _ h => gives_of h)
        have oNS : Nm.dNeg S < 2 ^ 64 := Nm.neg_lt _ oS
        obtain ⟨NS, hNS⟩ : ∃ vv, Nm.dNeg S = vv := ⟨_, rfl⟩
        rw [hNS] at CNS oNS
        have CND : Hid (∀ w, Calls Tryz.prog 77 #[.int .u64 (D : Nat)] w (Gives w (.int .u64 (Nm.dNeg D : Nat)))) := Lib.hid (fun w => (neg_any D oD w).mono fun _ _ h => gives_of h)
        have oND : Nm.dNeg D < 2 ^ 64 := Nm.neg_lt _ oD
        obtain ⟨ND, hND⟩ : ∃ vv, Nm.dNeg D = vv := ⟨_, rfl⟩
        rw [hND] at CND oND
        rw [quart_go rt hna hia, hA1, hk1, hr1, hn] at hR
        obtain ⟨q, hq⟩ : ∃ q, (n + rt) % 4 = q := ⟨_, rfl⟩
        rw [hq] at hR
        have hq4 : q = 0 ∨ q = 1 ∨ q = 2 ∨ q = 3 := by omega
        obtain ⟨M, hM⟩ : ∃ M, IntKind.i64.wrap (n + rt) = M := ⟨_, rfl⟩
        have eW : bits .and .i64 M 3 = q := by rw [and3]; rw [IntKind.wrap_i64] at hM; omega
        have f0 : Hid (q = 0 → S = R) := Lib.hid (by rintro rfl; rw [← hR, sel0, hS])
        have f1 : Hid (q = 1 → D = R) := Lib.hid (by rintro rfl; rw [← hR, sel1, hD])
        have f2 : Hid (q = 2 → NS = R) := Lib.hid (by rintro rfl; rw [← hR, sel2, hS, hNS])
        have f3 : Hid (q = 3 → ND = R) := Lib.hid (by rintro rfl; rw [← hR, sel3, hD, hND])
        have HQ := Lib.hid hq4
        clear hna hia hth hx hbig hm1 hm2 hk hy1 hz1 hy2 hz2 hy3 hr hS hD hNS hND oth ox om1 om2 ok oy1 oz1 oy2 oz2 oy3 or oS oD oNS oND ha hbig' hR hn hfk hA1 hk1 hr1 hq hq4 hrt1 hrt2
        have BB := Lib.hid (Below.refl w.heap.size w)
        go_enter Tryz.func85, Tryz.ntmps85
        go_wp2_with fail
        refine (Cna.out _).mono ?_
        rintro e' wm1 ⟨rfl, hb⟩
        have BB := Lib.hid (BB.out.trans (hb.mono BB.out.size))
        clear hb
        go_wp2_with fail
        refine (Cia.out _).mono ?_
        rintro e' wm2 ⟨rfl, hb⟩
        have BB := Lib.hid (BB.out.trans (hb.mono BB.out.size))
        clear hb
        go_wp2_with fail
        refine (Cth.out _).mono ?_
        rintro e' wm3 ⟨rfl, hb⟩
        have BB := Lib.hid (BB.out.trans (hb.mono BB.out.size))
        clear hb
        go_wp2_with fail
        refine (Cx.out _).mono ?_
        rintro e' wm4 ⟨rfl, hb⟩
        have BB := Lib.hid (BB.out.trans (hb.mono BB.out.size))
        clear hb
        go_wp2_with fail
        refine (Cbig.out _).mono ?_
        rintro e' wm5 ⟨rfl, hb⟩
        have BB := Lib.hid (BB.out.trans (hb.mono BB.out.size))
        clear hb
        go_wp2_with fail
        refine (Cm1.out _).mono ?_
        rintro e' wm6 ⟨rfl, hb⟩
        have BB := Lib.hid (BB.out.trans (hb.mono BB.out.size))
        clear hb
        go_wp2_with fail
        refine (Cm2.out _).mono ?_
        rintro e' wm7 ⟨rfl, hb⟩
        have BB := Lib.hid (BB.out.trans (hb.mono BB.out.size))
        clear hb
        go_wp2_with fail
        refine (Ck.out _).mono ?_
        rintro e' wm8 ⟨rfl, hb⟩
        have BB := Lib.hid (BB.out.trans (hb.mono BB.out.size))
        clear hb
        go_wp2_with fail
        refine (Cy1.out _).mono ?_
        rintro e' wm9 ⟨rfl, hb⟩
        have BB := Lib.hid (BB.out.trans (hb.mono BB.out.size))
        clear hb
        go_wp2_with fail
        refine (Cz1.out _).mono ?_
        rintro e' wm10 ⟨rfl, hb⟩
        have BB := Lib.hid (BB.out.trans (hb.mono BB.out.size))
        clear hb
        go_wp2_with fail
        refine (Cy2.out _).mono ?_
        rintro e' wm11 ⟨rfl, hb⟩
        have BB := Lib.hid (BB.out.trans (hb.mono BB.out.size))
        clear hb
        go_wp2_with fail
        refine (Cz2.out _).mono ?_
        rintro e' wm12 ⟨rfl, hb⟩
        have BB := Lib.hid (BB.out.trans (hb.mono BB.out.size))
        clear hb
        go_wp2_with fail
        refine (Cy3.out _).mono ?_
        rintro e' wm13 ⟨rfl, hb⟩
        have BB := Lib.hid (BB.out.trans (hb.mono BB.out.size))
        clear hb
        go_wp2_with fail
        refine (Cr.out _).mono ?_
        rintro e' wm14 ⟨rfl, hb⟩
        have BB := Lib.hid (BB.out.trans (hb.mono BB.out.size))
        clear hb
        go_wp2_with fail
        refine (CW.out _).mono ?_
        rintro e' wm15 ⟨rfl, hb⟩
        have BB := Lib.hid (BB.out.trans (hb.mono BB.out.size))
        clear hb
        rcases HQ.out with rfl | rfl | rfl | rfl
        · obtain rfl := f0.out rfl
          clear f0 f1 f2 f3 HQ
          go_wp2_with fail
          refine (CS.out _).mono ?_
          rintro e' wm16 ⟨rfl, hb⟩
          have BB := Lib.hid (BB.out.trans (hb.mono BB.out.size))
          clear hb
          go_wp2
          go_ret
          exact ⟨rfl, BB.out⟩
        · obtain rfl := f1.out rfl
          clear f0 f1 f2 f3 HQ
          go_wp2_with fail
          refine (CD.out _).mono ?_
          rintro e' wm16 ⟨rfl, hb⟩
          have BB := Lib.hid (BB.out.trans (hb.mono BB.out.size))
          clear hb
          go_wp2
          go_ret
          exact ⟨rfl, BB.out⟩
        · obtain rfl := f2.out rfl
          clear f0 f1 f2 f3 HQ
          go_wp2_with fail
          refine (CS.out _).mono ?_
          rintro e' wm16 ⟨rfl, hb⟩
          have BB := Lib.hid (BB.out.trans (hb.mono BB.out.size))
          clear hb
          go_wp2_with fail
          refine (CNS.out _).mono ?_
          rintro e' wm17 ⟨rfl, hb⟩
          have BB := Lib.hid (BB.out.trans (hb.mono BB.out.size))
          clear hb
          go_wp2
          go_ret
          exact ⟨rfl, BB.out⟩
        · obtain rfl := f3.out rfl
          clear f0 f1 f2 f3 HQ
          go_wp2_with fail
          refine (CD.out _).mono ?_
          rintro e' wm16 ⟨rfl, hb⟩
          have BB := Lib.hid (BB.out.trans (hb.mono BB.out.size))
          clear hb
          go_wp2_with fail
          refine (CND.out _).mono ?_
          rintro e' wm17 ⟨rfl, hb⟩
          have BB := Lib.hid (BB.out.trans (hb.mono BB.out.size))
          clear hb
          go_wp2
          go_ret
          exact ⟨rfl, BB.out⟩
      · have CA : Hid (∀ w, Calls Tryz.prog 112 #[.int .u64 (a : Nat), .int .u64 4618760256179416344] w (Gives w (.int .u64 (Nm.dMod a 4618760256179416344 : Nat)))) := Lib.hid (fun w => mod_any a 4618760256179416344 ha (by decide) w)
        have oA : Nm.dMod a 4618760256179416344 < 2 ^ 64 := (Nm.ok_mod _ _ ha).1
        obtain ⟨A, hA⟩ : ∃ vv, Nm.dMod a 4618760256179416344 = vv := ⟨_, rfl⟩
        rw [hA] at CA oA
        have Cm1 : Hid (∀ w, Calls Tryz.prog 42 #[.int .u64 (A : Nat), .int .u64 4603909380684499075] w (Gives w (.int .u64 (Nm.dMul A 4603909380684499075 : Nat)))) := Lib.hid (fun w => mul_any A 4603909380684499075 oA (by decide) w)
        have om1 : Nm.dMul A 4603909380684499075 < 2 ^ 64 := (Nm.ok_mul _ _).1
        obtain ⟨m1, hm1⟩ : ∃ vv, Nm.dMul A 4603909380684499075 = vv := ⟨_, rfl⟩
        rw [hm1] at Cm1 om1
        have Cm2 : Hid (∀ w, Calls Tryz.prog 41 #[.int .u64 (m1 : Nat), .int .u64 4602678819172646912] w (Gives w (.int .u64 (Nm.dAdd m1 4602678819172646912 : Nat)))) := Lib.hid (fun w => add_any m1 4602678819172646912 om1 (by decide) w)
        have om2 : Nm.dAdd m1 4602678819172646912 < 2 ^ 64 := (Nm.ok_add _ _ om1 (by decide)).1
        obtain ⟨m2, hm2⟩ : ∃ vv, Nm.dAdd m1 4602678819172646912 = vv := ⟨_, rfl⟩
        rw [hm2] at Cm2 om2
        have Ck : Hid (∀ w, Calls Tryz.prog 40 #[.int .u64 (m2 : Nat)] w (Gives w (.int .u64 (Nm.dFloor m2 : Nat)))) := Lib.hid (fun w => floor_any m2 om2 w)
        have ok : Nm.dFloor m2 < 2 ^ 64 := (Nm.ok_step _ _ om2).1
        obtain ⟨k, hk⟩ : ∃ vv, Nm.dFloor m2 = vv := ⟨_, rfl⟩
        rw [hk] at Ck ok
        have Cy1 : Hid (∀ w, Calls Tryz.prog 42 #[.int .u64 (k : Nat), .int .u64 4609753056924401664] w (Gives w (.int .u64 (Nm.dMul k 4609753056924401664 : Nat)))) := Lib.hid (fun w => mul_any k 4609753056924401664 ok (by decide) w)
        have oy1 : Nm.dMul k 4609753056924401664 < 2 ^ 64 := (Nm.ok_mul _ _).1
        obtain ⟨y1, hy1⟩ : ∃ vv, Nm.dMul k 4609753056924401664 = vv := ⟨_, rfl⟩
        rw [hy1] at Cy1 oy1
        have Cz1 : Hid (∀ w, Calls Tryz.prog 43 #[.int .u64 (A : Nat), .int .u64 (y1 : Nat)] w (Gives w (.int .u64 (Nm.dSub A y1 : Nat)))) := Lib.hid (fun w => sub_any A y1 oA oy1 w)
        have oz1 : Nm.dSub A y1 < 2 ^ 64 := sub_ok _ _ oA oy1
        obtain ⟨z1, hz1⟩ : ∃ vv, Nm.dSub A y1 = vv := ⟨_, rfl⟩
        rw [hz1] at Cz1 oz1
        have Cy2 : Hid (∀ w, Calls Tryz.prog 42 #[.int .u64 (k : Nat), .int .u64 4454258360616747008] w (Gives w (.int .u64 (Nm.dMul k 4454258360616747008 : Nat)))) := Lib.hid (fun w => mul_any k 4454258360616747008 ok (by decide) w)
        have oy2 : Nm.dMul k 4454258360616747008 < 2 ^ 64 := (Nm.ok_mul _ _).1
        obtain ⟨y2, hy2⟩ : ∃ vv, Nm.dMul k 4454258360616747008 = vv := ⟨_, rfl⟩
        rw [hy2] at Cy2 oy2
        have Cz2 : Hid (∀ w, Calls Tryz.prog 43 #[.int .u64 (z1 : Nat), .int .u64 (y2 : Nat)] w (Gives w (.int .u64 (Nm.dSub z1 y2 : Nat)))) := Lib.hid (fun w => sub_any z1 y2 oz1 oy2 w)
        have oz2 : Nm.dSub z1 y2 < 2 ^ 64 := sub_ok _ _ oz1 oy2
        obtain ⟨z2, hz2⟩ : ∃ vv, Nm.dSub z1 y2 = vv := ⟨_, rfl⟩
        rw [hz2] at Cz2 oz2
        have Cy3 : Hid (∀ w, Calls Tryz.prog 42 #[.int .u64 (k : Nat), .int .u64 4297306550709518336] w (Gives w (.int .u64 (Nm.dMul k 4297306550709518336 : Nat)))) := Lib.hid (fun w => mul_any k 4297306550709518336 ok (by decide) w)
        have oy3 : Nm.dMul k 4297306550709518336 < 2 ^ 64 := (Nm.ok_mul _ _).1
        obtain ⟨y3, hy3⟩ : ∃ vv, Nm.dMul k 4297306550709518336 = vv := ⟨_, rfl⟩
        rw [hy3] at Cy3 oy3
        have Cr : Hid (∀ w, Calls Tryz.prog 43 #[.int .u64 (z2 : Nat), .int .u64 (y3 : Nat)] w (Gives w (.int .u64 (Nm.dSub z2 y3 : Nat)))) := Lib.hid (fun w => sub_any z2 y3 oz2 oy3 w)
        have or : Nm.dSub z2 y3 < 2 ^ 64 := sub_ok _ _ oz2 oy3
        obtain ⟨r, hr⟩ : ∃ vv, Nm.dSub z2 y3 = vv := ⟨_, rfl⟩
        rw [hr] at Cr or
        have CW : Hid (∀ w, Calls Tryz.prog 48 #[.int .u64 (k : Nat)] w (WholePost w (Nm.dWhole k) (Nm.fits k))) := Lib.hid (fun w => whole_any k ok w)
        obtain ⟨n, hn⟩ : ∃ vv, Nm.dWhole k = vv := ⟨_, rfl⟩
        obtain ⟨fk, hfk⟩ : ∃ vv, Nm.fits k = vv := ⟨_, rfl⟩
        rw [hn, hfk] at CW
        have hA1 : dTurn a = A := by rw [turn_big hbig']; exact hA
        have hk1 : dKk A = k := by unfold dKk; rw [hm1, hm2, hk]
        have hr1 : dRr A = r := by unfold dRr; rw [hk1, hy1, hz1, hy2, hz2, hy3, hr]
        have CS : Hid (∀ w, Calls Tryz.prog 113 #[.int .u64 (r : Nat)] w (Gives w (.int .u64 (dSinOf r : Nat)))) := Lib.hid (fun w => sineof_any r or w)
        have oS : dSinOf r < 2 ^ 64 := dSinOf_ok _
        obtain ⟨S, hS⟩ : ∃ vv, dSinOf r = vv := ⟨_, rfl⟩
        rw [hS] at CS oS
        have CD : Hid (∀ w, Calls Tryz.prog 114 #[.int .u64 (r : Nat)] w (Gives w (.int .u64 (dCosOf r : Nat)))) := Lib.hid (fun w => cosineof_any r or w)
        have oD : dCosOf r < 2 ^ 64 := dCosOf_ok _
        obtain ⟨D, hD⟩ : ∃ vv, dCosOf r = vv := ⟨_, rfl⟩
        rw [hD] at CD oD
        have CNS : Hid (∀ w, Calls Tryz.prog 77 #[.int .u64 (S : Nat)] w (Gives w (.int .u64 (Nm.dNeg S : Nat)))) := Lib.hid (fun w => (neg_any S oS w).mono fun _ _ h => gives_of h)
        have oNS : Nm.dNeg S < 2 ^ 64 := Nm.neg_lt _ oS
        obtain ⟨NS, hNS⟩ : ∃ vv, Nm.dNeg S = vv := ⟨_, rfl⟩
        rw [hNS] at CNS oNS
        have CND : Hid (∀ w, Calls Tryz.prog 77 #[.int .u64 (D : Nat)] w (Gives w (.int .u64 (Nm.dNeg D : Nat)))) := Lib.hid (fun w => (neg_any D oD w).mono fun _ _ h => gives_of h)
        have oND : Nm.dNeg D < 2 ^ 64 := Nm.neg_lt _ oD
        obtain ⟨ND, hND⟩ : ∃ vv, Nm.dNeg D = vv := ⟨_, rfl⟩
        rw [hND] at CND oND
        rw [quart_go rt hna hia, hA1, hk1, hr1, hn] at hR
        obtain ⟨q, hq⟩ : ∃ q, (n + rt) % 4 = q := ⟨_, rfl⟩
        rw [hq] at hR
        have hq4 : q = 0 ∨ q = 1 ∨ q = 2 ∨ q = 3 := by omega
        obtain ⟨M, hM⟩ : ∃ M, IntKind.i64.wrap (n + rt) = M := ⟨_, rfl⟩
        have eW : bits .and .i64 M 3 = q := by rw [and3]; rw [IntKind.wrap_i64] at hM; omega
        have f0 : Hid (q = 0 → S = R) := Lib.hid (by rintro rfl; rw [← hR, sel0, hS])
        have f1 : Hid (q = 1 → D = R) := Lib.hid (by rintro rfl; rw [← hR, sel1, hD])
        have f2 : Hid (q = 2 → NS = R) := Lib.hid (by rintro rfl; rw [← hR, sel2, hS, hNS])
        have f3 : Hid (q = 3 → ND = R) := Lib.hid (by rintro rfl; rw [← hR, sel3, hD, hND])
        have HQ := Lib.hid hq4
        clear hna hia hth hx hbig hA hm1 hm2 hk hy1 hz1 hy2 hz2 hy3 hr hS hD hNS hND oth ox oA om1 om2 ok oy1 oz1 oy2 oz2 oy3 or oS oD oNS oND ha hbig' hR hn hfk hA1 hk1 hr1 hq hq4 hrt1 hrt2
        have BB := Lib.hid (Below.refl w.heap.size w)
        go_enter Tryz.func85, Tryz.ntmps85
        go_wp2_with fail
        refine (Cna.out _).mono ?_
        rintro e' wm1 ⟨rfl, hb⟩
        have BB := Lib.hid (BB.out.trans (hb.mono BB.out.size))
        clear hb
        go_wp2_with fail
        refine (Cia.out _).mono ?_
        rintro e' wm2 ⟨rfl, hb⟩
        have BB := Lib.hid (BB.out.trans (hb.mono BB.out.size))
        clear hb
        go_wp2_with fail
        refine (Cth.out _).mono ?_
        rintro e' wm3 ⟨rfl, hb⟩
        have BB := Lib.hid (BB.out.trans (hb.mono BB.out.size))
        clear hb
        go_wp2_with fail
        refine (Cx.out _).mono ?_
        rintro e' wm4 ⟨rfl, hb⟩
        have BB := Lib.hid (BB.out.trans (hb.mono BB.out.size))
        clear hb
        go_wp2_with fail
        refine (Cbig.out _).mono ?_
        rintro e' wm5 ⟨rfl, hb⟩
        have BB := Lib.hid (BB.out.trans (hb.mono BB.out.size))
        clear hb
        go_wp2_with fail
        refine (CA.out _).mono ?_
        rintro e' wm6 ⟨rfl, hb⟩
        have BB := Lib.hid (BB.out.trans (hb.mono BB.out.size))
        clear hb
        go_wp2_with fail
        refine (Cm1.out _).mono ?_
        rintro e' wm7 ⟨rfl, hb⟩
        have BB := Lib.hid (BB.out.trans (hb.mono BB.out.size))
        clear hb
        go_wp2_with fail
        refine (Cm2.out _).mono ?_
        rintro e' wm8 ⟨rfl, hb⟩
        have BB := Lib.hid (BB.out.trans (hb.mono BB.out.size))
        clear hb
        go_wp2_with fail
        refine (Ck.out _).mono ?_
        rintro e' wm9 ⟨rfl, hb⟩
        have BB := Lib.hid (BB.out.trans (hb.mono BB.out.size))
        clear hb
        go_wp2_with fail
        refine (Cy1.out _).mono ?_
        rintro e' wm10 ⟨rfl, hb⟩
        have BB := Lib.hid (BB.out.trans (hb.mono BB.out.size))
        clear hb
        go_wp2_with fail
        refine (Cz1.out _).mono ?_
        rintro e' wm11 ⟨rfl, hb⟩
        have BB := Lib.hid (BB.out.trans (hb.mono BB.out.size))
        clear hb
        go_wp2_with fail
        refine (Cy2.out _).mono ?_
        rintro e' wm12 ⟨rfl, hb⟩
        have BB := Lib.hid (BB.out.trans (hb.mono BB.out.size))
        clear hb
        go_wp2_with fail
        refine (Cz2.out _).mono ?_
        rintro e' wm13 ⟨rfl, hb⟩
        have BB := Lib.hid (BB.out.trans (hb.mono BB.out.size))
        clear hb
        go_wp2_with fail
        refine (Cy3.out _).mono ?_
        rintro e' wm14 ⟨rfl, hb⟩
        have BB := Lib.hid (BB.out.trans (hb.mono BB.out.size))
        clear hb
        go_wp2_with fail
        refine (Cr.out _).mono ?_
        rintro e' wm15 ⟨rfl, hb⟩
        have BB := Lib.hid (BB.out.trans (hb.mono BB.out.size))
        clear hb
        go_wp2_with fail
        refine (CW.out _).mono ?_
        rintro e' wm16 ⟨rfl, hb⟩
        have BB := Lib.hid (BB.out.trans (hb.mono BB.out.size))
        clear hb
        rcases HQ.out with rfl | rfl | rfl | rfl
        · obtain rfl := f0.out rfl
          clear f0 f1 f2 f3 HQ
          go_wp2_with fail
          refine (CS.out _).mono ?_
          rintro e' wm17 ⟨rfl, hb⟩
          have BB := Lib.hid (BB.out.trans (hb.mono BB.out.size))
          clear hb
          go_wp2
          go_ret
          exact ⟨rfl, BB.out⟩
        · obtain rfl := f1.out rfl
          clear f0 f1 f2 f3 HQ
          go_wp2_with fail
          refine (CD.out _).mono ?_
          rintro e' wm17 ⟨rfl, hb⟩
          have BB := Lib.hid (BB.out.trans (hb.mono BB.out.size))
          clear hb
          go_wp2
          go_ret
          exact ⟨rfl, BB.out⟩
        · obtain rfl := f2.out rfl
          clear f0 f1 f2 f3 HQ
          go_wp2_with fail
          refine (CS.out _).mono ?_
          rintro e' wm17 ⟨rfl, hb⟩
          have BB := Lib.hid (BB.out.trans (hb.mono BB.out.size))
          clear hb
          go_wp2_with fail
          refine (CNS.out _).mono ?_
          rintro e' wm18 ⟨rfl, hb⟩
          have BB := Lib.hid (BB.out.trans (hb.mono BB.out.size))
          clear hb
          go_wp2
          go_ret
          exact ⟨rfl, BB.out⟩
        · obtain rfl := f3.out rfl
          clear f0 f1 f2 f3 HQ
          go_wp2_with fail
          refine (CD.out _).mono ?_
          rintro e' wm17 ⟨rfl, hb⟩
          have BB := Lib.hid (BB.out.trans (hb.mono BB.out.size))
          clear hb
          go_wp2_with fail
          refine (CND.out _).mono ?_
          rintro e' wm18 ⟨rfl, hb⟩
          have BB := Lib.hid (BB.out.trans (hb.mono BB.out.size))
          clear hb
          go_wp2
          go_ret
          exact ⟨rfl, BB.out⟩
    · obtain rfl : R = Nm.nan := by rw [← hR]; exact quart_nan _ (by rw [hna, hia]; rfl)
      clear hna hia hth hx hbig oth ox ha hbig' hR
      have BB := Lib.hid (Below.refl w.heap.size w)
      go_enter Tryz.func85, Tryz.ntmps85
      go_wp2_with fail
      refine (Cna.out _).mono ?_
      rintro e' wm1 ⟨rfl, hb⟩
      have BB := Lib.hid (BB.out.trans (hb.mono BB.out.size))
      clear hb
      go_wp2_with fail
      refine (Cia.out _).mono ?_
      rintro e' wm2 ⟨rfl, hb⟩
      have BB := Lib.hid (BB.out.trans (hb.mono BB.out.size))
      clear hb
      go_wp2
      go_ret
      exact ⟨rfl, BB.out⟩
  · obtain rfl : R = Nm.nan := by rw [← hR]; exact quart_nan _ (by rw [hna, hia]; rfl)
    clear hna hia hth hx hbig oth ox ha hbig' hR
    have BB := Lib.hid (Below.refl w.heap.size w)
    go_enter Tryz.func85, Tryz.ntmps85
    go_wp2_with fail
    refine (Cna.out _).mono ?_
    rintro e' wm1 ⟨rfl, hb⟩
    have BB := Lib.hid (BB.out.trans (hb.mono BB.out.size))
    clear hb
    go_wp2
    go_ret
    exact ⟨rfl, BB.out⟩
theorem sin_any (a : Nat) (ha : a < 2 ^ 64) (w : World) : Calls Tryz.prog 26 #[.int .u64 (a : Int)] w (Gives w (.int .u64 (dQuart a 0 : Nat))) := by
  have CP : Hid (∀ w, Calls Tryz.prog 85 #[.int .u64 (a : Nat), .int .i64 0] w (Gives w (.int .u64 (dQuart a 0 : Nat)))) := Lib.hid (fun w => ahead_any a 0 (by decide) (by decide) ha w)
  obtain ⟨P, hP⟩ : ∃ vv, dQuart a 0 = vv := ⟨_, rfl⟩
  rw [hP] at CP ⊢
  clear ha hP
  have BB := Lib.hid (Below.refl w.heap.size w)
  go_enter Tryz.func26, Tryz.ntmps26
  go_wp2_with fail
  refine (CP.out _).mono ?_
  rintro e' wm1 ⟨rfl, hb⟩
  have BB := Lib.hid (BB.out.trans (hb.mono BB.out.size))
  clear hb
  go_wp2
  go_ret
  exact ⟨rfl, BB.out⟩
theorem cos_any (a : Nat) (ha : a < 2 ^ 64) (w : World) : Calls Tryz.prog 28 #[.int .u64 (a : Int)] w (Gives w (.int .u64 (dQuart a 1 : Nat))) := by
  have CP : Hid (∀ w, Calls Tryz.prog 85 #[.int .u64 (a : Nat), .int .i64 1] w (Gives w (.int .u64 (dQuart a 1 : Nat)))) := Lib.hid (fun w => ahead_any a 1 (by decide) (by decide) ha w)
  obtain ⟨P, hP⟩ : ∃ vv, dQuart a 1 = vv := ⟨_, rfl⟩
  rw [hP] at CP ⊢
  clear ha hP
  have BB := Lib.hid (Below.refl w.heap.size w)
  go_enter Tryz.func28, Tryz.ntmps28
  go_wp2_with fail
  refine (CP.out _).mono ?_
  rintro e' wm1 ⟨rfl, hb⟩
  have BB := Lib.hid (BB.out.trans (hb.mono BB.out.size))
  clear hb
  go_wp2
  go_ret
  exact ⟨rfl, BB.out⟩
set_option maxHeartbeats 8000000 in
theorem turn_any (a : Nat) (ha : a < 2 ^ 64) (w : World) : Calls Tryz.prog 115 #[.int .u64 (a : Int)] w (Gives w (.tuple #[.int .i64 (Nm.dWhole (dKk (dTurn a)) % 4), .int .u64 (dRr (dTurn a) : Nat)])) := by
  have Cth : Hid (∀ w, Calls Tryz.prog 58 #[.int .i64 (1000)] w (Gives w (.int .u64 (dInt (1000) : Nat)))) := Lib.hid (fun w => rint_any (1000) (by decide) (by decide) w)
  have oth : dInt (1000) < 2 ^ 64 := (ok_int _).1
  obtain ⟨th, hth⟩ : ∃ vv, dInt (1000) = vv := ⟨_, rfl⟩
  rw [hth] at Cth oth
  have Cx : Hid (∀ w, Calls Tryz.prog 81 #[.int .u64 (a : Nat)] w (Gives w (.int .u64 (Nm.dAbs a : Nat)))) := Lib.hid (fun w => (rabs_any a ha w).mono fun _ _ h => gives_of h)
  have ox : Nm.dAbs a < 2 ^ 64 := (Nm.ok_abs _ ha).1
  obtain ⟨x, hx⟩ : ∃ vv, Nm.dAbs a = vv := ⟨_, rfl⟩
  rw [hx] at Cx ox
  have Cbig : Hid (∀ w, Calls Tryz.prog 51 #[.int .u64 (x : Nat), .int .u64 (th : Nat)] w (Gives w (.bool (dLt th x)))) := Lib.hid (fun w => rabove_any x th ox oth w)
  obtain ⟨big, hbig⟩ : ∃ vv, dLt th x = vv := ⟨_, rfl⟩
  rw [hbig] at Cbig
  have hbig' : dLt (dInt (1000)) (Nm.dAbs a) = big := by rw [hth, hx]; exact hbig
  cases big
  · have Cm1 : Hid (∀ w, Calls Tryz.prog 55 #[.int .u64 (a : Nat), .int .u64 4603909380684499075] w (Gives w (.int .u64 (Nm.dMul a 4603909380684499075 : Nat)))) := Lib.hid (fun w => rmul_any a 4603909380684499075 ha (by decide) w)
    have om1 : Nm.dMul a 4603909380684499075 < 2 ^ 64 := (Nm.ok_mul _ _).1
    obtain ⟨m1, hm1⟩ : ∃ vv, Nm.dMul a 4603909380684499075 = vv := ⟨_, rfl⟩
    rw [hm1] at Cm1 om1
    have Cm2 : Hid (∀ w, Calls Tryz.prog 54 #[.int .u64 (m1 : Nat), .int .u64 4602678819172646912] w (Gives w (.int .u64 (Nm.dAdd m1 4602678819172646912 : Nat)))) := Lib.hid (fun w => radd_any m1 4602678819172646912 om1 (by decide) w)
    have om2 : Nm.dAdd m1 4602678819172646912 < 2 ^ 64 := (Nm.ok_add _ _ om1 (by decide)).1
    obtain ⟨m2, hm2⟩ : ∃ vv, Nm.dAdd m1 4602678819172646912 = vv := ⟨_, rfl⟩
    rw [hm2] at Cm2 om2
    have Ck : Hid (∀ w, Calls Tryz.prog 53 #[.int .u64 (m2 : Nat)] w (Gives w (.int .u64 (Nm.dFloor m2 : Nat)))) := Lib.hid (fun w => rfloor_any m2 om2 w)
    have ok : Nm.dFloor m2 < 2 ^ 64 := (Nm.ok_step _ _ om2).1
    obtain ⟨k, hk⟩ : ∃ vv, Nm.dFloor m2 = vv := ⟨_, rfl⟩
    rw [hk] at Ck ok
    have Cy1 : Hid (∀ w, Calls Tryz.prog 55 #[.int .u64 (k : Nat), .int .u64 4609753056924401664] w (Gives w (.int .u64 (Nm.dMul k 4609753056924401664 : Nat)))) := Lib.hid (fun w => rmul_any k 4609753056924401664 ok (by decide) w)
    have oy1 : Nm.dMul k 4609753056924401664 < 2 ^ 64 := (Nm.ok_mul _ _).1
    obtain ⟨y1, hy1⟩ : ∃ vv, Nm.dMul k 4609753056924401664 = vv := ⟨_, rfl⟩
    rw [hy1] at Cy1 oy1
    have Cz1 : Hid (∀ w, Calls Tryz.prog 56 #[.int .u64 (a : Nat), .int .u64 (y1 : Nat)] w (Gives w (.int .u64 (Nm.dSub a y1 : Nat)))) := Lib.hid (fun w => rsub_any a y1 ha oy1 w)
    have oz1 : Nm.dSub a y1 < 2 ^ 64 := sub_ok _ _ ha oy1
    obtain ⟨z1, hz1⟩ : ∃ vv, Nm.dSub a y1 = vv := ⟨_, rfl⟩
    rw [hz1] at Cz1 oz1
    have Cy2 : Hid (∀ w, Calls Tryz.prog 55 #[.int .u64 (k : Nat), .int .u64 4454258360616747008] w (Gives w (.int .u64 (Nm.dMul k 4454258360616747008 : Nat)))) := Lib.hid (fun w => rmul_any k 4454258360616747008 ok (by decide) w)
    have oy2 : Nm.dMul k 4454258360616747008 < 2 ^ 64 := (Nm.ok_mul _ _).1
    obtain ⟨y2, hy2⟩ : ∃ vv, Nm.dMul k 4454258360616747008 = vv := ⟨_, rfl⟩
    rw [hy2] at Cy2 oy2
    have Cz2 : Hid (∀ w, Calls Tryz.prog 56 #[.int .u64 (z1 : Nat), .int .u64 (y2 : Nat)] w (Gives w (.int .u64 (Nm.dSub z1 y2 : Nat)))) := Lib.hid (fun w => rsub_any z1 y2 oz1 oy2 w)
    have oz2 : Nm.dSub z1 y2 < 2 ^ 64 := sub_ok _ _ oz1 oy2
    obtain ⟨z2, hz2⟩ : ∃ vv, Nm.dSub z1 y2 = vv := ⟨_, rfl⟩
    rw [hz2] at Cz2 oz2
    have Cy3 : Hid (∀ w, Calls Tryz.prog 55 #[.int .u64 (k : Nat), .int .u64 4297306550709518336] w (Gives w (.int .u64 (Nm.dMul k 4297306550709518336 : Nat)))) := Lib.hid (fun w => rmul_any k 4297306550709518336 ok (by decide) w)
    have oy3 : Nm.dMul k 4297306550709518336 < 2 ^ 64 := (Nm.ok_mul _ _).1
    obtain ⟨y3, hy3⟩ : ∃ vv, Nm.dMul k 4297306550709518336 = vv := ⟨_, rfl⟩
    rw [hy3] at Cy3 oy3
    have Cr : Hid (∀ w, Calls Tryz.prog 56 #[.int .u64 (z2 : Nat), .int .u64 (y3 : Nat)] w (Gives w (.int .u64 (Nm.dSub z2 y3 : Nat)))) := Lib.hid (fun w => rsub_any z2 y3 oz2 oy3 w)
    have or : Nm.dSub z2 y3 < 2 ^ 64 := sub_ok _ _ oz2 oy3
    obtain ⟨r, hr⟩ : ∃ vv, Nm.dSub z2 y3 = vv := ⟨_, rfl⟩
    rw [hr] at Cr or
    have CW : Hid (∀ w, Calls Tryz.prog 59 #[.int .u64 (k : Nat)] w (WholePost w (Nm.dWhole k) (Nm.fits k))) := Lib.hid (fun w => rwhole_any k ok w)
    obtain ⟨n, hn⟩ : ∃ vv, Nm.dWhole k = vv := ⟨_, rfl⟩
    obtain ⟨fk, hfk⟩ : ∃ vv, Nm.fits k = vv := ⟨_, rfl⟩
    rw [hn, hfk] at CW
    have hA1 : dTurn a = a := by rw [turn_big hbig']; rfl
    have hk1 : dKk a = k := by unfold dKk; rw [hm1, hm2, hk]
    have hr1 : dRr a = r := by unfold dRr; rw [hk1, hy1, hz1, hy2, hz2, hy3, hr]
    rw [hA1, hk1, hr1, hn]
    obtain ⟨T, hT, t1, t2, t3⟩ := tmod4 n
    obtain ⟨q, hq⟩ : ∃ q, n % 4 = q := ⟨_, rfl⟩
    rw [hq] at t3 ⊢
    have e1 : IntKind.i64.wrap T = T := by rw [IntKind.wrap_i64]; omega
    have e2 : IntKind.i64.wrap (T + 4) = T + 4 := by rw [IntKind.wrap_i64]; omega
    have e3 : (T + 4).tmod 4 = q := by rw [Int.tmod_eq_emod_of_nonneg (by omega)]; exact t3
    have e4 : IntKind.i64.wrap q = q := by rw [IntKind.wrap_i64]; omega
    clear hth hx hbig hm1 hm2 hk hy1 hz1 hy2 hz2 hy3 hr oth ox om1 om2 ok oy1 oz1 oy2 oz2 oy3 or ha hbig' hn hfk hA1 hk1 hr1 hq t1 t2
    have BB := Lib.hid (Below.refl w.heap.size w)
    go_enter Tryz.func115, Tryz.ntmps115
    go_wp2_with fail
    refine (Cx.out _).mono ?_
    rintro e' wm1 ⟨rfl, hb⟩
    have BB := Lib.hid (BB.out.trans (hb.mono BB.out.size))
    clear hb
    go_wp2_with fail
    refine (Cth.out _).mono ?_
    rintro e' wm2 ⟨rfl, hb⟩
    have BB := Lib.hid (BB.out.trans (hb.mono BB.out.size))
    clear hb
    go_wp2_with fail
    refine (Cbig.out _).mono ?_
    rintro e' wm3 ⟨rfl, hb⟩
    have BB := Lib.hid (BB.out.trans (hb.mono BB.out.size))
    clear hb
    go_wp2_with fail
    refine (Cm1.out _).mono ?_
    rintro e' wm4 ⟨rfl, hb⟩
    have BB := Lib.hid (BB.out.trans (hb.mono BB.out.size))
    clear hb
    go_wp2_with fail
    refine (Cm2.out _).mono ?_
    rintro e' wm5 ⟨rfl, hb⟩
    have BB := Lib.hid (BB.out.trans (hb.mono BB.out.size))
    clear hb
    go_wp2_with fail
    refine (Ck.out _).mono ?_
    rintro e' wm6 ⟨rfl, hb⟩
    have BB := Lib.hid (BB.out.trans (hb.mono BB.out.size))
    clear hb
    go_wp2_with fail
    refine (Cy1.out _).mono ?_
    rintro e' wm7 ⟨rfl, hb⟩
    have BB := Lib.hid (BB.out.trans (hb.mono BB.out.size))
    clear hb
    go_wp2_with fail
    refine (Cz1.out _).mono ?_
    rintro e' wm8 ⟨rfl, hb⟩
    have BB := Lib.hid (BB.out.trans (hb.mono BB.out.size))
    clear hb
    go_wp2_with fail
    refine (Cy2.out _).mono ?_
    rintro e' wm9 ⟨rfl, hb⟩
    have BB := Lib.hid (BB.out.trans (hb.mono BB.out.size))
    clear hb
    go_wp2_with fail
    refine (Cz2.out _).mono ?_
    rintro e' wm10 ⟨rfl, hb⟩
    have BB := Lib.hid (BB.out.trans (hb.mono BB.out.size))
    clear hb
    go_wp2_with fail
    refine (Cy3.out _).mono ?_
    rintro e' wm11 ⟨rfl, hb⟩
    have BB := Lib.hid (BB.out.trans (hb.mono BB.out.size))
    clear hb
    go_wp2_with fail
    refine (Cr.out _).mono ?_
    rintro e' wm12 ⟨rfl, hb⟩
    have BB := Lib.hid (BB.out.trans (hb.mono BB.out.size))
    clear hb
    go_wp2_with fail
    refine (CW.out _).mono ?_
    rintro e' wm13 ⟨rfl, hb⟩
    have BB := Lib.hid (BB.out.trans (hb.mono BB.out.size))
    clear hb
    go_wp2
    go_ret2
    exact ⟨rfl, BB.out⟩
  · have CA : Hid (∀ w, Calls Tryz.prog 128 #[.int .u64 (a : Nat), .int .u64 4618760256179416344] w (Gives w (.int .u64 (Nm.dMod a 4618760256179416344 : Nat)))) := Lib.hid (fun w => rmod_any a 4618760256179416344 ha (by decide) w)
    have oA : Nm.dMod a 4618760256179416344 < 2 ^ 64 := (Nm.ok_mod _ _ ha).1
    obtain ⟨A, hA⟩ : ∃ vv, Nm.dMod a 4618760256179416344 = vv := ⟨_, rfl⟩
    rw [hA] at CA oA
    have Cm1 : Hid (∀ w, Calls Tryz.prog 55 #[.int .u64 (A : Nat), .int .u64 4603909380684499075] w (Gives w (.int .u64 (Nm.dMul A 4603909380684499075 : Nat)))) := Lib.hid (fun w => rmul_any A 4603909380684499075 oA (by decide) w)
    have om1 : Nm.dMul A 4603909380684499075 < 2 ^ 64 := (Nm.ok_mul _ _).1
    obtain ⟨m1, hm1⟩ : ∃ vv, Nm.dMul A 4603909380684499075 = vv := ⟨_, rfl⟩
    rw [hm1] at Cm1 om1
    have Cm2 : Hid (∀ w, Calls Tryz.prog 54 #[.int .u64 (m1 : Nat), .int .u64 4602678819172646912] w (Gives w (.int .u64 (Nm.dAdd m1 4602678819172646912 : Nat)))) := Lib.hid (fun w => radd_any m1 4602678819172646912 om1 (by decide) w)
    have om2 : Nm.dAdd m1 4602678819172646912 < 2 ^ 64 := (Nm.ok_add _ _ om1 (by decide)).1
    obtain ⟨m2, hm2⟩ : ∃ vv, Nm.dAdd m1 4602678819172646912 = vv := ⟨_, rfl⟩
    rw [hm2] at Cm2 om2
    have Ck : Hid (∀ w, Calls Tryz.prog 53 #[.int .u64 (m2 : Nat)] w (Gives w (.int .u64 (Nm.dFloor m2 : Nat)))) := Lib.hid (fun w => rfloor_any m2 om2 w)
    have ok : Nm.dFloor m2 < 2 ^ 64 := (Nm.ok_step _ _ om2).1
    obtain ⟨k, hk⟩ : ∃ vv, Nm.dFloor m2 = vv := ⟨_, rfl⟩
    rw [hk] at Ck ok
    have Cy1 : Hid (∀ w, Calls Tryz.prog 55 #[.int .u64 (k : Nat), .int .u64 4609753056924401664] w (Gives w (.int .u64 (Nm.dMul k 4609753056924401664 : Nat)))) := Lib.hid (fun w => rmul_any k 4609753056924401664 ok (by decide) w)
    have oy1 : Nm.dMul k 4609753056924401664 < 2 ^ 64 := (Nm.ok_mul _ _).1
    obtain ⟨y1, hy1⟩ : ∃ vv, Nm.dMul k 4609753056924401664 = vv := ⟨_, rfl⟩
    rw [hy1] at Cy1 oy1
    have Cz1 : Hid (∀ w, Calls Tryz.prog 56 #[.int .u64 (A : Nat), .int .u64 (y1 : Nat)] w (Gives w (.int .u64 (Nm.dSub A y1 : Nat)))) := Lib.hid (fun w => rsub_any A y1 oA oy1 w)
    have oz1 : Nm.dSub A y1 < 2 ^ 64 := sub_ok _ _ oA oy1
    obtain ⟨z1, hz1⟩ : ∃ vv, Nm.dSub A y1 = vv := ⟨_, rfl⟩
    rw [hz1] at Cz1 oz1
    have Cy2 : Hid (∀ w, Calls Tryz.prog 55 #[.int .u64 (k : Nat), .int .u64 4454258360616747008] w (Gives w (.int .u64 (Nm.dMul k 4454258360616747008 : Nat)))) := Lib.hid (fun w => rmul_any k 4454258360616747008 ok (by decide) w)
    have oy2 : Nm.dMul k 4454258360616747008 < 2 ^ 64 := (Nm.ok_mul _ _).1
    obtain ⟨y2, hy2⟩ : ∃ vv, Nm.dMul k 4454258360616747008 = vv := ⟨_, rfl⟩
    rw [hy2] at Cy2 oy2
    have Cz2 : Hid (∀ w, Calls Tryz.prog 56 #[.int .u64 (z1 : Nat), .int .u64 (y2 : Nat)] w (Gives w (.int .u64 (Nm.dSub z1 y2 : Nat)))) := Lib.hid (fun w => rsub_any z1 y2 oz1 oy2 w)
    have oz2 : Nm.dSub z1 y2 < 2 ^ 64 := sub_ok _ _ oz1 oy2
    obtain ⟨z2, hz2⟩ : ∃ vv, Nm.dSub z1 y2 = vv := ⟨_, rfl⟩
    rw [hz2] at Cz2 oz2
    have Cy3 : Hid (∀ w, Calls Tryz.prog 55 #[.int .u64 (k : Nat), .int .u64 4297306550709518336] w (Gives w (.int .u64 (Nm.dMul k 4297306550709518336 : Nat)))) := Lib.hid (fun w => rmul_any k 4297306550709518336 ok (by decide) w)
    have oy3 : Nm.dMul k 4297306550709518336 < 2 ^ 64 := (Nm.ok_mul _ _).1
    obtain ⟨y3, hy3⟩ : ∃ vv, Nm.dMul k 4297306550709518336 = vv := ⟨_, rfl⟩
    rw [hy3] at Cy3 oy3
    have Cr : Hid (∀ w, Calls Tryz.prog 56 #[.int .u64 (z2 : Nat), .int .u64 (y3 : Nat)] w (Gives w (.int .u64 (Nm.dSub z2 y3 : Nat)))) := Lib.hid (fun w => rsub_any z2 y3 oz2 oy3 w)
    have or : Nm.dSub z2 y3 < 2 ^ 64 := sub_ok _ _ oz2 oy3
    obtain ⟨r, hr⟩ : ∃ vv, Nm.dSub z2 y3 = vv := ⟨_, rfl⟩
    rw [hr] at Cr or
    have CW : Hid (∀ w, Calls Tryz.prog 59 #[.int .u64 (k : Nat)] w (WholePost w (Nm.dWhole k) (Nm.fits k))) := Lib.hid (fun w => rwhole_any k ok w)
    obtain ⟨n, hn⟩ : ∃ vv, Nm.dWhole k = vv := ⟨_, rfl⟩
    obtain ⟨fk, hfk⟩ : ∃ vv, Nm.fits k = vv := ⟨_, rfl⟩
    rw [hn, hfk] at CW
    have hA1 : dTurn a = A := by rw [turn_big hbig']; exact hA
    have hk1 : dKk A = k := by unfold dKk; rw [hm1, hm2, hk]
    have hr1 : dRr A = r := by unfold dRr; rw [hk1, hy1, hz1, hy2, hz2, hy3, hr]
    rw [hA1, hk1, hr1, hn]
    obtain ⟨T, hT, t1, t2, t3⟩ := tmod4 n
    obtain ⟨q, hq⟩ : ∃ q, n % 4 = q := ⟨_, rfl⟩
    rw [hq] at t3 ⊢
    have e1 : IntKind.i64.wrap T = T := by rw [IntKind.wrap_i64]; omega
    have e2 : IntKind.i64.wrap (T + 4) = T + 4 := by rw [IntKind.wrap_i64]; omega
    have e3 : (T + 4).tmod 4 = q := by rw [Int.tmod_eq_emod_of_nonneg (by omega)]; exact t3
    have e4 : IntKind.i64.wrap q = q := by rw [IntKind.wrap_i64]; omega
    clear hth hx hbig hA hm1 hm2 hk hy1 hz1 hy2 hz2 hy3 hr oth ox oA om1 om2 ok oy1 oz1 oy2 oz2 oy3 or ha hbig' hn hfk hA1 hk1 hr1 hq t1 t2
    have BB := Lib.hid (Below.refl w.heap.size w)
    go_enter Tryz.func115, Tryz.ntmps115
    go_wp2_with fail
    refine (Cx.out _).mono ?_
    rintro e' wm1 ⟨rfl, hb⟩
    have BB := Lib.hid (BB.out.trans (hb.mono BB.out.size))
    clear hb
    go_wp2_with fail
    refine (Cth.out _).mono ?_
    rintro e' wm2 ⟨rfl, hb⟩
    have BB := Lib.hid (BB.out.trans (hb.mono BB.out.size))
    clear hb
    go_wp2_with fail
    refine (Cbig.out _).mono ?_
    rintro e' wm3 ⟨rfl, hb⟩
    have BB := Lib.hid (BB.out.trans (hb.mono BB.out.size))
    clear hb
    go_wp2_with fail
    refine (CA.out _).mono ?_
    rintro e' wm4 ⟨rfl, hb⟩
    have BB := Lib.hid (BB.out.trans (hb.mono BB.out.size))
    clear hb
    go_wp2_with fail
    refine (Cm1.out _).mono ?_
    rintro e' wm5 ⟨rfl, hb⟩
    have BB := Lib.hid (BB.out.trans (hb.mono BB.out.size))
    clear hb
    go_wp2_with fail
    refine (Cm2.out _).mono ?_
    rintro e' wm6 ⟨rfl, hb⟩
    have BB := Lib.hid (BB.out.trans (hb.mono BB.out.size))
    clear hb
    go_wp2_with fail
    refine (Ck.out _).mono ?_
    rintro e' wm7 ⟨rfl, hb⟩
    have BB := Lib.hid (BB.out.trans (hb.mono BB.out.size))
    clear hb
    go_wp2_with fail
    refine (Cy1.out _).mono ?_
    rintro e' wm8 ⟨rfl, hb⟩
    have BB := Lib.hid (BB.out.trans (hb.mono BB.out.size))
    clear hb
    go_wp2_with fail
    refine (Cz1.out _).mono ?_
    rintro e' wm9 ⟨rfl, hb⟩
    have BB := Lib.hid (BB.out.trans (hb.mono BB.out.size))
    clear hb
    go_wp2_with fail
    refine (Cy2.out _).mono ?_
    rintro e' wm10 ⟨rfl, hb⟩
    have BB := Lib.hid (BB.out.trans (hb.mono BB.out.size))
    clear hb
    go_wp2_with fail
    refine (Cz2.out _).mono ?_
    rintro e' wm11 ⟨rfl, hb⟩
    have BB := Lib.hid (BB.out.trans (hb.mono BB.out.size))
    clear hb
    go_wp2_with fail
    refine (Cy3.out _).mono ?_
    rintro e' wm12 ⟨rfl, hb⟩
    have BB := Lib.hid (BB.out.trans (hb.mono BB.out.size))
    clear hb
    go_wp2_with fail
    refine (Cr.out _).mono ?_
    rintro e' wm13 ⟨rfl, hb⟩
    have BB := Lib.hid (BB.out.trans (hb.mono BB.out.size))
    clear hb
    go_wp2_with fail
    refine (CW.out _).mono ?_
    rintro e' wm14 ⟨rfl, hb⟩
    have BB := Lib.hid (BB.out.trans (hb.mono BB.out.size))
    clear hb
    go_wp2
    go_ret2
    exact ⟨rfl, BB.out⟩
set_option maxHeartbeats 8000000 in
theorem rquart_any (a : Nat) (rt : Int) (hrt1 : 0 ≤ rt) (hrt2 : rt ≤ 1) (ha : a < 2 ^ 64) (w : World) : Calls Tryz.prog 86 #[.int .u64 (a : Int), .int .i64 rt] w (Gives w (.int .u64 (dQuart a rt : Nat))) := by
  have Cna : Hid (∀ w, Calls Tryz.prog 50 #[.int .u64 (a : Nat)] w (Gives w (.bool (Nm.isNaN a)))) := Lib.hid (fun w => (rnan_any a ha w).mono fun _ _ h => gives_of h)
  obtain ⟨na, hna⟩ : ∃ vv, Nm.isNaN a = vv := ⟨_, rfl⟩
  rw [hna] at Cna
  have Cia : Hid (∀ w, Calls Tryz.prog 72 #[.int .u64 (a : Nat)] w (Gives w (.bool (Nm.isInf a)))) := Lib.hid (fun w => (rinf_any a ha w).mono fun _ _ h => gives_of h)
  obtain ⟨ia, hia⟩ : ∃ vv, Nm.isInf a = vv := ⟨_, rfl⟩
  rw [hia] at Cia
  obtain ⟨R, hR⟩ : ∃ vv, dQuart a rt = vv := ⟨_, rfl⟩
  rw [hR]
  cases na
  · cases ia
    · rw [quart_go rt hna hia] at hR
      have CT : Hid (∀ w, Calls Tryz.prog 115 #[.int .u64 (a : Nat)] w (Gives w (.tuple #[.int .i64 (Nm.dWhole (dKk (dTurn a)) % 4), .int .u64 (dRr (dTurn a) : Nat)]))) := Lib.hid (fun w => turn_any a ha w)
      have or : dRr (dTurn a) < 2 ^ 64 := dRr_ok _ (dTurn_ok a ha)
      obtain ⟨r, hr⟩ : ∃ vv, dRr (dTurn a) = vv := ⟨_, rfl⟩
      obtain ⟨n, hn⟩ : ∃ vv, Nm.dWhole (dKk (dTurn a)) = vv := ⟨_, rfl⟩
      rw [hr] at CT or hR
      rw [hn] at CT hR
      obtain ⟨q0, hq0⟩ : ∃ q, n % 4 = q := ⟨_, rfl⟩
      rw [hq0] at CT
      have Csq : Hid (∀ w, Calls Tryz.prog 55 #[.int .u64 (r : Nat), .int .u64 (r : Nat)] w (Gives w (.int .u64 (Nm.dMul r r : Nat)))) := Lib.hid (fun w => rmul_any r r or or w)
      have osq : Nm.dMul r r < 2 ^ 64 := (Nm.ok_mul _ _).1
      obtain ⟨sq, hsq⟩ : ∃ vv, Nm.dMul r r = vv := ⟨_, rfl⟩
      rw [hsq] at Csq osq
      have CR1 : Hid (∀ w, Calls Tryz.prog 116 #[.int .u64 (sq : Nat), .int .i64 17, .int .i64 1] w (Gives w (.int .u64 (dCosOf r : Nat)))) := Lib.hid (by
        have e : dCosOf r = serN (fSin sq) 2 1 9 4607182418800017408 := by unfold dCosOf dSerS; rw [hsq]
        rw [e]
        exact fun w => row_any sq 1 9 17 1 (by decide) (by decide) (by decide) (by decide) osq w)
      have CR2 : Hid (∀ w, Calls Tryz.prog 116 #[.int .u64 (sq : Nat), .int .i64 16, .int .i64 2] w (Gives w (.int .u64 (dSerS 0 8 r : Nat)))) := Lib.hid (by
        have e : dSerS 0 8 r = serN (fSin sq) 2 0 8 4607182418800017408 := by unfold dSerS; rw [hsq]
        rw [e]
        exact fun w => row_any sq 0 8 16 2 (by decide) (by decide) (by decide) (by decide) osq w)
      have hS0 : dSinOf r = Nm.dMul r (dSerS 0 8 r) := rfl
      have oD := dCosOf_ok r
      obtain ⟨D, hD⟩ : ∃ vv, dCosOf r = vv := ⟨_, rfl⟩
      have oB := dSerS_ok 0 8 r
      obtain ⟨B, hB⟩ : ∃ vv, dSerS 0 8 r = vv := ⟨_, rfl⟩
      rw [hD] at CR1 oD
      rw [hB] at CR2 oB hS0
      have CS : Hid (∀ w, Calls Tryz.prog 55 #[.int .u64 (r : Nat), .int .u64 (B : Nat)] w (Gives w (.int .u64 (Nm.dMul r B : Nat)))) := Lib.hid (fun w => rmul_any r B or oB w)
      have oS : Nm.dMul r B < 2 ^ 64 := (Nm.ok_mul _ _).1
      obtain ⟨S, hS⟩ : ∃ vv, Nm.dMul r B = vv := ⟨_, rfl⟩
      rw [hS] at CS oS
      have CNS : Hid (∀ w, Calls Tryz.prog 78 #[.int .u64 (S : Nat)] w (Gives w (.int .u64 (Nm.dNeg S : Nat)))) := Lib.hid (fun w => (rneg_any S oS w).mono fun _ _ h => gives_of h)
      have oNS : Nm.dNeg S < 2 ^ 64 := Nm.neg_lt _ oS
      obtain ⟨NS, hNS⟩ : ∃ vv, Nm.dNeg S = vv := ⟨_, rfl⟩
      rw [hNS] at CNS oNS
      have CND : Hid (∀ w, Calls Tryz.prog 78 #[.int .u64 (D : Nat)] w (Gives w (.int .u64 (Nm.dNeg D : Nat)))) := Lib.hid (fun w => (rneg_any D oD w).mono fun _ _ h => gives_of h)
      have oND : Nm.dNeg D < 2 ^ 64 := Nm.neg_lt _ oD
      obtain ⟨ND, hND⟩ : ∃ vv, Nm.dNeg D = vv := ⟨_, rfl⟩
      rw [hND] at CND oND
      rw [hS] at hS0
      obtain ⟨q, hq⟩ : ∃ q, (n + rt) % 4 = q := ⟨_, rfl⟩
      rw [hq] at hR
      have hq4 : q = 0 ∨ q = 1 ∨ q = 2 ∨ q = 3 := by omega
      have e0 : IntKind.i64.wrap (q0 + rt) = q0 + rt := by rw [IntKind.wrap_i64]; omega
      have e1 : (q0 + rt).tmod 4 = q := by rw [Int.tmod_eq_emod_of_nonneg (by omega)]; omega
      have e2 : (q0 + rt) % 4 = q := by omega
      have e4 : IntKind.i64.wrap q = q := by rw [IntKind.wrap_i64]; omega
      have f0 : Hid (q = 0 → S = R) := Lib.hid (by rintro rfl; rw [← hR, sel0, hS0])
      have f1 : Hid (q = 1 → D = R) := Lib.hid (by rintro rfl; rw [← hR, sel1, hD])
      have f2 : Hid (q = 2 → NS = R) := Lib.hid (by rintro rfl; rw [← hR, sel2, hS0, hNS])
      have f3 : Hid (q = 3 → ND = R) := Lib.hid (by rintro rfl; rw [← hR, sel3, hD, hND])
      clear hna hia hsq hS hNS hND osq oS oNS oND ha hR hn hr or hq0 hq hS0 hD hB oD oB hrt1 hrt2
      rcases hq4 with rfl | rfl | rfl | rfl
      · obtain rfl := f0.out rfl
        clear f0 f1 f2 f3
        have BB := Lib.hid (Below.refl w.heap.size w)
        go_enter Tryz.func86, Tryz.ntmps86
        go_wp2_with fail
        refine (Cna.out _).mono ?_
        rintro e' wm1 ⟨rfl, hb⟩
        have BB := Lib.hid (BB.out.trans (hb.mono BB.out.size))
        clear hb
        go_wp2_with fail
        refine (Cia.out _).mono ?_
        rintro e' wm2 ⟨rfl, hb⟩
        have BB := Lib.hid (BB.out.trans (hb.mono BB.out.size))
        clear hb
        go_wp2_with fail
        refine (CT.out _).mono ?_
        rintro e' wm3 ⟨rfl, hb⟩
        have BB := Lib.hid (BB.out.trans (hb.mono BB.out.size))
        clear hb
        go_wp2_with fail
        refine (Csq.out _).mono ?_
        rintro e' wm4 ⟨rfl, hb⟩
        have BB := Lib.hid (BB.out.trans (hb.mono BB.out.size))
        clear hb
        go_wp2_with fail
        refine (CR1.out _).mono ?_
        rintro e' wm5 ⟨rfl, hb⟩
        have BB := Lib.hid (BB.out.trans (hb.mono BB.out.size))
        clear hb
        go_wp2_with fail
        refine (CR2.out _).mono ?_
        rintro e' wm6 ⟨rfl, hb⟩
        have BB := Lib.hid (BB.out.trans (hb.mono BB.out.size))
        clear hb
        go_wp2_with fail
        refine (CS.out _).mono ?_
        rintro e' wm7 ⟨rfl, hb⟩
        have BB := Lib.hid (BB.out.trans (hb.mono BB.out.size))
        clear hb
        go_wp2
        go_ret
        exact ⟨rfl, BB.out⟩
      · obtain rfl := f1.out rfl
        clear f0 f1 f2 f3
        have BB := Lib.hid (Below.refl w.heap.size w)
        go_enter Tryz.func86, Tryz.ntmps86
        go_wp2_with fail
        refine (Cna.out _).mono ?_
        rintro e' wm1 ⟨rfl, hb⟩
        have BB := Lib.hid (BB.out.trans (hb.mono BB.out.size))
        clear hb
        go_wp2_with fail
        refine (Cia.out _).mono ?_
        rintro e' wm2 ⟨rfl, hb⟩
        have BB := Lib.hid (BB.out.trans (hb.mono BB.out.size))
        clear hb
        go_wp2_with fail
        refine (CT.out _).mono ?_
        rintro e' wm3 ⟨rfl, hb⟩
        have BB := Lib.hid (BB.out.trans (hb.mono BB.out.size))
        clear hb
        go_wp2_with fail
        refine (Csq.out _).mono ?_
        rintro e' wm4 ⟨rfl, hb⟩
        have BB := Lib.hid (BB.out.trans (hb.mono BB.out.size))
        clear hb
        go_wp2_with fail
        refine (CR1.out _).mono ?_
        rintro e' wm5 ⟨rfl, hb⟩
        have BB := Lib.hid (BB.out.trans (hb.mono BB.out.size))
        clear hb
        go_wp2
        go_ret
        exact ⟨rfl, BB.out⟩
      · obtain rfl := f2.out rfl
        clear f0 f1 f2 f3
        have BB := Lib.hid (Below.refl w.heap.size w)
        go_enter Tryz.func86, Tryz.ntmps86
        go_wp2_with fail
        refine (Cna.out _).mono ?_
        rintro e' wm1 ⟨rfl, hb⟩
        have BB := Lib.hid (BB.out.trans (hb.mono BB.out.size))
        clear hb
        go_wp2_with fail
        refine (Cia.out _).mono ?_
        rintro e' wm2 ⟨rfl, hb⟩
        have BB := Lib.hid (BB.out.trans (hb.mono BB.out.size))
        clear hb
        go_wp2_with fail
        refine (CT.out _).mono ?_
        rintro e' wm3 ⟨rfl, hb⟩
        have BB := Lib.hid (BB.out.trans (hb.mono BB.out.size))
        clear hb
        go_wp2_with fail
        refine (Csq.out _).mono ?_
        rintro e' wm4 ⟨rfl, hb⟩
        have BB := Lib.hid (BB.out.trans (hb.mono BB.out.size))
        clear hb
        go_wp2_with fail
        refine (CR1.out _).mono ?_
        rintro e' wm5 ⟨rfl, hb⟩
        have BB := Lib.hid (BB.out.trans (hb.mono BB.out.size))
        clear hb
        go_wp2_with fail
        refine (CR2.out _).mono ?_
        rintro e' wm6 ⟨rfl, hb⟩
        have BB := Lib.hid (BB.out.trans (hb.mono BB.out.size))
        clear hb
        go_wp2_with fail
        refine (CS.out _).mono ?_
        rintro e' wm7 ⟨rfl, hb⟩
        have BB := Lib.hid (BB.out.trans (hb.mono BB.out.size))
        clear hb
        go_wp2_with fail
        refine (CNS.out _).mono ?_
        rintro e' wm8 ⟨rfl, hb⟩
        have BB := Lib.hid (BB.out.trans (hb.mono BB.out.size))
        clear hb
        go_wp2
        go_ret
        exact ⟨rfl, BB.out⟩
      · obtain rfl := f3.out rfl
        clear f0 f1 f2 f3
        have BB := Lib.hid (Below.refl w.heap.size w)
        go_enter Tryz.func86, Tryz.ntmps86
        go_wp2_with fail
        refine (Cna.out _).mono ?_
        rintro e' wm1 ⟨rfl, hb⟩
        have BB := Lib.hid (BB.out.trans (hb.mono BB.out.size))
        clear hb
        go_wp2_with fail
        refine (Cia.out _).mono ?_
        rintro e' wm2 ⟨rfl, hb⟩
        have BB := Lib.hid (BB.out.trans (hb.mono BB.out.size))
        clear hb
        go_wp2_with fail
        refine (CT.out _).mono ?_
        rintro e' wm3 ⟨rfl, hb⟩
        have BB := Lib.hid (BB.out.trans (hb.mono BB.out.size))
        clear hb
        go_wp2_with fail
        refine (Csq.out _).mono ?_
        rintro e' wm4 ⟨rfl, hb⟩
        have BB := Lib.hid (BB.out.trans (hb.mono BB.out.size))
        clear hb
        go_wp2_with fail
        refine (CR1.out _).mono ?_
        rintro e' wm5 ⟨rfl, hb⟩
        have BB := Lib.hid (BB.out.trans (hb.mono BB.out.size))
        clear hb
        go_wp2_with fail
        refine (CND.out _).mono ?_
        rintro e' wm6 ⟨rfl, hb⟩
        have BB := Lib.hid (BB.out.trans (hb.mono BB.out.size))
        clear hb
        go_wp2
        go_ret
        exact ⟨rfl, BB.out⟩
    · obtain rfl : R = Nm.nan := by rw [← hR]; exact quart_nan _ (by rw [hna, hia]; rfl)
      clear hna hia ha hR
      have BB := Lib.hid (Below.refl w.heap.size w)
      go_enter Tryz.func86, Tryz.ntmps86
      go_wp2_with fail
      refine (Cna.out _).mono ?_
      rintro e' wm1 ⟨rfl, hb⟩
      have BB := Lib.hid (BB.out.trans (hb.mono BB.out.size))
      clear hb
      go_wp2_with fail
      refine (Cia.out _).mono ?_
      rintro e' wm2 ⟨rfl, hb⟩
      have BB := Lib.hid (BB.out.trans (hb.mono BB.out.size))
      clear hb
      go_wp2
      go_ret
      exact ⟨rfl, BB.out⟩
  · obtain rfl : R = Nm.nan := by rw [← hR]; exact quart_nan _ (by rw [hna, hia]; rfl)
    clear hna hia ha hR
    have BB := Lib.hid (Below.refl w.heap.size w)
    go_enter Tryz.func86, Tryz.ntmps86
    go_wp2_with fail
    refine (Cna.out _).mono ?_
    rintro e' wm1 ⟨rfl, hb⟩
    have BB := Lib.hid (BB.out.trans (hb.mono BB.out.size))
    clear hb
    go_wp2
    go_ret
    exact ⟨rfl, BB.out⟩
theorem rsin_any (a : Nat) (ha : a < 2 ^ 64) (w : World) : Calls Tryz.prog 27 #[.int .u64 (a : Int)] w (Gives w (.int .u64 (dQuart a 0 : Nat))) := by
  have CP : Hid (∀ w, Calls Tryz.prog 86 #[.int .u64 (a : Nat), .int .i64 0] w (Gives w (.int .u64 (dQuart a 0 : Nat)))) := Lib.hid (fun w => rquart_any a 0 (by decide) (by decide) ha w)
  obtain ⟨P, hP⟩ : ∃ vv, dQuart a 0 = vv := ⟨_, rfl⟩
  rw [hP] at CP ⊢
  clear ha hP
  have BB := Lib.hid (Below.refl w.heap.size w)
  go_enter Tryz.func27, Tryz.ntmps27
  go_wp2_with fail
  refine (CP.out _).mono ?_
  rintro e' wm1 ⟨rfl, hb⟩
  have BB := Lib.hid (BB.out.trans (hb.mono BB.out.size))
  clear hb
  go_wp2
  go_ret
  exact ⟨rfl, BB.out⟩
theorem rcos_any (a : Nat) (ha : a < 2 ^ 64) (w : World) : Calls Tryz.prog 29 #[.int .u64 (a : Int)] w (Gives w (.int .u64 (dQuart a 1 : Nat))) := by
  have CP : Hid (∀ w, Calls Tryz.prog 86 #[.int .u64 (a : Nat), .int .i64 1] w (Gives w (.int .u64 (dQuart a 1 : Nat)))) := Lib.hid (fun w => rquart_any a 1 (by decide) (by decide) ha w)
  obtain ⟨P, hP⟩ : ∃ vv, dQuart a 1 = vv := ⟨_, rfl⟩
  rw [hP] at CP ⊢
  clear ha hP
  have BB := Lib.hid (Below.refl w.heap.size w)
  go_enter Tryz.func29, Tryz.ntmps29
  go_wp2_with fail
  refine (CP.out _).mono ?_
  rintro e' wm1 ⟨rfl, hb⟩
  have BB := Lib.hid (BB.out.trans (hb.mono BB.out.size))
  clear hb
  go_wp2
  go_ret
  exact ⟨rfl, BB.out⟩
theorem tan_any (a : Nat) (ha : a < 2 ^ 64) (w : World) : Calls Tryz.prog 30 #[.int .u64 (a : Int)] w (Gives w (.int .u64 (dTan a : Nat))) := by
  have Cx : Hid (∀ w, Calls Tryz.prog 26 #[.int .u64 (a : Nat)] w (Gives w (.int .u64 (dQuart a 0 : Nat)))) := Lib.hid (fun w => sin_any a ha w)
  have ox := dQuart_ok a 0
  obtain ⟨x, hx⟩ : ∃ vv, dQuart a 0 = vv := ⟨_, rfl⟩
  rw [hx] at Cx ox
  have Cy : Hid (∀ w, Calls Tryz.prog 28 #[.int .u64 (a : Nat)] w (Gives w (.int .u64 (dQuart a 1 : Nat)))) := Lib.hid (fun w => cos_any a ha w)
  have oy := dQuart_ok a 1
  obtain ⟨y, hy⟩ : ∃ vv, dQuart a 1 = vv := ⟨_, rfl⟩
  rw [hy] at Cy oy
  have CE : Hid (∀ w, Calls Tryz.prog 46 #[.int .u64 (x : Nat), .int .u64 (y : Nat)] w (Gives w (.int .u64 (Nm.dDiv x y : Nat)))) := Lib.hid (fun w => div_any x y ox oy w)
  have oE : Nm.dDiv x y < 2 ^ 64 := (Nm.ok_div _ _).1
  obtain ⟨E, hE⟩ : ∃ vv, Nm.dDiv x y = vv := ⟨_, rfl⟩
  rw [hE] at CE oE
  rw [show dTan a = E by unfold dTan; rw [hx, hy, hE]]
  clear hx hy hE ox oy oE ha
  have BB := Lib.hid (Below.refl w.heap.size w)
  go_enter Tryz.func30, Tryz.ntmps30
  go_wp2_with fail
  refine (Cx.out _).mono ?_
  rintro e' wm1 ⟨rfl, hb⟩
  have BB := Lib.hid (BB.out.trans (hb.mono BB.out.size))
  clear hb
  go_wp2_with fail
  refine (Cy.out _).mono ?_
  rintro e' wm2 ⟨rfl, hb⟩
  have BB := Lib.hid (BB.out.trans (hb.mono BB.out.size))
  clear hb
  go_wp2_with fail
  refine (CE.out _).mono ?_
  rintro e' wm3 ⟨rfl, hb⟩
  have BB := Lib.hid (BB.out.trans (hb.mono BB.out.size))
  clear hb
  go_wp2
  go_ret
  exact ⟨rfl, BB.out⟩
theorem rtan_any (a : Nat) (ha : a < 2 ^ 64) (w : World) : Calls Tryz.prog 31 #[.int .u64 (a : Int)] w (Gives w (.int .u64 (dTan a : Nat))) := by
  have Cx : Hid (∀ w, Calls Tryz.prog 27 #[.int .u64 (a : Nat)] w (Gives w (.int .u64 (dQuart a 0 : Nat)))) := Lib.hid (fun w => rsin_any a ha w)
  have ox := dQuart_ok a 0
  obtain ⟨x, hx⟩ : ∃ vv, dQuart a 0 = vv := ⟨_, rfl⟩
  rw [hx] at Cx ox
  have Cy : Hid (∀ w, Calls Tryz.prog 29 #[.int .u64 (a : Nat)] w (Gives w (.int .u64 (dQuart a 1 : Nat)))) := Lib.hid (fun w => rcos_any a ha w)
  have oy := dQuart_ok a 1
  obtain ⟨y, hy⟩ : ∃ vv, dQuart a 1 = vv := ⟨_, rfl⟩
  rw [hy] at Cy oy
  have CE : Hid (∀ w, Calls Tryz.prog 57 #[.int .u64 (x : Nat), .int .u64 (y : Nat)] w (Gives w (.int .u64 (Nm.dDiv x y : Nat)))) := Lib.hid (fun w => rdiv_any x y ox oy w)
  have oE : Nm.dDiv x y < 2 ^ 64 := (Nm.ok_div _ _).1
  obtain ⟨E, hE⟩ : ∃ vv, Nm.dDiv x y = vv := ⟨_, rfl⟩
  rw [hE] at CE oE
  rw [show dTan a = E by unfold dTan; rw [hx, hy, hE]]
  clear hx hy hE ox oy oE ha
  have BB := Lib.hid (Below.refl w.heap.size w)
  go_enter Tryz.func31, Tryz.ntmps31
  go_wp2_with fail
  refine (Cx.out _).mono ?_
  rintro e' wm1 ⟨rfl, hb⟩
  have BB := Lib.hid (BB.out.trans (hb.mono BB.out.size))
  clear hb
  go_wp2_with fail
  refine (Cy.out _).mono ?_
  rintro e' wm2 ⟨rfl, hb⟩
  have BB := Lib.hid (BB.out.trans (hb.mono BB.out.size))
  clear hb
  go_wp2_with fail
  refine (CE.out _).mono ?_
  rintro e' wm3 ⟨rfl, hb⟩
  have BB := Lib.hid (BB.out.trans (hb.mono BB.out.size))
  clear hb
  go_wp2
  go_ret
  exact ⟨rfl, BB.out⟩
end Go.Proofs.YtffohkpohgkglaaGreat
