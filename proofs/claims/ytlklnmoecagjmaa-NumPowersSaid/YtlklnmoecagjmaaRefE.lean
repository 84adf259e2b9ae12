/-
  WALKS: the sign of a number; angles told in degrees: the code's and the document's.
-/
import Derived.Test.YtlklnmoecagjmaaRefB
import Derived.Test.YtlklnmoecagjmaaRefC
import Derived.Test.YtlklnmoecagjmaaRefD
namespace Go.Proofs.Ytlklnmoecagjmaa
set_option linter.unusedVariables false
set_option linter.unusedSimpArgs false
open Go.RowKit
def dSgn (a : Nat) : Nat := if Nm.isNaN a then Nm.nan else if Nm.nought a then a else if Nm.neg a then 13830554455654793216 else 4607182418800017408
theorem int_m1 : dInt (-1) = 13830554455654793216 := by decide +kernel
theorem int_p1 : dInt 1 = 4607182418800017408 := by decide +kernel
theorem int_180 : dInt 180 = 4640537203540230144 := by decide +kernel
theorem sgn_any (a : Nat) (ha : a < 2 ^ 64) (w : World) : Calls Try.prog 38 #[.int .u64 (a : Int)] w (Gives w (.int .u64 (dSgn a : Nat))) := by
  unfold dSgn
  obtain ⟨na, hna⟩ : ∃ x, Nm.isNaN a = x := ⟨_, rfl⟩
  obtain ⟨za, hza⟩ : ∃ x, Nm.nought a = x := ⟨_, rfl⟩
  obtain ⟨sa, hsa⟩ : ∃ x, Nm.neg a = x := ⟨_, rfl⟩
  have NA : Hid (∀ w, Calls Try.prog 48 #[.int .u64 (a : Nat)] w fun e w' => e = .returned (.bool na) ∧ w' = w) := Lib.hid (by rw [← hna]; exact fun w => nannum_any a ha w)
  have ZA : Hid (∀ w, Calls Try.prog 85 #[.int .u64 (a : Nat)] w fun e w' => e = .returned (.bool za) ∧ w' = w) := Lib.hid (by rw [← hza]; exact fun w => zero_any a ha w)
  have SA : Hid (∀ w, Calls Try.prog 87 #[.int .u64 (a : Nat)] w fun e w' => e = .returned (.bool sa) ∧ w' = w) := Lib.hid (by rw [← hsa]; exact fun w => sign_any a ha w)
  have IM : Hid (∀ w, Calls Try.prog 58 #[.int .i64 (-1)] w fun e w' => e = .returned (.int .u64 13830554455654793216) ∧ w' = w) := Lib.hid (fun w => by have h := int_any (-1) w; rw [int_m1] at h; exact h)
  rw [hna, hza, hsa]
  clear hna hza hsa ha
  cases na
  · cases za
    · cases sa
      · rw [if_neg (by decide)]
        rw [if_neg (by decide)]
        rw [if_neg (by decide)]
        have BB := Lib.hid (Below.refl w.heap.size w)
        go_enter Try.func38, Try.ntmps38
        go_wp2_with fail
        refine (NA.out _).mono ?_
        rintro e' wq1 ⟨rfl, rfl⟩
        go_wp2_with fail
        refine (ZA.out _).mono ?_
        rintro e' wq2 ⟨rfl, rfl⟩
        go_wp2_with fail
        refine (SA.out _).mono ?_
        rintro e' wq3 ⟨rfl, rfl⟩
        go_wp2
        go_ret
        exact ⟨rfl, BB.out⟩
      · rw [if_neg (by decide)]
        rw [if_neg (by decide)]
        rw [if_pos rfl]
        have BB := Lib.hid (Below.refl w.heap.size w)
        go_enter Try.func38, Try.ntmps38
        go_wp2_with fail
        refine (NA.out _).mono ?_
        rintro e' wq1 ⟨rfl, rfl⟩
        go_wp2_with fail
        refine (ZA.out _).mono ?_
        rintro e' wq2 ⟨rfl, rfl⟩
        go_wp2_with fail
        refine (SA.out _).mono ?_
        rintro e' wq3 ⟨rfl, rfl⟩
        go_wp2_with fail
        refine (IM.out _).mono ?_
        rintro e' wq4 ⟨rfl, rfl⟩
        go_wp2
        go_ret
        exact ⟨rfl, BB.out⟩
    · rw [if_neg (by decide)]
      rw [if_pos rfl]
      have BB := Lib.hid (Below.refl w.heap.size w)
      go_enter Try.func38, Try.ntmps38
      go_wp2_with fail
      refine (NA.out _).mono ?_
      rintro e' wq1 ⟨rfl, rfl⟩
      go_wp2_with fail
      refine (ZA.out _).mono ?_
      rintro e' wq2 ⟨rfl, rfl⟩
      go_wp2
      go_ret
      exact ⟨rfl, BB.out⟩
  · rw [if_pos rfl]
    have BB := Lib.hid (Below.refl w.heap.size w)
    go_enter Try.func38, Try.ntmps38
    go_wp2_with fail
    refine (NA.out _).mono ?_
    rintro e' wq1 ⟨rfl, rfl⟩
    go_wp2
    go_ret
    exact ⟨rfl, BB.out⟩
theorem rsgn_any (a : Nat) (ha : a < 2 ^ 64) (w : World) : Calls Try.prog 39 #[.int .u64 (a : Int)] w (Gives w (.int .u64 (dSgn a : Nat))) := by
  unfold dSgn
  obtain ⟨na, hna⟩ : ∃ x, Nm.isNaN a = x := ⟨_, rfl⟩
  obtain ⟨za, hza⟩ : ∃ x, Nm.nought a = x := ⟨_, rfl⟩
  obtain ⟨sa, hsa⟩ : ∃ x, Nm.neg a = x := ⟨_, rfl⟩
  have NA : Hid (∀ w, Calls Try.prog 49 #[.int .u64 (a : Nat)] w fun e w' => e = .returned (.bool na) ∧ w' = w) := Lib.hid (by rw [← hna]; exact fun w => rnan_any a ha w)
  have ZA : Hid (∀ w, Calls Try.prog 78 #[.int .u64 (a : Nat)] w fun e w' => e = .returned (.bool za) ∧ w' = w) := Lib.hid (by rw [← hza]; exact fun w => rzero_any a ha w)
  have SA : Hid (∀ w, Calls Try.prog 73 #[.int .u64 (a : Nat)] w fun e w' => e = .returned (.bool sa) ∧ w' = w) := Lib.hid (by rw [← hsa]; exact fun w => rsign_any a ha w)
  have IM : Hid (∀ w, Calls Try.prog 59 #[.int .i64 (-1)] w (Gives w (.int .u64 13830554455654793216))) := Lib.hid (fun w => by have h := rint_any (-1) (by decide) (by decide) w; rw [int_m1] at h; exact h)
  have IP : Hid (∀ w, Calls Try.prog 59 #[.int .i64 1] w (Gives w (.int .u64 4607182418800017408))) := Lib.hid (fun w => by have h := rint_any 1 (by decide) (by decide) w; rw [int_p1] at h; exact h)
  rw [hna, hza, hsa]
  clear hna hza hsa ha
  cases na
  · cases za
    · cases sa
      · rw [if_neg (by decide)]
        rw [if_neg (by decide)]
        rw [if_neg (by decide)]
        have BB := Lib.hid (Below.refl w.heap.size w)
        go_enter Try.func39, Try.ntmps39
        go_wp2_with fail
        refine (NA.out _).mono ?_
        rintro e' wq1 ⟨rfl, rfl⟩
        go_wp2_with fail
        refine (ZA.out _).mono ?_
        rintro e' wq2 ⟨rfl, rfl⟩
        go_wp2_with fail
        refine (SA.out _).mono ?_
        rintro e' wq3 ⟨rfl, rfl⟩
        go_wp2_with fail
        refine (IP.out _).mono ?_
        rintro e' wm4 ⟨rfl, hb⟩
        have BB := Lib.hid (BB.out.trans (hb.mono BB.out.size))
        clear hb
        go_wp2
        go_ret
        exact ⟨rfl, BB.out⟩
      · rw [if_neg (by decide)]
        rw [if_neg (by decide)]
        rw [if_pos rfl]
        have BB := Lib.hid (Below.refl w.heap.size w)
        go_enter Try.func39, Try.ntmps39
        go_wp2_with fail
        refine (NA.out _).mono ?_
        rintro e' wq1 ⟨rfl, rfl⟩
        go_wp2_with fail
        refine (ZA.out _).mono ?_
        rintro e' wq2 ⟨rfl, rfl⟩
        go_wp2_with fail
        refine (SA.out _).mono ?_
        rintro e' wq3 ⟨rfl, rfl⟩
        go_wp2_with fail
        refine (IM.out _).mono ?_
        rintro e' wm4 ⟨rfl, hb⟩
        have BB := Lib.hid (BB.out.trans (hb.mono BB.out.size))
        clear hb
        go_wp2
        go_ret
        exact ⟨rfl, BB.out⟩
    · rw [if_neg (by decide)]
      rw [if_pos rfl]
      have BB := Lib.hid (Below.refl w.heap.size w)
      go_enter Try.func39, Try.ntmps39
      go_wp2_with fail
      refine (NA.out _).mono ?_
      rintro e' wq1 ⟨rfl, rfl⟩
      go_wp2_with fail
      refine (ZA.out _).mono ?_
      rintro e' wq2 ⟨rfl, rfl⟩
      go_wp2
      go_ret
      exact ⟨rfl, BB.out⟩
  · rw [if_pos rfl]
    have BB := Lib.hid (Below.refl w.heap.size w)
    go_enter Try.func39, Try.ntmps39
    go_wp2_with fail
    refine (NA.out _).mono ?_
    rintro e' wq1 ⟨rfl, rfl⟩
    go_wp2
    go_ret
    exact ⟨rfl, BB.out⟩
theorem deg_any (a : Nat) (ha : a < 2 ^ 64) (w : World) : Calls Try.prog 52 #[.int .u64 (a : Int)] w (Gives w (.int .u64 (Nm.dDiv (Nm.dMul a 4640537203540230144) 4614256656552045848 : Nat))) := by
  have IC : Hid (∀ w, Calls Try.prog 58 #[.int .i64 180] w fun e w' => e = .returned (.int .u64 4640537203540230144) ∧ w' = w) := Lib.hid (fun w => by have h := int_any 180 w; rw [int_180] at h; exact h)
  have lm := (Nm.ok_mul a 4640537203540230144).1
  have CM : Hid (∀ w, Calls Try.prog 17 #[.int .u64 (a : Nat), .int .u64 4640537203540230144] w (Gives w (.int .u64 (Nm.dMul a 4640537203540230144 : Nat)))) := Lib.hid (fun w => mul_any a 4640537203540230144 ha (by decide) w)
  obtain ⟨M, hM⟩ : ∃ M, Nm.dMul a 4640537203540230144 = M := ⟨_, rfl⟩
  rw [hM] at CM lm ⊢
  have CD : Hid (∀ w, Calls Try.prog 19 #[.int .u64 (M : Nat), .int .u64 4614256656552045848] w (Gives w (.int .u64 (Nm.dDiv M 4614256656552045848 : Nat)))) := Lib.hid (fun w => div_any M 4614256656552045848 lm (by decide) w)
  obtain ⟨D, hD⟩ : ∃ D, Nm.dDiv M 4614256656552045848 = D := ⟨_, rfl⟩
  rw [hD] at CD ⊢
  clear hM hD lm ha
  have BB := Lib.hid (Below.refl w.heap.size w)
  go_enter Try.func52, Try.ntmps52
  go_wp2_with fail
  refine (IC.out _).mono ?_
  rintro e' wq1 ⟨rfl, rfl⟩
  go_wp2_with fail
  refine (CM.out _).mono ?_
  rintro e' wm2 ⟨rfl, hb⟩
  have BB := Lib.hid (BB.out.trans (hb.mono BB.out.size))
  clear hb
  go_wp2_with fail
  refine (CD.out _).mono ?_
  rintro e' wm3 ⟨rfl, hb⟩
  have BB := Lib.hid (BB.out.trans (hb.mono BB.out.size))
  clear hb
  go_wp2
  go_ret
  exact ⟨rfl, BB.out⟩
theorem rdeg_any (a : Nat) (ha : a < 2 ^ 64) (w : World) : Calls Try.prog 53 #[.int .u64 (a : Int)] w (Gives w (.int .u64 (Nm.dDiv (Nm.dMul a 4640537203540230144) 4614256656552045848 : Nat))) := by
  have IC : Hid (∀ w, Calls Try.prog 59 #[.int .i64 180] w (Gives w (.int .u64 4640537203540230144))) := Lib.hid (fun w => by have h := rint_any 180 (by decide) (by decide) w; rw [int_180] at h; exact h)
  have lm := (Nm.ok_mul a 4640537203540230144).1
  have CM : Hid (∀ w, Calls Try.prog 18 #[.int .u64 (a : Nat), .int .u64 4640537203540230144] w (Gives w (.int .u64 (Nm.dMul a 4640537203540230144 : Nat)))) := Lib.hid (fun w => rmul_any a 4640537203540230144 ha (by decide) w)
  obtain ⟨M, hM⟩ : ∃ M, Nm.dMul a 4640537203540230144 = M := ⟨_, rfl⟩
  rw [hM] at CM lm ⊢
  have CD : Hid (∀ w, Calls Try.prog 20 #[.int .u64 (M : Nat), .int .u64 4614256656552045848] w (Gives w (.int .u64 (Nm.dDiv M 4614256656552045848 : Nat)))) := Lib.hid (fun w => rdiv_any M 4614256656552045848 lm (by decide) w)
  obtain ⟨D, hD⟩ : ∃ D, Nm.dDiv M 4614256656552045848 = D := ⟨_, rfl⟩
  rw [hD] at CD ⊢
  clear hM hD lm ha
  have BB := Lib.hid (Below.refl w.heap.size w)
  go_enter Try.func53, Try.ntmps53
  go_wp2_with fail
  refine (IC.out _).mono ?_
  rintro e' wm1 ⟨rfl, hb⟩
  have BB := Lib.hid (BB.out.trans (hb.mono BB.out.size))
  clear hb
  go_wp2_with fail
  refine (CM.out _).mono ?_
  rintro e' wm2 ⟨rfl, hb⟩
  have BB := Lib.hid (BB.out.trans (hb.mono BB.out.size))
  clear hb
  go_wp2_with fail
  refine (CD.out _).mono ?_
  rintro e' wm3 ⟨rfl, hb⟩
  have BB := Lib.hid (BB.out.trans (hb.mono BB.out.size))
  clear hb
  go_wp2
  go_ret
  exact ⟨rfl, BB.out⟩
theorem rad_any (a : Nat) (ha : a < 2 ^ 64) (w : World) : Calls Try.prog 54 #[.int .u64 (a : Int)] w (Gives w (.int .u64 (Nm.dDiv (Nm.dMul a 4614256656552045848) 4640537203540230144 : Nat))) := by
  have IC : Hid (∀ w, Calls Try.prog 58 #[.int .i64 180] w fun e w' => e = .returned (.int .u64 4640537203540230144) ∧ w' = w) := Lib.hid (fun w => by have h := int_any 180 w; rw [int_180] at h; exact h)
  have lm := (Nm.ok_mul a 4614256656552045848).1
  have CM : Hid (∀ w, Calls Try.prog 17 #[.int .u64 (a : Nat), .int .u64 4614256656552045848] w (Gives w (.int .u64 (Nm.dMul a 4614256656552045848 : Nat)))) := Lib.hid (fun w => mul_any a 4614256656552045848 ha (by decide) w)
  obtain ⟨M, hM⟩ : ∃ M, Nm.dMul a 4614256656552045848 = M := ⟨_, rfl⟩
  rw [hM] at CM lm ⊢
  have CD : Hid (∀ w, Calls Try.prog 19 #[.int .u64 (M : Nat), .int .u64 4640537203540230144] w (Gives w (.int .u64 (Nm.dDiv M 4640537203540230144 : Nat)))) := Lib.hid (fun w => div_any M 4640537203540230144 lm (by decide) w)
  obtain ⟨D, hD⟩ : ∃ D, Nm.dDiv M 4640537203540230144 = D := ⟨_, rfl⟩
  rw [hD] at CD ⊢
  clear hM hD lm ha
  have BB := Lib.hid (Below.refl w.heap.size w)
  go_enter Try.func54, Try.ntmps54
  go_wp2_with fail
  refine (CM.out _).mono ?_
  rintro e' wm1 ⟨rfl, hb⟩
  have BB := Lib.hid (BB.out.trans (hb.mono BB.out.size))
  clear hb
  go_wp2_with fail
  refine (IC.out _).mono ?_
  rintro e' wq2 ⟨rfl, rfl⟩
  go_wp2_with fail
  refine (CD.out _).mono ?_
  rintro e' wm3 ⟨rfl, hb⟩
  have BB := Lib.hid (BB.out.trans (hb.mono BB.out.size))
  clear hb
  go_wp2
  go_ret
  exact ⟨rfl, BB.out⟩
theorem rrad_any (a : Nat) (ha : a < 2 ^ 64) (w : World) : Calls Try.prog 55 #[.int .u64 (a : Int)] w (Gives w (.int .u64 (Nm.dDiv (Nm.dMul a 4614256656552045848) 4640537203540230144 : Nat))) := by
  have IC : Hid (∀ w, Calls Try.prog 59 #[.int .i64 180] w (Gives w (.int .u64 4640537203540230144))) := Lib.hid (fun w => by have h := rint_any 180 (by decide) (by decide) w; rw [int_180] at h; exact h)
  have lm := (Nm.ok_mul a 4614256656552045848).1
  have CM : Hid (∀ w, Calls Try.prog 18 #[.int .u64 (a : Nat), .int .u64 4614256656552045848] w (Gives w (.int .u64 (Nm.dMul a 4614256656552045848 : Nat)))) := Lib.hid (fun w => rmul_any a 4614256656552045848 ha (by decide) w)
  obtain ⟨M, hM⟩ : ∃ M, Nm.dMul a 4614256656552045848 = M := ⟨_, rfl⟩
  rw [hM] at CM lm ⊢
  have CD : Hid (∀ w, Calls Try.prog 20 #[.int .u64 (M : Nat), .int .u64 4640537203540230144] w (Gives w (.int .u64 (Nm.dDiv M 4640537203540230144 : Nat)))) := Lib.hid (fun w => rdiv_any M 4640537203540230144 lm (by decide) w)
  obtain ⟨D, hD⟩ : ∃ D, Nm.dDiv M 4640537203540230144 = D := ⟨_, rfl⟩
  rw [hD] at CD ⊢
  clear hM hD lm ha
  have BB := Lib.hid (Below.refl w.heap.size w)
  go_enter Try.func55, Try.ntmps55
  go_wp2_with fail
  refine (CM.out _).mono ?_
  rintro e' wm1 ⟨rfl, hb⟩
  have BB := Lib.hid (BB.out.trans (hb.mono BB.out.size))
  clear hb
  go_wp2_with fail
  refine (IC.out _).mono ?_
  rintro e' wm2 ⟨rfl, hb⟩
  have BB := Lib.hid (BB.out.trans (hb.mono BB.out.size))
  clear hb
  go_wp2_with fail
  refine (CD.out _).mono ?_
  rintro e' wm3 ⟨rfl, hb⟩
  have BB := Lib.hid (BB.out.trans (hb.mono BB.out.size))
  clear hb
  go_wp2
  go_ret
  exact ⟨rfl, BB.out⟩
end Go.Proofs.Ytlklnmoecagjmaa
