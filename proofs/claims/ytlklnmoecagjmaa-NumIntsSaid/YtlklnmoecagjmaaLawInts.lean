/-
  THE WALK of NumInts.
-/
import Derived.Test.YtlklnmoecagjmaaWalkG
import Derived.Test.YtlklnmoecagjmaaNumR
namespace Go.Proofs.Ytlklnmoecagjmaa
set_option linter.unusedVariables false
set_option linter.unusedSimpArgs false
open Go.RowKit
open Ieee
set_option maxRecDepth 100000 in
set_option maxHeartbeats 4000000 in
theorem numints_walk (n : Int) (hw : (Lit.int .i64 n).wf = true) (w : World) :
    Calls Try.prog 5 #[.int .i64 n] w (Gives w (.bool true)) := by
  have hb : -9223372036854775808 ≤ n ∧ n ≤ 9223372036854775807 := by
    simp [Lit.wf, IntKind.min, IntKind.max, IntKind.bits, IntKind.signed] at hw
    omega
  obtain ⟨a, ha⟩ : ∃ a, dInt n = a := ⟨_, rfl⟩
  have la : a < 2 ^ 64 := by rw [← ha]; exact (ok_int n).1
  obtain ⟨m, hm⟩ : ∃ m, Nm.dWhole a = m := ⟨_, rfl⟩
  obtain ⟨ok, hok⟩ : ∃ m, Nm.fits a = m := ⟨_, rfl⟩
  have CI : Hid (∀ w, Calls Try.prog 58 #[.int .i64 n] w fun e w' => e = .returned (.int .u64 (a : Nat)) ∧ w' = w) := Lib.hid (by rw [← ha]; exact fun w => int_any n w)
  have CR : Hid (∀ w, Calls Try.prog 59 #[.int .i64 n] w (Gives w (.int .u64 (a : Nat)))) := Lib.hid (by rw [← ha]; exact fun w => rint_any n hb.1 hb.2 w)
  have CW : Hid (∀ w, Calls Try.prog 56 #[.int .u64 (a : Nat)] w (WholePost w m ok)) := Lib.hid (by rw [← hm, ← hok]; exact fun w => whole_any a la w)
  have CK : Hid (∀ w, Calls Try.prog 31 #[] w (Gives w (.bool true))) := Lib.hid (by exact known_any)
  have CV : Hid (∀ w, Calls Try.prog 60 #[] w fun e w' => e = .returned (.int .u64 9221120237041090561) ∧ w' = w) := Lib.hid (by exact nan_any)
  have CP : Hid (∀ w, Calls Try.prog 61 #[.bool false] w fun e w' => e = .returned (.int .u64 9218868437227405312) ∧ w' = w) := Lib.hid (by exact fun w => inf_any false w)
  have CQ : Hid (∀ w, Calls Try.prog 61 #[.bool true] w fun e w' => e = .returned (.int .u64 18442240474082181120) ∧ w' = w) := Lib.hid (by exact fun w => inf_any true w)
  have HB := Lib.hid (show -9007199254740992 ≤ n → n ≤ 9007199254740992 → ok = true ∧ m = n from fun g1 g2 => by
    have := Nm.int_back n g1 g2
    rw [← hok, ← hm, ← ha]
    exact this)
  clear hw la ha hm hok
  by_cases h1 : -9007199254740992 ≤ n
  · by_cases h2 : n ≤ 9007199254740992
    · have d1 : decide (-9007199254740992 ≤ n) = true := decide_eq_true h1
      have d2 : decide (n ≤ 9007199254740992) = true := decide_eq_true h2
      obtain ⟨rfl, rfl⟩ := HB.out h1 h2
      clear HB
      have B0 := Lib.hid (Below.refl w.heap.size w)
      go_enter Try.func5, Try.ntmps5
      go_wp2_with fail
      refine (CI.out _).mono ?_
      rintro e w1 ⟨rfl, rfl⟩
      go_wp2_with fail
      refine (CW.out _).mono ?_
      rintro e w2 ⟨rfl, hb⟩
      have B1 := Lib.hid (B0.out.trans (hb.mono B0.out.size))
      clear hb B0
      go_wp2_with fail
      refine (CK.out _).mono ?_
      rintro e w3 ⟨rfl, hb⟩
      have B2 := Lib.hid (B1.out.trans (hb.mono B1.out.size))
      clear hb B1
      go_wp2_with fail
      refine (CR.out _).mono ?_
      rintro e w4 ⟨rfl, hb⟩
      have B3 := Lib.hid (B2.out.trans (hb.mono B2.out.size))
      clear hb B2
      go_wp2_with fail
      refine (CV.out _).mono ?_
      rintro e w1 ⟨rfl, rfl⟩
      go_wp2_with fail
      refine (CP.out _).mono ?_
      rintro e w1 ⟨rfl, rfl⟩
      go_wp2_with fail
      refine (CQ.out _).mono ?_
      rintro e w1 ⟨rfl, rfl⟩
      go_wp2
      go_ret
      exact ⟨rfl, B3.out⟩
    · have d1 : decide (-9007199254740992 ≤ n) = true := decide_eq_true h1
      have d2 : decide (n ≤ 9007199254740992) = false := decide_eq_false h2
      clear HB
      have B0 := Lib.hid (Below.refl w.heap.size w)
      go_enter Try.func5, Try.ntmps5
      go_wp2_with fail
      refine (CI.out _).mono ?_
      rintro e w1 ⟨rfl, rfl⟩
      go_wp2_with fail
      refine (CW.out _).mono ?_
      rintro e w2 ⟨rfl, hb⟩
      have B1 := Lib.hid (B0.out.trans (hb.mono B0.out.size))
      clear hb B0
      go_wp2_with fail
      refine (CK.out _).mono ?_
      rintro e w3 ⟨rfl, hb⟩
      have B2 := Lib.hid (B1.out.trans (hb.mono B1.out.size))
      clear hb B1
      go_wp2_with fail
      refine (CR.out _).mono ?_
      rintro e w4 ⟨rfl, hb⟩
      have B3 := Lib.hid (B2.out.trans (hb.mono B2.out.size))
      clear hb B2
      go_wp2_with fail
      refine (CV.out _).mono ?_
      rintro e w1 ⟨rfl, rfl⟩
      go_wp2_with fail
      refine (CP.out _).mono ?_
      rintro e w1 ⟨rfl, rfl⟩
      go_wp2_with fail
      refine (CQ.out _).mono ?_
      rintro e w1 ⟨rfl, rfl⟩
      go_wp2
      go_ret
      exact ⟨rfl, B3.out⟩
  · have d1 : decide (-9007199254740992 ≤ n) = false := decide_eq_false h1
    clear HB
    have B0 := Lib.hid (Below.refl w.heap.size w)
    go_enter Try.func5, Try.ntmps5
    go_wp2_with fail
    refine (CI.out _).mono ?_
    rintro e w1 ⟨rfl, rfl⟩
    go_wp2_with fail
    refine (CW.out _).mono ?_
    rintro e w2 ⟨rfl, hb⟩
    have B1 := Lib.hid (B0.out.trans (hb.mono B0.out.size))
    clear hb B0
    go_wp2_with fail
    refine (CK.out _).mono ?_
    rintro e w3 ⟨rfl, hb⟩
    have B2 := Lib.hid (B1.out.trans (hb.mono B1.out.size))
    clear hb B1
    go_wp2_with fail
    refine (CR.out _).mono ?_
    rintro e w4 ⟨rfl, hb⟩
    have B3 := Lib.hid (B2.out.trans (hb.mono B2.out.size))
    clear hb B2
    go_wp2_with fail
    refine (CV.out _).mono ?_
    rintro e w1 ⟨rfl, rfl⟩
    go_wp2_with fail
    refine (CP.out _).mono ?_
    rintro e w1 ⟨rfl, rfl⟩
    go_wp2_with fail
    refine (CQ.out _).mono ?_
    rintro e w1 ⟨rfl, rfl⟩
    go_wp2
    go_ret
    exact ⟨rfl, B3.out⟩
end Go.Proofs.Ytlklnmoecagjmaa
