/-
  THE WALK of NumRises.
-/
import Derived.Test.YtlklnmoecagjmaaWalkF
import Derived.Test.YtlklnmoecagjmaaNumN
namespace Go.Proofs.Ytlklnmoecagjmaa
set_option linter.unusedVariables false
set_option linter.unusedSimpArgs false
open Go.RowKit
open Ieee
theorem notp (b : Bool) (h : b = false) : (!b) = true := by subst h; rfl
set_option maxRecDepth 100000 in
set_option maxHeartbeats 4000000 in
theorem numrises_walk (a b c : Nat) (ha : a < 2 ^ 64) (hb : b < 2 ^ 64) (hc : c < 2 ^ 64) (w : World) :
    Calls Try.prog 10 #[.int .u64 (a : Int), .int .u64 (b : Int), .int .u64 (c : Int)] w (Gives w (.bool true)) := by
  have nlb := Nm.neg_lt b hb
  have nla := Nm.neg_lt a ha
  obtain ⟨ac, hac⟩ : ∃ x, Nm.dAdd a c = x := ⟨_, rfl⟩
  obtain ⟨bc, hbc⟩ : ∃ x, Nm.dAdd b c = x := ⟨_, rfl⟩
  obtain ⟨cb, hcb⟩ : ∃ x, Nm.dSub c b = x := ⟨_, rfl⟩
  obtain ⟨ca, hca⟩ : ∃ x, Nm.dSub c a = x := ⟨_, rfl⟩
  obtain ⟨aa, haa⟩ : ∃ x, Nm.dAbs a = x := ⟨_, rfl⟩
  obtain ⟨ab, hab⟩ : ∃ x, Nm.dAbs b = x := ⟨_, rfl⟩
  obtain ⟨ra, hra⟩ : ∃ x, Nm.dSqrt aa = x := ⟨_, rfl⟩
  obtain ⟨rb, hrb⟩ : ∃ x, Nm.dSqrt ab = x := ⟨_, rfl⟩
  have l1 : ac < 2 ^ 64 := by rw [← hac]; exact (Nm.ok_add a c ha hc).1
  have l2 : bc < 2 ^ 64 := by rw [← hbc]; exact (Nm.ok_add b c hb hc).1
  have l3 : cb < 2 ^ 64 := by rw [← hcb]; exact (Nm.ok_add c _ hc nlb).1
  have l4 : ca < 2 ^ 64 := by rw [← hca]; exact (Nm.ok_add c _ hc nla).1
  have l5 : aa < 2 ^ 64 := by rw [← haa]; exact (Nm.ok_abs a ha).1
  have l6 : ab < 2 ^ 64 := by rw [← hab]; exact (Nm.ok_abs b hb).1
  have l7 : ra < 2 ^ 64 := by rw [← hra]; exact (Nm.ok_sqrt aa l5).1
  have l8 : rb < 2 ^ 64 := by rw [← hrb]; exact (Nm.ok_sqrt ab l6).1
  have CAC : Hid (∀ w, Calls Try.prog 13 #[.int .u64 (a : Nat), .int .u64 (c : Nat)] w (Gives w (.int .u64 (ac : Nat)))) := Lib.hid (by rw [← hac]; exact fun w => add_any a c ha hc w)
  have CBC : Hid (∀ w, Calls Try.prog 13 #[.int .u64 (b : Nat), .int .u64 (c : Nat)] w (Gives w (.int .u64 (bc : Nat)))) := Lib.hid (by rw [← hbc]; exact fun w => add_any b c hb hc w)
  have CCB : Hid (∀ w, Calls Try.prog 15 #[.int .u64 (c : Nat), .int .u64 (b : Nat)] w (Gives w (.int .u64 (cb : Nat)))) := Lib.hid (by rw [← hcb]; exact fun w => sub_any c b hc hb w)
  have CCA : Hid (∀ w, Calls Try.prog 15 #[.int .u64 (c : Nat), .int .u64 (a : Nat)] w (Gives w (.int .u64 (ca : Nat)))) := Lib.hid (by rw [← hca]; exact fun w => sub_any c a hc ha w)
  have CAA : Hid (∀ w, Calls Try.prog 36 #[.int .u64 (a : Nat)] w fun e w' => e = .returned (.int .u64 (aa : Nat)) ∧ w' = w) := Lib.hid (by rw [← haa]; exact fun w => abs_any a ha w)
  have CAB : Hid (∀ w, Calls Try.prog 36 #[.int .u64 (b : Nat)] w fun e w' => e = .returned (.int .u64 (ab : Nat)) ∧ w' = w) := Lib.hid (by rw [← hab]; exact fun w => abs_any b hb w)
  have CRA : Hid (∀ w, Calls Try.prog 40 #[.int .u64 (aa : Nat)] w (Gives w (.int .u64 (ra : Nat)))) := Lib.hid (by rw [← hra]; exact fun w => sqrt_any aa l5 w)
  have CRB : Hid (∀ w, Calls Try.prog 40 #[.int .u64 (ab : Nat)] w (Gives w (.int .u64 (rb : Nat)))) := Lib.hid (by rw [← hrb]; exact fun w => sqrt_any ab l6 w)
  have CK : Hid (∀ w, Calls Try.prog 31 #[] w (Gives w (.bool true))) := Lib.hid (by exact known_any)
  obtain ⟨d, hd⟩ : ∃ v, Nm.dCmp a b = v := ⟨_, rfl⟩
  obtain ⟨ok, hok⟩ : ∃ v, Nm.dCok a b = v := ⟨_, rfl⟩
  have CD : Hid (∀ w, Calls Try.prog 29 #[.int .u64 (a : Nat), .int .u64 (b : Nat)] w fun e w' => e = .returned (.tuple #[.int .i64 d, .bool ok]) ∧ w' = w) := Lib.hid (by rw [← hd, ← hok]; exact fun w => cmp_any a b ha hb w)
  obtain ⟨ev, hev⟩ : ∃ v, Nm.dCmp ac bc = v := ⟨_, rfl⟩
  obtain ⟨is, his⟩ : ∃ v, Nm.dCok ac bc = v := ⟨_, rfl⟩
  have CE : Hid (∀ w, Calls Try.prog 29 #[.int .u64 (ac : Nat), .int .u64 (bc : Nat)] w fun e w' => e = .returned (.tuple #[.int .i64 ev, .bool is]) ∧ w' = w) := Lib.hid (by rw [← hev, ← his]; exact fun w => cmp_any ac bc l1 l2 w)
  obtain ⟨f, hf⟩ : ∃ v, Nm.dCmp cb ca = v := ⟨_, rfl⟩
  obtain ⟨was, hwas⟩ : ∃ v, Nm.dCok cb ca = v := ⟨_, rfl⟩
  have CF : Hid (∀ w, Calls Try.prog 29 #[.int .u64 (cb : Nat), .int .u64 (ca : Nat)] w fun e w' => e = .returned (.tuple #[.int .i64 f, .bool was]) ∧ w' = w) := Lib.hid (by rw [← hf, ← hwas]; exact fun w => cmp_any cb ca l3 l4 w)
  obtain ⟨g, hg⟩ : ∃ v, Nm.dCmp ra rb = v := ⟨_, rfl⟩
  obtain ⟨root, hroot⟩ : ∃ v, Nm.dCok ra rb = v := ⟨_, rfl⟩
  have CG : Hid (∀ w, Calls Try.prog 29 #[.int .u64 (ra : Nat), .int .u64 (rb : Nat)] w fun e w' => e = .returned (.tuple #[.int .i64 g, .bool root]) ∧ w' = w) := Lib.hid (by rw [← hg, ← hroot]; exact fun w => cmp_any ra rb l7 l8 w)
  obtain ⟨h, hh⟩ : ∃ v, Nm.dCmp aa ab = v := ⟨_, rfl⟩
  obtain ⟨size, hsize⟩ : ∃ v, Nm.dCok aa ab = v := ⟨_, rfl⟩
  have CH : Hid (∀ w, Calls Try.prog 29 #[.int .u64 (aa : Nat), .int .u64 (ab : Nat)] w fun e w' => e = .returned (.tuple #[.int .i64 h, .bool size]) ∧ w' = w) := Lib.hid (by rw [← hh, ← hsize]; exact fun w => cmp_any aa ab l5 l6 w)
  have F1 : ok = true → ¬ 0 < d → is = false ∨ is = true ∧ ev ≤ 0 := fun k1 k2 => by
    rw [← his, ← hev, ← hac, ← hbc]; exact Nm.rises_add (hok.trans k1) (by rw [hd]; exact k2)
  have F2 : ok = true → ¬ 0 < d → was = false ∨ was = true ∧ f ≤ 0 := fun k1 k2 => by
    rw [← hwas, ← hf, ← hcb, ← hca]; exact Nm.rises_sub ha hb hc (hok.trans k1) (by rw [hd]; exact k2)
  have F3 : ok = true → root = true ∧ size = true ∧ (g = 0 ∨ g ≠ 0 ∧ g = h) := fun k1 => by
    rw [← hroot, ← hsize, ← hg, ← hh, ← hra, ← hrb, ← haa, ← hab]; exact Nm.rises_root (hok.trans k1)
  clear hac hbc hcb hca haa hab hra hrb l1 l2 l3 l4 l5 l6 l7 l8 hd hok hev his hf hwas hg hroot hh hsize nla nlb ha hb hc
  have G1 := Lib.hid F1
  have G2 := Lib.hid F2
  have G3 := Lib.hid F3
  clear F1 F2 F3
  cases ok
  · clear G1 G2 G3
    have B0 := Lib.hid (Below.refl w.heap.size w)
    go_enter Try.func10, Try.ntmps10
    go_wp2_with fail
    refine (CD.out _).mono ?_
    rintro e w1 ⟨rfl, rfl⟩
    go_wp2_with fail
    refine (CK.out _).mono ?_
    rintro e w2 ⟨rfl, hb⟩
    have B1 := Lib.hid (B0.out.trans (hb.mono B0.out.size))
    clear hb B0
    go_wp2
    go_ret
    exact ⟨rfl, B1.out⟩
  · by_cases hd : 0 < d
    · have c1 : decide (0 < d) = true := decide_eq_true hd
      clear G1 G2 G3 hd
      have B0 := Lib.hid (Below.refl w.heap.size w)
      go_enter Try.func10, Try.ntmps10
      go_wp2_with fail
      refine (CD.out _).mono ?_
      rintro e w1 ⟨rfl, rfl⟩
      go_wp2_with fail
      refine (CK.out _).mono ?_
      rintro e w2 ⟨rfl, hb⟩
      have B1 := Lib.hid (B0.out.trans (hb.mono B0.out.size))
      clear hb B0
      go_wp2
      go_ret
      exact ⟨rfl, B1.out⟩
    · have c1 : decide (0 < d) = false := decide_eq_false hd
      have K1 := G1.out rfl hd
      have K2 := G2.out rfl hd
      obtain ⟨rfl, rfl, K3⟩ := G3.out rfl
      clear G1 G2 G3 hd
      have X1 : is = false ∨ is = true ∧ decide (ev ≤ 0) = true := K1.imp id fun k => ⟨k.1, decide_eq_true k.2⟩
      have X2 : was = false ∨ was = true ∧ decide (f ≤ 0) = true := K2.imp id fun k => ⟨k.1, decide_eq_true k.2⟩
      have X3 : (g == 0) = true ∨ (g == 0) = false ∧ (g == h) = true := K3.imp (fun k => by simpa using k) fun k => ⟨by simpa using k.1, by simpa using k.2⟩
      clear K1 K2 K3
      rcases X1 with rfl | ⟨rfl, y1⟩ <;> rcases X2 with rfl | ⟨rfl, y2⟩ <;> rcases X3 with y3 | ⟨y3, y4⟩
      all_goals
        have B0 := Lib.hid (Below.refl w.heap.size w)
        go_enter Try.func10, Try.ntmps10
        go_wp2_with fail
        refine (CD.out _).mono ?_
        rintro e w1 ⟨rfl, rfl⟩
        go_wp2_with fail
        refine (CAC.out _).mono ?_
        rintro e w2 ⟨rfl, hb⟩
        have B1 := Lib.hid (B0.out.trans (hb.mono B0.out.size))
        clear hb B0
        go_wp2_with fail
        refine (CBC.out _).mono ?_
        rintro e w3 ⟨rfl, hb⟩
        have B2 := Lib.hid (B1.out.trans (hb.mono B1.out.size))
        clear hb B1
        go_wp2_with fail
        refine (CE.out _).mono ?_
        rintro e w1 ⟨rfl, rfl⟩
        go_wp2_with fail
        refine (CCB.out _).mono ?_
        rintro e w4 ⟨rfl, hb⟩
        have B3 := Lib.hid (B2.out.trans (hb.mono B2.out.size))
        clear hb B2
        go_wp2_with fail
        refine (CCA.out _).mono ?_
        rintro e w5 ⟨rfl, hb⟩
        have B4 := Lib.hid (B3.out.trans (hb.mono B3.out.size))
        clear hb B3
        go_wp2_with fail
        refine (CF.out _).mono ?_
        rintro e w1 ⟨rfl, rfl⟩
        go_wp2_with fail
        refine (CAA.out _).mono ?_
        rintro e w1 ⟨rfl, rfl⟩
        go_wp2_with fail
        refine (CRA.out _).mono ?_
        rintro e w6 ⟨rfl, hb⟩
        have B5 := Lib.hid (B4.out.trans (hb.mono B4.out.size))
        clear hb B4
        go_wp2_with fail
        refine (CAB.out _).mono ?_
        rintro e w1 ⟨rfl, rfl⟩
        go_wp2_with fail
        refine (CRB.out _).mono ?_
        rintro e w7 ⟨rfl, hb⟩
        have B6 := Lib.hid (B5.out.trans (hb.mono B5.out.size))
        clear hb B5
        go_wp2_with fail
        refine (CG.out _).mono ?_
        rintro e w1 ⟨rfl, rfl⟩
        go_wp2_with fail
        refine (CAA.out _).mono ?_
        rintro e w1 ⟨rfl, rfl⟩
        go_wp2_with fail
        refine (CAB.out _).mono ?_
        rintro e w1 ⟨rfl, rfl⟩
        go_wp2_with fail
        refine (CH.out _).mono ?_
        rintro e w1 ⟨rfl, rfl⟩
        go_wp2_with fail
        refine (CK.out _).mono ?_
        rintro e w8 ⟨rfl, hb⟩
        have B7 := Lib.hid (B6.out.trans (hb.mono B6.out.size))
        clear hb B6
        go_wp2
        go_ret
        exact ⟨rfl, B7.out⟩
end Go.Proofs.Ytlklnmoecagjmaa
