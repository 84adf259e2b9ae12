/-
  THE WALK of NumRest.
-/
import Derived.Test.YtlklnmoecagjmaaWalkN
import Derived.Test.YtlklnmoecagjmaaNumV
namespace Go.Proofs.Ytlklnmoecagjmaa
set_option linter.unusedVariables false
set_option linter.unusedSimpArgs false
open Go.RowKit
theorem sign_div (x : Nat) (h : x < 2 ^ 64) : (x : Int) / 9223372036854775808 = (((Nm.neg x).toNat : Nat) : Int) := by
  unfold Nm.neg
  by_cases hn : 2 ^ 63 ≤ x
  · rw [decide_eq_true hn, show Bool.toNat true = 1 from rfl]; omega
  · rw [decide_eq_false hn, show Bool.toNat false = 0 from rfl]; omega
set_option maxRecDepth 100000 in
set_option maxHeartbeats 4000000 in
theorem numrest_walk (a b : Nat) (ha : a < 2 ^ 64) (hb : b < 2 ^ 64) (w : World) : Calls Try.prog 12 #[.int .u64 (a : Int), .int .u64 (b : Int)] w (Gives w (.bool true)) := by
  have hM := Nm.mod_laws ha hb
  have lm := (Nm.ok_mod a b ha).1
  have C1 := fun w => mod_any a b ha hb w
  obtain ⟨m, hm⟩ : ∃ m, Nm.dMod a b = m := ⟨_, rfl⟩
  rw [hm] at hM lm C1
  have HC1 := Lib.hid C1
  have CK := Lib.hid known_any
  have CV := Lib.hid nan_any
  rcases hM with ⟨hbad, hmn⟩ | ⟨nm, o1, o2, c1, c2, hs, e1, e2⟩
  · rw [hmn] at HC1
    have hz : Nm.isNaN b = false → Nm.nought b = true → Nm.dCok b 0 = true ∧ (Nm.dCmp b 0 == 0) = true := fun h1 h2 => by
      refine ⟨?_, by
        have k0 : Nm.nought 0 = true := by decide
        rw [Nm.dCmp_zeros h2 k0]; rfl⟩
      unfold Nm.dCok
      rw [h1, show Nm.isNaN 0 = false by decide]; rfl
    have NM : Hid (∀ w, Calls Try.prog 48 #[.int .u64 (Nm.nan : Nat)] w fun e w' => e = .returned (.bool true) ∧ w' = w) := Lib.hid (fun w => nannum_any Nm.nan (by decide) w)
    have CC : Hid (∀ w, Calls Try.prog 29 #[.int .u64 (b : Nat), .int .u64 0] w fun e w' => e = .returned (.tuple #[.int .i64 (Nm.dCmp b 0), .bool (Nm.dCok b 0)]) ∧ w' = w) := Lib.hid (fun w => cmp_any b 0 hb (by decide) w)
    obtain ⟨na, hna⟩ : ∃ x, Nm.isNaN a = x := ⟨_, rfl⟩
    obtain ⟨nb, hnb⟩ : ∃ x, Nm.isNaN b = x := ⟨_, rfl⟩
    obtain ⟨ia, hia⟩ : ∃ x, Nm.isInf a = x := ⟨_, rfl⟩
    obtain ⟨zb, hzb⟩ : ∃ x, Nm.nought b = x := ⟨_, rfl⟩
    have NA : Hid (∀ w, Calls Try.prog 48 #[.int .u64 (a : Nat)] w fun e w' => e = .returned (.bool na) ∧ w' = w) := Lib.hid (by rw [← hna]; exact fun w => nannum_any a ha w)
    have NB : Hid (∀ w, Calls Try.prog 48 #[.int .u64 (b : Nat)] w fun e w' => e = .returned (.bool nb) ∧ w' = w) := Lib.hid (by rw [← hnb]; exact fun w => nannum_any b hb w)
    have IA : Hid (∀ w, Calls Try.prog 50 #[.int .u64 (a : Nat)] w fun e w' => e = .returned (.bool ia) ∧ w' = w) := Lib.hid (by rw [← hia]; exact fun w => infnum_any a ha w)
    obtain ⟨z, hz1⟩ : ∃ x, Nm.dCmp b 0 = x := ⟨_, rfl⟩
    obtain ⟨ok, hok⟩ : ∃ x, Nm.dCok b 0 = x := ⟨_, rfl⟩
    rw [hz1, hok] at CC hz
    rw [hnb, hzb] at hz
    rw [hna, hnb, hia, hzb] at hbad
    have HZ := Lib.hid hz
    clear hna hnb hia hzb hz hz1 hok hm hmn ha hb lm C1
    cases na
    · cases nb
      · cases ia
        · obtain rfl : zb = true := hbad
          obtain ⟨hk, hz0⟩ := HZ.out rfl rfl
          subst hk
          clear HZ
          have BB := Lib.hid (Below.refl w.heap.size w)
          go_enter Try.func12, Try.ntmps12
          go_wp2_with fail
          refine (HC1.out _).mono ?_
          rintro e' wm1 ⟨rfl, hb⟩
          have BB := Lib.hid (BB.out.trans (hb.mono BB.out.size))
          clear hb
          go_wp2_with fail
          refine (NM.out _).mono ?_
          rintro e' wq2 ⟨rfl, rfl⟩
          go_wp2_with fail
          refine (CC.out _).mono ?_
          rintro e' wq3 ⟨rfl, rfl⟩
          go_wp2_with fail
          refine (CK.out _).mono ?_
          rintro e' wm4 ⟨rfl, hb⟩
          have BB := Lib.hid (BB.out.trans (hb.mono BB.out.size))
          clear hb
          go_wp2_with fail
          refine (CV.out _).mono ?_
          rintro e' wq5 ⟨rfl, rfl⟩
          go_wp2_with fail
          refine (NA.out _).mono ?_
          rintro e' wq6 ⟨rfl, rfl⟩
          go_wp2_with fail
          refine (NB.out _).mono ?_
          rintro e' wq7 ⟨rfl, rfl⟩
          go_wp2_with fail
          refine (IA.out _).mono ?_
          rintro e' wq8 ⟨rfl, rfl⟩
          go_wp2
          go_ret
          exact ⟨rfl, BB.out⟩
        · clear HZ
          have BB := Lib.hid (Below.refl w.heap.size w)
          go_enter Try.func12, Try.ntmps12
          go_wp2_with fail
          refine (HC1.out _).mono ?_
          rintro e' wm1 ⟨rfl, hb⟩
          have BB := Lib.hid (BB.out.trans (hb.mono BB.out.size))
          clear hb
          go_wp2_with fail
          refine (NM.out _).mono ?_
          rintro e' wq2 ⟨rfl, rfl⟩
          go_wp2_with fail
          refine (CC.out _).mono ?_
          rintro e' wq3 ⟨rfl, rfl⟩
          go_wp2_with fail
          refine (CK.out _).mono ?_
          rintro e' wm4 ⟨rfl, hb⟩
          have BB := Lib.hid (BB.out.trans (hb.mono BB.out.size))
          clear hb
          go_wp2_with fail
          refine (CV.out _).mono ?_
          rintro e' wq5 ⟨rfl, rfl⟩
          go_wp2_with fail
          refine (NA.out _).mono ?_
          rintro e' wq6 ⟨rfl, rfl⟩
          go_wp2_with fail
          refine (NB.out _).mono ?_
          rintro e' wq7 ⟨rfl, rfl⟩
          go_wp2_with fail
          refine (IA.out _).mono ?_
          rintro e' wq8 ⟨rfl, rfl⟩
          go_wp2
          go_ret
          exact ⟨rfl, BB.out⟩
      · clear HZ
        have BB := Lib.hid (Below.refl w.heap.size w)
        go_enter Try.func12, Try.ntmps12
        go_wp2_with fail
        refine (HC1.out _).mono ?_
        rintro e' wm1 ⟨rfl, hb⟩
        have BB := Lib.hid (BB.out.trans (hb.mono BB.out.size))
        clear hb
        go_wp2_with fail
        refine (NM.out _).mono ?_
        rintro e' wq2 ⟨rfl, rfl⟩
        go_wp2_with fail
        refine (CC.out _).mono ?_
        rintro e' wq3 ⟨rfl, rfl⟩
        go_wp2_with fail
        refine (CK.out _).mono ?_
        rintro e' wm4 ⟨rfl, hb⟩
        have BB := Lib.hid (BB.out.trans (hb.mono BB.out.size))
        clear hb
        go_wp2_with fail
        refine (CV.out _).mono ?_
        rintro e' wq5 ⟨rfl, rfl⟩
        go_wp2_with fail
        refine (NA.out _).mono ?_
        rintro e' wq6 ⟨rfl, rfl⟩
        go_wp2_with fail
        refine (NB.out _).mono ?_
        rintro e' wq7 ⟨rfl, rfl⟩
        go_wp2
        go_ret
        exact ⟨rfl, BB.out⟩
    · clear HZ
      have BB := Lib.hid (Below.refl w.heap.size w)
      go_enter Try.func12, Try.ntmps12
      go_wp2_with fail
      refine (HC1.out _).mono ?_
      rintro e' wm1 ⟨rfl, hb⟩
      have BB := Lib.hid (BB.out.trans (hb.mono BB.out.size))
      clear hb
      go_wp2_with fail
      refine (NM.out _).mono ?_
      rintro e' wq2 ⟨rfl, rfl⟩
      go_wp2_with fail
      refine (CC.out _).mono ?_
      rintro e' wq3 ⟨rfl, rfl⟩
      go_wp2_with fail
      refine (CK.out _).mono ?_
      rintro e' wm4 ⟨rfl, hb⟩
      have BB := Lib.hid (BB.out.trans (hb.mono BB.out.size))
      clear hb
      go_wp2_with fail
      refine (CV.out _).mono ?_
      rintro e' wq5 ⟨rfl, rfl⟩
      go_wp2_with fail
      refine (NA.out _).mono ?_
      rintro e' wq6 ⟨rfl, rfl⟩
      go_wp2
      go_ret
      exact ⟨rfl, BB.out⟩
  · have NM : Hid (∀ w, Calls Try.prog 48 #[.int .u64 (m : Nat)] w fun e w' => e = .returned (.bool false) ∧ w' = w) := Lib.hid (by rw [← nm]; exact fun w => nannum_any m lm w)
    have AM := fun w => abs_any m lm w
    have AA := fun w => abs_any a ha w
    have AB := fun w => abs_any b hb w
    have l1 := (Nm.ok_abs m lm).1
    have l2 := (Nm.ok_abs a ha).1
    have l3 := (Nm.ok_abs b hb).1
    obtain ⟨am, ham⟩ : ∃ x, Nm.dAbs m = x := ⟨_, rfl⟩
    obtain ⟨aa, haa⟩ : ∃ x, Nm.dAbs a = x := ⟨_, rfl⟩
    obtain ⟨ab, hab⟩ : ∃ x, Nm.dAbs b = x := ⟨_, rfl⟩
    rw [ham] at AM l1 o1 o2 c1 c2
    rw [haa] at AA l2 o2 c2
    rw [hab] at AB l3 o1 c1
    have K1 := fun w => cmp_any am ab l1 l3 w
    have K2 := fun w => cmp_any am aa l1 l2 w
    rw [o1] at K1
    rw [o2] at K2
    obtain ⟨c, hc⟩ : ∃ x, Nm.dCmp am ab = x := ⟨_, rfl⟩
    obtain ⟨d, hd⟩ : ∃ x, Nm.dCmp am aa = x := ⟨_, rfl⟩
    rw [hc] at K1 c1
    rw [hd] at K2 c2
    have d1 : decide (c < 0) = true := decide_eq_true c1
    have d2 : decide (d ≤ 0) = true := decide_eq_true c2
    have s1 := sign_div m lm
    have s2 := sign_div a ha
    rw [hs] at s1
    obtain ⟨sg, hsg⟩ : ∃ x, (Nm.neg a).toNat = x := ⟨_, rfl⟩
    rw [hsg] at s1 s2
    have M1 := fun w => mod_any m b lm hb w
    rw [e1] at M1
    have N1 := fun w => neg_any b hb w
    have M2 := fun w => mod_any a (Nm.dNeg b) ha (Nm.neg_lt b hb) w
    rw [e2] at M2
    obtain ⟨nb, hnb⟩ : ∃ x, Nm.dNeg b = x := ⟨_, rfl⟩
    rw [hnb] at N1 M2
    have HAM := Lib.hid AM
    have HAA := Lib.hid AA
    have HAB := Lib.hid AB
    have HK1 := Lib.hid K1
    have HK2 := Lib.hid K2
    have HM1 := Lib.hid M1
    have HM2 := Lib.hid M2
    have HN1 := Lib.hid N1
    clear AM AA AB K1 K2 M1 M2 N1 C1 ham haa hab hc hd hs hsg hnb o1 o2 c1 c2 e1 e2 l1 l2 l3 ha hb lm nm hm
    have BB := Lib.hid (Below.refl w.heap.size w)
    go_enter Try.func12, Try.ntmps12
    go_wp2_with fail
    refine (HC1.out _).mono ?_
    rintro e' wm1 ⟨rfl, hb⟩
    have BB := Lib.hid (BB.out.trans (hb.mono BB.out.size))
    clear hb
    go_wp2_with fail
    refine (NM.out _).mono ?_
    rintro e' wq2 ⟨rfl, rfl⟩
    go_wp2_with fail
    refine (HAM.out _).mono ?_
    rintro e' wq3 ⟨rfl, rfl⟩
    go_wp2_with fail
    refine (HAB.out _).mono ?_
    rintro e' wq4 ⟨rfl, rfl⟩
    go_wp2_with fail
    refine (HK1.out _).mono ?_
    rintro e' wq5 ⟨rfl, rfl⟩
    go_wp2_with fail
    refine (HAM.out _).mono ?_
    rintro e' wq6 ⟨rfl, rfl⟩
    go_wp2_with fail
    refine (HAA.out _).mono ?_
    rintro e' wq7 ⟨rfl, rfl⟩
    go_wp2_with fail
    refine (HK2.out _).mono ?_
    rintro e' wq8 ⟨rfl, rfl⟩
    go_wp2_with fail
    refine (CK.out _).mono ?_
    rintro e' wm9 ⟨rfl, hb⟩
    have BB := Lib.hid (BB.out.trans (hb.mono BB.out.size))
    clear hb
    go_wp2_with fail
    refine (HM1.out _).mono ?_
    rintro e' wm10 ⟨rfl, hb⟩
    have BB := Lib.hid (BB.out.trans (hb.mono BB.out.size))
    clear hb
    go_wp2_with fail
    refine (HN1.out _).mono ?_
    rintro e' wq11 ⟨rfl, rfl⟩
    go_wp2_with fail
    refine (HM2.out _).mono ?_
    rintro e' wm12 ⟨rfl, hb⟩
    have BB := Lib.hid (BB.out.trans (hb.mono BB.out.size))
    clear hb
    go_wp2
    go_ret
    exact ⟨rfl, BB.out⟩
end Go.Proofs.Ytlklnmoecagjmaa
