/-
  WALKS: the order of all bits by the document; the least, the greatest, the nearest multiple: the code's and the document's.
-/
import Derived.Test.YtlklnmoecagjmaaRefG
namespace Go.Proofs.Ytlklnmoecagjmaa
set_option linter.unusedVariables false
set_option linter.unusedSimpArgs false
open Go.RowKit
set_option maxHeartbeats 2000000 in
theorem rorder_any (a b : Nat) (ha : a < 2 ^ 64) (hb : b < 2 ^ 64) (w : World) : Calls Try.prog 33 #[.int .u64 (a : Int), .int .u64 (b : Int)] w fun e w' => e = .returned (.int .i64 (Nm.dOrder a b)) ∧ Below w.heap.size w w' := by
  obtain ⟨R, hR⟩ : ∃ R, Nm.dOrder a b = R := ⟨_, rfl⟩
  rw [hR]
  obtain ⟨na, hna⟩ : ∃ x, Nm.isNaN a = x := ⟨_, rfl⟩
  obtain ⟨nb, hnb⟩ : ∃ x, Nm.isNaN b = x := ⟨_, rfl⟩
  obtain ⟨sa, hsa⟩ : ∃ x, Nm.neg a = x := ⟨_, rfl⟩
  have NA : Hid (∀ w, Calls Try.prog 49 #[.int .u64 (a : Nat)] w fun e w' => e = .returned (.bool na) ∧ w' = w) := Lib.hid (by rw [← hna]; exact fun w => rnan_any a ha w)
  have NB : Hid (∀ w, Calls Try.prog 49 #[.int .u64 (b : Nat)] w fun e w' => e = .returned (.bool nb) ∧ w' = w) := Lib.hid (by rw [← hnb]; exact fun w => rnan_any b hb w)
  have SA : Hid (∀ w, Calls Try.prog 73 #[.int .u64 (a : Nat)] w fun e w' => e = .returned (.bool sa) ∧ w' = w) := Lib.hid (by rw [← hsa]; exact fun w => rsign_any a ha w)
  have CC := Lib.hid (fun w => rcmp_any a b ha hb w)
  obtain ⟨c, hc⟩ : ∃ c, Nm.dCmp a b = c := ⟨_, rfl⟩
  obtain ⟨o, ho⟩ : ∃ c, Nm.dCok a b = c := ⟨_, rfl⟩
  rw [hc, ho] at CC
  cases na
  · cases nb
    · have hcm := Nm.order_cmp ha hb
      rw [hc, hR] at hcm
      by_cases h0 : c = 0
      · have d0 : (c == 0) = true := by simpa using h0
        by_cases he : a = b
        · have e1 : (((a : Nat) : Int) != ((b : Nat) : Int)) = false := by simp; omega
          have e2 : (a != b) = false := by simpa using he
          obtain rfl : R = 0 := by rw [← hR, he]; exact Nm.order_self b
          subst h0
          clear hR hna hnb hsa hc ho hcm ha hb e1 e2
          subst he
          have BB := Lib.hid (Below.refl w.heap.size w)
          go_enter Try.func33, Try.ntmps33
          go_wp2_with fail
          refine (NA.out _).mono ?_
          rintro e' wq1 ⟨rfl, rfl⟩
          go_wp2_with fail
          refine (NB.out _).mono ?_
          rintro e' wq2 ⟨rfl, rfl⟩
          go_wp2_with fail
          refine (CC.out _).mono ?_
          rintro e' wm3 ⟨rfl, hb⟩
          have BB := Lib.hid (BB.out.trans (hb.mono BB.out.size))
          clear hb
          go_wp2
          go_ret
          exact ⟨rfl, BB.out⟩
        · have e1 : (((a : Nat) : Int) != ((b : Nat) : Int)) = true := by simp; omega
          have e2 : (a != b) = true := by simpa using he
          have hz := Nm.order_zeros ha hb hna hnb (hc.trans h0) he
          rw [hR, hsa] at hz
          subst h0
          clear hR hna hnb hsa hc ho hcm ha hb
          cases sa
          · rw [if_neg (by decide)] at hz
            subst hz
            have BB := Lib.hid (Below.refl w.heap.size w)
            go_enter Try.func33, Try.ntmps33
            go_wp2_with fail
            refine (NA.out _).mono ?_
            rintro e' wq1 ⟨rfl, rfl⟩
            go_wp2_with fail
            refine (NB.out _).mono ?_
            rintro e' wq2 ⟨rfl, rfl⟩
            go_wp2_with fail
            refine (CC.out _).mono ?_
            rintro e' wm3 ⟨rfl, hb⟩
            have BB := Lib.hid (BB.out.trans (hb.mono BB.out.size))
            clear hb
            go_wp2_with fail
            refine (SA.out _).mono ?_
            rintro e' wq4 ⟨rfl, rfl⟩
            go_wp2
            go_ret
            exact ⟨rfl, BB.out⟩
          · rw [if_pos rfl] at hz
            subst hz
            have BB := Lib.hid (Below.refl w.heap.size w)
            go_enter Try.func33, Try.ntmps33
            go_wp2_with fail
            refine (NA.out _).mono ?_
            rintro e' wq1 ⟨rfl, rfl⟩
            go_wp2_with fail
            refine (NB.out _).mono ?_
            rintro e' wq2 ⟨rfl, rfl⟩
            go_wp2_with fail
            refine (CC.out _).mono ?_
            rintro e' wm3 ⟨rfl, hb⟩
            have BB := Lib.hid (BB.out.trans (hb.mono BB.out.size))
            clear hb
            go_wp2_with fail
            refine (SA.out _).mono ?_
            rintro e' wq4 ⟨rfl, rfl⟩
            go_wp2
            go_ret
            exact ⟨rfl, BB.out⟩
      · have d0 : (c == 0) = false := by simpa using h0
        obtain rfl : c = R := hcm.resolve_left h0
        clear hR hna hnb hsa hc ho hcm ha hb
        have BB := Lib.hid (Below.refl w.heap.size w)
        go_enter Try.func33, Try.ntmps33
        go_wp2_with fail
        refine (NA.out _).mono ?_
        rintro e' wq1 ⟨rfl, rfl⟩
        go_wp2_with fail
        refine (NB.out _).mono ?_
        rintro e' wq2 ⟨rfl, rfl⟩
        go_wp2_with fail
        refine (CC.out _).mono ?_
        rintro e' wm3 ⟨rfl, hb⟩
        have BB := Lib.hid (BB.out.trans (hb.mono BB.out.size))
        clear hb
        go_wp2
        go_ret
        exact ⟨rfl, BB.out⟩
    · obtain rfl : R = 1 := by
        rw [← hR]
        have := Nm.order_turn b a
        rw [Nm.order_nan hb hnb hna] at this
        omega
      clear hR hna hnb hsa hc ho ha hb
      have BB := Lib.hid (Below.refl w.heap.size w)
      go_enter Try.func33, Try.ntmps33
      go_wp2_with fail
      refine (NA.out _).mono ?_
      rintro e' wq1 ⟨rfl, rfl⟩
      go_wp2_with fail
      refine (NB.out _).mono ?_
      rintro e' wq2 ⟨rfl, rfl⟩
      go_wp2
      go_ret
      exact ⟨rfl, BB.out⟩
  · cases nb
    · obtain rfl : R = -1 := by rw [← hR]; exact Nm.order_nan ha hna hnb
      clear hR hna hnb hsa hc ho ha hb
      have BB := Lib.hid (Below.refl w.heap.size w)
      go_enter Try.func33, Try.ntmps33
      go_wp2_with fail
      refine (NA.out _).mono ?_
      rintro e' wq1 ⟨rfl, rfl⟩
      go_wp2_with fail
      refine (NB.out _).mono ?_
      rintro e' wq2 ⟨rfl, rfl⟩
      go_wp2
      go_ret
      exact ⟨rfl, BB.out⟩
    · have hR2 : Nm.cmpN a b = R := by rw [← hR]; unfold Nm.dOrder Nm.rank; rw [hna, hnb]; rfl
      clear hR hna hnb hsa hc ho ha hb
      rcases Nat.lt_trichotomy a b with h | h | h
      · obtain rfl : R = -1 := by rw [← hR2]; unfold Nm.cmpN; rw [if_pos h]
        have d1 : decide (a < b) = true := decide_eq_true h
        clear hR2
        have BB := Lib.hid (Below.refl w.heap.size w)
        go_enter Try.func33, Try.ntmps33
        go_wp2_with fail
        refine (NA.out _).mono ?_
        rintro e' wq1 ⟨rfl, rfl⟩
        go_wp2_with fail
        refine (NB.out _).mono ?_
        rintro e' wq2 ⟨rfl, rfl⟩
        go_wp2
        go_ret
        exact ⟨rfl, BB.out⟩
      · obtain rfl : R = 0 := by rw [← hR2]; unfold Nm.cmpN; rw [if_neg (by omega), if_neg (by omega)]
        subst h
        have d1 : decide (a < a) = false := decide_eq_false (by omega)
        clear hR2
        have BB := Lib.hid (Below.refl w.heap.size w)
        go_enter Try.func33, Try.ntmps33
        go_wp2_with fail
        refine (NA.out _).mono ?_
        rintro e' wq1 ⟨rfl, rfl⟩
        go_wp2_with fail
        refine (NB.out _).mono ?_
        rintro e' wq2 ⟨rfl, rfl⟩
        go_wp2
        go_ret
        exact ⟨rfl, BB.out⟩
      · obtain rfl : R = 1 := by rw [← hR2]; unfold Nm.cmpN; rw [if_neg (by omega), if_pos h]
        have d1 : decide (a < b) = false := decide_eq_false (by omega)
        have d2 : decide (b < a) = true := decide_eq_true h
        clear hR2
        have BB := Lib.hid (Below.refl w.heap.size w)
        go_enter Try.func33, Try.ntmps33
        go_wp2_with fail
        refine (NA.out _).mono ?_
        rintro e' wq1 ⟨rfl, rfl⟩
        go_wp2_with fail
        refine (NB.out _).mono ?_
        rintro e' wq2 ⟨rfl, rfl⟩
        go_wp2
        go_ret
        exact ⟨rfl, BB.out⟩
theorem picklo_any (a b : Nat) (ha : a < 2 ^ 64) (hb : b < 2 ^ 64) (w : World) : Calls Try.prog 88 #[.int .u64 (a : Int), .int .u64 (b : Int), .int .i64 (-1)] w (Gives w (.int .u64 (Nm.dMin a b : Nat))) := by
  obtain ⟨R, hR⟩ : ∃ R, Nm.dMin a b = R := ⟨_, rfl⟩
  rw [hR]
  unfold Nm.dMin at hR
  obtain ⟨na, hna⟩ : ∃ x, Nm.isNaN a = x := ⟨_, rfl⟩
  obtain ⟨nb, hnb⟩ : ∃ x, Nm.isNaN b = x := ⟨_, rfl⟩
  have NA : Hid (∀ w, Calls Try.prog 48 #[.int .u64 (a : Nat)] w fun e w' => e = .returned (.bool na) ∧ w' = w) := Lib.hid (by rw [← hna]; exact fun w => nannum_any a ha w)
  have NB : Hid (∀ w, Calls Try.prog 48 #[.int .u64 (b : Nat)] w fun e w' => e = .returned (.bool nb) ∧ w' = w) := Lib.hid (by rw [← hnb]; exact fun w => nannum_any b hb w)
  have CC := Lib.hid (fun w => cmp_any b a hb ha w)
  have hbn : nb = true → Nm.dCmp b a = 0 := fun h => Nm.cmp_nan (hnb.trans h)
  obtain ⟨c, hc⟩ : ∃ c, Nm.dCmp b a = c := ⟨_, rfl⟩
  obtain ⟨o, ho⟩ : ∃ c, Nm.dCok b a = c := ⟨_, rfl⟩
  rw [hc, ho] at CC
  rw [hna, hnb, hc] at hR
  rw [hc] at hbn
  have HR := Lib.hid hR
  have HBN := Lib.hid hbn
  clear hna hnb hc ho hR hbn ha hb
  cases na
  · by_cases hcc : c = (-1)
    · have d0 : (c == (-1)) = true := by simpa using hcc
      have hn : nb = false := by
        cases nb
        · rfl
        · have := HBN.out rfl; omega
      subst hn
      obtain rfl : b = R := by have := HR.out; rw [hcc] at this; simpa using this
      clear HR HBN
      have BB := Lib.hid (Below.refl w.heap.size w)
      go_enter Try.func88, Try.ntmps88
      go_wp2_with fail
      refine (NA.out _).mono ?_
      rintro e' wq1 ⟨rfl, rfl⟩
      go_wp2_with fail
      refine (NA.out _).mono ?_
      rintro e' wq2 ⟨rfl, rfl⟩
      go_wp2_with fail
      refine (CC.out _).mono ?_
      rintro e' wq3 ⟨rfl, rfl⟩
      go_wp2
      go_ret
      exact ⟨rfl, BB.out⟩
    · have d0 : (c == (-1)) = false := by simpa using hcc
      obtain rfl : a = R := by
        have := HR.out
        rw [if_neg hcc] at this
        cases nb <;> simpa using this
      clear HR HBN
      have BB := Lib.hid (Below.refl w.heap.size w)
      go_enter Try.func88, Try.ntmps88
      go_wp2_with fail
      refine (NA.out _).mono ?_
      rintro e' wq1 ⟨rfl, rfl⟩
      go_wp2_with fail
      refine (NA.out _).mono ?_
      rintro e' wq2 ⟨rfl, rfl⟩
      go_wp2_with fail
      refine (CC.out _).mono ?_
      rintro e' wq3 ⟨rfl, rfl⟩
      go_wp2
      go_ret
      exact ⟨rfl, BB.out⟩
  · cases nb
    · obtain rfl : b = R := by have := HR.out; simpa using this
      clear HR HBN
      have BB := Lib.hid (Below.refl w.heap.size w)
      go_enter Try.func88, Try.ntmps88
      go_wp2_with fail
      refine (NA.out _).mono ?_
      rintro e' wq1 ⟨rfl, rfl⟩
      go_wp2_with fail
      refine (NB.out _).mono ?_
      rintro e' wq2 ⟨rfl, rfl⟩
      go_wp2_with fail
      refine (NA.out _).mono ?_
      rintro e' wq3 ⟨rfl, rfl⟩
      go_wp2
      go_ret
      exact ⟨rfl, BB.out⟩
    · obtain rfl : Nm.nan = R := by have := HR.out; simpa using this
      clear HR HBN
      have BB := Lib.hid (Below.refl w.heap.size w)
      go_enter Try.func88, Try.ntmps88
      go_wp2_with fail
      refine (NA.out _).mono ?_
      rintro e' wq1 ⟨rfl, rfl⟩
      go_wp2_with fail
      refine (NB.out _).mono ?_
      rintro e' wq2 ⟨rfl, rfl⟩
      go_wp2
      go_ret
      exact ⟨rfl, BB.out⟩
theorem pickhi_any (a b : Nat) (ha : a < 2 ^ 64) (hb : b < 2 ^ 64) (w : World) : Calls Try.prog 88 #[.int .u64 (a : Int), .int .u64 (b : Int), .int .i64 1] w (Gives w (.int .u64 (Nm.dMax a b : Nat))) := by
  obtain ⟨R, hR⟩ : ∃ R, Nm.dMax a b = R := ⟨_, rfl⟩
  rw [hR]
  unfold Nm.dMax at hR
  obtain ⟨na, hna⟩ : ∃ x, Nm.isNaN a = x := ⟨_, rfl⟩
  obtain ⟨nb, hnb⟩ : ∃ x, Nm.isNaN b = x := ⟨_, rfl⟩
  have NA : Hid (∀ w, Calls Try.prog 48 #[.int .u64 (a : Nat)] w fun e w' => e = .returned (.bool na) ∧ w' = w) := Lib.hid (by rw [← hna]; exact fun w => nannum_any a ha w)
  have NB : Hid (∀ w, Calls Try.prog 48 #[.int .u64 (b : Nat)] w fun e w' => e = .returned (.bool nb) ∧ w' = w) := Lib.hid (by rw [← hnb]; exact fun w => nannum_any b hb w)
  have CC := Lib.hid (fun w => cmp_any b a hb ha w)
  have hbn : nb = true → Nm.dCmp b a = 0 := fun h => Nm.cmp_nan (hnb.trans h)
  obtain ⟨c, hc⟩ : ∃ c, Nm.dCmp b a = c := ⟨_, rfl⟩
  obtain ⟨o, ho⟩ : ∃ c, Nm.dCok b a = c := ⟨_, rfl⟩
  rw [hc, ho] at CC
  rw [hna, hnb, hc] at hR
  rw [hc] at hbn
  have HR := Lib.hid hR
  have HBN := Lib.hid hbn
  clear hna hnb hc ho hR hbn ha hb
  cases na
  · by_cases hcc : c = 1
    · have d0 : (c == 1) = true := by simpa using hcc
      have hn : nb = false := by
        cases nb
        · rfl
        · have := HBN.out rfl; omega
      subst hn
      obtain rfl : b = R := by have := HR.out; rw [hcc] at this; simpa using this
      clear HR HBN
      have BB := Lib.hid (Below.refl w.heap.size w)
      go_enter Try.func88, Try.ntmps88
      go_wp2_with fail
      refine (NA.out _).mono ?_
      rintro e' wq1 ⟨rfl, rfl⟩
      go_wp2_with fail
      refine (NA.out _).mono ?_
      rintro e' wq2 ⟨rfl, rfl⟩
      go_wp2_with fail
      refine (CC.out _).mono ?_
      rintro e' wq3 ⟨rfl, rfl⟩
      go_wp2
      go_ret
      exact ⟨rfl, BB.out⟩
    · have d0 : (c == 1) = false := by simpa using hcc
      obtain rfl : a = R := by
        have := HR.out
        rw [if_neg hcc] at this
        cases nb <;> simpa using this
      clear HR HBN
      have BB := Lib.hid (Below.refl w.heap.size w)
      go_enter Try.func88, Try.ntmps88
      go_wp2_with fail
      refine (NA.out _).mono ?_
      rintro e' wq1 ⟨rfl, rfl⟩
      go_wp2_with fail
      refine (NA.out _).mono ?_
      rintro e' wq2 ⟨rfl, rfl⟩
      go_wp2_with fail
      refine (CC.out _).mono ?_
      rintro e' wq3 ⟨rfl, rfl⟩
      go_wp2
      go_ret
      exact ⟨rfl, BB.out⟩
  · cases nb
    · obtain rfl : b = R := by have := HR.out; simpa using this
      clear HR HBN
      have BB := Lib.hid (Below.refl w.heap.size w)
      go_enter Try.func88, Try.ntmps88
      go_wp2_with fail
      refine (NA.out _).mono ?_
      rintro e' wq1 ⟨rfl, rfl⟩
      go_wp2_with fail
      refine (NB.out _).mono ?_
      rintro e' wq2 ⟨rfl, rfl⟩
      go_wp2_with fail
      refine (NA.out _).mono ?_
      rintro e' wq3 ⟨rfl, rfl⟩
      go_wp2
      go_ret
      exact ⟨rfl, BB.out⟩
    · obtain rfl : Nm.nan = R := by have := HR.out; simpa using this
      clear HR HBN
      have BB := Lib.hid (Below.refl w.heap.size w)
      go_enter Try.func88, Try.ntmps88
      go_wp2_with fail
      refine (NA.out _).mono ?_
      rintro e' wq1 ⟨rfl, rfl⟩
      go_wp2_with fail
      refine (NB.out _).mono ?_
      rintro e' wq2 ⟨rfl, rfl⟩
      go_wp2
      go_ret
      exact ⟨rfl, BB.out⟩
theorem min_any (a b : Nat) (ha : a < 2 ^ 64) (hb : b < 2 ^ 64) (w : World) : Calls Try.prog 23 #[.int .u64 (a : Int), .int .u64 (b : Int)] w (Gives w (.int .u64 (Nm.dMin a b : Nat))) := by
  have CP := Lib.hid (fun w => picklo_any a b ha hb w)
  obtain ⟨R, hR⟩ : ∃ R, Nm.dMin a b = R := ⟨_, rfl⟩
  rw [hR] at CP ⊢
  clear hR ha hb
  have BB := Lib.hid (Below.refl w.heap.size w)
  go_enter Try.func23, Try.ntmps23
  go_wp2_with fail
  refine (CP.out _).mono ?_
  rintro e' wm1 ⟨rfl, hb⟩
  have BB := Lib.hid (BB.out.trans (hb.mono BB.out.size))
  clear hb
  go_wp2
  go_ret
  exact ⟨rfl, BB.out⟩
theorem max_any (a b : Nat) (ha : a < 2 ^ 64) (hb : b < 2 ^ 64) (w : World) : Calls Try.prog 25 #[.int .u64 (a : Int), .int .u64 (b : Int)] w (Gives w (.int .u64 (Nm.dMax a b : Nat))) := by
  have CP := Lib.hid (fun w => pickhi_any a b ha hb w)
  obtain ⟨R, hR⟩ : ∃ R, Nm.dMax a b = R := ⟨_, rfl⟩
  rw [hR] at CP ⊢
  clear hR ha hb
  have BB := Lib.hid (Below.refl w.heap.size w)
  go_enter Try.func25, Try.ntmps25
  go_wp2_with fail
  refine (CP.out _).mono ?_
  rintro e' wm1 ⟨rfl, hb⟩
  have BB := Lib.hid (BB.out.trans (hb.mono BB.out.size))
  clear hb
  go_wp2
  go_ret
  exact ⟨rfl, BB.out⟩
theorem rmin_any (a b : Nat) (ha : a < 2 ^ 64) (hb : b < 2 ^ 64) (w : World) : Calls Try.prog 24 #[.int .u64 (a : Int), .int .u64 (b : Int)] w (Gives w (.int .u64 (Nm.dMin a b : Nat))) := by
  obtain ⟨R, hR⟩ : ∃ R, Nm.dMin a b = R := ⟨_, rfl⟩
  rw [hR]
  unfold Nm.dMin at hR
  obtain ⟨na, hna⟩ : ∃ x, Nm.isNaN a = x := ⟨_, rfl⟩
  obtain ⟨nb, hnb⟩ : ∃ x, Nm.isNaN b = x := ⟨_, rfl⟩
  have NA : Hid (∀ w, Calls Try.prog 49 #[.int .u64 (a : Nat)] w fun e w' => e = .returned (.bool na) ∧ w' = w) := Lib.hid (by rw [← hna]; exact fun w => rnan_any a ha w)
  have NB : Hid (∀ w, Calls Try.prog 49 #[.int .u64 (b : Nat)] w fun e w' => e = .returned (.bool nb) ∧ w' = w) := Lib.hid (by rw [← hnb]; exact fun w => rnan_any b hb w)
  have CC := Lib.hid (fun w => rcmp_any a b ha hb w)
  have h3 := Nm.cmp_three a b
  rw [Nm.cmp_turn a b] at hR
  obtain ⟨c, hc⟩ : ∃ c, Nm.dCmp a b = c := ⟨_, rfl⟩
  obtain ⟨o, ho⟩ : ∃ c, Nm.dCok a b = c := ⟨_, rfl⟩
  rw [hc, ho] at CC
  rw [hna, hnb, hc] at hR
  rw [hc] at h3
  have HR := Lib.hid hR
  clear hna hnb hc ho hR ha hb
  cases na
  · cases nb
    · by_cases hcc : 0 < c
      · have d0 : decide (0 < c) = true := decide_eq_true hcc
        obtain rfl : b = R := by have := HR.out; rw [if_neg (by decide), if_neg (by decide), if_neg (by decide), if_pos (by omega)] at this; exact this
        clear HR h3
        have BB := Lib.hid (Below.refl w.heap.size w)
        go_enter Try.func24, Try.ntmps24
        go_wp2_with fail
        refine (NA.out _).mono ?_
        rintro e' wq1 ⟨rfl, rfl⟩
        go_wp2_with fail
        refine (NA.out _).mono ?_
        rintro e' wq2 ⟨rfl, rfl⟩
        go_wp2_with fail
        refine (NB.out _).mono ?_
        rintro e' wq3 ⟨rfl, rfl⟩
        go_wp2_with fail
        refine (CC.out _).mono ?_
        rintro e' wm4 ⟨rfl, hb⟩
        have BB := Lib.hid (BB.out.trans (hb.mono BB.out.size))
        clear hb
        go_wp2
        go_ret
        exact ⟨rfl, BB.out⟩
      · have d0 : decide (0 < c) = false := decide_eq_false hcc
        obtain rfl : a = R := by have := HR.out; rw [if_neg (by decide), if_neg (by decide), if_neg (by decide), if_neg (by omega)] at this; exact this
        clear HR h3
        have BB := Lib.hid (Below.refl w.heap.size w)
        go_enter Try.func24, Try.ntmps24
        go_wp2_with fail
        refine (NA.out _).mono ?_
        rintro e' wq1 ⟨rfl, rfl⟩
        go_wp2_with fail
        refine (NA.out _).mono ?_
        rintro e' wq2 ⟨rfl, rfl⟩
        go_wp2_with fail
        refine (NB.out _).mono ?_
        rintro e' wq3 ⟨rfl, rfl⟩
        go_wp2_with fail
        refine (CC.out _).mono ?_
        rintro e' wm4 ⟨rfl, hb⟩
        have BB := Lib.hid (BB.out.trans (hb.mono BB.out.size))
        clear hb
        go_wp2
        go_ret
        exact ⟨rfl, BB.out⟩
    · obtain rfl : a = R := by have := HR.out; rw [if_neg (by decide), if_neg (by decide), if_pos rfl] at this; exact this
      clear HR h3
      have BB := Lib.hid (Below.refl w.heap.size w)
      go_enter Try.func24, Try.ntmps24
      go_wp2_with fail
      refine (NA.out _).mono ?_
      rintro e' wq1 ⟨rfl, rfl⟩
      go_wp2_with fail
      refine (NA.out _).mono ?_
      rintro e' wq2 ⟨rfl, rfl⟩
      go_wp2_with fail
      refine (NB.out _).mono ?_
      rintro e' wq3 ⟨rfl, rfl⟩
      go_wp2
      go_ret
      exact ⟨rfl, BB.out⟩
  · cases nb
    · obtain rfl : b = R := by have := HR.out; rw [if_neg (by decide), if_pos rfl] at this; exact this
      clear HR h3
      have BB := Lib.hid (Below.refl w.heap.size w)
      go_enter Try.func24, Try.ntmps24
      go_wp2_with fail
      refine (NA.out _).mono ?_
      rintro e' wq1 ⟨rfl, rfl⟩
      go_wp2_with fail
      refine (NB.out _).mono ?_
      rintro e' wq2 ⟨rfl, rfl⟩
      go_wp2_with fail
      refine (NA.out _).mono ?_
      rintro e' wq3 ⟨rfl, rfl⟩
      go_wp2
      go_ret
      exact ⟨rfl, BB.out⟩
    · obtain rfl : Nm.nan = R := by have := HR.out; rw [if_pos rfl] at this; exact this
      clear HR h3
      have BB := Lib.hid (Below.refl w.heap.size w)
      go_enter Try.func24, Try.ntmps24
      go_wp2_with fail
      refine (NA.out _).mono ?_
      rintro e' wq1 ⟨rfl, rfl⟩
      go_wp2_with fail
      refine (NB.out _).mono ?_
      rintro e' wq2 ⟨rfl, rfl⟩
      go_wp2
      go_ret
      exact ⟨rfl, BB.out⟩
theorem rmax_any (a b : Nat) (ha : a < 2 ^ 64) (hb : b < 2 ^ 64) (w : World) : Calls Try.prog 26 #[.int .u64 (a : Int), .int .u64 (b : Int)] w (Gives w (.int .u64 (Nm.dMax a b : Nat))) := by
  obtain ⟨R, hR⟩ : ∃ R, Nm.dMax a b = R := ⟨_, rfl⟩
  rw [hR]
  unfold Nm.dMax at hR
  obtain ⟨na, hna⟩ : ∃ x, Nm.isNaN a = x := ⟨_, rfl⟩
  obtain ⟨nb, hnb⟩ : ∃ x, Nm.isNaN b = x := ⟨_, rfl⟩
  have NA : Hid (∀ w, Calls Try.prog 49 #[.int .u64 (a : Nat)] w fun e w' => e = .returned (.bool na) ∧ w' = w) := Lib.hid (by rw [← hna]; exact fun w => rnan_any a ha w)
  have NB : Hid (∀ w, Calls Try.prog 49 #[.int .u64 (b : Nat)] w fun e w' => e = .returned (.bool nb) ∧ w' = w) := Lib.hid (by rw [← hnb]; exact fun w => rnan_any b hb w)
  have CC := Lib.hid (fun w => rcmp_any a b ha hb w)
  have h3 := Nm.cmp_three a b
  rw [Nm.cmp_turn a b] at hR
  obtain ⟨c, hc⟩ : ∃ c, Nm.dCmp a b = c := ⟨_, rfl⟩
  obtain ⟨o, ho⟩ : ∃ c, Nm.dCok a b = c := ⟨_, rfl⟩
  rw [hc, ho] at CC
  rw [hna, hnb, hc] at hR
  rw [hc] at h3
  have HR := Lib.hid hR
  clear hna hnb hc ho hR ha hb
  cases na
  · cases nb
    · by_cases hcc : c < 0
      · have d0 : decide (c < 0) = true := decide_eq_true hcc
        obtain rfl : b = R := by have := HR.out; rw [if_neg (by decide), if_neg (by decide), if_neg (by decide), if_pos (by omega)] at this; exact this
        clear HR h3
        have BB := Lib.hid (Below.refl w.heap.size w)
        go_enter Try.func26, Try.ntmps26
        go_wp2_with fail
        refine (NA.out _).mono ?_
        rintro e' wq1 ⟨rfl, rfl⟩
        go_wp2_with fail
        refine (NA.out _).mono ?_
        rintro e' wq2 ⟨rfl, rfl⟩
        go_wp2_with fail
        refine (NB.out _).mono ?_
        rintro e' wq3 ⟨rfl, rfl⟩
        go_wp2_with fail
        refine (CC.out _).mono ?_
        rintro e' wm4 ⟨rfl, hb⟩
        have BB := Lib.hid (BB.out.trans (hb.mono BB.out.size))
        clear hb
        go_wp2
        go_ret
        exact ⟨rfl, BB.out⟩
      · have d0 : decide (c < 0) = false := decide_eq_false hcc
        obtain rfl : a = R := by have := HR.out; rw [if_neg (by decide), if_neg (by decide), if_neg (by decide), if_neg (by omega)] at this; exact this
        clear HR h3
        have BB := Lib.hid (Below.refl w.heap.size w)
        go_enter Try.func26, Try.ntmps26
        go_wp2_with fail
        refine (NA.out _).mono ?_
        rintro e' wq1 ⟨rfl, rfl⟩
        go_wp2_with fail
        refine (NA.out _).mono ?_
        rintro e' wq2 ⟨rfl, rfl⟩
        go_wp2_with fail
        refine (NB.out _).mono ?_
        rintro e' wq3 ⟨rfl, rfl⟩
        go_wp2_with fail
        refine (CC.out _).mono ?_
        rintro e' wm4 ⟨rfl, hb⟩
        have BB := Lib.hid (BB.out.trans (hb.mono BB.out.size))
        clear hb
        go_wp2
        go_ret
        exact ⟨rfl, BB.out⟩
    · obtain rfl : a = R := by have := HR.out; rw [if_neg (by decide), if_neg (by decide), if_pos rfl] at this; exact this
      clear HR h3
      have BB := Lib.hid (Below.refl w.heap.size w)
      go_enter Try.func26, Try.ntmps26
      go_wp2_with fail
      refine (NA.out _).mono ?_
      rintro e' wq1 ⟨rfl, rfl⟩
      go_wp2_with fail
      refine (NA.out _).mono ?_
      rintro e' wq2 ⟨rfl, rfl⟩
      go_wp2_with fail
      refine (NB.out _).mono ?_
      rintro e' wq3 ⟨rfl, rfl⟩
      go_wp2
      go_ret
      exact ⟨rfl, BB.out⟩
  · cases nb
    · obtain rfl : b = R := by have := HR.out; rw [if_neg (by decide), if_pos rfl] at this; exact this
      clear HR h3
      have BB := Lib.hid (Below.refl w.heap.size w)
      go_enter Try.func26, Try.ntmps26
      go_wp2_with fail
      refine (NA.out _).mono ?_
      rintro e' wq1 ⟨rfl, rfl⟩
      go_wp2_with fail
      refine (NB.out _).mono ?_
      rintro e' wq2 ⟨rfl, rfl⟩
      go_wp2_with fail
      refine (NA.out _).mono ?_
      rintro e' wq3 ⟨rfl, rfl⟩
      go_wp2
      go_ret
      exact ⟨rfl, BB.out⟩
    · obtain rfl : Nm.nan = R := by have := HR.out; rw [if_pos rfl] at this; exact this
      clear HR h3
      have BB := Lib.hid (Below.refl w.heap.size w)
      go_enter Try.func26, Try.ntmps26
      go_wp2_with fail
      refine (NA.out _).mono ?_
      rintro e' wq1 ⟨rfl, rfl⟩
      go_wp2_with fail
      refine (NB.out _).mono ?_
      rintro e' wq2 ⟨rfl, rfl⟩
      go_wp2
      go_ret
      exact ⟨rfl, BB.out⟩
def dNearest (a b : Nat) : Nat := Nm.dDiv (Nm.dFloor (Nm.dAdd (Nm.dMul a (Nm.dDiv 4607182418800017408 b)) 4602678819172646912)) (Nm.dDiv 4607182418800017408 b)
theorem near_any (a b : Nat) (ha : a < 2 ^ 64) (hb : b < 2 ^ 64) (w : World) : Calls Try.prog 27 #[.int .u64 (a : Int), .int .u64 (b : Int)] w (Gives w (.int .u64 (dNearest a b : Nat))) := by
  unfold dNearest
  have C1 : Hid (∀ w, Calls Try.prog 19 #[.int .u64 4607182418800017408, .int .u64 (b : Nat)] w (Gives w (.int .u64 (Nm.dDiv 4607182418800017408 b : Nat)))) := Lib.hid (fun w => div_any 4607182418800017408 b (by decide) hb w)
  have l1 := (Nm.ok_div 4607182418800017408 b).1
  obtain ⟨i, hi⟩ : ∃ i, Nm.dDiv 4607182418800017408 b = i := ⟨_, rfl⟩
  rw [hi] at C1 l1 ⊢
  have C2 := Lib.hid (fun w => mul_any a i ha l1 w)
  have l2 := (Nm.ok_mul a i).1
  obtain ⟨m, hm⟩ : ∃ m, Nm.dMul a i = m := ⟨_, rfl⟩
  rw [hm] at C2 l2 ⊢
  have C3 : Hid (∀ w, Calls Try.prog 13 #[.int .u64 (m : Nat), .int .u64 4602678819172646912] w (Gives w (.int .u64 (Nm.dAdd m 4602678819172646912 : Nat)))) := Lib.hid (fun w => add_any m 4602678819172646912 l2 (by decide) w)
  have l3 := (Nm.ok_add m 4602678819172646912 l2 (by decide)).1
  obtain ⟨s, hs⟩ : ∃ z, Nm.dAdd m 4602678819172646912 = z := ⟨_, rfl⟩
  rw [hs] at C3 l3 ⊢
  have C4 := Lib.hid (fun w => floor_any s l3 w)
  have l4 : Nm.dFloor s < 2 ^ 64 := (Nm.ok_step s _ l3).1
  obtain ⟨f, hf⟩ : ∃ m, Nm.dFloor s = m := ⟨_, rfl⟩
  rw [hf] at C4 l4 ⊢
  have C5 := Lib.hid (fun w => div_any f i l4 l1 w)
  obtain ⟨r, hr⟩ : ∃ m, Nm.dDiv f i = m := ⟨_, rfl⟩
  rw [hr] at C5 ⊢
  clear hi hm hs hf hr l1 l2 l3 l4 ha hb
  have BB := Lib.hid (Below.refl w.heap.size w)
  go_enter Try.func27, Try.ntmps27
  go_wp2_with fail
  refine (C1.out _).mono ?_
  rintro e' wm1 ⟨rfl, hb⟩
  have BB := Lib.hid (BB.out.trans (hb.mono BB.out.size))
  clear hb
  go_wp2_with fail
  refine (C2.out _).mono ?_
  rintro e' wm2 ⟨rfl, hb⟩
  have BB := Lib.hid (BB.out.trans (hb.mono BB.out.size))
  clear hb
  go_wp2_with fail
  refine (C3.out _).mono ?_
  rintro e' wm3 ⟨rfl, hb⟩
  have BB := Lib.hid (BB.out.trans (hb.mono BB.out.size))
  clear hb
  go_wp2_with fail
  refine (C4.out _).mono ?_
  rintro e' wm4 ⟨rfl, hb⟩
  have BB := Lib.hid (BB.out.trans (hb.mono BB.out.size))
  clear hb
  go_wp2_with fail
  refine (C5.out _).mono ?_
  rintro e' wm5 ⟨rfl, hb⟩
  have BB := Lib.hid (BB.out.trans (hb.mono BB.out.size))
  clear hb
  go_wp2
  go_ret
  exact ⟨rfl, BB.out⟩
theorem rnear_any (a b : Nat) (ha : a < 2 ^ 64) (hb : b < 2 ^ 64) (w : World) : Calls Try.prog 28 #[.int .u64 (a : Int), .int .u64 (b : Int)] w (Gives w (.int .u64 (dNearest a b : Nat))) := by
  unfold dNearest
  have C1 : Hid (∀ w, Calls Try.prog 20 #[.int .u64 4607182418800017408, .int .u64 (b : Nat)] w (Gives w (.int .u64 (Nm.dDiv 4607182418800017408 b : Nat)))) := Lib.hid (fun w => rdiv_any 4607182418800017408 b (by decide) hb w)
  have l1 := (Nm.ok_div 4607182418800017408 b).1
  obtain ⟨i, hi⟩ : ∃ i, Nm.dDiv 4607182418800017408 b = i := ⟨_, rfl⟩
  rw [hi] at C1 l1 ⊢
  have C2 := Lib.hid (fun w => rmul_any a i ha l1 w)
  have l2 := (Nm.ok_mul a i).1
  obtain ⟨m, hm⟩ : ∃ m, Nm.dMul a i = m := ⟨_, rfl⟩
  rw [hm] at C2 l2 ⊢
  have C3 : Hid (∀ w, Calls Try.prog 14 #[.int .u64 (m : Nat), .int .u64 4602678819172646912] w (Gives w (.int .u64 (Nm.dAdd m 4602678819172646912 : Nat)))) := Lib.hid (fun w => radd_any m 4602678819172646912 l2 (by decide) w)
  have l3 := (Nm.ok_add m 4602678819172646912 l2 (by decide)).1
  obtain ⟨s, hs⟩ : ∃ z, Nm.dAdd m 4602678819172646912 = z := ⟨_, rfl⟩
  rw [hs] at C3 l3 ⊢
  have C4 := Lib.hid (fun w => rfloor_any s l3 w)
  have l4 : Nm.dFloor s < 2 ^ 64 := (Nm.ok_step s _ l3).1
  obtain ⟨f, hf⟩ : ∃ m, Nm.dFloor s = m := ⟨_, rfl⟩
  rw [hf] at C4 l4 ⊢
  have C5 := Lib.hid (fun w => rdiv_any f i l4 l1 w)
  obtain ⟨r, hr⟩ : ∃ m, Nm.dDiv f i = m := ⟨_, rfl⟩
  rw [hr] at C5 ⊢
  clear hi hm hs hf hr l1 l2 l3 l4 ha hb
  have BB := Lib.hid (Below.refl w.heap.size w)
  go_enter Try.func28, Try.ntmps28
  go_wp2_with fail
  refine (C1.out _).mono ?_
  rintro e' wm1 ⟨rfl, hb⟩
  have BB := Lib.hid (BB.out.trans (hb.mono BB.out.size))
  clear hb
  go_wp2_with fail
  refine (C2.out _).mono ?_
  rintro e' wm2 ⟨rfl, hb⟩
  have BB := Lib.hid (BB.out.trans (hb.mono BB.out.size))
  clear hb
  go_wp2_with fail
  refine (C3.out _).mono ?_
  rintro e' wm3 ⟨rfl, hb⟩
  have BB := Lib.hid (BB.out.trans (hb.mono BB.out.size))
  clear hb
  go_wp2_with fail
  refine (C4.out _).mono ?_
  rintro e' wm4 ⟨rfl, hb⟩
  have BB := Lib.hid (BB.out.trans (hb.mono BB.out.size))
  clear hb
  go_wp2_with fail
  refine (C5.out _).mono ?_
  rintro e' wm5 ⟨rfl, hb⟩
  have BB := Lib.hid (BB.out.trans (hb.mono BB.out.size))
  clear hb
  go_wp2
  go_ret
  exact ⟨rfl, BB.out⟩
end Go.Proofs.Ytlklnmoecagjmaa
