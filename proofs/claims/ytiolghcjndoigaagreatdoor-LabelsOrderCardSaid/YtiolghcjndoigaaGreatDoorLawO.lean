/-
  WALKS: the law of the order.
-/
import Derived.Test.YtiolghcjndoigaaGreatDoorKno
namespace Go.Proofs.YtiolghcjndoigaaGreatDoor
set_option linter.unusedVariables false
set_option linter.unusedSimpArgs false
open Go.RowKit Go.PlainAid Go.Shelf
theorem wrap_neg {x : Int} (h1 : -1 ≤ x) (h2 : x ≤ 1) : wrap64 (-x) = -x := wrap64_small (by omega) (by omega)
set_option maxRecDepth 100000 in
set_option maxHeartbeats 4000000 in
theorem law_order (a1 a2 a3 : Option Addr) (c1 c2 c3 : Nat) (x y z : List Lm.Lb) (w : World) (H1 : Labs w a1 x) (H2 : Labs w a2 y) (H3 : Labs w a3 z) (l1 : x.length ≤ maxLen) (l2 : y.length ≤ maxLen) (l3 : z.length ≤ maxLen) :
    Calls Tryz.prog 8 #[.slice a1 x.length c1, .slice a2 y.length c2, .slice a3 z.length c3] w (Gives w (.bool true)) := by
  have M1 := Lib.hid (fun w H => much_any a1 c1 x w H l1)
  have M2 := Lib.hid (fun w H => much_any a2 c2 y w H l2)
  have M3 := Lib.hid (fun w H => much_any a3 c3 z w H l3)
  have CAB := Lib.hid (fun w H1 H2 => cmp_any a1 a2 c1 c2 x y w H1 H2 l1)
  have CBC := Lib.hid (fun w H1 H2 => cmp_any a2 a3 c2 c3 y z w H1 H2 l2)
  have CAC := Lib.hid (fun w H1 H2 => cmp_any a1 a3 c1 c3 x z w H1 H2 l1)
  have CBA := Lib.hid (fun w H1 H2 => cmp_any a2 a1 c2 c1 y x w H1 H2 l2)
  have CS := Lib.hid (fun w H1 H2 => same_any a1 a2 c1 c2 x y w H1 H2 l1)
  have CK := Lib.hid known_any
  have hlin := Lm.labsC_lin
  have hb := hlin.lo x y
  have hb2 := hlin.hi x y
  have han := hlin.anti x y
  have hsm := hlin.same x y
  have hlaw := Lm.order_law x y z
  have hdec : decide (x = y) = decide (Lm.labsC x y = 0) := decide_eq_decide.2 hsm.symm
  rw [han] at CBA
  obtain ⟨ab, hab⟩ : ∃ r, Lm.labsC x y = r := ⟨_, rfl⟩
  obtain ⟨bc, hbc⟩ : ∃ r, Lm.labsC y z = r := ⟨_, rfl⟩
  obtain ⟨ac, hac⟩ : ∃ r, Lm.labsC x z = r := ⟨_, rfl⟩
  rw [hab] at CAB CBA hb hb2 hlaw hdec
  rw [hbc] at CBC hlaw
  rw [hac] at CAC hlaw
  rw [hdec] at CS
  have hng : wrap64 (-ab) = -ab := wrap_neg hb hb2
  have K1 := Lib.hid H1
  have K2 := Lib.hid H2
  have K3 := Lib.hid H3
  obtain ⟨n1, hn1⟩ : ∃ n, x.length = n := ⟨_, rfl⟩
  obtain ⟨n2, hn2⟩ : ∃ n, y.length = n := ⟨_, rfl⟩
  obtain ⟨n3, hn3⟩ : ∃ n, z.length = n := ⟨_, rfl⟩
  rw [hn1] at M1 CAB CAC CBA CS ⊢
  rw [hn2] at M2 CAB CBC CBA CS ⊢
  rw [hn3] at M3 CBC CAC ⊢
  clear H1 H2 H3 l1 l2 l3 hlin han hsm hdec hab hbc hac hn1 hn2 hn3
  have HL := Lib.hid hlaw
  have HB := Lib.hid (And.intro hb hb2)
  clear hlaw hb hb2
  go_enter Tryz.func8, Tryz.ntmps8
  go_wp2_with fail
  refine (M1.out _ K1.out).mono ?_
  rintro e w1 ⟨b1, rfl, hbl, _⟩
  have B1 := Lib.hid hbl
  clear hbl
  cases b1 with
  | true =>
    go_wp2
    go_ret
    exact ⟨rfl, B1.out⟩
  | false =>
    go_wp2_with fail
    refine (M2.out _ (K2.out.below B1.out)).mono ?_
    rintro e w2 ⟨b2, rfl, hbl, _⟩
    have B2 := Lib.hid (B1.out.trans (hbl.mono B1.out.size))
    clear hbl
    cases b2 with
    | true =>
      go_wp2
      go_ret
      exact ⟨rfl, B2.out⟩
    | false =>
      go_wp2_with fail
      refine (M3.out _ (K3.out.below B2.out)).mono ?_
      rintro e w3 ⟨b3, rfl, hbl, _⟩
      have B3 := Lib.hid (B2.out.trans (hbl.mono B2.out.size))
      clear hbl
      cases b3 with
      | true =>
        go_wp2
        go_ret
        exact ⟨rfl, B3.out⟩
      | false =>
        go_wp2_with fail
        refine (CAB.out _ (K1.out.below B3.out) (K2.out.below B3.out)).mono ?_
        rintro e w4 ⟨rfl, hbl⟩
        have B4 := Lib.hid (B3.out.trans (hbl.mono B3.out.size))
        clear hbl
        go_wp2_with fail
        refine (CBC.out _ (K2.out.below B4.out) (K3.out.below B4.out)).mono ?_
        rintro e w5 ⟨rfl, hbl⟩
        have B5 := Lib.hid (B4.out.trans (hbl.mono B4.out.size))
        clear hbl
        go_wp2_with fail
        refine (CAC.out _ (K1.out.below B5.out) (K3.out.below B5.out)).mono ?_
        rintro e w6 ⟨rfl, hbl⟩
        have B6 := Lib.hid (B5.out.trans (hbl.mono B5.out.size))
        clear hbl
        go_wp2_with fail
        refine (CK.out _).mono ?_
        rintro e w7 ⟨rfl, hbl⟩
        have B7 := Lib.hid (B6.out.trans (hbl.mono B6.out.size))
        clear hbl
        go_wp2_with fail
        refine (CBA.out _ (K2.out.below B7.out) (K1.out.below B7.out)).mono ?_
        rintro e w8 ⟨rfl, hbl⟩
        have B8 := Lib.hid (B7.out.trans (hbl.mono B7.out.size))
        clear hbl
        go_wp2_with fail
        refine (CS.out _ (K1.out.below B8.out) (K2.out.below B8.out)).mono ?_
        rintro e w9 ⟨rfl, hbl⟩
        have B9 := Lib.hid (B8.out.trans (hbl.mono B8.out.size))
        clear hbl
        have h3 : ab = -1 ∨ ab = 0 ∨ ab = 1 := by have := HB.out; omega
        rcases h3 with rfl | rfl | rfl
        · by_cases hbc : 0 < bc
          · have d1 : decide (bc > 0) = true := decide_eq_true hbc
            have d2 : decide (0 < bc) = true := decide_eq_true hbc
            go_wp2
            go_ret
            exact ⟨rfl, B9.out⟩
          · have d1 : decide (bc > 0) = false := decide_eq_false hbc
            have d2 : decide (0 < bc) = false := decide_eq_false hbc
            have d3 : decide (ac ≤ 0) = true := decide_eq_true (by have := HL.out.1; omega)
            go_wp2
            go_ret
            exact ⟨rfl, B9.out⟩
        · have he : bc = ac := by have := HL.out.2; omega
          by_cases hbc : 0 < bc
          · have d1 : decide (bc > 0) = true := decide_eq_true hbc
            have d2 : decide (0 < bc) = true := decide_eq_true hbc
            subst he
            go_wp2
            go_ret
            exact ⟨rfl, B9.out⟩
          · have d1 : decide (bc > 0) = false := decide_eq_false hbc
            have d2 : decide (0 < bc) = false := decide_eq_false hbc
            have d3 : decide (ac ≤ 0) = true := decide_eq_true (by omega)
            subst he
            go_wp2
            go_ret
            exact ⟨rfl, B9.out⟩
        · go_wp2
          go_ret
          exact ⟨rfl, B9.out⟩
end Go.Proofs.YtiolghcjndoigaaGreatDoor
