/-
  PACKED: HaA, GrY, HaB, HaC, GwO
-/
import Derived.Test.YtdlifcpdlbmijaaGreatDoorK07
import Derived.Test.YtdlifcpdlbmijaaGreatDoorK03
import Derived.Test.YtdlifcpdlbmijaaGreatDoorK05
import Derived.Deep.RegionHeld3
set_option linter.unusedVariables false
set_option linter.unusedSimpArgs false
namespace Go.Proofs.YtdlifcpdlbmijaaGreatDoor
set_option linter.unusedVariables false
set_option linter.unusedSimpArgs false
open Go.RowKit Go.PlainAid Go.Shelf
open B2 (Only Bys Row cellsOf Rf)
open Gm (St Smp Dr)
/-- what change gives -/
def ChgPost (w : World) (p g : Nat) (B : List Bool) (at_ : Nat) (e : Ending) (w' : World) : Prop :=
  ∃ V E at', e = .returned (.tuple #[.int .u64 ((V : Nat) : Int), .int .u16 ((E : Nat) : Int)]) ∧ at' ≤ B.length ∧ Rf w' p g B at' ∧ Only [p] w w' ∧ V < 18446744073709551616 ∧ ((E = 0 ∧ Gm.chO 4 (B.drop at_) = some (V, B.drop at')) ∨ (E ≠ 0 ∧ Gm.chO 4 (B.drop at_) = none))
theorem chO_one {S S1 : List Bool} {f : Nat} (h : Gm.rO 1 S = some (1, S1)) : Gm.chO (f + 1) S = Gm.chO f S1 := by
  rw [Gm.chO, h]; rfl
theorem chO_no {S : List Bool} {f : Nat} (h : Gm.rO 1 S = none) : Gm.chO (f + 1) S = none := by
  rw [Gm.chO, h]; rfl
theorem chO_nought {S S1 : List Bool} {v : Nat} (h : Gm.rO 1 S = some (v, S1)) (hv : v ≠ 1) : Gm.chO (3 + 1) S = some (0, S1) := by
  rw [Gm.chO, h]
  simp [hv]
theorem chO_row {S S1 : List Bool} {v f : Nat} (h : Gm.rO 1 S = some (v, S1)) (hv : v ≠ 1) (hf : f ≠ 3) : Gm.chO (f + 1) S = (Gm.rO (Gm.sz (3 - f)) S1).map fun d => (Gm.subW d.1 (Gm.pl (3 - f)), d.2) := by
  rw [Gm.chO, h]
  simp [hv, hf]
set_option maxHeartbeats 8000000 in
set_option maxRecDepth 100000 in
theorem change_any (p g : Nat) (B : List Bool) (at_ : Nat) (q p0 p1 p2 c c0 c1 c2 o9 oa oc od : Nat) (w : World) (H : Rf w p g B at_) (HT : TabB w q p0 p1 p2 c c0 c1 c2 o9 oa oc od) (hne : p ≠ 0 ∧ p ≠ q ∧ p ≠ p0 ∧ p ≠ p1 ∧ p ≠ p2) (hat : at_ ≤ B.length) (hbd : B.length ≤ 1000000000) :
    Calls Tryz.prog 97 #[pt p] w (ChgPost w p g B at_) := by
  have HH := Lib.hid (And.intro H (And.intro HT (And.intro hne (And.intro hat hbd))))
  clear H HT hne hat hbd
  unfold pt
  go_enter Tryz.func97, Tryz.ntmps97
  go_wp2_with fail
  go_loopw [4] (fun i wr => ∃ k : Nat, k ≤ 4 ∧ i = .int .i64 (k : Nat) ∧ Hid (Rf wr p g B (at_ + k) ∧ Only [p] w wr ∧ at_ + k ≤ B.length ∧ Gm.chO 4 (B.drop at_) = Gm.chO (4 - k) (B.drop (at_ + k)))) (fun i _ => 4 - (intOf i).toNat)
  case atStart => exact ⟨0, Nat.zero_le _, rfl, Lib.hid ⟨HH.out.1, Only.refl _ _, HH.out.2.2.2.1, rfl⟩⟩
  case round =>
    obtain ⟨k, hk, rfl, HI⟩ := hrel
    have hk5 : k = 0 ∨ k = 1 ∨ k = 2 ∨ k = 3 ∨ k = 4 := by omega
    rcases hk5 with rfl | rfl | rfl | rfl | rfl
    · have CN := Lib.hid (next_at p g B (at_ + 0) 1 (by decide) wr HI.out.1 HI.out.2.2.1 HH.out.2.2.2.2)
      rw [show ((1 : Nat) : Int) = 1 from rfl] at CN
      rw [show ((0 : Nat) : Int) = 0 from rfl]
      unfold pt at *
      go_wp2_with fail
      refine CN.out.mono ?_
      rintro e w1 (⟨h1, rfl, h2, h3⟩ | ⟨v, h1, hv, hle, rfl, h2, h3⟩)
      · have HP := Lib.hid (show ∀ W, W = w1 → ChgPost w p g B at_ (.returned (.tuple #[.int .u64 0, .int .u16 20])) W from by
          rintro W rfl
          exact ⟨0, 20, at_ + 0, rfl, HI.out.2.2.1, h2, HI.out.2.1.trans h3 (fun x hx => .inl hx), by decide, .inr ⟨by decide, by rw [HI.out.2.2.2]; exact chO_no h1⟩⟩)
        clear h1 h2 h3
        go_wp2_with fail
        go_ret2
        exact HP.out _ rfl
      · have HW := Lib.hid (show Rf w1 p g B (at_ + 1) ∧ Only [p] w w1 ∧ at_ + 1 ≤ B.length from ⟨h2, HI.out.2.1.trans h3 (fun x hx => .inl hx), hle⟩)
        have H1 := Lib.hid h1
        clear h1 h2 h3
        by_cases hv1 : v = 1
        · subst hv1
          have HN := Lib.hid (show Rf w1 p g B (at_ + 1) ∧ Only [p] w w1 ∧ at_ + 1 ≤ B.length ∧ Gm.chO 4 (B.drop at_) = Gm.chO (4 - 1) (B.drop (at_ + 1)) from ⟨HW.out.1, HW.out.2.1, HW.out.2.2, by rw [HI.out.2.2.2]; exact chO_one H1.out⟩)
          rw [show ((1 : Nat) : Int) = 1 from rfl]
          go_wp2_with fail
          go_roundw
          case rel => exact ⟨1, by decide, by go_num, HN⟩
          case measure => simp [intOf]
        · have d1 : ((v : Int) == 1) = false := by simp; omega
          have d2 : ¬ (v : Int) = 1 := by omega
          have HP := Lib.hid (show ∀ W, W = w1 → ChgPost w p g B at_ (.returned (.tuple #[.int .u64 0, .int .u16 0])) W from by
            rintro W rfl
            exact ⟨0, 0, at_ + 1, rfl, HW.out.2.2, HW.out.1, HW.out.2.1, by decide, .inl ⟨rfl, by rw [HI.out.2.2.2]; exact chO_nought H1.out hv1⟩⟩)
          go_wp2_with fail
          go_ret2
          exact HP.out _ rfl
    · have CN := Lib.hid (next_at p g B (at_ + 1) 1 (by decide) wr HI.out.1 HI.out.2.2.1 HH.out.2.2.2.2)
      rw [show ((1 : Nat) : Int) = 1 from rfl] at CN
      rw [show ((1 : Nat) : Int) = 1 from rfl]
      unfold pt at *
      go_wp2_with fail
      refine CN.out.mono ?_
      rintro e w1 (⟨h1, rfl, h2, h3⟩ | ⟨v, h1, hv, hle, rfl, h2, h3⟩)
      · have HP := Lib.hid (show ∀ W, W = w1 → ChgPost w p g B at_ (.returned (.tuple #[.int .u64 0, .int .u16 20])) W from by
          rintro W rfl
          exact ⟨0, 20, at_ + 1, rfl, HI.out.2.2.1, h2, HI.out.2.1.trans h3 (fun x hx => .inl hx), by decide, .inr ⟨by decide, by rw [HI.out.2.2.2]; exact chO_no h1⟩⟩)
        clear h1 h2 h3
        go_wp2_with fail
        go_ret2
        exact HP.out _ rfl
      · have HW := Lib.hid (show Rf w1 p g B (at_ + 2) ∧ Only [p] w w1 ∧ at_ + 2 ≤ B.length from ⟨h2, HI.out.2.1.trans h3 (fun x hx => .inl hx), hle⟩)
        have H1 := Lib.hid h1
        clear h1 h2 h3
        by_cases hv1 : v = 1
        · subst hv1
          have HN := Lib.hid (show Rf w1 p g B (at_ + 2) ∧ Only [p] w w1 ∧ at_ + 2 ≤ B.length ∧ Gm.chO 4 (B.drop at_) = Gm.chO (4 - 2) (B.drop (at_ + 2)) from ⟨HW.out.1, HW.out.2.1, HW.out.2.2, by rw [HI.out.2.2.2]; exact chO_one H1.out⟩)
          rw [show ((1 : Nat) : Int) = 1 from rfl]
          go_wp2_with fail
          go_roundw
          case rel => exact ⟨2, by decide, by go_num, HN⟩
          case measure => simp [intOf]
        · have d1 : ((v : Int) == 1) = false := by simp; omega
          have d2 : ¬ (v : Int) = 1 := by omega
          have hT := HH.out.2.1.only (r := p) (g := p) ((Only.refl [p, p] w).trans HW.out.2.1 (fun x hx => .inl (by simp at hx ⊢; exact hx))) ⟨HH.out.2.2.1.1, HH.out.2.2.1.2.1, HH.out.2.2.1.2.2.1, HH.out.2.2.1.2.2.2.1, HH.out.2.2.1.2.2.2.2, HH.out.2.2.1.1, HH.out.2.2.1.2.1, HH.out.2.2.1.2.2.1, HH.out.2.2.1.2.2.2.1, HH.out.2.2.1.2.2.2.2⟩
          have tg := hT.g
          obtain ⟨tr0, tr1, tr2⟩ := hT.r
          obtain ⟨ta0, ta1, ta2, ta3, ta4⟩ := hT.t0
          have HTR := Lib.hid (And.intro ta2 HW.out.2.1)
          have CM := Lib.hid (next_at p g B (at_ + 2) 7 (by decide) w1 HW.out.1 HW.out.2.2 HH.out.2.2.2.2)
          rw [show ((7 : Nat) : Int) = 7 from rfl] at CM
          unfold pt at CM
          clear hT
          go_wp2_with fail
          refine CM.out.mono ?_
          rintro e w2 (⟨k1, rfl, k2, k3⟩ | ⟨u, k1, hu, kle, rfl, k2, k3⟩)
          · have tz2 := Only_cell k3 HTR.out.1 (by simp; exact Ne.symm HH.out.2.2.1.2.2.1)
            have HP := Lib.hid (show ∀ V : Nat, V < 18446744073709551616 → ∀ W, W = w2 → ChgPost w p g B at_ (.returned (.tuple #[.int .u64 ((V : Nat) : Int), .int .u16 20])) W from by
              rintro V hV W rfl
              exact ⟨V, 20, at_ + 2, rfl, HW.out.2.2, k2, HW.out.2.1.trans k3 (fun x hx => .inl hx), hV, .inr ⟨by decide, by rw [HI.out.2.2.2]; show Gm.chO (2 + 1) _ = _; rw [chO_row H1.out hv1 (by decide)]; show Option.map _ (Gm.rO 7 _) = _; rw [k1]; rfl⟩⟩)
            clear k1 k2 k3 tg tr0 tr1 tr2 ta0 ta1 ta2 ta3 ta4
            go_wp2_with fail
            go_ret2
            exact HP.out 18446744073709551553 (by decide) _ rfl
          · have tz2 := Only_cell k3 HTR.out.1 (by simp; exact Ne.symm HH.out.2.2.1.2.2.1)
            have hw2 : IntKind.u64.wrap ((u : Int) + 18446744073709551553) = ((Gm.subW u 63 : Nat) : Int) := by rw [IntKind.wrap_u64]; unfold Gm.subW; omega
            have HP := Lib.hid (show ∀ W, W = w2 → ChgPost w p g B at_ (.returned (.tuple #[.int .u64 ((Gm.subW u 63 : Nat) : Int), .int .u16 0])) W from by
              rintro W rfl
              exact ⟨Gm.subW u 63, 0, at_ + 2 + 7, rfl, kle, k2, HW.out.2.1.trans k3 (fun x hx => .inl hx), Gm.subW_lt _ _, .inl ⟨rfl, by rw [HI.out.2.2.2]; show Gm.chO (2 + 1) _ = _; rw [chO_row H1.out hv1 (by decide)]; show Option.map _ (Gm.rO 7 _) = _; rw [k1]; rfl⟩⟩)
            clear k1 k2 k3 tg tr0 tr1 tr2 ta0 ta1 ta2 ta3 ta4
            go_wp2_with fail
            go_ret2
            exact HP.out _ rfl
    · have CN := Lib.hid (next_at p g B (at_ + 2) 1 (by decide) wr HI.out.1 HI.out.2.2.1 HH.out.2.2.2.2)
      rw [show ((1 : Nat) : Int) = 1 from rfl] at CN
      rw [show ((2 : Nat) : Int) = 2 from rfl]
      unfold pt at *
      go_wp2_with fail
      refine CN.out.mono ?_
      rintro e w1 (⟨h1, rfl, h2, h3⟩ | ⟨v, h1, hv, hle, rfl, h2, h3⟩)
      · have HP := Lib.hid (show ∀ W, W = w1 → ChgPost w p g B at_ (.returned (.tuple #[.int .u64 0, .int .u16 20])) W from by
          rintro W rfl
          exact ⟨0, 20, at_ + 2, rfl, HI.out.2.2.1, h2, HI.out.2.1.trans h3 (fun x hx => .inl hx), by decide, .inr ⟨by decide, by rw [HI.out.2.2.2]; exact chO_no h1⟩⟩)
        clear h1 h2 h3
        go_wp2_with fail
        go_ret2
        exact HP.out _ rfl
      · have HW := Lib.hid (show Rf w1 p g B (at_ + 3) ∧ Only [p] w w1 ∧ at_ + 3 ≤ B.length from ⟨h2, HI.out.2.1.trans h3 (fun x hx => .inl hx), hle⟩)
        have H1 := Lib.hid h1
        clear h1 h2 h3
        by_cases hv1 : v = 1
        · subst hv1
          have HN := Lib.hid (show Rf w1 p g B (at_ + 3) ∧ Only [p] w w1 ∧ at_ + 3 ≤ B.length ∧ Gm.chO 4 (B.drop at_) = Gm.chO (4 - 3) (B.drop (at_ + 3)) from ⟨HW.out.1, HW.out.2.1, HW.out.2.2, by rw [HI.out.2.2.2]; exact chO_one H1.out⟩)
          rw [show ((1 : Nat) : Int) = 1 from rfl]
          go_wp2_with fail
          go_roundw
          case rel => exact ⟨3, by decide, by go_num, HN⟩
          case measure => simp [intOf]
        · have d1 : ((v : Int) == 1) = false := by simp; omega
          have d2 : ¬ (v : Int) = 1 := by omega
          have hT := HH.out.2.1.only (r := p) (g := p) ((Only.refl [p, p] w).trans HW.out.2.1 (fun x hx => .inl (by simp at hx ⊢; exact hx))) ⟨HH.out.2.2.1.1, HH.out.2.2.1.2.1, HH.out.2.2.1.2.2.1, HH.out.2.2.1.2.2.2.1, HH.out.2.2.1.2.2.2.2, HH.out.2.2.1.1, HH.out.2.2.1.2.1, HH.out.2.2.1.2.2.1, HH.out.2.2.1.2.2.2.1, HH.out.2.2.1.2.2.2.2⟩
          have tg := hT.g
          obtain ⟨tr0, tr1, tr2⟩ := hT.r
          obtain ⟨ta0, ta1, ta2, ta3, ta4⟩ := hT.t1
          have HTR := Lib.hid (And.intro ta2 HW.out.2.1)
          have CM := Lib.hid (next_at p g B (at_ + 3) 9 (by decide) w1 HW.out.1 HW.out.2.2 HH.out.2.2.2.2)
          rw [show ((9 : Nat) : Int) = 9 from rfl] at CM
          unfold pt at CM
          clear hT
          go_wp2_with fail
          refine CM.out.mono ?_
          rintro e w2 (⟨k1, rfl, k2, k3⟩ | ⟨u, k1, hu, kle, rfl, k2, k3⟩)
          · have tz2 := Only_cell k3 HTR.out.1 (by simp; exact Ne.symm HH.out.2.2.1.2.2.2.1)
            have HP := Lib.hid (show ∀ V : Nat, V < 18446744073709551616 → ∀ W, W = w2 → ChgPost w p g B at_ (.returned (.tuple #[.int .u64 ((V : Nat) : Int), .int .u16 20])) W from by
              rintro V hV W rfl
              exact ⟨V, 20, at_ + 3, rfl, HW.out.2.2, k2, HW.out.2.1.trans k3 (fun x hx => .inl hx), hV, .inr ⟨by decide, by rw [HI.out.2.2.2]; show Gm.chO (1 + 1) _ = _; rw [chO_row H1.out hv1 (by decide)]; show Option.map _ (Gm.rO 9 _) = _; rw [k1]; rfl⟩⟩)
            clear k1 k2 k3 tg tr0 tr1 tr2 ta0 ta1 ta2 ta3 ta4
            go_wp2_with fail
            go_ret2
            exact HP.out 18446744073709551361 (by decide) _ rfl
          · have tz2 := Only_cell k3 HTR.out.1 (by simp; exact Ne.symm HH.out.2.2.1.2.2.2.1)
            have hw2 : IntKind.u64.wrap ((u : Int) + 18446744073709551361) = ((Gm.subW u 255 : Nat) : Int) := by rw [IntKind.wrap_u64]; unfold Gm.subW; omega
            have HP := Lib.hid (show ∀ W, W = w2 → ChgPost w p g B at_ (.returned (.tuple #[.int .u64 ((Gm.subW u 255 : Nat) : Int), .int .u16 0])) W from by
              rintro W rfl
              exact ⟨Gm.subW u 255, 0, at_ + 3 + 9, rfl, kle, k2, HW.out.2.1.trans k3 (fun x hx => .inl hx), Gm.subW_lt _ _, .inl ⟨rfl, by rw [HI.out.2.2.2]; show Gm.chO (1 + 1) _ = _; rw [chO_row H1.out hv1 (by decide)]; show Option.map _ (Gm.rO 9 _) = _; rw [k1]; rfl⟩⟩)
            clear k1 k2 k3 tg tr0 tr1 tr2 ta0 ta1 ta2 ta3 ta4
            go_wp2_with fail
            go_ret2
            exact HP.out _ rfl
    · have CN := Lib.hid (next_at p g B (at_ + 3) 1 (by decide) wr HI.out.1 HI.out.2.2.1 HH.out.2.2.2.2)
      rw [show ((1 : Nat) : Int) = 1 from rfl] at CN
      rw [show ((3 : Nat) : Int) = 3 from rfl]
      unfold pt at *
      go_wp2_with fail
      refine CN.out.mono ?_
      rintro e w1 (⟨h1, rfl, h2, h3⟩ | ⟨v, h1, hv, hle, rfl, h2, h3⟩)
      · have HP := Lib.hid (show ∀ W, W = w1 → ChgPost w p g B at_ (.returned (.tuple #[.int .u64 0, .int .u16 20])) W from by
          rintro W rfl
          exact ⟨0, 20, at_ + 3, rfl, HI.out.2.2.1, h2, HI.out.2.1.trans h3 (fun x hx => .inl hx), by decide, .inr ⟨by decide, by rw [HI.out.2.2.2]; exact chO_no h1⟩⟩)
        clear h1 h2 h3
        go_wp2_with fail
        go_ret2
        exact HP.out _ rfl
      · have HW := Lib.hid (show Rf w1 p g B (at_ + 4) ∧ Only [p] w w1 ∧ at_ + 4 ≤ B.length from ⟨h2, HI.out.2.1.trans h3 (fun x hx => .inl hx), hle⟩)
        have H1 := Lib.hid h1
        clear h1 h2 h3
        by_cases hv1 : v = 1
        · subst hv1
          have HN := Lib.hid (show Rf w1 p g B (at_ + 4) ∧ Only [p] w w1 ∧ at_ + 4 ≤ B.length ∧ Gm.chO 4 (B.drop at_) = Gm.chO (4 - 4) (B.drop (at_ + 4)) from ⟨HW.out.1, HW.out.2.1, HW.out.2.2, by rw [HI.out.2.2.2]; exact chO_one H1.out⟩)
          rw [show ((1 : Nat) : Int) = 1 from rfl]
          go_wp2_with fail
          go_roundw
          case rel => exact ⟨4, by decide, by go_num, HN⟩
          case measure => simp [intOf]
        · have d1 : ((v : Int) == 1) = false := by simp; omega
          have d2 : ¬ (v : Int) = 1 := by omega
          have hT := HH.out.2.1.only (r := p) (g := p) ((Only.refl [p, p] w).trans HW.out.2.1 (fun x hx => .inl (by simp at hx ⊢; exact hx))) ⟨HH.out.2.2.1.1, HH.out.2.2.1.2.1, HH.out.2.2.1.2.2.1, HH.out.2.2.1.2.2.2.1, HH.out.2.2.1.2.2.2.2, HH.out.2.2.1.1, HH.out.2.2.1.2.1, HH.out.2.2.1.2.2.1, HH.out.2.2.1.2.2.2.1, HH.out.2.2.1.2.2.2.2⟩
          have tg := hT.g
          obtain ⟨tr0, tr1, tr2⟩ := hT.r
          obtain ⟨ta0, ta1, ta2, ta3, ta4⟩ := hT.t2
          have HTR := Lib.hid (And.intro ta2 HW.out.2.1)
          have CM := Lib.hid (next_at p g B (at_ + 4) 12 (by decide) w1 HW.out.1 HW.out.2.2 HH.out.2.2.2.2)
          rw [show ((12 : Nat) : Int) = 12 from rfl] at CM
          unfold pt at CM
          clear hT
          go_wp2_with fail
          refine CM.out.mono ?_
          rintro e w2 (⟨k1, rfl, k2, k3⟩ | ⟨u, k1, hu, kle, rfl, k2, k3⟩)
          · have tz2 := Only_cell k3 HTR.out.1 (by simp; exact Ne.symm HH.out.2.2.1.2.2.2.2)
            have HP := Lib.hid (show ∀ V : Nat, V < 18446744073709551616 → ∀ W, W = w2 → ChgPost w p g B at_ (.returned (.tuple #[.int .u64 ((V : Nat) : Int), .int .u16 20])) W from by
              rintro V hV W rfl
              exact ⟨V, 20, at_ + 4, rfl, HW.out.2.2, k2, HW.out.2.1.trans k3 (fun x hx => .inl hx), hV, .inr ⟨by decide, by rw [HI.out.2.2.2]; show Gm.chO (0 + 1) _ = _; rw [chO_row H1.out hv1 (by decide)]; show Option.map _ (Gm.rO 12 _) = _; rw [k1]; rfl⟩⟩)
            clear k1 k2 k3 tg tr0 tr1 tr2 ta0 ta1 ta2 ta3 ta4
            go_wp2_with fail
            go_ret2
            exact HP.out 18446744073709549569 (by decide) _ rfl
          · have tz2 := Only_cell k3 HTR.out.1 (by simp; exact Ne.symm HH.out.2.2.1.2.2.2.2)
            have hw2 : IntKind.u64.wrap ((u : Int) + 18446744073709549569) = ((Gm.subW u 2047 : Nat) : Int) := by rw [IntKind.wrap_u64]; unfold Gm.subW; omega
            have HP := Lib.hid (show ∀ W, W = w2 → ChgPost w p g B at_ (.returned (.tuple #[.int .u64 ((Gm.subW u 2047 : Nat) : Int), .int .u16 0])) W from by
              rintro W rfl
              exact ⟨Gm.subW u 2047, 0, at_ + 4 + 12, rfl, kle, k2, HW.out.2.1.trans k3 (fun x hx => .inl hx), Gm.subW_lt _ _, .inl ⟨rfl, by rw [HI.out.2.2.2]; show Gm.chO (0 + 1) _ = _; rw [chO_row H1.out hv1 (by decide)]; show Option.map _ (Gm.rO 12 _) = _; rw [k1]; rfl⟩⟩)
            clear k1 k2 k3 tg tr0 tr1 tr2 ta0 ta1 ta2 ta3 ta4
            go_wp2_with fail
            go_ret2
            exact HP.out _ rfl
    · have CN := Lib.hid (next_at p g B (at_ + 4) 64 (by decide) wr HI.out.1 HI.out.2.2.1 HH.out.2.2.2.2)
      rw [show ((64 : Nat) : Int) = 64 from rfl] at CN
      rw [show ((4 : Nat) : Int) = 4 from rfl]
      unfold pt at *
      go_wp2_with fail
      refine CN.out.mono ?_
      rintro e w1 (⟨h1, rfl, h2, h3⟩ | ⟨v, h1, hv, hle, rfl, h2, h3⟩)
      · have HP := Lib.hid (show ∀ W, W = w1 → ChgPost w p g B at_ (.returned (.tuple #[.int .u64 0, .int .u16 20])) W from by
          rintro W rfl
          exact ⟨0, 20, at_ + 4, rfl, HI.out.2.2.1, h2, HI.out.2.1.trans h3 (fun x hx => .inl hx), by decide, .inr ⟨by decide, by rw [HI.out.2.2.2]; exact h1⟩⟩)
        clear h1 h2 h3
        go_wp2_with fail
        go_ret2
        exact HP.out _ rfl
      · have HP := Lib.hid (show ∀ W, W = w1 → ChgPost w p g B at_ (.returned (.tuple #[.int .u64 ((v : Nat) : Int), .int .u16 0])) W from by
          rintro W rfl
          exact ⟨v, 0, at_ + 4 + 64, rfl, hle, h2, HI.out.2.1.trans h3 (fun x hx => .inl hx), by omega, .inl ⟨rfl, by rw [HI.out.2.2.2]; exact h1⟩⟩)
        clear h1 h2 h3
        go_wp2_with fail
        go_ret2
        exact HP.out _ rfl
end Go.Proofs.YtdlifcpdlbmijaaGreatDoor
namespace Go.Proofs.YtdlifcpdlbmijaaGreatDoor
set_option linter.unusedVariables false
set_option linter.unusedSimpArgs false
open Go.RowKit Go.PlainAid Go.Shelf
open Gm (St Smp Chk Dr)
theorem takes_at {L : List Smp} (h : takesL Gm.st0 L = true) (i : Nat) (hi : i < L.length) : apErr (Gm.run (L.take i)) L[i] = 0 := by
  have h1 := takes_pre (List.take_prefix (i + 1) L) h
  rw [List.take_succ_eq_append_getElem hi, takes_snoc, Bool.and_eq_true, decide_eq_true_eq] at h1
  exact h1.2
theorem takes_oneC {L : List Smp} (hok : ∀ a ∈ L, Gm.OkS a) (h : takesL Gm.st0 L = true) (hs : 1 ≤ L.length) : OneC L := by
  have key : ∀ i (hi : i < L.length), (-9007199254740992 ≤ L[i].t ∧ L[i].t ≤ 9007199254740992) ∧ (∀ h0 : 0 < i, (L[i - 1]'(by omega)).t < L[i].t) ∧ i ≠ 120 := by
    intro i hi
    have h1 := takes_at h i hi
    unfold apErr at h1
    have hn := run_len L i (by omega)
    by_cases hr : -9007199254740992 ≤ L[i].t ∧ L[i].t ≤ 9007199254740992
    · rw [if_neg (by simpa using hr)] at h1
      refine ⟨hr, fun h0 => ?_, fun he => ?_⟩
      · by_cases hx : 0 < (Gm.run (L.take i)).n ∧ L[i].t ≤ (Gm.run (L.take i)).last.t
        · rw [if_pos hx] at h1; omega
        · obtain ⟨j, rfl⟩ : ∃ j, i = j + 1 := ⟨i - 1, by omega⟩
          have hl := run_last L j (by omega)
          rw [hl, hn] at hx
          show L[j].t < _
          omega
      · split at h1
        · omega
        · rw [if_pos (by omega)] at h1; omega
    · rw [if_pos (by simpa using hr)] at h1; omega
  refine ⟨hok, fun a ha => ?_, fun i hi => ?_, hs, ?_⟩
  · obtain ⟨i, hi, rfl⟩ := List.getElem_of_mem ha
    exact (key i hi).1
  · exact (key (i + 1) hi).2.1 (by omega)
  · by_cases hx : L.length ≤ 120
    · exact hx
    · exact absurd rfl (key 120 (by omega)).2.2
/-- the program's reader says so just of chunks -/
theorem ck_iff (f t : Int) (N : Nat) (bs : List Nat) (hN : 1 ≤ N) : ckE f t N bs (Gm.rdAll N (Gm.rd0 (B2.Bt.unpack bs))) ↔ ∃ g, OneC g ∧ Gm.IsChk g ⟨f, t, N, bs⟩ := by
  constructor
  · rintro ⟨h1, h2, h3, h4, h5⟩
    have hn := h4
    rw [Gm.run_n] at hn
    exact ⟨_, takes_oneC (rdAll_ok N _ (rd0_I _)) h1 (by omega), h2.symm, h3.symm, h4.symm, h5⟩
  · rintro ⟨g, G, C⟩
    obtain ⟨h1, h2, h3⟩ := one_says G C
    rw [show Gm.rdAll N (Gm.rd0 (B2.Bt.unpack bs)) = g from h2]
    exact h3
/-- what the document's reader may be -/
structure DrI (d : Dr) : Prop where
  t : -9223372036854775808 ≤ d.t ∧ d.t ≤ 9223372036854775807
  v : d.v < 18446744073709551616
  step : d.step < 18446744073709551616
  win : d.lf + d.rt ≤ 63
theorem wI_bd (x : Int) : -9223372036854775808 ≤ Gm.wI x ∧ Gm.wI x ≤ 9223372036854775807 := by unfold Gm.wI; omega
theorem rO_lt {k : Nat} {S : List Bool} {r : Nat × List Bool} (h : Gm.rO k S = some r) : r.1 < 2 ^ k := by
  unfold Gm.rO at h
  split at h
  · simp at h
  · simp only [Option.some.injEq] at h
    rw [← h]
    have h1 := B2.Bt.val_lt (S.take k)
    rw [List.length_take] at h1
    exact Nat.lt_of_lt_of_le h1 (Nat.pow_le_pow_right (by decide) (Nat.min_le_left _ _))
theorem vO_lt {S : List Bool} {r : Nat × List Bool} (h : Gm.vO S = some r) : r.1 < 18446744073709551616 := by
  unfold Gm.vO at h
  split at h
  · simp only [Option.some.injEq] at h
    rw [← h]
    exact B2.Bt.rv_lt S
  · simp at h
theorem xO_I {d e : Dr} {w : Nat × Nat × List Bool} (h : Gm.xO d w = some e) (hd : DrI d) (hw : w.1 + w.2.1 ≤ 63) : DrI e ∧ e.t = d.t ∧ e.step = d.step := by
  unfold Gm.xO at h
  cases hx : Gm.rO (64 - w.1 - w.2.1) w.2.2 with
  | none => rw [hx] at h; simp at h
  | some x =>
    rw [hx] at h
    simp only [Option.map_some, Option.some.injEq] at h
    rw [← h]
    exact ⟨⟨hd.t, Gm.xor_lt64 hd.v (Nat.mod_lt _ (by decide)), hd.step, hw⟩, rfl, rfl⟩
theorem wO_I {S : List Bool} {w : Nat × Nat × List Bool} (h : Gm.wO S = some w) : w.1 + w.2.1 ≤ 63 := by
  unfold Gm.wO at h
  cases hx : Gm.rO 5 S with
  | none => rw [hx] at h; simp at h
  | some x =>
    rw [hx] at h
    simp only [Option.bind_some] at h
    cases hy : Gm.rO 6 x.2 with
    | none => rw [hy] at h; simp at h
    | some y =>
      rw [hy] at h
      simp only [Option.bind_some] at h
      split at h
      · simp at h
      · simp only [Option.some.injEq] at h
        rw [← h]
        show x.1 + (63 - x.1 - y.1) ≤ 63
        omega
theorem nO_I {d e : Dr} (h : Gm.nO d = some e) (hd : DrI d) : DrI e := by
  unfold Gm.nO at h
  cases hb : Gm.rO 1 d.S with
  | none => rw [hb] at h; simp at h
  | some b =>
    rw [hb] at h
    simp only [Option.bind_some] at h
    by_cases h1 : b.1 = 1
    · rw [if_pos h1] at h
      cases hu : Gm.rO 1 b.2 with
      | none => rw [hu] at h; simp at h
      | some u =>
        rw [hu] at h
        simp only [Option.bind_some] at h
        by_cases h2 : u.1 = 1
        · rw [if_pos h2] at h
          cases hw : Gm.wO u.2 with
          | none => rw [hw] at h; simp at h
          | some w =>
            rw [hw] at h
            simp only [Option.bind_some] at h
            exact (xO_I h hd (wO_I hw)).1
        · rw [if_neg h2] at h
          simp only [Option.bind_some] at h
          exact (xO_I h hd hd.win).1
    · rw [if_neg h1] at h
      simp only [Option.some.injEq] at h
      rw [← h]
      exact ⟨hd.t, hd.v, hd.step, hd.win⟩
theorem tO_lt {n step : Nat} {S : List Bool} {r : Nat × List Bool} (h : Gm.tO n step S = some r) : r.1 < 18446744073709551616 := by
  unfold Gm.tO at h
  split at h
  · exact vO_lt h
  · cases hc : Gm.chO 4 S with
    | none => rw [hc] at h; simp at h
    | some c =>
      rw [hc] at h
      simp only [Option.map_some, Option.some.injEq] at h
      rw [← h]
      exact Nat.mod_lt _ (by decide)
theorem dNext_I {n : Nat} {d e : Dr} (h : Gm.dNext n d = some e) (hd : DrI d) : DrI e := by
  unfold Gm.dNext at h
  cases ht : Gm.tO n d.step d.S with
  | none => rw [ht] at h; simp at h
  | some r =>
    rw [ht] at h
    simp only [Option.bind_some] at h
    exact nO_I h ⟨wI_bd _, hd.v, tO_lt ht, hd.win⟩
theorem dFst_I {S : List Bool} {d : Dr} (h : Gm.dFst S = some d) : DrI d := by
  unfold Gm.dFst at h
  cases ha : Gm.vO S with
  | none => rw [ha] at h; simp at h
  | some a =>
    rw [ha] at h
    simp only [Option.bind_some] at h
    cases hv : Gm.rO 64 a.2 with
    | none => rw [hv] at h; simp at h
    | some v =>
      rw [hv] at h
      simp only [Option.map_some, Option.some.injEq] at h
      rw [← h]
      exact ⟨B2.Bt.uz_bd _ (vO_lt ha), by have := rO_lt hv; simp only at *; omega, by show 0 < _; decide, by show 0 + 0 ≤ 63; decide⟩
theorem dIt_I (B : List Bool) (j : Nat) (l : List Smp) (d : Dr) (h : Gm.dIt j B = some (l, d)) : DrI d ∧ (∀ a ∈ l, Gm.OkS a) := by
  induction j generalizing l d with
  | zero =>
    unfold Gm.dIt at h
    cases hf : Gm.dFst B with
    | none => rw [hf] at h; simp at h
    | some s =>
      rw [hf] at h
      simp only [Option.map_some, Option.some.injEq, Prod.mk.injEq] at h
      have hI := dFst_I hf
      rw [← h.1, ← h.2]
      refine ⟨hI, fun a ha => ?_⟩
      simp only [List.mem_singleton] at ha
      rw [ha]
      exact ⟨hI.t.1, hI.t.2, hI.v⟩
  | succ j ih =>
    unfold Gm.dIt at h
    cases hf : Gm.dIt j B with
    | none => rw [hf] at h; simp at h
    | some r =>
      rw [hf] at h
      simp only [Option.bind_some] at h
      obtain ⟨i1, i2⟩ := ih r.1 r.2 hf
      cases hg : Gm.dNext (j + 1) r.2 with
      | none => rw [hg] at h; simp at h
      | some s =>
        rw [hg] at h
        simp only [Option.map_some, Option.some.injEq, Prod.mk.injEq] at h
        have hI := dNext_I hg i1
        rw [← h.1, ← h.2]
        refine ⟨hI, fun a ha => ?_⟩
        rw [List.mem_append, List.mem_singleton] at ha
        rcases ha with ha | ha
        · exact i2 a ha
        · rw [ha]
          exact ⟨hI.t.1, hI.t.2, hI.v⟩
/-- the error of samples by the document -/
def upTo (l : List Smp) : Bool := (List.range (l.length - 1)).all fun i => decide ((l.getD i ⟨0, 0⟩).t < (l.getD (i + 1) ⟨0, 0⟩).t)
theorem upTo_iff (l : List Smp) : upTo l = true ↔ ∀ i (h : i + 1 < l.length), l[i].t < l[i + 1].t := by
  unfold upTo
  rw [List.all_eq_true]
  constructor
  · intro h i hi
    have h1 := of_decide_eq_true (h i (by rw [List.mem_range]; omega))
    rwa [getD_is l i (by omega), getD_is l (i + 1) hi] at h1
  · intro h i hi
    rw [List.mem_range] at hi
    refine decide_eq_true ?_
    rw [getD_is l i (by omega), getD_is l (i + 1) (by omega)]
    exact h i (by omega)
def inTo (l : List Smp) : Bool := l.all fun a => decide (-9007199254740992 ≤ a.t ∧ a.t ≤ 9007199254740992)
theorem inTo_iff (l : List Smp) : inTo l = true ↔ ∀ a ∈ l, -9007199254740992 ≤ a.t ∧ a.t ≤ 9007199254740992 := by
  unfold inTo
  rw [List.all_eq_true]
  exact forall_congr' fun a => forall_congr' fun _ => decide_eq_true_iff
def fitE (l : List Smp) : Nat := if inTo l = true then (if upTo l = true then 0 else 100) else 2
/-- the document's reader says so just of chunks -/
def dcE (f t : Int) (N : Nat) (bs : List Nat) (l : List Smp) : Prop :=
  fitE l = 0 ∧ (Gm.run l).frm = f ∧ (Gm.run l).last.t = t ∧ ∃ k, k < 8 ∧ B2.Bt.Packs k bs (Gm.run l).out
theorem dc_iff (f t : Int) (N : Nat) (bs : List Nat) (hN : 1 ≤ N) (hN2 : N ≤ 120) (g : List Smp) : (∃ d, Gm.dIt (N - 1) (B2.Bt.unpack bs) = some (g, d) ∧ dcE f t N bs g) ↔ OneC g ∧ Gm.IsChk g ⟨f, t, N, bs⟩ := by
  constructor
  · rintro ⟨d, h1, h2, h3, h4, h5⟩
    have hl := Gm.dIt_len _ _ _ _ h1
    obtain ⟨_, hok⟩ := dIt_I _ _ _ _ h1
    unfold fitE at h2
    split at h2
    · rename_i hr
      split at h2
      · rename_i hu
        exact ⟨⟨hok, (inTo_iff g).1 hr, (upTo_iff g).1 hu, by omega, by omega⟩, h3.symm, h4.symm, by rw [Gm.run_n]; show N = _; omega, h5⟩
      · omega
    · omega
  · rintro ⟨G, C⟩
    obtain ⟨c1, c2, c3, k, hk, hP⟩ := C
    simp only at c1 c2 c3 hP
    have hn : N = g.length := by rw [c3, Gm.run_n]
    obtain ⟨d, h1, _⟩ := Gm.dIt_run g G.ok (List.replicate k false) (N - 1) (by omega)
    rw [← hP.2] at h1
    rw [show N - 1 + 1 = g.length by omega, List.take_length] at h1
    refine ⟨d, h1, ?_, c1.symm, c2.symm, k, hk, hP⟩
    unfold fitE
    rw [if_pos ((inTo_iff g).2 G.inr), if_pos ((upTo_iff g).2 G.up)]
end Go.Proofs.YtdlifcpdlbmijaaGreatDoor
namespace Go.Proofs.YtdlifcpdlbmijaaGreatDoor
set_option linter.unusedVariables false
set_option linter.unusedSimpArgs false
open Go.RowKit Go.PlainAid Go.Shelf
open B2 (Only Bys Row cellsOf)
open Gm (St Smp Dr)
theorem fitE_far {l : List Smp} (i : Nat) (hi : i < l.length) (h : ¬ (-9007199254740992 ≤ l[i].t ∧ l[i].t ≤ 9007199254740992)) : fitE l = 2 := by
  unfold fitE
  rw [if_neg]
  intro h1
  exact h ((inTo_iff l).1 h1 _ (List.getElem_mem hi))
theorem fitE_no {l : List Smp} (hr : ∀ i (hi : i < l.length), -9007199254740992 ≤ l[i].t ∧ l[i].t ≤ 9007199254740992) (i : Nat) (hi : i + 1 < l.length) (h : l[i + 1].t ≤ l[i].t) : fitE l = 100 := by
  unfold fitE
  rw [if_pos ((inTo_iff l).2 fun a ha => by obtain ⟨i, hi, rfl⟩ := List.getElem_of_mem ha; exact hr i hi), if_neg]
  intro h1
  have := (upTo_iff l).1 h1 i hi
  omega
theorem fitE_ok {l : List Smp} (hr : ∀ i (hi : i < l.length), -9007199254740992 ≤ l[i].t ∧ l[i].t ≤ 9007199254740992) (hu : ∀ i (hi : i + 1 < l.length), l[i].t < l[i + 1].t) : fitE l = 0 := by
  unfold fitE
  rw [if_pos ((inTo_iff l).2 fun a ha => by obtain ⟨i, hi, rfl⟩ := List.getElem_of_mem ha; exact hr i hi), if_pos ((upTo_iff l).2 hu)]
set_option maxHeartbeats 8000000 in
set_option maxRecDepth 100000 in
theorem fits_any (a : Option Addr) (n c : Nat) (l : List Smp) (hn : l.length = n) (hz : n ≤ 1000000) (w : World) (H : Sms w a l) :
    Calls Tryz.prog 35 #[.slice a n c] w fun e w' => e = .returned (.int .u16 ((fitE l : Nat) : Int)) ∧ Below w.heap.size w w' := by
  have HL := Lib.hid (And.intro H (And.intro hn hz))
  clear H hn
  go_enter Tryz.func35, Tryz.ntmps35
  go_wp2_with fail
  go_loopw [3] (fun i wr => ∃ k : Nat, k ≤ n ∧ i = .int .i64 (k : Nat) ∧ Hid ((∀ i (hi : i < l.length), i < k → -9007199254740992 ≤ l[i].t ∧ l[i].t ≤ 9007199254740992) ∧ Below w.heap.size w wr)) (fun i _ => n - (intOf i).toNat)
  case atStart => exact ⟨0, Nat.zero_le _, rfl, Lib.hid ⟨fun i hi h => by omega, Below.refl _ _⟩⟩
  case round =>
    obtain ⟨k, hk, rfl, HI⟩ := hrel
    by_cases hlt : k < n
    · have da : decide ((k : Int) < (n : Int)) = true := decide_eq_true (by omega)
      have da2 : decide (k < n) = true := decide_eq_true hlt
      have hkl : k < l.length := by rw [HL.out.2.1]; exact hlt
      obtain ⟨b1, o1, rfl, hl1, hc1⟩ := (HL.out.1.below HI.out.2) (by intro e; rw [e] at hkl; simp at hkl)
      have p1 := (hc1 k hkl).1
      by_cases hlo : l[k].t < -9007199254740992
      · have HE := Lib.hid (fitE_far k hkl (by omega))
        obtain ⟨T1, hT1⟩ : ∃ T1, l[k].t = T1 := ⟨_, rfl⟩
        rw [hT1] at p1 hlo
        have d1 : decide (T1 < -9007199254740992) = true := decide_eq_true hlo
        clear hc1 hT1 hkl
        go_wp2_with fail
        go_ret
        exact ⟨by rw [HE.out]; rfl, HI.out.2⟩
      · by_cases hhi : 9007199254740992 < l[k].t
        · have HE := Lib.hid (fitE_far k hkl (by omega))
          obtain ⟨T1, hT1⟩ : ∃ T1, l[k].t = T1 := ⟨_, rfl⟩
          rw [hT1] at p1 hlo hhi
          have d1 : decide (T1 < -9007199254740992) = false := decide_eq_false hlo
          have d2 : decide (T1 > 9007199254740992) = true := decide_eq_true hhi
          clear hc1 hT1 hkl
          go_wp2_with fail
          go_ret
          exact ⟨by rw [HE.out]; rfl, HI.out.2⟩
        · have HN := Lib.hid (show ((∀ i (hi : i < l.length), i < k + 1 → -9007199254740992 ≤ l[i].t ∧ l[i].t ≤ 9007199254740992) ∧ Below w.heap.size w wr) from ⟨fun i hi h => by
            by_cases e : i = k
            · subst e; omega
            · exact HI.out.1 i hi (by omega), HI.out.2⟩)
          obtain ⟨T1, hT1⟩ : ∃ T1, l[k].t = T1 := ⟨_, rfl⟩
          rw [hT1] at p1 hlo hhi
          have d1 : decide (T1 < -9007199254740992) = false := decide_eq_false hlo
          have d2 : decide (T1 > 9007199254740992) = false := decide_eq_false hhi
          clear hc1 hT1 hkl
          go_wp2_with fail
          go_roundw
          case rel => exact ⟨k + 1, by omega, by go_num, HN⟩
          case measure => simp [intOf]; omega
    · obtain rfl : k = n := by omega
      have da : decide ((k : Int) < (k : Int)) = false := decide_eq_false (by omega)
      have da2 : decide (k < k) = false := decide_eq_false (by omega)
      have HR := Lib.hid (show ∀ i (hi : i < l.length), -9007199254740992 ≤ l[i].t ∧ l[i].t ≤ 9007199254740992 from fun i hi => HI.out.1 i hi (by have := HL.out.2.1; omega))
      have HB0 := Lib.hid HI.out.2
      clear HI
      obtain ⟨wq, hwq⟩ : ∃ wq, wq = wr := ⟨_, rfl⟩
      subst hwq
      go_wp2_with fail
      go_loopw [4] (fun i wr => ∃ j : Nat, 1 ≤ j ∧ j ≤ k + 1 ∧ i = .int .i64 (j : Nat) ∧ Hid ((∀ i (hi : i + 1 < l.length), i + 1 < j → l[i].t < l[i + 1].t) ∧ Below w.heap.size w wr)) (fun i _ => k + 1 - (intOf i).toNat)
      case atStart => exact ⟨1, by omega, by omega, by simp, Lib.hid ⟨fun i hi h => by omega, HB0.out⟩⟩
      case round =>
        obtain ⟨j, hj1, hj2, rfl, HJ⟩ := hrel
        by_cases hjl : j < k
        · have ea : decide ((j : Int) < (k : Int)) = true := decide_eq_true (by omega)
          have ea2 : decide (j < k) = true := decide_eq_true hjl
          obtain ⟨q, rfl⟩ : ∃ q, j = q + 1 := ⟨j - 1, by omega⟩
          have hkl : q + 1 < l.length := by rw [HL.out.2.1]; exact hjl
          have hbd : Below w.heap.size w wr.drew := HJ.out.2.trans ((drew_below wr).mono HJ.out.2.size)
          obtain ⟨b1, o1, rfl, hl1, hc1⟩ := (HL.out.1.below hbd) (by intro e; rw [e] at hkl; simp at hkl)
          have p1 := (hc1 (q + 1) hkl).1
          have p2 := (hc1 q (by omega)).1
          have hsub : ((q + 1 : Nat) : Int) - 1 = (q : Int) := by omega
          have HBD := Lib.hid hbd
          have hq0 : (0 : Int) ≤ (q : Int) := by omega
          have hqn : (q : Int) < (k : Int) := by omega
          have hqw : IntKind.i64.wrap (q : Int) = (q : Int) := by rw [i64_is]; unfold RowKit.wrap64; omega
          have hqk : q < k := by omega
          by_cases hle : l[q + 1].t ≤ l[q].t
          · have HE := Lib.hid (fitE_no HR.out q hkl hle)
            obtain ⟨T1, hT1⟩ : ∃ T1, l[q + 1].t = T1 := ⟨_, rfl⟩
            obtain ⟨T0, hT0⟩ : ∃ T0, l[q].t = T0 := ⟨_, rfl⟩
            rw [hT1] at p1 hle
            rw [hT0] at p2 hle
            have dl : decide (T1 ≤ T0) = true := decide_eq_true hle
            obtain ⟨m, hm⟩ : ∃ m, q + 1 = m := ⟨_, rfl⟩
            rw [hm] at p1 hsub ea ea2 hjl hj1 hj2 ⊢
            clear hc1 hT1 hT0 hkl hbd hm
            go_wp2_with fail
            go_region
            all_goals go_wp2_with fail
            all_goals go_ret
            all_goals exact ⟨by rw [HE.out]; rfl, HBD.out⟩
          · have HN := Lib.hid (show (∀ i (hi : i + 1 < l.length), i + 1 < q + 1 + 1 → l[i].t < l[i + 1].t) from fun i hi h => by
              by_cases e : i = q
              · subst e; omega
              · exact HJ.out.1 i hi (by omega))
            obtain ⟨T1, hT1⟩ : ∃ T1, l[q + 1].t = T1 := ⟨_, rfl⟩
            obtain ⟨T0, hT0⟩ : ∃ T0, l[q].t = T0 := ⟨_, rfl⟩
            rw [hT1] at p1 hle
            rw [hT0] at p2 hle
            have dl : decide (T1 ≤ T0) = false := decide_eq_false hle
            obtain ⟨m, hm⟩ : ∃ m, q + 1 = m := ⟨_, rfl⟩
            rw [hm] at p1 hsub ea ea2 hjl hj1 hj2 HN ⊢
            clear hc1 hT1 hT0 hbd hm
            go_wp2_with fail
            go_region
            all_goals go_wp2_with fail
            all_goals go_roundw
            case rel => exact ⟨m + 1, by omega, by omega, by go_num, Lib.hid ⟨HN.out, HBD.out⟩⟩
            case measure => simp [intOf]; omega
        · have ea : decide ((j : Int) < (k : Int)) = false := decide_eq_false (by omega)
          have ea2 : decide (j < k) = false := decide_eq_false hjl
          have HE := Lib.hid (fitE_ok HR.out fun i hi => HJ.out.1 i hi (by have := HL.out.2.1; omega))
          go_wp2_with fail
          go_ret
          exact ⟨by rw [HE.out]; rfl, HJ.out.2⟩
end Go.Proofs.YtdlifcpdlbmijaaGreatDoor
namespace Go.Proofs.YtdlifcpdlbmijaaGreatDoor
set_option linter.unusedVariables false
set_option linter.unusedSimpArgs false
open Go.RowKit Go.PlainAid Go.Shelf
open B2 (Only Bys Row cellsOf Rf)
open Gm (St Smp Dr)
/-- what stands in memory while the document reads a chunk: n: the boxed chunk, p g: its reader, q: from here on lie the samples -/
structure AlM (n p g q : Nat) (ch : Array Value) (B : List Bool) (w : World) (at_ : Nat) (v : Value) (l : List Smp) (W : World) : Prop where
  rf : Rf W p g B at_
  own : OwnS W q v l
  box : W.heap[n]? = some (.cells ch 26 (0, 0))
  bel : Below n w W
  sz : q ≤ W.heap.size
  ne : n < p ∧ p < q ∧ n < q ∧ g < q
theorem AlM.rd {n p g q at_ at' : Nat} {ch : Array Value} {B : List Bool} {w W W' : World} {v : Value} {l : List Smp} (h : AlM n p g q ch B w at_ v l W) (hr : Rf W' p g B at') (ho : Only [p] W W') : AlM n p g q ch B w at' v l W' := by
  have hne := h.ne
  have hb := (Array.getElem?_eq_some_iff.1 h.box).1
  refine ⟨hr, B2.owns_only h.own ho (fun b hg => ?_), (ho.block n hb (by simp; omega)).trans h.box, h.bel.trans (ho.below (by omega) (by intro x hx; simp at hx; omega)), Nat.le_trans h.sz ho.size, hne⟩
  have h2 := (h.own.lt b hg).1
  simp; omega
theorem AlM.add {n p g q at_ : Nat} {ch : Array Value} {B : List Bool} {w W W' : World} {v v' : Value} {l l' : List Smp} {o : Obj} (h : AlM n p g q ch B w at_ v l W) (hown : OwnS W' q v' l') (hg : (W.alloc o).grownBy W' v.ownBlock) : AlM n p g q ch B w at_ v' l' W' := by
  have hne := h.ne
  have hb := (Array.getElem?_eq_some_iff.1 h.box).1
  have hsz := h.sz
  have hlt := h.rf.lt
  have hv : ∀ k, v.ownBlock = some k → q ≤ k := fun k hk => (h.own.lt k hk).1
  have hO : Only v.ownBlock.toList W W' := ((Only.refl _ W).alloc o).grown hg (fun k hk => .inl (by simp [hk]))
  have hnot : ∀ x, x < q → x ∉ v.ownBlock.toList := fun x hx hm => by
    have := hv x (by simpa using hm)
    omega
  exact ⟨h.rf.only hO (hnot _ (by omega)) (hnot _ (by omega)), hown, (hO.block n hb (hnot _ (by omega))).trans h.box, h.bel.trans (hO.below (by omega) (fun x hx => by have := hv x (by simpa using hx); omega)), Nat.le_trans hsz hO.size, hne⟩
/-- samples that the chunk says -/
def IsC (g : List Smp) (f t N : Int) (bs : List Nat) : Prop := OneC g ∧ N = (g.length : Int) ∧ Gm.IsChk g ⟨f, t, g.length, bs⟩
/-- what the document's All gives -/
def AlPost (w : World) (f t N : Int) (bs : List Nat) (e : Ending) (w' : World) : Prop :=
  Below w.heap.size w w' ∧ ((∃ g v, e = .returned (.tuple #[v, .bool true]) ∧ OwnS w' w.heap.size v g ∧ IsC g f t N bs) ∨ (∃ a n c, e = .returned (.tuple #[.slice a n c, .bool false]) ∧ ¬ ∃ g, IsC g f t N bs))
theorem no_isC {f t : Int} {M j : Nat} {bs : List Nat} (hM : M ≤ 120) (hj : j + 1 ≤ M) (h : Gm.dIt j (B2.Bt.unpack bs) = none) : ¬ ∃ g, IsC g f t ((M : Nat) : Int) bs := by
  rintro ⟨g, G, hn, C⟩
  have hl : M = g.length := by omega
  obtain ⟨d, h1, _⟩ := (dc_iff f t g.length bs (by omega) (by omega) g).2 ⟨G, C⟩
  rw [Gm.dIt_none _ j (g.length - 1) (by omega) h] at h1
  cases h1
theorem nO_e {d : Dr} (h : Gm.rO 1 d.S = none) : Gm.nO d = none := by unfold Gm.nO; rw [h]; rfl
theorem nO_same {d : Dr} {S1 : List Bool} (h : Gm.rO 1 d.S = some (0, S1)) : Gm.nO d = some { d with S := S1 } := by unfold Gm.nO; rw [h]; rfl
theorem nO_e2 {d : Dr} {S1 : List Bool} (h : Gm.rO 1 d.S = some (1, S1)) (h2 : Gm.rO 1 S1 = none) : Gm.nO d = none := by unfold Gm.nO; rw [h]; simp [h2]
theorem nO_old {d : Dr} {S1 S2 : List Bool} (h : Gm.rO 1 d.S = some (1, S1)) (h2 : Gm.rO 1 S1 = some (0, S2)) : Gm.nO d = Gm.xO d (d.lf, d.rt, S2) := by unfold Gm.nO; rw [h]; simp [h2]
theorem nO_new {d : Dr} {S1 S2 : List Bool} (h : Gm.rO 1 d.S = some (1, S1)) (h2 : Gm.rO 1 S1 = some (1, S2)) : Gm.nO d = (Gm.wO S2).bind (Gm.xO d) := by unfold Gm.nO; rw [h]; simp [h2]
theorem wO_e {S : List Bool} (h : Gm.rO 5 S = none) : Gm.wO S = none := by unfold Gm.wO; rw [h]; rfl
theorem wO_e2 {S S1 : List Bool} {x : Nat} (h : Gm.rO 5 S = some (x, S1)) (h2 : Gm.rO 6 S1 = none) : Gm.wO S = none := by unfold Gm.wO; rw [h]; simp [h2]
theorem wO_far {S S1 S2 : List Bool} {x y : Nat} (h : Gm.rO 5 S = some (x, S1)) (h2 : Gm.rO 6 S1 = some (y, S2)) (h3 : 63 < x + y) : Gm.wO S = none := by unfold Gm.wO; rw [h]; simp [h2, h3]
theorem wO_ok {S S1 S2 : List Bool} {x y : Nat} (h : Gm.rO 5 S = some (x, S1)) (h2 : Gm.rO 6 S1 = some (y, S2)) (h3 : ¬ 63 < x + y) : Gm.wO S = some (x, 63 - x - y, S2) := by unfold Gm.wO; rw [h]; simp [h2, h3]
theorem xO_e {d : Dr} {L R : Nat} {S : List Bool} (h : Gm.rO (64 - L - R) S = none) : Gm.xO d (L, R, S) = none := by unfold Gm.xO; simp [h]
theorem xO_ok {d : Dr} {L R x : Nat} {S S1 : List Bool} (h : Gm.rO (64 - L - R) S = some (x, S1)) : Gm.xO d (L, R, S) = some { d with v := d.v ^^^ ((x <<< R) % 18446744073709551616), lf := L, rt := R, S := S1 } := by unfold Gm.xO; simp [h]
def lenV : Value → Nat | .slice _ n _ => n | _ => 0
theorem shl_word (X R : Nat) (hR : R ≤ 64) : IntKind.u64.wrap ((X : Int) * 2 ^ R) = (((X <<< R) % 18446744073709551616 : Nat) : Int) := by
  rw [Nat.shiftLeft_eq]
  show ((X : Int) * 2 ^ R) % 18446744073709551616 = _
  have hc : ((X : Int) * 2 ^ R) = ((X * 2 ^ R : Nat) : Int) := by
    rw [Int.natCast_mul, Int.natCast_pow]
    rfl
  rw [hc]
  omega
theorem time_word (T : Int) (s : Nat) (hs : s < 18446744073709551616) : IntKind.i64.wrap (IntKind.u64.wrap (IntKind.u64.wrap T + (s : Int))) = Gm.wI (T + Gm.i64 s) := by
  rw [i64_is, IntKind.wrap_u64, IntKind.wrap_u64]
  unfold RowKit.wrap64 Gm.wI Gm.i64
  split <;> omega
theorem own_row {W : World} {q n : Nat} {v : Value} {l : List Smp} (h : OwnS W q v l) (hn : l.length = n) : W.ownsRow q 79 2 v n (smC l) := by
  unfold OwnS at h
  rw [hn] at h
  exact h
end Go.Proofs.YtdlifcpdlbmijaaGreatDoor
namespace Go.Proofs.YtdlifcpdlbmijaaGreatDoor
set_option linter.unusedVariables false
set_option linter.unusedSimpArgs false
open Go.RowKit Go.PlainAid Go.Shelf
open B2 (Only Wr PutPost Bys Row cellsOf Rf RfPost)
open Gm (St Smp)
def lefI (ws we : Nat) : Int := if we = 0 then -1 else ((ws : Nat) : Int)
def rigI (we : Nat) : Int := if we = 0 then -1 else ((64 - we : Nat) : Int)
theorem cs_new (w : World) : Cs w (w.alloc (.cells #[.slice none 0 0, .int .i64 0] 160)) w.heap.size [] := by
  have hb2 := (Below.refl w.heap.size w).alloc (Nat.le_refl _) (.cells #[.slice none 0 0, .int .i64 0] 160)
  have hr := heap_alloc_new w (.cells #[.slice none 0 0, .int .i64 0] 160)
  refine ⟨Nat.le_refl _, hb2, w.heap.size, Nat.le_refl _, .slice none 0 0, hr, Row.nil _ _, .inl rfl, ?_⟩
  simp
theorem keep2 {W : World} {b o m N : Nat} {x y v0 v1 v2 v3 : Value} (hne : b ≠ N) (h : W.cell? ⟨b, o, none⟩ = some x ∧ W.cell? ⟨b, o + m * 2, none⟩ = some y) :
    (((((W.setCell ⟨N, 0, none⟩ v0).setCell ⟨N, 1, none⟩ v1).setCell ⟨N, 2, none⟩ v2).setCell ⟨N, 3, none⟩ v3).cell? ⟨b, o, none⟩ = some x) ∧ (((((W.setCell ⟨N, 0, none⟩ v0).setCell ⟨N, 1, none⟩ v1).setCell ⟨N, 2, none⟩ v2).setCell ⟨N, 3, none⟩ v3).cell? ⟨b, o + m * 2, none⟩ = some y) := by
  have hO := ((((Only.refl [N] W).setCell (p := ⟨N, 0, none⟩) (.inl (by simp)) v0).setCell (p := ⟨N, 1, none⟩) (.inl (by simp)) v1).setCell (p := ⟨N, 2, none⟩) (.inl (by simp)) v2).setCell (p := ⟨N, 3, none⟩) (.inl (by simp)) v3
  exact ⟨Only_cell hO h.1 (by simpa using hne), Only_cell hO h.2 (by simpa using hne)⟩
theorem keepG {W W' : World} {p q : Addr} {x y : Value} (h : W.cell? p = some x ∧ W.cell? q = some y) (k : Below W.heap.size W W') : W'.cell? p = some x ∧ W'.cell? q = some y := ⟨cell_below h.1 k, cell_below h.2 k⟩
set_option maxHeartbeats 8000000 in
set_option maxRecDepth 100000 in
theorem rchunk_any (b o n cap : Nat) (l : List Smp) (hn : l.length = n) (h0 : 0 < n) (hn9 : n ≤ 1000) (hl : ∀ a ∈ l, Gm.OkS a) (q p0 p1 p2 c c0 c1 c2 o9 oa oc od : Nat) (w : World) (HS : Sam w b o l) (HT : TabB w q p0 p1 p2 c c0 c1 c2 o9 oa oc od) :
    Calls Tryz.prog 36 #[.slice (some ⟨b, o, none⟩) n cap] w (ChPost w (l.getD 0 ⟨0, 0⟩).t (l.getD (n - 1) ⟨0, 0⟩).t n (Gm.run l).out) := by
  have hA := (Below.refl w.heap.size w).alloc (Nat.le_refl _) (.cells #[.int .i64 0, .int .i64 0, .int .i64 0, .slice none 0 0] 26)
  have HRUN := Lib.hid (show (Gm.run l).out = (Gm.run (l.take n)).out by rw [← hn, List.take_length])
  have hSZ : (w.alloc (.cells #[.int .i64 0, .int .i64 0, .int .i64 0, .slice none 0 0] 26)).heap.size = w.heap.size + 1 := by simp
  have HBB := Lib.hid (And.intro hA hSZ)
  have HSS := Lib.hid (HS.below hA)
  have HTT := Lib.hid (HT.below hA)
  have HL := Lib.hid hl
  have HLN := Lib.hid hn
  have k0 := hl _ (List.getElem_mem (show 0 < l.length by omega))
  have g0 := getD_is l 0 (by omega)
  have HR1 := Lib.hid (run_one l (by omega))
  obtain ⟨a0, ha0⟩ : ∃ a0, l.getD 0 ⟨0, 0⟩ = a0 := ⟨_, rfl⟩
  rw [← g0, ha0] at k0 HR1
  have hs0 : w.cell? ⟨b, o, none⟩ = some (.int .i64 a0.t) ∧ w.cell? ⟨b, o + 1, none⟩ = some (.int .u64 ((a0.v : Nat) : Int)) := by
    have h := HS 0 (by omega)
    rw [← g0, ha0] at h
    exact h
  have hs0 : (w.alloc (.cells #[.int .i64 0, .int .i64 0, .int .i64 0, .slice none 0 0] 26)).cell? ⟨b, o, none⟩ = some (.int .i64 a0.t) ∧ (w.alloc (.cells #[.int .i64 0, .int .i64 0, .int .i64 0, .slice none 0 0] 26)).cell? ⟨b, o + 1, none⟩ = some (.int .u64 ((a0.v : Nat) : Int)) := ⟨cell_below hs0.1 hA, cell_below hs0.2 hA⟩
  have HS0 := Lib.hid hs0
  have HK0 := Lib.hid k0
  have hb0 : (0 : Int) < (n : Int) := by omega
  have HROW := Lib.hid (heap_alloc_new w (.cells #[.int .i64 0, .int .i64 0, .int .i64 0, .slice none 0 0] 26))
  have HA0 := Lib.hid ha0
  rw [ha0]
  obtain ⟨T, hT⟩ : ∃ T, (l.getD (n - 1) ⟨0, 0⟩).t = T := ⟨_, rfl⟩
  obtain ⟨OUT, hOUT⟩ : ∃ OUT, (Gm.run l).out = OUT := ⟨_, rfl⟩
  have HTO := Lib.hid (And.intro hT hOUT)
  rw [hT, hOUT]
  rw [hOUT] at HRUN
  clear hA hl k0 hs0 g0 HS HT hT hOUT hn ha0
  go_enter Tryz.func36, Tryz.ntmps36
  go_upto_region 2 with (fail)
  generalize w.alloc (.cells #[.int .i64 0, .int .i64 0, .int .i64 0, .slice none 0 0] 26) = wB at *
  obtain ⟨N, hN⟩ : ∃ N, w.heap.size = N := ⟨_, rfl⟩
  obtain ⟨r, hr⟩ : ∃ r, N + 1 = r := ⟨_, rfl⟩
  have HNN := Lib.hid (show w.heap.size = N ∧ r = N + 1 ∧ wB.heap.size = r from ⟨hN, by omega, by have := hSZ; omega⟩)
  have HC := Lib.hid (cs_new wB)
  rw [HNN.out.2.2] at HC
  rw [hN] at HROW ⊢
  rw [hr]
  clear hN hr hSZ
  generalize wB.alloc (.cells #[.slice none 0 0, .int .i64 0] 160) = W1 at HC ⊢
  have q0 := cell_below HS0.out.1 HC.out.2.1
  go_wp2_with fail
  go_at_call 87
  refine (cs_sgn a0.t HK0.out.1 HK0.out.2.1 HC.out (by decide)).mono ?_
  rintro e w2 ⟨rfl, hc2⟩
  have HC2 := Lib.hid hc2
  have q1 := cell_below HS0.out.2 HC2.out.2.1
  have CB := Lib.hid (cs_bits a0.v 64 HK0.out.2.2 (by decide) HC2.out (by have := vb_len (B2.Bt.zz a0.t) (B2.Bt.zz_lt _ HK0.out.1 HK0.out.2.1); rw [List.nil_append]; omega))
  simp only [Int.cast_ofNat_Int, List.nil_append] at CB
  rw [← HR1.out.1] at CB
  clear q0 hc2 HC HC2
  go_wp2_with fail
  go_at_call 88
  refine CB.out.mono ?_
  rintro e w3 ⟨rfl, hc3⟩
  have HC3 := Lib.hid hc3
  have HW1 := Lib.hid HR1.out.2
  clear q1 hc3 CB HR1 HS0
  go_wp2_with fail
  go_loopw [4, 5, 6] (fun v4 v5 v6 wr => ∃ i : Nat, 1 ≤ i ∧ i ≤ n ∧ v4 = .int .i64 (lefI (Gm.run (l.take i)).ws (Gm.run (l.take i)).we) ∧ v5 = .int .i64 (rigI (Gm.run (l.take i)).we) ∧ v6 = .int .i64 ((i : Nat) : Int) ∧ Hid (Cs wB wr r (Gm.run (l.take i)).out)) (fun _ _ v6 _ => n - (intOf v6).toNat)
  case atStart => exact ⟨1, Nat.le_refl _, h0, by rw [HW1.out.1, HW1.out.2]; rfl, by rw [HW1.out.2]; rfl, rfl, HC3⟩
  case round =>
    obtain ⟨i, hi1, hin, rfl, rfl, rfl, HCi⟩ := hrel
    by_cases hlt : i < n
    · obtain ⟨j, hj⟩ : ∃ j, i = j + 1 := ⟨i - 1, by omega⟩
      have hlen := out_len l HL.out i (by have := HLN.out; omega)
      have hHP := step_put l i hi1 (by have := HLN.out; omega)
      have hwin := win_le l HL.out i
      have hxl := xrL_lt l HL.out i (by have := HLN.out; omega)
      have hci := (HSS.out i (by have := HLN.out; omega)).2
      have hcj := (HSS.out j (by have := HLN.out; omega)).2
      have hvi := (HL.out _ (List.getElem_mem (show i < l.length by have := HLN.out; omega))).2.2
      have hvj := (HL.out _ (List.getElem_mem (show j < l.length by have := HLN.out; omega))).2.2
      have e1 := getD_is l i (by have := HLN.out; omega)
      have e2 := getD_is l j (by have := HLN.out; omega)
      have hxr : xrL l i = (l.getD i ⟨0, 0⟩).v ^^^ (l.getD j ⟨0, 0⟩).v := by unfold xrL; rw [show i - 1 = j by omega]
      rw [← e1] at hci hvi
      rw [← e2] at hcj hvj
      obtain ⟨vi, hvii⟩ : ∃ vi, (l.getD i ⟨0, 0⟩).v = vi := ⟨_, rfl⟩
      obtain ⟨vj, hvjj⟩ : ∃ vj, (l.getD j ⟨0, 0⟩).v = vj := ⟨_, rfl⟩
      rw [hvii] at hci hvi hxr
      rw [hvjj] at hcj hvj hxr
      have hx := u64_xor_nat vi vj hvi hvj
      rw [← hxr] at hx
      obtain ⟨x, hxx⟩ : ∃ x, xrL l i = x := ⟨_, rfl⟩
      rw [hxx] at hx hxl hHP
      obtain ⟨ws, hws⟩ : ∃ ws, (Gm.run (l.take i)).ws = ws := ⟨_, rfl⟩
      obtain ⟨we, hwe⟩ : ∃ we, (Gm.run (l.take i)).we = we := ⟨_, rfl⟩
      obtain ⟨B, hBB⟩ : ∃ B, (Gm.run (l.take i)).out = B := ⟨_, rfl⟩
      rw [hws, hwe, hBB] at hHP
      rw [hws, hwe] at hwin
      rw [hBB] at hlen HCi
      rw [hws, hwe]
      have HP := Lib.hid hHP
      have HWIN := Lib.hid hwin
      have HXL := Lib.hid hxl
      have HLEN := Lib.hid hlen
      have htl := timeL_len l i
      have HTLN := Lib.hid htl
      have hji : ((i : Nat) : Int) - 1 = ((j : Nat) : Int) := by omega
      have hij : ((i : Nat) : Int) < (n : Int) := by omega
      have hjn : ((j : Nat) : Int) < (n : Int) := by omega
      have hjn2 : j < n := by omega
      have CT := Lib.hid (cs_time (cap := cap) (o := o) l HLN.out hi1 hlt (by omega) (by omega) q p0 p1 p2 c c0 c1 c2 o9 oa oc od HSS.out HTT.out HCi.out)
      have HIN := Lib.hid (And.intro hi1 hlt)
      have HCC := Lib.hid (And.intro hci hcj)
      clear hHP hwin hxl hlen htl hci hcj hvi hvj e1 e2 hxr hvii hvjj hws hwe hBB hi1 hj hxx hb0
      go_wp2_with fail
      go_at_call 89
      refine CT.out.mono ?_
      rintro e w4 ⟨rfl, hc4⟩
      have HC4 := Lib.hid hc4
      have d1 := cell_below HCC.out.1 hc4.2.1
      have d2 := cell_below HCC.out.2 hc4.2.1
      clear hc4 CT HCi HCC
      go_wp2_with fail
      go_quiet (fail)
      have HC5 := Lib.hid (HC4.out.below (drewn_below w4 nq))
      generalize w4.drewN nq = w5 at HC5 ⊢
      clear d1 d2 HC4 hx hji hjn hjn2
      have hlB : (B ++ timeL l i).length + 200 ≤ 1000000000 := by rw [List.length_append]; have := HLEN.out; have := HTLN.out; omega
      have HLB := Lib.hid hlB
      clear hlB
      by_cases hx0 : x = 0
      · have hz1 : ((x : Int) == 0) = true := by rw [hx0]; rfl
        have hz2 : (x : Int) = 0 := by omega
        have HQ : Hid ((Gm.run (l.take (i + 1))).out = B ++ timeL l i ++ [false] ∧ (Gm.run (l.take (i + 1))).ws = ws ∧ (Gm.run (l.take (i + 1))).we = we) := by
          obtain ⟨h1, h2, h3⟩ := HP.out
          rw [h1, h2, h3]
          unfold Gm.numB Gm.numS Gm.numE
          rw [if_pos hx0, if_pos hx0, if_pos hx0]
          exact ⟨rfl, rfl, rfl⟩
        have C1 := Lib.hid (cs_bit false HC5.out (by have := HLB.out; omega))
        clear HP HC5
        subst hx0
        go_wp2_with fail
        go_at_call 90
        refine C1.out.mono ?_
        rintro e w6 ⟨rfl, hc6⟩
        rw [← HQ.out.1] at hc6
        have HC6 := Lib.hid hc6
        clear hc6 C1
        go_wp2_with fail
        go_roundw
        case rel => exact ⟨i + 1, by omega, by have := HIN.out; omega, by rw [HQ.out.2.1, HQ.out.2.2], by rw [HQ.out.2.2], by go_num, HC6⟩
        case measure => simp [intOf]; have := HIN.out; omega
      · have hz1 : ((x : Int) == 0) = false := by simp; omega
        have hz2 : ¬ (x : Int) = 0 := by omega
        obtain ⟨wf1, wf2, wf3, _⟩ := Gm.win_facts x hx0 HXL.out
        have hE := show Gm.wE x = 64 - Lib.ctz 64 x from rfl
        have hcl := (Gm.ctz_facts x hx0 HXL.out).1
        have CE := Lib.hid (fun W => ends_any x hx0 HXL.out W)
        have HCase := Lib.hid (show (we ≠ 0 ∧ ws ≤ Gm.wS x ∧ Gm.wE x ≤ we ∧ we ≤ 64 ∧ ws < we) ∨ we = 0 ∨ (we ≠ 0 ∧ Gm.wS x < ws ∧ we ≤ 64) ∨ (we ≠ 0 ∧ ws ≤ Gm.wS x ∧ we < Gm.wE x ∧ we ≤ 64) by have := HWIN.out; omega)
        have HNUM := Lib.hid (show (we ≠ 0 → ws ≤ Gm.wS x → Gm.wE x ≤ we → Gm.numS ws we x = ws ∧ Gm.numE ws we x = we ∧ Gm.numB ws we x = [true] ++ [false] ++ B2.Bt.top (x >>> (64 - we)) (we - ws)) ∧ (we = 0 ∨ Gm.wS x < ws ∨ we < Gm.wE x → Gm.numS ws we x = Gm.wS x ∧ Gm.numE ws we x = Gm.wE x ∧ Gm.numB ws we x = [true] ++ [true] ++ B2.Bt.top (Gm.wS x) 5 ++ B2.Bt.top (Gm.wE x - Gm.wS x - 1) 6 ++ B2.Bt.top (x >>> (64 - Gm.wE x)) (Gm.wE x - Gm.wS x)) from
          ⟨fun _ h1 h2 => num_hold ws we x hx0 (by simp [h1, h2]), fun h => num_new ws we x hx0 (by simp only [Bool.and_eq_true, decide_eq_true_eq]; omega)⟩)
        have hEC : Gm.wE x - Gm.wS x - 1 = 63 - Gm.wS x - Lib.ctz 64 x ∧ 64 - Gm.wE x = Lib.ctz 64 x ∧ Gm.wE x - Gm.wS x = 64 - Gm.wS x - Lib.ctz 64 x := by omega
        rw [hEC.1, hEC.2.1, hEC.2.2] at HNUM
        rw [hE] at HNUM HCase wf2 wf3
        clear hEC hE
        obtain ⟨a, haa⟩ : ∃ a, Gm.wS x = a := ⟨_, rfl⟩
        obtain ⟨d, hdd⟩ : ∃ d, Lib.ctz 64 x = d := ⟨_, rfl⟩
        rw [haa, hdd] at HNUM HCase CE wf2
        rw [haa] at wf1
        rw [hdd] at hcl
        have HAD := Lib.hid (show a ≤ 31 ∧ a + d < 64 ∧ d < 64 from ⟨wf1, by omega, hcl⟩)
        have C1 := Lib.hid (cs_bit true HC5.out (by have := HLB.out; omega))
        have HX0 := Lib.hid hx0
        clear haa hdd wf1 wf2 wf3 hcl HC5 hx0
        go_wp2_with fail
        go_at_call 90
        refine C1.out.mono ?_
        rintro e w6 ⟨rfl, hc6⟩
        have HC6 := Lib.hid hc6
        clear hc6 C1
        go_wp2_with fail
        go_at_call 91
        refine (CE.out w6).mono ?_
        rintro e w7 ⟨rfl, rfl⟩
        clear CE
        rcases HCase.out with ⟨k1, k2, k3, k4, k5⟩ | k1 | ⟨k1, k2, k4⟩ | ⟨k1, k2, k3, k4⟩
        · have hl : lefI ws we = ((ws : Nat) : Int) := by unfold lefI; rw [if_neg k1]
          have hr : rigI we = ((64 - we : Nat) : Int) := by unfold rigI; rw [if_neg k1]
          obtain ⟨R, hR⟩ : ∃ R, 64 - we = R := ⟨_, rfl⟩
          have hn := HNUM.out.1 k1 k2 k3
          have HRR := Lib.hid hR
          rw [hl, hr, hR]
          rw [hR] at hn
          obtain ⟨M, hM⟩ : ∃ M, we - ws = M := ⟨_, rfl⟩
          rw [hM] at hn
          have hHE := HP.out
          have HQ : Hid ((Gm.run (l.take (i + 1))).out = B ++ timeL l i ++ [true] ++ [false] ++ B2.Bt.top (x >>> R) M ∧ (Gm.run (l.take (i + 1))).ws = ws ∧ (Gm.run (l.take (i + 1))).we = we) := by
            obtain ⟨h1, h2, h3⟩ := hHE
            obtain ⟨n1, n2, n3⟩ := hn
            rw [h1, h2, h3, n1, n2, n3]
            refine Lib.hid ⟨?_, rfl, rfl⟩
            simp only [List.append_assoc]
          have g1 : decide ((a : Int) ≥ (ws : Int)) = true := by simp; omega
          have g2 : decide ((d : Int) ≥ (R : Int)) = true := by simp; omega
          have g3 : decide ((ws : Int) ≥ 0) = true := by simp
          have g4 : decide (ws ≤ a) = true := by simpa using k2
          have g5 : decide (R ≤ d) = true := by simp; omega
          have g6 : ws ≤ a := k2
          have g7 : R ≤ d := by omega
          have hM7 : (64 : Int) - (ws : Int) - (R : Int) = ((M : Nat) : Int) := by omega
          have hshr : (x : Int) / 2 ^ R = ((x >>> R : Nat) : Int) := by rw [Nat.shiftRight_eq_div_pow]; simp
          have hsl : x >>> R < 18446744073709551616 := by rw [Nat.shiftRight_eq_div_pow]; exact Nat.lt_of_le_of_lt (Nat.div_le_self _ _) HXL.out
          have hR64 : R < 64 := by omega
          have HF := Lib.hid (show M ≤ 64 ∧ x >>> R < 18446744073709551616 from ⟨by omega, hsl⟩)
          clear hn hHE HP HNUM HCase hl hr hM k1 k2 k3 k4 k5 hR hsl
          go_wp2_with fail
          go_at_call 90
          refine (cs_bit false HC6.out (by have := HLB.out; simp only [List.length_append, List.length_cons, List.length_nil] at this ⊢; omega)).mono ?_
          rintro e w8 ⟨rfl, hc8⟩
          have CB := Lib.hid (cs_bits (x >>> R) M HF.out.2 HF.out.1 hc8 (by have := HLB.out; have := HF.out.1; simp only [List.length_append, List.length_cons, List.length_nil] at *; omega))
          rw [show ((x >>> R : Nat) : Int) = (x : Int) >>> R from rfl, ← HQ.out.1] at CB
          clear hc8 HC6
          go_wp2_with fail
          go_at_call 88
          refine CB.out.mono ?_
          rintro e w9 ⟨rfl, hc9⟩
          have HC9 := Lib.hid hc9
          clear hc9 CB
          go_wp2_with fail
          go_roundw
          case rel => exact ⟨i + 1, by omega, by have := HIN.out; omega, by rw [HQ.out.2.1, HQ.out.2.2]; unfold lefI; rw [if_neg (by have := HRR.out; omega)], by rw [HQ.out.2.2]; unfold rigI; rw [if_neg (by have := HRR.out; omega), HRR.out], by go_num, HC9⟩
          case measure => simp [intOf]; have := HIN.out; omega
        · have hl : lefI ws we = -1 := by unfold lefI; rw [if_pos k1]
          have hr : rigI we = -1 := by unfold rigI; rw [if_pos k1]
          rw [hl, hr]
          have hn := HNUM.out.2 (.inl k1)
          have hHE := HP.out
          obtain ⟨z, hz⟩ : ∃ z, 63 - a - d = z := ⟨_, rfl⟩
          obtain ⟨m, hm⟩ : ∃ m, 64 - a - d = m := ⟨_, rfl⟩
          rw [hz, hm] at hn
          have HQ : Hid ((Gm.run (l.take (i + 1))).out = B ++ timeL l i ++ [true] ++ [true] ++ B2.Bt.top a 5 ++ B2.Bt.top z 6 ++ B2.Bt.top (x >>> d) m ∧ (Gm.run (l.take (i + 1))).ws = a ∧ (Gm.run (l.take (i + 1))).we = 64 - d) := by
            obtain ⟨h1, h2, h3⟩ := hHE
            obtain ⟨n1, n2, n3⟩ := hn
            rw [h1, h2, h3, n1, n2, n3]
            refine Lib.hid ⟨?_, rfl, rfl⟩
            simp only [List.append_assoc]
          have hsl : x >>> d < 18446744073709551616 := by rw [Nat.shiftRight_eq_div_pow]; exact Nat.lt_of_le_of_lt (Nat.div_le_self _ _) HXL.out
          have HF := Lib.hid (show m ≤ 64 ∧ x >>> d < 18446744073709551616 ∧ z < 64 ∧ a < 32 ∧ d < 64 from ⟨by omega, hsl, by omega, by have := HAD.out; omega, by have := HAD.out; omega⟩)
          have hz6 : (63 : Int) - (a : Int) - (d : Int) = ((z : Nat) : Int) := by have := HAD.out; omega
          have hz7 : (64 : Int) - (a : Int) - (d : Int) = ((m : Nat) : Int) := by have := HAD.out; omega
          have hd64 : d < 64 := HF.out.2.2.2.2
          have ha32 : a < 32 := HF.out.2.2.2.1
          have hz64 : z < 64 := HF.out.2.2.1
          clear hn hHE HP HNUM HCase hl hr k1  hsl hz hm
          go_wp2_with fail
          go_at_call 90
          refine (cs_bit true HC6.out (by have := HLB.out; simp only [List.length_append, List.length_cons, List.length_nil, B2.Bt.top_length] at this ⊢; omega)).mono ?_
          rintro e w8 ⟨rfl, hc8⟩
          have CB := Lib.hid (cs_bits a 5 (by have := HF.out; omega) (by decide) hc8 (by have := HLB.out; simp only [List.length_append, List.length_cons, List.length_nil, B2.Bt.top_length] at this ⊢; omega))
          simp only [Int.cast_ofNat_Int] at CB
          clear hc8 HC6
          go_wp2_with fail
          go_at_call 88
          refine CB.out.mono ?_
          rintro e w9 ⟨rfl, hc9⟩
          clear CB
          have CB := Lib.hid (cs_bits z 6 (by have := HF.out; omega) (by decide) hc9 (by have := HLB.out; simp only [List.length_append, List.length_cons, List.length_nil, B2.Bt.top_length] at this ⊢; omega))
          simp only [Int.cast_ofNat_Int] at CB
          clear hc9
          go_wp2_with fail
          go_at_call 88
          refine CB.out.mono ?_
          rintro e wa ⟨rfl, hca⟩
          clear CB
          have CB := Lib.hid (cs_bits (x >>> d) m HF.out.2.1 HF.out.1 hca (by have := HF.out.1; have := HLB.out; simp only [List.length_append, List.length_cons, List.length_nil, B2.Bt.top_length] at this ⊢; omega))
          rw [show ((x >>> d : Nat) : Int) = (x : Int) / 2 ^ d by rw [Nat.shiftRight_eq_div_pow]; simp, ← HQ.out.1] at CB
          clear hca
          go_wp2_with fail
          go_at_call 88
          refine CB.out.mono ?_
          rintro e wb ⟨rfl, hcb⟩
          have HCb := Lib.hid hcb
          clear hcb CB
          go_wp2_with fail
          go_roundw
          case rel => exact ⟨i + 1, by omega, by have := HIN.out; omega, by rw [HQ.out.2.1, HQ.out.2.2]; unfold lefI; rw [if_neg (by have := HF.out; omega)], by rw [HQ.out.2.2]; unfold rigI; rw [if_neg (by have := HF.out; omega)]; have := HF.out; simp; omega, by go_num, HCb⟩
          case measure => simp [intOf]; have := HIN.out; omega
        · have hl : lefI ws we = ((ws : Nat) : Int) := by unfold lefI; rw [if_neg k1]
          have hr : rigI we = ((64 - we : Nat) : Int) := by unfold rigI; rw [if_neg k1]
          obtain ⟨R, hR⟩ : ∃ R, 64 - we = R := ⟨_, rfl⟩
          rw [hl, hr, hR]
          have hn := HNUM.out.2 (.inr (.inl k2))
          have g4 : decide (ws ≤ a) = false := by simpa using k2
          have g6 : ¬ ws ≤ a := by omega
          clear hR
          have hHE := HP.out
          obtain ⟨z, hz⟩ : ∃ z, 63 - a - d = z := ⟨_, rfl⟩
          obtain ⟨m, hm⟩ : ∃ m, 64 - a - d = m := ⟨_, rfl⟩
          rw [hz, hm] at hn
          have HQ : Hid ((Gm.run (l.take (i + 1))).out = B ++ timeL l i ++ [true] ++ [true] ++ B2.Bt.top a 5 ++ B2.Bt.top z 6 ++ B2.Bt.top (x >>> d) m ∧ (Gm.run (l.take (i + 1))).ws = a ∧ (Gm.run (l.take (i + 1))).we = 64 - d) := by
            obtain ⟨h1, h2, h3⟩ := hHE
            obtain ⟨n1, n2, n3⟩ := hn
            rw [h1, h2, h3, n1, n2, n3]
            refine Lib.hid ⟨?_, rfl, rfl⟩
            simp only [List.append_assoc]
          have hsl : x >>> d < 18446744073709551616 := by rw [Nat.shiftRight_eq_div_pow]; exact Nat.lt_of_le_of_lt (Nat.div_le_self _ _) HXL.out
          have HF := Lib.hid (show m ≤ 64 ∧ x >>> d < 18446744073709551616 ∧ z < 64 ∧ a < 32 ∧ d < 64 from ⟨by omega, hsl, by omega, by have := HAD.out; omega, by have := HAD.out; omega⟩)
          have hz6 : (63 : Int) - (a : Int) - (d : Int) = ((z : Nat) : Int) := by have := HAD.out; omega
          have hz7 : (64 : Int) - (a : Int) - (d : Int) = ((m : Nat) : Int) := by have := HAD.out; omega
          have hd64 : d < 64 := HF.out.2.2.2.2
          have ha32 : a < 32 := HF.out.2.2.2.1
          have hz64 : z < 64 := HF.out.2.2.1
          clear hn hHE HP HNUM HCase hl hr k1 k2 k4 hsl hz hm
          go_wp2_with fail
          go_at_call 90
          refine (cs_bit true HC6.out (by have := HLB.out; simp only [List.length_append, List.length_cons, List.length_nil, B2.Bt.top_length] at this ⊢; omega)).mono ?_
          rintro e w8 ⟨rfl, hc8⟩
          have CB := Lib.hid (cs_bits a 5 (by have := HF.out; omega) (by decide) hc8 (by have := HLB.out; simp only [List.length_append, List.length_cons, List.length_nil, B2.Bt.top_length] at this ⊢; omega))
          simp only [Int.cast_ofNat_Int] at CB
          clear hc8 HC6
          go_wp2_with fail
          go_at_call 88
          refine CB.out.mono ?_
          rintro e w9 ⟨rfl, hc9⟩
          clear CB
          have CB := Lib.hid (cs_bits z 6 (by have := HF.out; omega) (by decide) hc9 (by have := HLB.out; simp only [List.length_append, List.length_cons, List.length_nil, B2.Bt.top_length] at this ⊢; omega))
          simp only [Int.cast_ofNat_Int] at CB
          clear hc9
          go_wp2_with fail
          go_at_call 88
          refine CB.out.mono ?_
          rintro e wa ⟨rfl, hca⟩
          clear CB
          have CB := Lib.hid (cs_bits (x >>> d) m HF.out.2.1 HF.out.1 hca (by have := HF.out.1; have := HLB.out; simp only [List.length_append, List.length_cons, List.length_nil, B2.Bt.top_length] at this ⊢; omega))
          rw [show ((x >>> d : Nat) : Int) = (x : Int) / 2 ^ d by rw [Nat.shiftRight_eq_div_pow]; simp, ← HQ.out.1] at CB
          clear hca
          go_wp2_with fail
          go_at_call 88
          refine CB.out.mono ?_
          rintro e wb ⟨rfl, hcb⟩
          have HCb := Lib.hid hcb
          clear hcb CB
          go_wp2_with fail
          go_roundw
          case rel => exact ⟨i + 1, by omega, by have := HIN.out; omega, by rw [HQ.out.2.1, HQ.out.2.2]; unfold lefI; rw [if_neg (by have := HF.out; omega)], by rw [HQ.out.2.2]; unfold rigI; rw [if_neg (by have := HF.out; omega)]; have := HF.out; simp; omega, by go_num, HCb⟩
          case measure => simp [intOf]; have := HIN.out; omega
        · have hl : lefI ws we = ((ws : Nat) : Int) := by unfold lefI; rw [if_neg k1]
          have hr : rigI we = ((64 - we : Nat) : Int) := by unfold rigI; rw [if_neg k1]
          obtain ⟨R, hR⟩ : ∃ R, 64 - we = R := ⟨_, rfl⟩
          rw [hl, hr, hR]
          have hn := HNUM.out.2 (.inr (.inr k3))
          have g4 : decide (ws ≤ a) = true := by simpa using k2
          have g5 : decide (R ≤ d) = false := by simp; have := HAD.out; omega
          have g6 : ws ≤ a := k2
          have g7 : ¬ R ≤ d := by have := HAD.out; omega
          clear hR
          have hHE := HP.out
          obtain ⟨z, hz⟩ : ∃ z, 63 - a - d = z := ⟨_, rfl⟩
          obtain ⟨m, hm⟩ : ∃ m, 64 - a - d = m := ⟨_, rfl⟩
          rw [hz, hm] at hn
          have HQ : Hid ((Gm.run (l.take (i + 1))).out = B ++ timeL l i ++ [true] ++ [true] ++ B2.Bt.top a 5 ++ B2.Bt.top z 6 ++ B2.Bt.top (x >>> d) m ∧ (Gm.run (l.take (i + 1))).ws = a ∧ (Gm.run (l.take (i + 1))).we = 64 - d) := by
            obtain ⟨h1, h2, h3⟩ := hHE
            obtain ⟨n1, n2, n3⟩ := hn
            rw [h1, h2, h3, n1, n2, n3]
            refine Lib.hid ⟨?_, rfl, rfl⟩
            simp only [List.append_assoc]
          have hsl : x >>> d < 18446744073709551616 := by rw [Nat.shiftRight_eq_div_pow]; exact Nat.lt_of_le_of_lt (Nat.div_le_self _ _) HXL.out
          have HF := Lib.hid (show m ≤ 64 ∧ x >>> d < 18446744073709551616 ∧ z < 64 ∧ a < 32 ∧ d < 64 from ⟨by omega, hsl, by omega, by have := HAD.out; omega, by have := HAD.out; omega⟩)
          have hz6 : (63 : Int) - (a : Int) - (d : Int) = ((z : Nat) : Int) := by have := HAD.out; omega
          have hz7 : (64 : Int) - (a : Int) - (d : Int) = ((m : Nat) : Int) := by have := HAD.out; omega
          have hd64 : d < 64 := HF.out.2.2.2.2
          have ha32 : a < 32 := HF.out.2.2.2.1
          have hz64 : z < 64 := HF.out.2.2.1
          clear hn hHE HP HNUM HCase hl hr k1 k2 k3 k4 hsl hz hm
          go_wp2_with fail
          go_at_call 90
          refine (cs_bit true HC6.out (by have := HLB.out; simp only [List.length_append, List.length_cons, List.length_nil, B2.Bt.top_length] at this ⊢; omega)).mono ?_
          rintro e w8 ⟨rfl, hc8⟩
          have CB := Lib.hid (cs_bits a 5 (by have := HF.out; omega) (by decide) hc8 (by have := HLB.out; simp only [List.length_append, List.length_cons, List.length_nil, B2.Bt.top_length] at this ⊢; omega))
          simp only [Int.cast_ofNat_Int] at CB
          clear hc8 HC6
          go_wp2_with fail
          go_at_call 88
          refine CB.out.mono ?_
          rintro e w9 ⟨rfl, hc9⟩
          clear CB
          have CB := Lib.hid (cs_bits z 6 (by have := HF.out; omega) (by decide) hc9 (by have := HLB.out; simp only [List.length_append, List.length_cons, List.length_nil, B2.Bt.top_length] at this ⊢; omega))
          simp only [Int.cast_ofNat_Int] at CB
          clear hc9
          go_wp2_with fail
          go_at_call 88
          refine CB.out.mono ?_
          rintro e wa ⟨rfl, hca⟩
          clear CB
          have CB := Lib.hid (cs_bits (x >>> d) m HF.out.2.1 HF.out.1 hca (by have := HF.out.1; have := HLB.out; simp only [List.length_append, List.length_cons, List.length_nil, B2.Bt.top_length] at this ⊢; omega))
          rw [show ((x >>> d : Nat) : Int) = (x : Int) / 2 ^ d by rw [Nat.shiftRight_eq_div_pow]; simp, ← HQ.out.1] at CB
          clear hca
          go_wp2_with fail
          go_at_call 88
          refine CB.out.mono ?_
          rintro e wb ⟨rfl, hcb⟩
          have HCb := Lib.hid hcb
          clear hcb CB
          go_wp2_with fail
          go_roundw
          case rel => exact ⟨i + 1, by omega, by have := HIN.out; omega, by rw [HQ.out.2.1, HQ.out.2.2]; unfold lefI; rw [if_neg (by have := HF.out; omega)], by rw [HQ.out.2.2]; unfold rigI; rw [if_neg (by have := HF.out; omega)]; have := HF.out; simp; omega, by go_num, HCb⟩
          case measure => simp [intOf]; have := HIN.out; omega
    · obtain rfl : i = n := by omega
      obtain ⟨m, hm⟩ : ∃ m, i - 1 = m := ⟨_, rfl⟩
      have hs1 := (HSS.out 0 (by have := HLN.out; omega)).1
      have hs2 := (HSS.out m (by have := HLN.out; omega)).1
      have e1 := getD_is l 0 (by have := HLN.out; omega)
      have e2 := getD_is l m (by have := HLN.out; omega)
      have hT2 := HTO.out.1
      rw [hm] at hT2
      rw [← e2, hT2] at hs2
      rw [← e1, HA0.out] at hs1
      rw [← HRUN.out] at HCi
      have hlen : OUT.length ≤ 160 * i := by have h := out_len l HL.out i (by have := HLN.out; omega); rw [← HRUN.out] at h; exact h
      have HBN := Lib.hid (show b < N from by have h : b < w.heap.size := World.block_lt_of_cell? _ _ hs0.1; have := HNN.out; omega)
      have hb2 := HCi.out.2.1
      have q := keepG (And.intro hs1 hs2) hb2
      have HR9a := Lib.hid ((hb2.block _ (by have := HNN.out; omega)).trans HROW.out)
      have hmi : ((i : Nat) : Int) - 1 = ((m : Nat) : Int) := by omega
      have hmn : ((m : Nat) : Int) < (i : Int) := by omega
      have hmn2 : m < i := by omega
      have hi0 : (0 : Int) < (i : Int) := by omega
      have hii : decide (((i : Nat) : Int) < (i : Int)) = false := by simp
      have HSZ := Lib.hid (show N < wr.heap.size from by have h := hb2.size; have := HNN.out; omega)
      have HB0 := Lib.hid (show Below N w wr from by have h1 := HBB.out.1; have h2 := HNN.out; rw [← h2.1]; exact h1.trans (hb2.mono (by have := HBB.out.2; omega)))
      have CY := Lib.hid (fun W (h : Cs wB W r OUT) => (show Calls Tryz.prog 92 #[.pointer (some ⟨r, 0, none⟩)] W (B2.BytesPost W OUT) from by obtain ⟨g, hg, hR⟩ := h.2.2; exact B2.fbytes_any r g 0 OUT W hR (by omega)))
      clear hlen hb2 hs1 hs2 e1 e2 hT2 hm hs0
      go_wp2_with fail
      have HH := Lib.hid (HCi.out.below (drew_below wr))
      have q' := keepG q (drew_below wr)
      have HR := Lib.hid (((drew_below wr).block _ HSZ.out).trans HR9a.out)
      have HSD := Lib.hid (show N < wr.drew.heap.size from HSZ.out)
      have HBD := Lib.hid (HB0.out.trans ((drew_below wr).mono (by have := HSZ.out; omega)))
      clear q HCi HR9a HSZ HB0
      have hw1 : RowKit.wrap64 ((i : Int) - 1) = (m : Int) := by rw [hmi]; unfold RowKit.wrap64; omega
      have hw2 : IntKind.i64.wrap ((i : Int) - 1) = (m : Int) := by rw [i64_is]; exact hw1
      have hw5 : IntKind.i64.wrap (m : Int) = (m : Int) := by rw [i64_is]; unfold RowKit.wrap64; omega
      go_region_held3 (fun w' => w'.cell? ⟨b, o, none⟩ = some (.int .i64 a0.t) ∧ w'.cell? ⟨b, o + m * 2, none⟩ = some (.int .i64 T)) ((first | exact q' | assumption | (refine keep2 (by have := HBN.out; omega) ?_; assumption)))
        ((go_at_call 92; refine (CY.out _ HH.out).mono ?_; rintro e w9 ⟨bs, k, hk, hP, b9, cap9, g, rfl, hrow, hg, hb⟩; have hcs := keepG (by assumption) hb; have HR9 := Lib.hid ((hb.block _ (Array.getElem?_eq_some_iff.1 HR.out).1).trans HR.out); obtain ⟨r0, f0, r1, f1, r2, f2, r3, f3⟩ := stF (v0 := .int .i64 a0.t) (v1 := .int .i64 T) (v2 := .int .i64 ((i : Nat) : Int)) HR9.out))
      obtain ⟨hE, hO⟩ := stE HR9.out (.int .i64 a0.t) (.int .i64 T) (.int .i64 ((i : Nat) : Int)) (.slice b9 bs.length cap9)
      have HE := Lib.hid hE
      have HO := Lib.hid hO
      have HX := Lib.hid (show k < 8 ∧ B2.Bt.Packs k bs OUT from ⟨hk, hP⟩)
      have HG := Lib.hid (And.intro hrow hg)
      have HB9 := Lib.hid hb
      clear hE hO hk hP hrow hg hb r0 f0 r1 f1 r2 f2 r3 f3 hw1 hw2 hw5 hmi hmn hmn2
      go_wp2_with fail
      refine bodyPost_ret (v := .agg (chV a0.t T i (.slice b9 bs.length cap9))) ?_ ?_ ?_
      · exact results_cell_row (fn := Tryz.f36) (p := 2) (ty := 26) rfl _ _ N 26 _ (0, 0) _ rfl HE.out Tryz.underlying26 rfl (by kernel_rfl)
      · rfl
      · have hlt : N < wr.drew.heap.size := HSD.out
        have hwN := HNN.out.1
        refine ⟨bs, k, b9, cap9, g, HX.out.1, HX.out.2, rfl, ?_, ?_, ?_⟩
        · rcases HG.out.2 with h | h
          · subst h
            rcases HG.out.1.value with ⟨h1, h2⟩ | ⟨cap', cur, h1, _⟩
            · rw [h1, h2]; exact Row.nil _ _
            · cases h1
          · exact HG.out.1.only HO.out (by simp; omega)
        · rcases HG.out.2 with h | h
          · exact .inl h
          · exact .inr (by omega)
        · rw [hwN]
          have hB0 := HBD.out
          exact (hB0.trans (HB9.out.mono (by omega))).trans (HO.out.below (by have := HB9.out.size; omega) (by simp) |>.mono (Nat.le_refl _))
end Go.Proofs.YtdlifcpdlbmijaaGreatDoor
