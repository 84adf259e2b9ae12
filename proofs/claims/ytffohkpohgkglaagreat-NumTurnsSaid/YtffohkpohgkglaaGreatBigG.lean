/-
  WALKS of the document's whole numbers: Minus.
-/
import Derived.Test.YtffohkpohgkglaaGreatBigC
namespace Go.Proofs.YtffohkpohgkglaaGreat
set_option linter.unusedVariables false
set_option linter.unusedSimpArgs false
open Go.RowKit
set_option maxHeartbeats 1000000 in
theorem minus_new (v1 v2 : Value) (x y : Nat) (w : World) (H1 : Big w v1 x) (H2 : Big w v2 y) (hx : (Nm.wds x).length ≤ 900000) (hyx : y ≤ x) : Calls Tryz.prog 96 #[v1, v2] w (BigNew w (x - y)) := by
  obtain ⟨i0, hi, hz0, hz1, hz2⟩ := info_parts info75
  obtain ⟨a1, cap1, rfl, _, hW1⟩ := H1
  obtain ⟨a2, cap2, rfl, _, hW2⟩ := H2
  have hly := Nm.wds_mono hyx
  obtain ⟨L1, hL1⟩ : ∃ L, (Nm.wds x).length = L := ⟨_, rfl⟩
  obtain ⟨L2, hL2⟩ : ∃ L, (Nm.wds y).length = L := ⟨_, rfl⟩
  have W1 := Lib.hid hW1
  have W2 := Lib.hid hW2
  have X1 := Lib.hid hL1
  have X2 := Lib.hid hL2
  have HYX := Lib.hid hyx
  rw [hL1] at hx hly ⊢
  rw [hL2] at hly ⊢
  clear hW1 hW2 hL1 hL2 hyx
  have V0 := Lib.hid (show Nm.val [] + y % Nm.B ^ 0 = x % Nm.B ^ 0 + Nm.B ^ 0 * 0 by simp [Nm.val, Nat.mod_one])
  go_enter Tryz.func96, Tryz.ntmps96
  go_wp2
  go_loopw [5, 6, 7, 8, 9] (fun o c i _ _ wr => ∃ (j k : Nat) (ds : List Nat), i = .int .i64 j ∧ c = .int .u64 k ∧ ds.length = j ∧ j ≤ L1 ∧ k ≤ 1 ∧ Hid (∀ d ∈ ds, d < Nm.B) ∧ Hid (Nm.val ds + y % Nm.B ^ j = x % Nm.B ^ j + Nm.B ^ j * k) ∧ Hid (Own wr w.heap.size o ds) ∧ Hid (Below w.heap.size w wr)) (fun _ _ i _ _ _ => (L1 + 1 - intOf i).toNat)
  case atStart => exact ⟨0, 0, [], rfl, rfl, rfl, by omega, by omega, Lib.hid (by simp), V0, Lib.hid (Own.nil _ _), Lib.hid (Below.refl _ _)⟩
  case round =>
    obtain ⟨j, k, ds, rfl, rfl, hlen, hj, hk, HD, HV, HO, HB⟩ := hrel
    have HS := Lib.hid (Below.size HB.out)
    obtain ⟨ao, co, rfl⟩ := own_shape HO.out
    have HL := Lib.hid hlen
    clear hlen
    by_cases hA : j < L1
    · have da : decide ((j : Int) < (L1 : Int)) = true := decide_eq_true (by omega)
      have da2 : decide (j < L1) = true := decide_eq_true hA
      obtain ⟨b1, rfl, hb1, hc1⟩ := big_word (W1.out.below HB.out) j (by have := X1.out; omega)
      have lp : x / Nm.B ^ j % Nm.B < 4294967296 := Nat.mod_lt _ Nm.B_pos
      have PS := Nm.minus_step x y j (Nm.val ds) k HV.out
      obtain ⟨p, hp⟩ : ∃ p, x / Nm.B ^ j % Nm.B = p := ⟨_, rfl⟩
      rw [hp] at hc1 lp PS
      clear hp
      by_cases hB : j < L2
      · have db : decide ((j : Int) < (L2 : Int)) = true := decide_eq_true (by omega)
        have db2 : decide (j < L2) = true := decide_eq_true hB
        obtain ⟨b2, rfl, hb2, hc2⟩ := big_word (W2.out.below HB.out) j (by have := X2.out; omega)
        have lq : y / Nm.B ^ j % Nm.B < 4294967296 := Nat.mod_lt _ Nm.B_pos
        obtain ⟨q, hq⟩ : ∃ q, y / Nm.B ^ j % Nm.B = q := ⟨_, rfl⟩
        rw [hq] at hc2 lq PS
        clear hq
        have hy2 : k + q ≤ 4294967296 := by omega
        have PS2 := PS.resolve_right (by rw [Nm.B_eq]; omega)
        clear PS
        by_cases hlt : p < k + q
        · have dl : decide ((p : Int) < (k : Int) + (q : Int)) = true := decide_eq_true (by omega)
          have dl2 : decide (p < k + q) = true := decide_eq_true hlt
          rw [if_pos hlt, if_pos hlt] at PS2
          obtain ⟨m, hm⟩ : ∃ m, p + Nm.B - (k + q) = m := ⟨_, rfl⟩
          rw [hm] at PS2
          rw [Nm.B_eq] at hm
          have lm : m < 4294967296 := by omega
          have hsub : (p : Int) + 4294967296 - ((k : Int) + (q : Int)) = (m : Int) := by omega
          have HP := Lib.hid PS2
          clear PS2 hm
          go_wp2_with (at_builtin; refine wpList_append_own _ rfl (.tmp 38) (.tmp 43) 45 rfl w.heap.size 67 i0 (.int .u32 0) 1 4 Tryz.underlying45 hi hz0 hz1 hz2 rfl (by decide) (.slice ao ds.length co) ds.length (cells32 ds) rfl (HO.out.below ((Below.refl _ _).alloc (Nat.le_refl _) _)) ⟨wr.heap.size, 0, none⟩ 1 1 (cells32 [m]) rfl rfl (alloc_row _ [m]) (cells32_one _) (by unfold maxLen; have := HL.out; omega) (by have := HL.out; omega) (by have := HS.out; simp; omega) ?_; intro v2 w2 hown2 hgr2 hne2)
          obtain ⟨g1, g2⟩ := own_grow hown2 HO.out hgr2 HB.out HS.out
          have G1 := Lib.hid g1
          have G2 := Lib.hid g2
          clear hown2 hgr2 hne2 g1 g2
          go_wp2
          go_roundw
          case rel => exact ⟨j + 1, 1, ds ++ [m], rfl, rfl, by rw [List.length_append, HL.out]; rfl, by omega, by omega, Lib.hid (snoc_lt HD.out lm), Lib.hid (by rw [snoc_val, HL.out]; exact HP.out), G1, G2⟩
          case measure => simp [intOf]; omega
        · have dl : decide ((p : Int) < (k : Int) + (q : Int)) = false := decide_eq_false (by omega)
          have dl2 : decide (p < k + q) = false := decide_eq_false hlt
          rw [if_neg hlt, if_neg hlt] at PS2
          obtain ⟨m, hm⟩ : ∃ m, p - (k + q) = m := ⟨_, rfl⟩
          rw [hm] at PS2
          have lm : m < 4294967296 := by omega
          have hsub : (p : Int) - ((k : Int) + (q : Int)) = (m : Int) := by omega
          have HP := Lib.hid PS2
          clear PS2 hm
          go_wp2_with (at_builtin; refine wpList_append_own _ rfl (.tmp 38) (.tmp 43) 45 rfl w.heap.size 67 i0 (.int .u32 0) 1 4 Tryz.underlying45 hi hz0 hz1 hz2 rfl (by decide) (.slice ao ds.length co) ds.length (cells32 ds) rfl (HO.out.below ((Below.refl _ _).alloc (Nat.le_refl _) _)) ⟨wr.heap.size, 0, none⟩ 1 1 (cells32 [m]) rfl rfl (alloc_row _ [m]) (cells32_one _) (by unfold maxLen; have := HL.out; omega) (by have := HL.out; omega) (by have := HS.out; simp; omega) ?_; intro v2 w2 hown2 hgr2 hne2)
          obtain ⟨g1, g2⟩ := own_grow hown2 HO.out hgr2 HB.out HS.out
          have G1 := Lib.hid g1
          have G2 := Lib.hid g2
          clear hown2 hgr2 hne2 g1 g2
          go_wp2
          go_roundw
          case rel => exact ⟨j + 1, 0, ds ++ [m], rfl, rfl, by rw [List.length_append, HL.out]; rfl, by omega, by omega, Lib.hid (snoc_lt HD.out lm), Lib.hid (by rw [snoc_val, HL.out]; exact HP.out), G1, G2⟩
          case measure => simp [intOf]; omega
      · have db : decide ((j : Int) < (L2 : Int)) = false := decide_eq_false (by omega)
        have db2 : decide (j < L2) = false := decide_eq_false hB
        have hq : y / Nm.B ^ j % Nm.B = 0 := Nm.word_zero (by have := X2.out; omega)
        rw [hq, Nat.add_zero] at PS
        clear hq
        have hy2 : k ≤ 4294967296 := by omega
        have PS2 := PS.resolve_right (by rw [Nm.B_eq]; omega)
        clear PS
        by_cases hlt : p < k
        · have dl : decide ((p : Int) < (k : Int)) = true := decide_eq_true (by omega)
          have dl2 : decide (p < k) = true := decide_eq_true hlt
          rw [if_pos hlt, if_pos hlt] at PS2
          obtain ⟨m, hm⟩ : ∃ m, p + Nm.B - (k) = m := ⟨_, rfl⟩
          rw [hm] at PS2
          rw [Nm.B_eq] at hm
          have lm : m < 4294967296 := by omega
          have hsub : (p : Int) + 4294967296 - ((k : Int)) = (m : Int) := by omega
          have HP := Lib.hid PS2
          clear PS2 hm
          go_wp2_with (at_builtin; refine wpList_append_own _ rfl (.tmp 38) (.tmp 43) 45 rfl w.heap.size 67 i0 (.int .u32 0) 1 4 Tryz.underlying45 hi hz0 hz1 hz2 rfl (by decide) (.slice ao ds.length co) ds.length (cells32 ds) rfl (HO.out.below ((Below.refl _ _).alloc (Nat.le_refl _) _)) ⟨wr.heap.size, 0, none⟩ 1 1 (cells32 [m]) rfl rfl (alloc_row _ [m]) (cells32_one _) (by unfold maxLen; have := HL.out; omega) (by have := HL.out; omega) (by have := HS.out; simp; omega) ?_; intro v2 w2 hown2 hgr2 hne2)
          obtain ⟨g1, g2⟩ := own_grow hown2 HO.out hgr2 HB.out HS.out
          have G1 := Lib.hid g1
          have G2 := Lib.hid g2
          clear hown2 hgr2 hne2 g1 g2
          go_wp2
          go_roundw
          case rel => exact ⟨j + 1, 1, ds ++ [m], rfl, rfl, by rw [List.length_append, HL.out]; rfl, by omega, by omega, Lib.hid (snoc_lt HD.out lm), Lib.hid (by rw [snoc_val, HL.out]; exact HP.out), G1, G2⟩
          case measure => simp [intOf]; omega
        · have dl : decide ((p : Int) < (k : Int)) = false := decide_eq_false (by omega)
          have dl2 : decide (p < k) = false := decide_eq_false hlt
          rw [if_neg hlt, if_neg hlt] at PS2
          obtain ⟨m, hm⟩ : ∃ m, p - (k) = m := ⟨_, rfl⟩
          rw [hm] at PS2
          have lm : m < 4294967296 := by omega
          have hsub : (p : Int) - ((k : Int)) = (m : Int) := by omega
          have HP := Lib.hid PS2
          clear PS2 hm
          go_wp2_with (at_builtin; refine wpList_append_own _ rfl (.tmp 38) (.tmp 43) 45 rfl w.heap.size 67 i0 (.int .u32 0) 1 4 Tryz.underlying45 hi hz0 hz1 hz2 rfl (by decide) (.slice ao ds.length co) ds.length (cells32 ds) rfl (HO.out.below ((Below.refl _ _).alloc (Nat.le_refl _) _)) ⟨wr.heap.size, 0, none⟩ 1 1 (cells32 [m]) rfl rfl (alloc_row _ [m]) (cells32_one _) (by unfold maxLen; have := HL.out; omega) (by have := HL.out; omega) (by have := HS.out; simp; omega) ?_; intro v2 w2 hown2 hgr2 hne2)
          obtain ⟨g1, g2⟩ := own_grow hown2 HO.out hgr2 HB.out HS.out
          have G1 := Lib.hid g1
          have G2 := Lib.hid g2
          clear hown2 hgr2 hne2 g1 g2
          go_wp2
          go_roundw
          case rel => exact ⟨j + 1, 0, ds ++ [m], rfl, rfl, by rw [List.length_append, HL.out]; rfl, by omega, by omega, Lib.hid (snoc_lt HD.out lm), Lib.hid (by rw [snoc_val, HL.out]; exact HP.out), G1, G2⟩
          case measure => simp [intOf]; omega
    · have da : decide ((j : Int) < (L1 : Int)) = false := decide_eq_false (by omega)
      have da2 : decide (j < L1) = false := decide_eq_false hA
      obtain rfl : j = L1 := by omega
      have hv := HV.out
      rw [Nm.mod_all (x := x) (by have := X1.out; omega), Nm.mod_all (x := y) (by have := X2.out; omega)] at hv
      have hlt := Nm.val_lt HD.out
      rw [HL.out] at hlt
      have hv2 : Nm.val ds = x - y := by
        have := HYX.out
        have hk2 : k = 0 ∨ k = 1 := by omega
        rcases hk2 with rfl | rfl
        · rw [Nat.mul_zero] at hv; omega
        · rw [Nat.mul_one] at hv; omega
      have HV2 := Lib.hid hv2
      obtain ⟨a3, c3, he3, hcap3, hwd⟩ := HO.out.wd (by have := HL.out; omega) HD.out
      cases he3
      have HW := Lib.hid hwd
      clear hwd hv hv2 hlt
      go_wp2_with fail
      refine (trim_new ao ds co _ HW.out hcap3).mono ?_
      rintro e w3 ⟨⟨v, rfl, hbig, hfr⟩, rfl⟩
      have HG := Lib.hid hbig
      have HF := Lib.hid (hfr _ (own_block HO.out))
      clear hbig hfr
      go_wp2
      go_ret
      exact ⟨v, rfl, by rw [← HV2.out]; exact HG.out, HB.out, HF.out⟩
end Go.Proofs.YtffohkpohgkglaaGreat
