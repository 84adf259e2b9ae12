/-
  WALKS of the document's whole numbers: Plus.
-/
import Derived.Test.YtffohkpohgkglaaGreatBigB
namespace Go.Proofs.YtffohkpohgkglaaGreat
set_option linter.unusedVariables false
set_option linter.unusedSimpArgs false
open Go.RowKit
theorem snoc_lt {ds : List Nat} {m : Nat} (h : ∀ c ∈ ds, c < Nm.B) (hm : m < Nm.B) : ∀ c ∈ ds ++ [m], c < Nm.B := by
  intro c hc
  rcases List.mem_append.1 hc with hc | hc
  · exact h c hc
  · rw [List.mem_singleton.1 hc]; exact hm
theorem snoc_val (ds : List Nat) (m : Nat) : Nm.val (ds ++ [m]) = Nm.val ds + Nm.B ^ ds.length * m := by
  rw [Nm.val_append]; simp [Nm.val]
/-- behind an append of one word -/
theorem own_grow {wr w2 : World} {base : Nat} {o v2 : Value} {ds : List Nat} {m : Nat} {wb : World} {ob : Obj} (h : w2.ownsRow base 67 1 v2 (ds.length + 1) (cells32 ds ++ cells32 [m])) (hO : Own wr base o ds) (hg : (wr.alloc ob).grownBy w2 o.ownBlock) (hB : Below base wb wr) (hs : base ≤ wr.heap.size) :
    Own w2 base v2 (ds ++ [m]) ∧ Below base wb w2 := by
  refine ⟨?_, (hB.alloc hs ob).grown hg (by simp; omega) (own_block hO)⟩
  unfold Own
  rw [List.length_append, cells32_append]
  exact h
set_option maxHeartbeats 1000000 in
theorem plus_new (v1 v2 : Value) (x y : Nat) (w : World) (H1 : Big w v1 x) (H2 : Big w v2 y) (hx : (Nm.wds x).length ≤ 900000) (hy : (Nm.wds y).length ≤ 900000) : Calls Tryz.prog 94 #[v1, v2] w (BigNew w (x + y)) := by
  obtain ⟨i0, hi, hz0, hz1, hz2⟩ := info_parts info75
  obtain ⟨a1, cap1, rfl, _, hW1⟩ := H1
  obtain ⟨a2, cap2, rfl, _, hW2⟩ := H2
  obtain ⟨L1, hL1⟩ : ∃ L, (Nm.wds x).length = L := ⟨_, rfl⟩
  obtain ⟨L2, hL2⟩ : ∃ L, (Nm.wds y).length = L := ⟨_, rfl⟩
  have W1 := Lib.hid hW1
  have W2 := Lib.hid hW2
  have X1 := Lib.hid hL1
  have X2 := Lib.hid hL2
  rw [hL1] at hx ⊢
  rw [hL2] at hy ⊢
  clear hW1 hW2 hL1 hL2
  have V0 := Lib.hid (show Nm.val [] + Nm.B ^ 0 * 0 = x % Nm.B ^ 0 + y % Nm.B ^ 0 by simp [Nm.val, Nat.mod_one])
  obtain ⟨M, hM⟩ : ∃ M, max L1 L2 = M := ⟨_, rfl⟩
  have hM1 : L1 ≤ M := by omega
  have hM2 : L2 ≤ M := by omega
  have hM3 : M ≤ 900000 := by omega
  have hM4 := Lib.hid (show M = L1 ∨ M = L2 by omega)
  clear hM
  go_enter Tryz.func94, Tryz.ntmps94
  go_wp2
  go_loopw [5, 6, 7] (fun o c i wr => ∃ (j k : Nat) (ds : List Nat), i = .int .i64 j ∧ c = .int .u64 k ∧ ds.length = j ∧ j ≤ M + 1 ∧ k ≤ 1 ∧ (j = M + 1 → k = 0) ∧ Hid (∀ d ∈ ds, d < Nm.B) ∧ Hid (Nm.val ds + Nm.B ^ j * k = x % Nm.B ^ j + y % Nm.B ^ j) ∧ Hid (Own wr w.heap.size o ds) ∧ Hid (Below w.heap.size w wr)) (fun _ _ i _ => (M + 2 - intOf i).toNat)
  case atStart => exact ⟨0, 0, [], rfl, rfl, rfl, by omega, by omega, fun _ => rfl, Lib.hid (by simp), V0, Lib.hid (Own.nil _ _), Lib.hid (Below.refl _ _)⟩
  case round =>
    obtain ⟨j, k, ds, rfl, rfl, hlen, hj, hk, hjk, HD, HV, HO, HB⟩ := hrel
    have HS := Lib.hid (Below.size HB.out)
    obtain ⟨ao, co, rfl⟩ := own_shape HO.out
    have PS := Nm.plus_step x y j (Nm.val ds) k HV.out
    by_cases hA : j < L1
    · by_cases hB : j < L2
      · have da : decide ((j : Int) < (L1 : Int)) = true := decide_eq_true (by omega)
        have da2 : decide (j < L1) = true := decide_eq_true hA
        obtain ⟨b1, rfl, hb1, hc1⟩ := big_word (W1.out.below HB.out) j (by have := X1.out; omega)
        have lp : x / Nm.B ^ j % Nm.B < 4294967296 := Nat.mod_lt _ Nm.B_pos
        obtain ⟨p, hp⟩ : ∃ p, x / Nm.B ^ j % Nm.B = p := ⟨_, rfl⟩
        rw [hp] at hc1 lp PS
        clear hp
        have db : decide ((j : Int) < (L2 : Int)) = true := decide_eq_true (by omega)
        have db2 : decide (j < L2) = true := decide_eq_true hB
        obtain ⟨b2, rfl, hb2, hc2⟩ := big_word (W2.out.below HB.out) j (by have := X2.out; omega)
        have lq : y / Nm.B ^ j % Nm.B < 4294967296 := Nat.mod_lt _ Nm.B_pos
        obtain ⟨q, hq⟩ : ∃ q, y / Nm.B ^ j % Nm.B = q := ⟨_, rfl⟩
        rw [hq] at hc2 lq PS
        clear hq
        have hlo := lo_bits (k + p + q) (by omega)
        obtain ⟨m, hm⟩ : ∃ m, (k + p + q) % Nm.B = m := ⟨_, rfl⟩
        obtain ⟨k2, hk2⟩ : ∃ t, (k + p + q) / Nm.B = t := ⟨_, rfl⟩
        have lm : m < 4294967296 := by rw [← hm]; exact Nat.mod_lt _ Nm.B_pos
        rw [hm] at hlo
        rw [hm, hk2] at PS
        try simp only [Int.natCast_add] at hlo
        have hcar : ((k : Int) + (p : Int) + (q : Int)) / 4294967296 = (k2 : Int) := by rw [Nm.B_eq] at hk2; omega
        have hk3 : k2 ≤ 1 ∧ (j + 1 = M + 1 → k2 = 0 ∨ (j < L1 ∨ j < L2)) := by
          rw [Nm.B_eq] at hk2
          have := hM4.out
          constructor
          · omega
          · intro hjm
            first | (right; left; assumption) | (right; right; assumption) | (left; omega)
        have HP := Lib.hid PS
        have HL := Lib.hid hlen
        have hjb : j ≤ M := by omega
        have HHK := Lib.hid hjk
        clear PS hm hk2 hlen hjk
        go_wp2_with (at_builtin; refine wpList_append_own _ rfl (.tmp 46) (.tmp 50) 45 rfl w.heap.size 67 i0 (.int .u32 0) 1 4 Tryz.underlying45 hi hz0 hz1 hz2 rfl (by decide) (.slice ao ds.length co) ds.length (cells32 ds) rfl (HO.out.below ((Below.refl _ _).alloc (Nat.le_refl _) _)) ⟨wr.heap.size, 0, none⟩ 1 1 (cells32 [m]) rfl rfl (alloc_row _ [m]) (cells32_one _) (by unfold maxLen; have := HL.out; omega) (by have := HL.out; omega) (by have := HS.out; simp; omega) ?_; intro v2 w2 hown2 hgr2 hne2)
        obtain ⟨g1, g2⟩ := own_grow hown2 HO.out hgr2 HB.out HS.out
        have G1 := Lib.hid g1
        have G2 := Lib.hid g2
        clear hown2 hgr2 hne2 g1 g2
        go_wp2
        go_roundw
        case rel => exact ⟨j + 1, k2, ds ++ [m], rfl, rfl, by rw [List.length_append, HL.out]; rfl, by omega, hk3.1, fun hjm => by have := hk3.2 hjm; omega, Lib.hid (snoc_lt HD.out lm), Lib.hid (by rw [snoc_val, HL.out]; exact HP.out), G1, G2⟩
        case measure => simp [intOf]; omega
      · have da : decide ((j : Int) < (L1 : Int)) = true := decide_eq_true (by omega)
        have da2 : decide (j < L1) = true := decide_eq_true hA
        obtain ⟨b1, rfl, hb1, hc1⟩ := big_word (W1.out.below HB.out) j (by have := X1.out; omega)
        have lp : x / Nm.B ^ j % Nm.B < 4294967296 := Nat.mod_lt _ Nm.B_pos
        obtain ⟨p, hp⟩ : ∃ p, x / Nm.B ^ j % Nm.B = p := ⟨_, rfl⟩
        rw [hp] at hc1 lp PS
        clear hp
        have db : decide ((j : Int) < (L2 : Int)) = false := decide_eq_false (by omega)
        have db2 : decide (j < L2) = false := decide_eq_false hB
        have hq : y / Nm.B ^ j % Nm.B = 0 := Nm.word_zero (by have := X2.out; omega)
        rw [hq, Nat.add_zero] at PS
        clear hq
        have hlo := lo_bits (k + p) (by omega)
        obtain ⟨m, hm⟩ : ∃ m, (k + p) % Nm.B = m := ⟨_, rfl⟩
        obtain ⟨k2, hk2⟩ : ∃ t, (k + p) / Nm.B = t := ⟨_, rfl⟩
        have lm : m < 4294967296 := by rw [← hm]; exact Nat.mod_lt _ Nm.B_pos
        rw [hm] at hlo
        rw [hm, hk2] at PS
        try simp only [Int.natCast_add] at hlo
        have hcar : ((k : Int) + (p : Int)) / 4294967296 = (k2 : Int) := by rw [Nm.B_eq] at hk2; omega
        have hk3 : k2 ≤ 1 ∧ (j + 1 = M + 1 → k2 = 0 ∨ (j < L1 ∨ j < L2)) := by
          rw [Nm.B_eq] at hk2
          have := hM4.out
          constructor
          · omega
          · intro hjm
            first | (right; left; assumption) | (right; right; assumption) | (left; omega)
        have HP := Lib.hid PS
        have HL := Lib.hid hlen
        have hjb : j ≤ M := by omega
        have HHK := Lib.hid hjk
        clear PS hm hk2 hlen hjk
        go_wp2_with (at_builtin; refine wpList_append_own _ rfl (.tmp 46) (.tmp 50) 45 rfl w.heap.size 67 i0 (.int .u32 0) 1 4 Tryz.underlying45 hi hz0 hz1 hz2 rfl (by decide) (.slice ao ds.length co) ds.length (cells32 ds) rfl (HO.out.below ((Below.refl _ _).alloc (Nat.le_refl _) _)) ⟨wr.heap.size, 0, none⟩ 1 1 (cells32 [m]) rfl rfl (alloc_row _ [m]) (cells32_one _) (by unfold maxLen; have := HL.out; omega) (by have := HL.out; omega) (by have := HS.out; simp; omega) ?_; intro v2 w2 hown2 hgr2 hne2)
        obtain ⟨g1, g2⟩ := own_grow hown2 HO.out hgr2 HB.out HS.out
        have G1 := Lib.hid g1
        have G2 := Lib.hid g2
        clear hown2 hgr2 hne2 g1 g2
        go_wp2
        go_roundw
        case rel => exact ⟨j + 1, k2, ds ++ [m], rfl, rfl, by rw [List.length_append, HL.out]; rfl, by omega, hk3.1, fun hjm => by have := hk3.2 hjm; omega, Lib.hid (snoc_lt HD.out lm), Lib.hid (by rw [snoc_val, HL.out]; exact HP.out), G1, G2⟩
        case measure => simp [intOf]; omega
    · by_cases hB : j < L2
      · have da : decide ((j : Int) < (L1 : Int)) = false := decide_eq_false (by omega)
        have da2 : decide (j < L1) = false := decide_eq_false hA
        have hp : x / Nm.B ^ j % Nm.B = 0 := Nm.word_zero (by have := X1.out; omega)
        rw [hp, Nat.add_zero] at PS
        clear hp
        have db : decide ((j : Int) < (L2 : Int)) = true := decide_eq_true (by omega)
        have db2 : decide (j < L2) = true := decide_eq_true hB
        obtain ⟨b2, rfl, hb2, hc2⟩ := big_word (W2.out.below HB.out) j (by have := X2.out; omega)
        have lq : y / Nm.B ^ j % Nm.B < 4294967296 := Nat.mod_lt _ Nm.B_pos
        obtain ⟨q, hq⟩ : ∃ q, y / Nm.B ^ j % Nm.B = q := ⟨_, rfl⟩
        rw [hq] at hc2 lq PS
        clear hq
        have hlo := lo_bits (k + q) (by omega)
        obtain ⟨m, hm⟩ : ∃ m, (k + q) % Nm.B = m := ⟨_, rfl⟩
        obtain ⟨k2, hk2⟩ : ∃ t, (k + q) / Nm.B = t := ⟨_, rfl⟩
        have lm : m < 4294967296 := by rw [← hm]; exact Nat.mod_lt _ Nm.B_pos
        rw [hm] at hlo
        rw [hm, hk2] at PS
        try simp only [Int.natCast_add] at hlo
        have hcar : ((k : Int) + (q : Int)) / 4294967296 = (k2 : Int) := by rw [Nm.B_eq] at hk2; omega
        have hk3 : k2 ≤ 1 ∧ (j + 1 = M + 1 → k2 = 0 ∨ (j < L1 ∨ j < L2)) := by
          rw [Nm.B_eq] at hk2
          have := hM4.out
          constructor
          · omega
          · intro hjm
            first | (right; left; assumption) | (right; right; assumption) | (left; omega)
        have HP := Lib.hid PS
        have HL := Lib.hid hlen
        have hjb : j ≤ M := by omega
        have HHK := Lib.hid hjk
        clear PS hm hk2 hlen hjk
        go_wp2_with (at_builtin; refine wpList_append_own _ rfl (.tmp 46) (.tmp 50) 45 rfl w.heap.size 67 i0 (.int .u32 0) 1 4 Tryz.underlying45 hi hz0 hz1 hz2 rfl (by decide) (.slice ao ds.length co) ds.length (cells32 ds) rfl (HO.out.below ((Below.refl _ _).alloc (Nat.le_refl _) _)) ⟨wr.heap.size, 0, none⟩ 1 1 (cells32 [m]) rfl rfl (alloc_row _ [m]) (cells32_one _) (by unfold maxLen; have := HL.out; omega) (by have := HL.out; omega) (by have := HS.out; simp; omega) ?_; intro v2 w2 hown2 hgr2 hne2)
        obtain ⟨g1, g2⟩ := own_grow hown2 HO.out hgr2 HB.out HS.out
        have G1 := Lib.hid g1
        have G2 := Lib.hid g2
        clear hown2 hgr2 hne2 g1 g2
        go_wp2
        go_roundw
        case rel => exact ⟨j + 1, k2, ds ++ [m], rfl, rfl, by rw [List.length_append, HL.out]; rfl, by omega, hk3.1, fun hjm => by have := hk3.2 hjm; omega, Lib.hid (snoc_lt HD.out lm), Lib.hid (by rw [snoc_val, HL.out]; exact HP.out), G1, G2⟩
        case measure => simp [intOf]; omega
      · by_cases hC : 0 < k
        · have da : decide ((j : Int) < (L1 : Int)) = false := decide_eq_false (by omega)
          have da2 : decide (j < L1) = false := decide_eq_false hA
          have hp : x / Nm.B ^ j % Nm.B = 0 := Nm.word_zero (by have := X1.out; omega)
          rw [hp, Nat.add_zero] at PS
          clear hp
          have db : decide ((j : Int) < (L2 : Int)) = false := decide_eq_false (by omega)
          have db2 : decide (j < L2) = false := decide_eq_false hB
          have hq : y / Nm.B ^ j % Nm.B = 0 := Nm.word_zero (by have := X2.out; omega)
          rw [hq, Nat.add_zero] at PS
          clear hq
          have dc : decide ((0 : Int) < (k : Int)) = true := decide_eq_true (by omega)
          have dc2 : decide (0 < k) = true := decide_eq_true hC
          have hlo := lo_bits (k) (by omega)
          obtain ⟨m, hm⟩ : ∃ m, (k) % Nm.B = m := ⟨_, rfl⟩
          obtain ⟨k2, hk2⟩ : ∃ t, (k) / Nm.B = t := ⟨_, rfl⟩
          have lm : m < 4294967296 := by rw [← hm]; exact Nat.mod_lt _ Nm.B_pos
          rw [hm] at hlo
          rw [hm, hk2] at PS
          try simp only [Int.natCast_add] at hlo
          have hcar : ((k : Int)) / 4294967296 = (k2 : Int) := by rw [Nm.B_eq] at hk2; omega
          have hk3 : k2 ≤ 1 ∧ (j + 1 = M + 1 → k2 = 0 ∨ (j < L1 ∨ j < L2)) := by
            rw [Nm.B_eq] at hk2
            have := hM4.out
            constructor
            · omega
            · intro hjm
              first | (right; left; assumption) | (right; right; assumption) | (left; omega)
          have HP := Lib.hid PS
          have HL := Lib.hid hlen
          have hjb : j ≤ M := by have := hjk; omega
          have HHK := Lib.hid hjk
          clear PS hm hk2 hlen hjk
          go_wp2_with (at_builtin; refine wpList_append_own _ rfl (.tmp 46) (.tmp 50) 45 rfl w.heap.size 67 i0 (.int .u32 0) 1 4 Tryz.underlying45 hi hz0 hz1 hz2 rfl (by decide) (.slice ao ds.length co) ds.length (cells32 ds) rfl (HO.out.below ((Below.refl _ _).alloc (Nat.le_refl _) _)) ⟨wr.heap.size, 0, none⟩ 1 1 (cells32 [m]) rfl rfl (alloc_row _ [m]) (cells32_one _) (by unfold maxLen; have := HL.out; omega) (by have := HL.out; omega) (by have := HS.out; simp; omega) ?_; intro v2 w2 hown2 hgr2 hne2)
          obtain ⟨g1, g2⟩ := own_grow hown2 HO.out hgr2 HB.out HS.out
          have G1 := Lib.hid g1
          have G2 := Lib.hid g2
          clear hown2 hgr2 hne2 g1 g2
          go_wp2
          go_roundw
          case rel => exact ⟨j + 1, k2, ds ++ [m], rfl, rfl, by rw [List.length_append, HL.out]; rfl, by omega, hk3.1, fun hjm => by have := hk3.2 hjm; omega, Lib.hid (snoc_lt HD.out lm), Lib.hid (by rw [snoc_val, HL.out]; exact HP.out), G1, G2⟩
          case measure => simp [intOf]; omega
        · have da : decide ((j : Int) < (L1 : Int)) = false := decide_eq_false (by omega)
          have da2 : decide (j < L1) = false := decide_eq_false hA
          have hp : x / Nm.B ^ j % Nm.B = 0 := Nm.word_zero (by have := X1.out; omega)
          rw [hp, Nat.add_zero] at PS
          clear hp
          have db : decide ((j : Int) < (L2 : Int)) = false := decide_eq_false (by omega)
          have db2 : decide (j < L2) = false := decide_eq_false hB
          have hq : y / Nm.B ^ j % Nm.B = 0 := Nm.word_zero (by have := X2.out; omega)
          rw [hq, Nat.add_zero] at PS
          clear hq
          have dc : decide ((0 : Int) < (k : Int)) = false := decide_eq_false (by omega)
          have dc2 : decide (0 < k) = false := decide_eq_false hC
          obtain rfl : k = 0 := by omega
          have hv := HV.out
          rw [Nat.mul_zero, Nat.add_zero, Nm.mod_all (by have := X1.out; omega), Nm.mod_all (by have := X2.out; omega)] at hv
          clear PS
          obtain ⟨a3, c3, he3, hcap3, hwd⟩ := HO.out.wd (by omega) HD.out
          cases he3
          have HW := Lib.hid hwd
          clear hwd
          subst hlen
          go_wp2_with fail
          refine (trim_new ao ds co _ HW.out hcap3).mono ?_
          rintro e w3 ⟨⟨v, rfl, hbig, hfr⟩, rfl⟩
          have HG := Lib.hid hbig
          have HF := Lib.hid (hfr _ (own_block HO.out))
          clear hbig hfr
          go_wp2
          go_ret
          exact ⟨v, rfl, by rw [← hv]; exact HG.out, HB.out, HF.out⟩
theorem plus_any (v1 v2 : Value) (x y : Nat) (w : World) (H1 : Big w v1 x) (H2 : Big w v2 y) (hx : (Nm.wds x).length ≤ 900000) (hy : (Nm.wds y).length ≤ 900000) : Calls Tryz.prog 94 #[v1, v2] w (BigPost w (x + y)) :=
  (plus_new v1 v2 x y w H1 H2 hx hy).mono fun _ _ h => h.post
end Go.Proofs.YtffohkpohgkglaaGreat
