/-
  WALKS of the document's whole numbers: Down.
-/
import Derived.Test.YtffohkpohgkglaaGreatBigD
namespace Go.Proofs.YtffohkpohgkglaaGreat
set_option linter.unusedVariables false
set_option linter.unusedSimpArgs false
open Go.RowKit
theorem mod_bit (x j : Nat) (h : x % 2 ^ j = 0) : x % 2 ^ (j + 1) = if x.testBit j then 2 ^ j else 0 := by
  rw [Nat.pow_succ, Nat.mod_mul, h, Nat.zero_add, Nat.testBit_eq_decide_div_mod_eq]
  rcases Nat.mod_two_eq_zero_or_one (x / 2 ^ j) with h2 | h2 <;> rw [h2] <;> simp
theorem mod_up {x j k : Nat} (hjk : j ≤ k) (h : x % 2 ^ k = 0) : x % 2 ^ j = 0 := by
  obtain ⟨d, rfl⟩ : ∃ d, k = j + d := ⟨k - j, by omega⟩
  rw [Nat.pow_add] at h
  have := Nat.mod_mul_right_mod x (2 ^ j) (2 ^ d)
  rw [h, Nat.zero_mod] at this
  exact this.symm
/-- what two words give behind a shift -/
theorem two_words (x n k q j : Nat) (hn : n = q + j) (hk : k = 32 * q + k % 32) :
    (x / Nm.B ^ n % Nm.B + Nm.B * (x / Nm.B ^ (n + 1) % Nm.B)) / 2 ^ (k % 32) % Nm.B = x / 2 ^ k / Nm.B ^ j % Nm.B := by
  have e1 : x / Nm.B ^ n % Nm.B + Nm.B * (x / Nm.B ^ (n + 1) % Nm.B) = x / Nm.B ^ n % (Nm.B * Nm.B) := by
    rw [Nat.pow_succ, ← Nat.div_div_eq_div_mul, Nat.mod_mul]
  have hr : k % 32 < 32 := Nat.mod_lt _ (by decide)
  obtain ⟨r, hr2⟩ : ∃ r, k % 32 = r := ⟨_, rfl⟩
  rw [e1]
  rw [hr2] at hk hr ⊢
  have e2 : x / 2 ^ k / Nm.B ^ j = x / Nm.B ^ n / 2 ^ r := by
    rw [Nat.div_div_eq_div_mul, Nat.div_div_eq_div_mul, Nm.Bp, Nm.Bp, ← Nat.pow_add, ← Nat.pow_add]
    congr 2; omega
  rw [e2]
  generalize x / Nm.B ^ n = X
  obtain ⟨d, hd⟩ : ∃ d, 32 = r + d := ⟨32 - r, by omega⟩
  have e3 : Nm.B * Nm.B = 2 ^ r * (Nm.B * 2 ^ d) := by
    rw [Nm.B_pow, ← Nat.pow_add, ← Nat.pow_add, ← Nat.pow_add]; congr 1; omega
  rw [e3, Nat.mod_mul_right_div_self, Nat.mod_mul_right_mod]
theorem shr_lo (T k m : Nat) (hT : T < 2 ^ 64) (hm : T / 2 ^ (k % 32) % Nm.B = m) : bits .and .u64 ((T : Int) / 2 ^ (k % 32)) 4294967295 = (m : Int) := by
  have e : ((T : Int) / 2 ^ (k % 32)) = ((T / 2 ^ (k % 32) : Nat) : Int) := by
    simp only [Int.natCast_ediv, Int.natCast_pow, Int.cast_ofNat_Int]
  rw [e, lo_bits _ (Nat.lt_of_le_of_lt (Nat.div_le_self _ _) hT), hm]
def DownPost (w : World) (n : Nat) (lost : Bool) (e : Ending) (w' : World) : Prop := ∃ v, e = .returned (.tuple #[v, .bool lost]) ∧ Big w' v n ∧ Below w.heap.size w w'
set_option maxHeartbeats 2000000 in
theorem down_any (v1 : Value) (x k : Nat) (w : World) (H1 : Big w v1 x) (hx : (Nm.wds x).length ≤ 400000) (hk : k ≤ 10000000) : Calls Tryz.prog 108 #[v1, .int .i64 (k : Int)] w (DownPost w (x / 2 ^ k) (x % 2 ^ k != 0)) := by
  obtain ⟨i0, hi, hz0, hz1, hz2⟩ := info_parts info75
  obtain ⟨a1, cap1, rfl, hcap1, hW1⟩ := H1
  obtain ⟨L1, hL1⟩ : ∃ L, (Nm.wds x).length = L := ⟨_, rfl⟩
  have HBig : Hid (Big w (.slice a1 L1 cap1) x) := Lib.hid ⟨a1, cap1, by rw [hL1], hcap1, hW1⟩
  have W1 := Lib.hid hW1
  have X1 := Lib.hid hL1
  rw [hL1] at hx ⊢
  clear hW1 hL1 hcap1
  obtain ⟨q, hq⟩ : ∃ q, k / 32 = q := ⟨_, rfl⟩
  have HQ := Lib.hid (show k = 32 * q + k % 32 by omega)
  have hq1 : Int.tdiv (k : Int) 32 = (q : Int) := by rw [Int.tdiv_eq_ediv_of_nonneg (by omega)]; omega
  have hq2 : (k : Int) / 32 = (q : Int) := by omega
  have hq3 : q ≤ 400000 := by omega
  obtain ⟨lost, hlost⟩ : ∃ l, (x % 2 ^ k != 0) = l := ⟨_, rfl⟩
  rw [hlost]
  have HLO := Lib.hid hlost
  clear hq hlost
  go_enter Tryz.func108, Tryz.ntmps108
  go_wp2
  go_loop [6, 7] (fun l i => ∃ (j : Nat) (b : Bool), i = .int .i64 j ∧ l = .bool b ∧ j ≤ k ∧ j ≤ 32 * L1 ∧ Hid (b = true → lost = true) ∧ Hid (b = false → x % 2 ^ j = 0)) (fun _ i => (k + 1 - intOf i).toNat)
  case atStart => exact ⟨0, false, rfl, rfl, by omega, by omega, Lib.hid (fun h => by cases h), Lib.hid (fun _ => by simp [Nat.mod_one])⟩
  case round =>
    obtain ⟨j, b, rfl, rfl, hjk, hjL, HT, HF⟩ := hrel
    have hway : (j < k ∧ j < 32 * L1 ∧ b = false) ∨ ((¬ j < k) ∧ b = lost) ∨ (j < k ∧ (¬ j < 32 * L1) ∧ b = lost) ∨ (j < k ∧ j < 32 * L1 ∧ b = true ∧ b = lost) := by
      have hT : b = true → b = lost := fun h => by rw [h]; exact (HT.out h).symm
      by_cases h1 : j < k
      · by_cases h2 : j < 32 * L1
        · cases hb : b
          · exact .inl ⟨h1, h2, rfl⟩
          · exact .inr (.inr (.inr ⟨h1, h2, rfl, by rw [← hb]; exact hT hb⟩))
        · refine .inr (.inr (.inl ⟨h1, h2, ?_⟩))
          cases hb : b
          · have hz := HF.out hb
            have hlt := Nm.lt_wds x
            rw [X1.out, Nm.Bp, show 32 * L1 = j by omega] at hlt
            rw [Nat.mod_eq_of_lt hlt] at hz
            rw [← HLO.out, hz]; simp
          · rw [← hb]; exact hT hb
      · refine .inr (.inl ⟨h1, ?_⟩)
        cases hb : b
        · have hz := HF.out hb
          rw [show j = k by omega] at hz
          rw [← HLO.out, hz]; rfl
        · rw [← hb]; exact hT hb
    rcases hway with ⟨h1, h2, rfl⟩ | hout
    · have d1 : decide ((j : Int) < (k : Int)) = true := decide_eq_true (by omega)
      have d2 : decide (j < k) = true := decide_eq_true h1
      have d3 : decide ((j : Int) < 32 * (L1 : Int)) = true := decide_eq_true (by omega)
      have hz := HF.out rfl
      have hb := mod_bit x j hz
      have KT : x.testBit j = true → lost = true := fun ht => by
        rw [← HLO.out]
        rw [ht, if_pos rfl] at hb
        simp only [bne_iff_ne, ne_eq]
        intro h0
        have := mod_up (show j + 1 ≤ k by omega) h0
        have := Nat.two_pow_pos j
        omega
      have KF : x.testBit j = false → x % 2 ^ (j + 1) = 0 := fun ht => by rw [hb, ht]; rfl
      have K1 := Lib.hid KT
      have K2 := Lib.hid KF
      clear KT KF hb hz
      go_wp2_with fail
      refine (bit_any _ x j _ HBig.out (by omega)).mono ?_
      rintro e w1 ⟨rfl, rfl⟩
      go_wp2
      go_round
      case rel => exact ⟨j + 1, x.testBit j, rfl, rfl, by omega, by omega, K1, K2⟩
      case measure => simp [intOf]; omega
    · have HB0 := Lib.hid (Below.refl w.heap.size w)
      have V0 := Lib.hid (show Nm.val [] = x / 2 ^ k % Nm.B ^ 0 by simp [Nm.val, Nat.mod_one])
      rcases hout with ⟨h1, rfl⟩ | ⟨h1, h2, rfl⟩ | ⟨h1, h2, h3, rfl⟩
      · have d1 : decide ((j : Int) < (k : Int)) = false := decide_eq_false (by omega)
        have d2 : decide (j < k) = false := decide_eq_false h1
        clear HF HT h1
        go_wp2
        clear d1 d2 hjk hjL
        go_loopw [8, 9, 10] (fun o i _ wr => ∃ (n t : Nat) (ds : List Nat), i = .int .i64 n ∧ n = q + t ∧ ds.length = t ∧ (n ≤ L1 ∨ t = 0) ∧ Hid (∀ d ∈ ds, d < Nm.B) ∧ Hid (Nm.val ds = x / 2 ^ k % Nm.B ^ t) ∧ Hid (Own wr w.heap.size o ds) ∧ Hid (Below w.heap.size w wr)) (fun _ i _ _ => (L1 + 1 - intOf i).toNat)
        case atStart => exact ⟨q, 0, [], rfl, rfl, rfl, .inr rfl, Lib.hid (by simp), V0, Lib.hid (Own.nil _ _), HB0⟩
        case round =>
          obtain ⟨n, t, ds, rfl, hnt, hlen, hnL, HD, HV, HO, HB⟩ := hrel
          have HS := Lib.hid (Below.size HB.out)
          obtain ⟨ao, co, rfl⟩ := own_shape HO.out
          have HL := Lib.hid hlen
          have HN := Lib.hid hnt
          have HNL := Lib.hid hnL
          have hn6 : n ≤ 400000 := by omega
          clear hlen hnt hnL
          by_cases hA : n < L1
          · have da : decide ((n : Int) < (L1 : Int)) = true := decide_eq_true (by omega)
            have da2 : decide (n < L1) = true := decide_eq_true hA
            obtain ⟨b1, rfl, hb1, hc1⟩ := big_word (W1.out.below HB.out) n (by have := X1.out; omega)
            have lp : x / Nm.B ^ n % Nm.B < 4294967296 := Nat.mod_lt _ Nm.B_pos
            have PT := two_words x n k q t HN.out HQ.out
            have PV : Nm.val ds + Nm.B ^ t * (x / 2 ^ k / Nm.B ^ t % Nm.B) = x / 2 ^ k % Nm.B ^ (t + 1) := by rw [Nm.mod_next, HV.out]
            obtain ⟨p, hp⟩ : ∃ p, x / Nm.B ^ n % Nm.B = p := ⟨_, rfl⟩
            obtain ⟨m, hm⟩ : ∃ m, x / 2 ^ k / Nm.B ^ t % Nm.B = m := ⟨_, rfl⟩
            have lm : m < 4294967296 := by rw [← hm]; exact Nat.mod_lt _ Nm.B_pos
            rw [hp] at hc1 lp PT
            rw [hm] at PT PV
            have HP := Lib.hid PV
            clear PV hp hm
            by_cases hC : n + 1 < L1
            · have dc : decide ((n : Int) + 1 < (L1 : Int)) = true := decide_eq_true (by omega)
              have dc2 : decide (n + 1 < L1) = true := decide_eq_true hC
              obtain ⟨b2, hbb, hb2, hc2⟩ := big_word (W1.out.below HB.out) (n + 1) (by have := X1.out; omega)
              cases hbb
              have lp2 : x / Nm.B ^ (n + 1) % Nm.B < 4294967296 := Nat.mod_lt _ Nm.B_pos
              obtain ⟨p2, hp2⟩ : ∃ p, x / Nm.B ^ (n + 1) % Nm.B = p := ⟨_, rfl⟩
              rw [hp2] at hc2 lp2 PT
              have e4 : bits .or .u64 (p : Int) ((p2 : Int) * 4294967296) = ((p + Nm.B * p2 : Nat) : Int) := by
                rw [show ((p2 : Int) * 4294967296) = ((p2 * 2 ^ 32 : Nat) : Int) by omega, u64_or_nat p (p2 * 2 ^ 32) (by omega) (by omega), Nat.or_comm, nat_join 32 (p2 * 2 ^ 32) p (Nat.mul_mod_left _ _) (by omega), Nm.B_eq]
                congr 1; omega
              have lT : p + Nm.B * p2 < 2 ^ 64 := by rw [Nm.B_eq]; omega
              obtain ⟨T, hT⟩ : ∃ T, p + Nm.B * p2 = T := ⟨_, rfl⟩
              rw [hT] at e4 lT PT
              have hlo := shr_lo T k m lT PT
              clear PT hp2 hT
              go_wp2_with (at_builtin; refine wpList_append_own _ rfl (.tmp 57) (.tmp 65) 45 rfl w.heap.size 67 i0 (.int .u32 0) 1 4 Tryz.underlying45 hi hz0 hz1 hz2 rfl (by decide) (.slice ao ds.length co) ds.length (cells32 ds) rfl (HO.out.below ((Below.refl _ _).alloc (Nat.le_refl _) _)) ⟨wr.heap.size, 0, none⟩ 1 1 (cells32 [m]) rfl rfl (alloc_row _ [m]) (cells32_one _) (by unfold maxLen; have := HL.out; have := HN.out; omega) (by have := HL.out; have := HN.out; omega) (by have := HS.out; simp; omega) ?_; intro v2 w2 hown2 hgr2 hne2)
              obtain ⟨g1, g2⟩ := own_grow hown2 HO.out hgr2 HB.out HS.out
              have G1 := Lib.hid g1
              have G2 := Lib.hid g2
              clear hown2 hgr2 hne2 g1 g2
              go_wp2
              go_roundw
              case rel => exact ⟨n + 1, t + 1, ds ++ [m], rfl, by have := HN.out; omega, by rw [List.length_append, HL.out]; rfl, by omega, Lib.hid (snoc_lt HD.out lm), Lib.hid (by rw [snoc_val, HL.out]; exact HP.out), G1, G2⟩
              case measure => simp [intOf]; omega
            · have dc : decide ((n : Int) + 1 < (L1 : Int)) = false := decide_eq_false (by omega)
              have dc2 : decide (n + 1 < L1) = false := decide_eq_false hC
              rw [Nm.word_zero (x := x) (i := n + 1) (by have := X1.out; omega), Nat.mul_zero, Nat.add_zero] at PT
              have hlo := shr_lo p k m (by omega) PT
              clear PT
              go_wp2_with (at_builtin; refine wpList_append_own _ rfl (.tmp 57) (.tmp 65) 45 rfl w.heap.size 67 i0 (.int .u32 0) 1 4 Tryz.underlying45 hi hz0 hz1 hz2 rfl (by decide) (.slice ao ds.length co) ds.length (cells32 ds) rfl (HO.out.below ((Below.refl _ _).alloc (Nat.le_refl _) _)) ⟨wr.heap.size, 0, none⟩ 1 1 (cells32 [m]) rfl rfl (alloc_row _ [m]) (cells32_one _) (by unfold maxLen; have := HL.out; have := HN.out; omega) (by have := HL.out; have := HN.out; omega) (by have := HS.out; simp; omega) ?_; intro v2 w2 hown2 hgr2 hne2)
              obtain ⟨g1, g2⟩ := own_grow hown2 HO.out hgr2 HB.out HS.out
              have G1 := Lib.hid g1
              have G2 := Lib.hid g2
              clear hown2 hgr2 hne2 g1 g2
              go_wp2
              go_roundw
              case rel => exact ⟨n + 1, t + 1, ds ++ [m], rfl, by have := HN.out; omega, by rw [List.length_append, HL.out]; rfl, by omega, Lib.hid (snoc_lt HD.out lm), Lib.hid (by rw [snoc_val, HL.out]; exact HP.out), G1, G2⟩
              case measure => simp [intOf]; omega
          · have da : decide ((n : Int) < (L1 : Int)) = false := decide_eq_false (by omega)
            have da2 : decide (n < L1) = false := decide_eq_false hA
            have hv := HV.out
            have hsm : x / 2 ^ k < Nm.B ^ t := by
              have hlt := Nm.lt_wds x
              rw [X1.out] at hlt
              have h1 := Nat.pow_le_pow_right Nm.B_pos (show L1 ≤ q + t by have := HN.out; omega)
              rw [Nat.div_lt_iff_lt_mul (Nat.two_pow_pos k)]
              refine Nat.lt_of_lt_of_le hlt (Nat.le_trans h1 ?_)
              rw [Nat.add_comm q t, Nat.pow_add]
              refine Nat.mul_le_mul_left _ ?_
              rw [Nm.Bp]
              exact Nat.pow_le_pow_right (by decide) (by have := HQ.out; omega)
            rw [Nat.mod_eq_of_lt hsm] at hv
            have HV2 := Lib.hid hv
            obtain ⟨a3, c3, he3, hcap3, hwd⟩ := HO.out.wd (by have := HL.out; have := HN.out; omega) HD.out
            cases he3
            have HW := Lib.hid hwd
            clear hwd hv hsm
            go_wp2_with fail
            refine (trim_any ao ds co _ HW.out hcap3).mono ?_
            rintro e w3 ⟨⟨v, rfl, hbig⟩, rfl⟩
            have HG := Lib.hid hbig
            clear hbig
            go_wp2
            go_ret2
            exact ⟨v, rfl, by rw [← HV2.out]; exact HG.out, HB.out⟩
      · have d1 : decide ((j : Int) < (k : Int)) = true := decide_eq_true (by omega)
        have d2 : decide (j < k) = true := decide_eq_true h1
        have d3 : decide ((j : Int) < 32 * (L1 : Int)) = false := decide_eq_false (by omega)
        clear HF HT h1 h2
        go_wp2
        clear d1 d2 hjk hjL
        go_loopw [8, 9, 10] (fun o i _ wr => ∃ (n t : Nat) (ds : List Nat), i = .int .i64 n ∧ n = q + t ∧ ds.length = t ∧ (n ≤ L1 ∨ t = 0) ∧ Hid (∀ d ∈ ds, d < Nm.B) ∧ Hid (Nm.val ds = x / 2 ^ k % Nm.B ^ t) ∧ Hid (Own wr w.heap.size o ds) ∧ Hid (Below w.heap.size w wr)) (fun _ i _ _ => (L1 + 1 - intOf i).toNat)
        case atStart => exact ⟨q, 0, [], rfl, rfl, rfl, .inr rfl, Lib.hid (by simp), V0, Lib.hid (Own.nil _ _), HB0⟩
        case round =>
          obtain ⟨n, t, ds, rfl, hnt, hlen, hnL, HD, HV, HO, HB⟩ := hrel
          have HS := Lib.hid (Below.size HB.out)
          obtain ⟨ao, co, rfl⟩ := own_shape HO.out
          have HL := Lib.hid hlen
          have HN := Lib.hid hnt
          have HNL := Lib.hid hnL
          have hn6 : n ≤ 400000 := by omega
          clear hlen hnt hnL
          by_cases hA : n < L1
          · have da : decide ((n : Int) < (L1 : Int)) = true := decide_eq_true (by omega)
            have da2 : decide (n < L1) = true := decide_eq_true hA
            obtain ⟨b1, rfl, hb1, hc1⟩ := big_word (W1.out.below HB.out) n (by have := X1.out; omega)
            have lp : x / Nm.B ^ n % Nm.B < 4294967296 := Nat.mod_lt _ Nm.B_pos
            have PT := two_words x n k q t HN.out HQ.out
            have PV : Nm.val ds + Nm.B ^ t * (x / 2 ^ k / Nm.B ^ t % Nm.B) = x / 2 ^ k % Nm.B ^ (t + 1) := by rw [Nm.mod_next, HV.out]
            obtain ⟨p, hp⟩ : ∃ p, x / Nm.B ^ n % Nm.B = p := ⟨_, rfl⟩
            obtain ⟨m, hm⟩ : ∃ m, x / 2 ^ k / Nm.B ^ t % Nm.B = m := ⟨_, rfl⟩
            have lm : m < 4294967296 := by rw [← hm]; exact Nat.mod_lt _ Nm.B_pos
            rw [hp] at hc1 lp PT
            rw [hm] at PT PV
            have HP := Lib.hid PV
            clear PV hp hm
            by_cases hC : n + 1 < L1
            · have dc : decide ((n : Int) + 1 < (L1 : Int)) = true := decide_eq_true (by omega)
              have dc2 : decide (n + 1 < L1) = true := decide_eq_true hC
              obtain ⟨b2, hbb, hb2, hc2⟩ := big_word (W1.out.below HB.out) (n + 1) (by have := X1.out; omega)
              cases hbb
              have lp2 : x / Nm.B ^ (n + 1) % Nm.B < 4294967296 := Nat.mod_lt _ Nm.B_pos
              obtain ⟨p2, hp2⟩ : ∃ p, x / Nm.B ^ (n + 1) % Nm.B = p := ⟨_, rfl⟩
              rw [hp2] at hc2 lp2 PT
              have e4 : bits .or .u64 (p : Int) ((p2 : Int) * 4294967296) = ((p + Nm.B * p2 : Nat) : Int) := by
                rw [show ((p2 : Int) * 4294967296) = ((p2 * 2 ^ 32 : Nat) : Int) by omega, u64_or_nat p (p2 * 2 ^ 32) (by omega) (by omega), Nat.or_comm, nat_join 32 (p2 * 2 ^ 32) p (Nat.mul_mod_left _ _) (by omega), Nm.B_eq]
                congr 1; omega
              have lT : p + Nm.B * p2 < 2 ^ 64 := by rw [Nm.B_eq]; omega
              obtain ⟨T, hT⟩ : ∃ T, p + Nm.B * p2 = T := ⟨_, rfl⟩
              rw [hT] at e4 lT PT
              have hlo := shr_lo T k m lT PT
              clear PT hp2 hT
              go_wp2_with (at_builtin; refine wpList_append_own _ rfl (.tmp 57) (.tmp 65) 45 rfl w.heap.size 67 i0 (.int .u32 0) 1 4 Tryz.underlying45 hi hz0 hz1 hz2 rfl (by decide) (.slice ao ds.length co) ds.length (cells32 ds) rfl (HO.out.below ((Below.refl _ _).alloc (Nat.le_refl _) _)) ⟨wr.heap.size, 0, none⟩ 1 1 (cells32 [m]) rfl rfl (alloc_row _ [m]) (cells32_one _) (by unfold maxLen; have := HL.out; have := HN.out; omega) (by have := HL.out; have := HN.out; omega) (by have := HS.out; simp; omega) ?_; intro v2 w2 hown2 hgr2 hne2)
              obtain ⟨g1, g2⟩ := own_grow hown2 HO.out hgr2 HB.out HS.out
              have G1 := Lib.hid g1
              have G2 := Lib.hid g2
              clear hown2 hgr2 hne2 g1 g2
              go_wp2
              go_roundw
              case rel => exact ⟨n + 1, t + 1, ds ++ [m], rfl, by have := HN.out; omega, by rw [List.length_append, HL.out]; rfl, by omega, Lib.hid (snoc_lt HD.out lm), Lib.hid (by rw [snoc_val, HL.out]; exact HP.out), G1, G2⟩
              case measure => simp [intOf]; omega
            · have dc : decide ((n : Int) + 1 < (L1 : Int)) = false := decide_eq_false (by omega)
              have dc2 : decide (n + 1 < L1) = false := decide_eq_false hC
              rw [Nm.word_zero (x := x) (i := n + 1) (by have := X1.out; omega), Nat.mul_zero, Nat.add_zero] at PT
              have hlo := shr_lo p k m (by omega) PT
              clear PT
              go_wp2_with (at_builtin; refine wpList_append_own _ rfl (.tmp 57) (.tmp 65) 45 rfl w.heap.size 67 i0 (.int .u32 0) 1 4 Tryz.underlying45 hi hz0 hz1 hz2 rfl (by decide) (.slice ao ds.length co) ds.length (cells32 ds) rfl (HO.out.below ((Below.refl _ _).alloc (Nat.le_refl _) _)) ⟨wr.heap.size, 0, none⟩ 1 1 (cells32 [m]) rfl rfl (alloc_row _ [m]) (cells32_one _) (by unfold maxLen; have := HL.out; have := HN.out; omega) (by have := HL.out; have := HN.out; omega) (by have := HS.out; simp; omega) ?_; intro v2 w2 hown2 hgr2 hne2)
              obtain ⟨g1, g2⟩ := own_grow hown2 HO.out hgr2 HB.out HS.out
              have G1 := Lib.hid g1
              have G2 := Lib.hid g2
              clear hown2 hgr2 hne2 g1 g2
              go_wp2
              go_roundw
              case rel => exact ⟨n + 1, t + 1, ds ++ [m], rfl, by have := HN.out; omega, by rw [List.length_append, HL.out]; rfl, by omega, Lib.hid (snoc_lt HD.out lm), Lib.hid (by rw [snoc_val, HL.out]; exact HP.out), G1, G2⟩
              case measure => simp [intOf]; omega
          · have da : decide ((n : Int) < (L1 : Int)) = false := decide_eq_false (by omega)
            have da2 : decide (n < L1) = false := decide_eq_false hA
            have hv := HV.out
            have hsm : x / 2 ^ k < Nm.B ^ t := by
              have hlt := Nm.lt_wds x
              rw [X1.out] at hlt
              have h1 := Nat.pow_le_pow_right Nm.B_pos (show L1 ≤ q + t by have := HN.out; omega)
              rw [Nat.div_lt_iff_lt_mul (Nat.two_pow_pos k)]
              refine Nat.lt_of_lt_of_le hlt (Nat.le_trans h1 ?_)
              rw [Nat.add_comm q t, Nat.pow_add]
              refine Nat.mul_le_mul_left _ ?_
              rw [Nm.Bp]
              exact Nat.pow_le_pow_right (by decide) (by have := HQ.out; omega)
            rw [Nat.mod_eq_of_lt hsm] at hv
            have HV2 := Lib.hid hv
            obtain ⟨a3, c3, he3, hcap3, hwd⟩ := HO.out.wd (by have := HL.out; have := HN.out; omega) HD.out
            cases he3
            have HW := Lib.hid hwd
            clear hwd hv hsm
            go_wp2_with fail
            refine (trim_any ao ds co _ HW.out hcap3).mono ?_
            rintro e w3 ⟨⟨v, rfl, hbig⟩, rfl⟩
            have HG := Lib.hid hbig
            clear hbig
            go_wp2
            go_ret2
            exact ⟨v, rfl, by rw [← HV2.out]; exact HG.out, HB.out⟩
      · have d1 : decide ((j : Int) < (k : Int)) = true := decide_eq_true (by omega)
        have d2 : decide (j < k) = true := decide_eq_true h1
        have d3 : decide ((j : Int) < 32 * (L1 : Int)) = true := decide_eq_true (by omega)
        subst h3
        clear HF HT h1 h2
        go_wp2
        clear d1 d2 hjk hjL
        go_loopw [8, 9, 10] (fun o i _ wr => ∃ (n t : Nat) (ds : List Nat), i = .int .i64 n ∧ n = q + t ∧ ds.length = t ∧ (n ≤ L1 ∨ t = 0) ∧ Hid (∀ d ∈ ds, d < Nm.B) ∧ Hid (Nm.val ds = x / 2 ^ k % Nm.B ^ t) ∧ Hid (Own wr w.heap.size o ds) ∧ Hid (Below w.heap.size w wr)) (fun _ i _ _ => (L1 + 1 - intOf i).toNat)
        case atStart => exact ⟨q, 0, [], rfl, rfl, rfl, .inr rfl, Lib.hid (by simp), V0, Lib.hid (Own.nil _ _), HB0⟩
        case round =>
          obtain ⟨n, t, ds, rfl, hnt, hlen, hnL, HD, HV, HO, HB⟩ := hrel
          have HS := Lib.hid (Below.size HB.out)
          obtain ⟨ao, co, rfl⟩ := own_shape HO.out
          have HL := Lib.hid hlen
          have HN := Lib.hid hnt
          have HNL := Lib.hid hnL
          have hn6 : n ≤ 400000 := by omega
          clear hlen hnt hnL
          by_cases hA : n < L1
          · have da : decide ((n : Int) < (L1 : Int)) = true := decide_eq_true (by omega)
            have da2 : decide (n < L1) = true := decide_eq_true hA
            obtain ⟨b1, rfl, hb1, hc1⟩ := big_word (W1.out.below HB.out) n (by have := X1.out; omega)
            have lp : x / Nm.B ^ n % Nm.B < 4294967296 := Nat.mod_lt _ Nm.B_pos
            have PT := two_words x n k q t HN.out HQ.out
            have PV : Nm.val ds + Nm.B ^ t * (x / 2 ^ k / Nm.B ^ t % Nm.B) = x / 2 ^ k % Nm.B ^ (t + 1) := by rw [Nm.mod_next, HV.out]
            obtain ⟨p, hp⟩ : ∃ p, x / Nm.B ^ n % Nm.B = p := ⟨_, rfl⟩
            obtain ⟨m, hm⟩ : ∃ m, x / 2 ^ k / Nm.B ^ t % Nm.B = m := ⟨_, rfl⟩
            have lm : m < 4294967296 := by rw [← hm]; exact Nat.mod_lt _ Nm.B_pos
            rw [hp] at hc1 lp PT
            rw [hm] at PT PV
            have HP := Lib.hid PV
            clear PV hp hm
            by_cases hC : n + 1 < L1
            · have dc : decide ((n : Int) + 1 < (L1 : Int)) = true := decide_eq_true (by omega)
              have dc2 : decide (n + 1 < L1) = true := decide_eq_true hC
              obtain ⟨b2, hbb, hb2, hc2⟩ := big_word (W1.out.below HB.out) (n + 1) (by have := X1.out; omega)
              cases hbb
              have lp2 : x / Nm.B ^ (n + 1) % Nm.B < 4294967296 := Nat.mod_lt _ Nm.B_pos
              obtain ⟨p2, hp2⟩ : ∃ p, x / Nm.B ^ (n + 1) % Nm.B = p := ⟨_, rfl⟩
              rw [hp2] at hc2 lp2 PT
              have e4 : bits .or .u64 (p : Int) ((p2 : Int) * 4294967296) = ((p + Nm.B * p2 : Nat) : Int) := by
                rw [show ((p2 : Int) * 4294967296) = ((p2 * 2 ^ 32 : Nat) : Int) by omega, u64_or_nat p (p2 * 2 ^ 32) (by omega) (by omega), Nat.or_comm, nat_join 32 (p2 * 2 ^ 32) p (Nat.mul_mod_left _ _) (by omega), Nm.B_eq]
                congr 1; omega
              have lT : p + Nm.B * p2 < 2 ^ 64 := by rw [Nm.B_eq]; omega
              obtain ⟨T, hT⟩ : ∃ T, p + Nm.B * p2 = T := ⟨_, rfl⟩
              rw [hT] at e4 lT PT
              have hlo := shr_lo T k m lT PT
              clear PT hp2 hT
              go_wp2_with (at_builtin; refine wpList_append_own _ rfl (.tmp 57) (.tmp 65) 45 rfl w.heap.size 67 i0 (.int .u32 0) 1 4 Tryz.underlying45 hi hz0 hz1 hz2 rfl (by decide) (.slice ao ds.length co) ds.length (cells32 ds) rfl (HO.out.below ((Below.refl _ _).alloc (Nat.le_refl _) _)) ⟨wr.heap.size, 0, none⟩ 1 1 (cells32 [m]) rfl rfl (alloc_row _ [m]) (cells32_one _) (by unfold maxLen; have := HL.out; have := HN.out; omega) (by have := HL.out; have := HN.out; omega) (by have := HS.out; simp; omega) ?_; intro v2 w2 hown2 hgr2 hne2)
              obtain ⟨g1, g2⟩ := own_grow hown2 HO.out hgr2 HB.out HS.out
              have G1 := Lib.hid g1
              have G2 := Lib.hid g2
              clear hown2 hgr2 hne2 g1 g2
              go_wp2
              go_roundw
              case rel => exact ⟨n + 1, t + 1, ds ++ [m], rfl, by have := HN.out; omega, by rw [List.length_append, HL.out]; rfl, by omega, Lib.hid (snoc_lt HD.out lm), Lib.hid (by rw [snoc_val, HL.out]; exact HP.out), G1, G2⟩
              case measure => simp [intOf]; omega
            · have dc : decide ((n : Int) + 1 < (L1 : Int)) = false := decide_eq_false (by omega)
              have dc2 : decide (n + 1 < L1) = false := decide_eq_false hC
              rw [Nm.word_zero (x := x) (i := n + 1) (by have := X1.out; omega), Nat.mul_zero, Nat.add_zero] at PT
              have hlo := shr_lo p k m (by omega) PT
              clear PT
              go_wp2_with (at_builtin; refine wpList_append_own _ rfl (.tmp 57) (.tmp 65) 45 rfl w.heap.size 67 i0 (.int .u32 0) 1 4 Tryz.underlying45 hi hz0 hz1 hz2 rfl (by decide) (.slice ao ds.length co) ds.length (cells32 ds) rfl (HO.out.below ((Below.refl _ _).alloc (Nat.le_refl _) _)) ⟨wr.heap.size, 0, none⟩ 1 1 (cells32 [m]) rfl rfl (alloc_row _ [m]) (cells32_one _) (by unfold maxLen; have := HL.out; have := HN.out; omega) (by have := HL.out; have := HN.out; omega) (by have := HS.out; simp; omega) ?_; intro v2 w2 hown2 hgr2 hne2)
              obtain ⟨g1, g2⟩ := own_grow hown2 HO.out hgr2 HB.out HS.out
              have G1 := Lib.hid g1
              have G2 := Lib.hid g2
              clear hown2 hgr2 hne2 g1 g2
              go_wp2
              go_roundw
              case rel => exact ⟨n + 1, t + 1, ds ++ [m], rfl, by have := HN.out; omega, by rw [List.length_append, HL.out]; rfl, by omega, Lib.hid (snoc_lt HD.out lm), Lib.hid (by rw [snoc_val, HL.out]; exact HP.out), G1, G2⟩
              case measure => simp [intOf]; omega
          · have da : decide ((n : Int) < (L1 : Int)) = false := decide_eq_false (by omega)
            have da2 : decide (n < L1) = false := decide_eq_false hA
            have hv := HV.out
            have hsm : x / 2 ^ k < Nm.B ^ t := by
              have hlt := Nm.lt_wds x
              rw [X1.out] at hlt
              have h1 := Nat.pow_le_pow_right Nm.B_pos (show L1 ≤ q + t by have := HN.out; omega)
              rw [Nat.div_lt_iff_lt_mul (Nat.two_pow_pos k)]
              refine Nat.lt_of_lt_of_le hlt (Nat.le_trans h1 ?_)
              rw [Nat.add_comm q t, Nat.pow_add]
              refine Nat.mul_le_mul_left _ ?_
              rw [Nm.Bp]
              exact Nat.pow_le_pow_right (by decide) (by have := HQ.out; omega)
            rw [Nat.mod_eq_of_lt hsm] at hv
            have HV2 := Lib.hid hv
            obtain ⟨a3, c3, he3, hcap3, hwd⟩ := HO.out.wd (by have := HL.out; have := HN.out; omega) HD.out
            cases he3
            have HW := Lib.hid hwd
            clear hwd hv hsm
            go_wp2_with fail
            refine (trim_any ao ds co _ HW.out hcap3).mono ?_
            rintro e w3 ⟨⟨v, rfl, hbig⟩, rfl⟩
            have HG := Lib.hid hbig
            clear hbig
            go_wp2
            go_ret2
            exact ⟨v, rfl, by rw [← HV2.out]; exact HG.out, HB.out⟩
end Go.Proofs.YtffohkpohgkglaaGreat
