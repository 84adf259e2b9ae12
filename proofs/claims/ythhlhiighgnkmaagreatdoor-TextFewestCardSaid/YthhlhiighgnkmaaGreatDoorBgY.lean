/-
  BgE, BgF, put together (a claim holds at most 60 files).
-/
import Derived.Test.YthhlhiighgnkmaaGreatDoorBgZ
import Derived.Test.YthhlhiighgnkmaaGreatDoorRnZ
import Derived.Deep.Cut
/-! ## WALKS of the document's whole numbers: Down. -/
namespace Go.Proofs.YthhlhiighgnkmaaGreatDoor.Bg
theorem nb_two (n : Nat) : Nm.nb n = Nr.nb n := rfl
set_option linter.unusedVariables false
set_option linter.unusedSimpArgs false
open Go.RowKit
theorem mod_bit (x j : Nat) (h : x % 2 ^ j = 0) : x % 2 ^ (j + 1) = if x.testBit j then 2 ^ j else 0 := by
  rw [Nat.pow_succ, Nat.mod_mul, h, Nat.zero_add, Nat.testBit_eq_decide_div_mod_eq]
  rcases Nat.mod_two_eq_zero_or_one (x / 2 ^ j) with h2 | h2 <;> rw [h2] <;> simp
theorem mod_up {x j k : Nat} (hjk : j ≤ k) (h : x % 2 ^ k = 0) : x % 2 ^ j = 0 := by
  obtain ⟨d, rfl⟩ : ∃ d, k = j + d := ⟨k - j, by omega⟩
  rw [Nat.pow_add] at h
  have := Nat.mod_mul_right_mod x (2 ^ j) (2 ^ d)
  rw [h, Nat.zero_mod] at this
  exact this.symm
/-- what two words give behind a shift -/
theorem two_words (x n k q j : Nat) (hn : n = q + j) (hk : k = 32 * q + k % 32) :
    (x / Nm.B ^ n % Nm.B + Nm.B * (x / Nm.B ^ (n + 1) % Nm.B)) / 2 ^ (k % 32) % Nm.B = x / 2 ^ k / Nm.B ^ j % Nm.B := by
  have e1 : x / Nm.B ^ n % Nm.B + Nm.B * (x / Nm.B ^ (n + 1) % Nm.B) = x / Nm.B ^ n % (Nm.B * Nm.B) := by
    rw [Nat.pow_succ, ← Nat.div_div_eq_div_mul, Nat.mod_mul]
  have hr : k % 32 < 32 := Nat.mod_lt _ (by decide)
  obtain ⟨r, hr2⟩ : ∃ r, k % 32 = r := ⟨_, rfl⟩
  rw [e1]
  rw [hr2] at hk hr ⊢
  have e2 : x / 2 ^ k / Nm.B ^ j = x / Nm.B ^ n / 2 ^ r := by
    rw [Nat.div_div_eq_div_mul, Nat.div_div_eq_div_mul, Nm.Bp, Nm.Bp, ← Nat.pow_add, ← Nat.pow_add]
    congr 2; omega
  rw [e2]
  generalize x / Nm.B ^ n = X
  obtain ⟨d, hd⟩ : ∃ d, 32 = r + d := ⟨32 - r, by omega⟩
  have e3 : Nm.B * Nm.B = 2 ^ r * (Nm.B * 2 ^ d) := by
    rw [Nm.B_pow, ← Nat.pow_add, ← Nat.pow_add, ← Nat.pow_add]; congr 1; omega
  rw [e3, Nat.mod_mul_right_div_self, Nat.mod_mul_right_mod]
theorem shr_lo (T k m : Nat) (hT : T < 2 ^ 64) (hm : T / 2 ^ (k % 32) % Nm.B = m) : bits .and .u64 ((T : Int) / 2 ^ (k % 32)) 4294967295 = (m : Int) := by
  have e : ((T : Int) / 2 ^ (k % 32)) = ((T / 2 ^ (k % 32) : Nat) : Int) := by
    simp only [Int.natCast_ediv, Int.natCast_pow, Int.cast_ofNat_Int]
  rw [e, lo_bits _ (Nat.lt_of_le_of_lt (Nat.div_le_self _ _) hT), hm]
def DownPost (w : World) (n : Nat) (lost : Bool) (e : Ending) (w' : World) : Prop := ∃ v, e = .returned (.tuple #[v, .bool lost]) ∧ Big w' v n ∧ Below w.heap.size w w'
set_option maxRecDepth 100000 in
set_option maxHeartbeats 4000000 in
theorem down_any (v1 : Value) (x k : Nat) (w : World) (H1 : Big w v1 x) (hx : (Nm.wds x).length ≤ 400000) (hk : k ≤ 10000000) : Calls Tryz.prog 91 #[v1, .int .i64 (k : Int)] w (DownPost w (x / 2 ^ k) (x % 2 ^ k != 0)) := by
  obtain ⟨i0, hi, hz0, hz1, hz2⟩ := info_parts info165
  obtain ⟨a1, cap1, rfl, hcap1, hW1⟩ := H1
  obtain ⟨L1, hL1⟩ : ∃ L, (Nm.wds x).length = L := ⟨_, rfl⟩
  have HBig : Hid (Big w (.slice a1 L1 cap1) x) := Lib.hid ⟨a1, cap1, by rw [hL1], hcap1, hW1⟩
  have W1 := Lib.hid hW1
  have X1 := Lib.hid hL1
  rw [hL1] at hx ⊢
  clear hW1 hL1 hcap1
  obtain ⟨q, hq⟩ : ∃ q, k / 32 = q := ⟨_, rfl⟩
  have HQ := Lib.hid (show k = 32 * q + k % 32 by omega)
  have hq1 : Int.tdiv (k : Int) 32 = (q : Int) := by rw [Int.tdiv_eq_ediv_of_nonneg (by omega)]; omega
  have hq2 : (k : Int) / 32 = (q : Int) := by omega
  have hq3 : q ≤ 400000 := by omega
  obtain ⟨lost, hlost⟩ : ∃ l, (x % 2 ^ k != 0) = l := ⟨_, rfl⟩
  rw [hlost]
  have HLO := Lib.hid hlost
  clear hq hlost
  go_enter Tryz.func91, Tryz.ntmps91
  go_wp2
  go_loop [6, 7] (fun l i => ∃ (j : Nat) (b : Bool), i = .int .i64 j ∧ l = .bool b ∧ j ≤ k ∧ j ≤ 32 * L1 ∧ Hid (b = true → lost = true) ∧ Hid (b = false → x % 2 ^ j = 0)) (fun _ i => (k + 1 - intOf i).toNat)
  case atStart => exact ⟨0, false, rfl, rfl, by omega, by omega, Lib.hid (fun h => by cases h), Lib.hid (fun _ => by simp [Nat.mod_one])⟩
  case round =>
    obtain ⟨j, b, rfl, rfl, hjk, hjL, HT, HF⟩ := hrel
    have hway : (j < k ∧ j < 32 * L1 ∧ b = false) ∨ ((¬ j < k) ∧ b = lost) ∨ (j < k ∧ (¬ j < 32 * L1) ∧ b = lost) ∨ (j < k ∧ j < 32 * L1 ∧ b = true ∧ b = lost) := by
      have hT : b = true → b = lost := fun h => by rw [h]; exact (HT.out h).symm
      by_cases h1 : j < k
      · by_cases h2 : j < 32 * L1
        · cases hb : b
          · exact .inl ⟨h1, h2, rfl⟩
          · exact .inr (.inr (.inr ⟨h1, h2, rfl, by rw [← hb]; exact hT hb⟩))
        · refine .inr (.inr (.inl ⟨h1, h2, ?_⟩))
          cases hb : b
          · have hz := HF.out hb
            have hlt := Nm.lt_wds x
            rw [X1.out, Nm.Bp, show 32 * L1 = j by omega] at hlt
            rw [Nat.mod_eq_of_lt hlt] at hz
            rw [← HLO.out, hz]; simp
          · rw [← hb]; exact hT hb
      · refine .inr (.inl ⟨h1, ?_⟩)
        cases hb : b
        · have hz := HF.out hb
          rw [show j = k by omega] at hz
          rw [← HLO.out, hz]; rfl
        · rw [← hb]; exact hT hb
    rcases hway with ⟨h1, h2, rfl⟩ | hout
    · have d1 : decide ((j : Int) < (k : Int)) = true := decide_eq_true (by omega)
      have d2 : decide (j < k) = true := decide_eq_true h1
      have d3 : decide ((j : Int) < 32 * (L1 : Int)) = true := decide_eq_true (by omega)
      have hz := HF.out rfl
      have hb := mod_bit x j hz
      have KT : x.testBit j = true → lost = true := fun ht => by
        rw [← HLO.out]
        rw [ht, if_pos rfl] at hb
        simp only [bne_iff_ne, ne_eq]
        intro h0
        have := mod_up (show j + 1 ≤ k by omega) h0
        have := Nat.two_pow_pos j
        omega
      have KF : x.testBit j = false → x % 2 ^ (j + 1) = 0 := fun ht => by rw [hb, ht]; rfl
      have K1 := Lib.hid KT
      have K2 := Lib.hid KF
      clear KT KF hb hz
      go_wp2_with fail
      refine (bit_any _ x j _ HBig.out (by omega)).mono ?_
      rintro e w1 ⟨rfl, rfl⟩
      go_wp2
      go_round
      case rel => exact ⟨j + 1, x.testBit j, rfl, rfl, by omega, by omega, K1, K2⟩
      case measure => simp [intOf]; omega
    · have HB0 := Lib.hid (Below.refl w.heap.size w)
      have V0 := Lib.hid (show Nm.val [] = x / 2 ^ k % Nm.B ^ 0 by simp [Nm.val, Nat.mod_one])
      rcases hout with ⟨h1, rfl⟩ | ⟨h1, h2, rfl⟩ | ⟨h1, h2, h3, rfl⟩
      · have d1 : decide ((j : Int) < (k : Int)) = false := decide_eq_false (by omega)
        have d2 : decide (j < k) = false := decide_eq_false h1
        clear HF HT h1
        go_wp2
        clear d1 d2 hjk hjL
        go_loopw [8, 9, 10] (fun o i _ wr => ∃ (n t : Nat) (ds : List Nat), i = .int .i64 n ∧ n = q + t ∧ ds.length = t ∧ (n ≤ L1 ∨ t = 0) ∧ Hid (∀ d ∈ ds, d < Nm.B) ∧ Hid (Nm.val ds = x / 2 ^ k % Nm.B ^ t) ∧ Hid (Own wr w.heap.size o ds) ∧ Hid (Below w.heap.size w wr)) (fun _ i _ _ => (L1 + 1 - intOf i).toNat)
        case atStart => exact ⟨q, 0, [], rfl, rfl, rfl, .inr rfl, Lib.hid (by simp), V0, Lib.hid (Own.nil _ _), HB0⟩
        case round =>
          obtain ⟨n, t, ds, rfl, hnt, hlen, hnL, HD, HV, HO, HB⟩ := hrel
          have HS := Lib.hid (Below.size HB.out)
          obtain ⟨ao, co, rfl⟩ := own_shape HO.out
          have HL := Lib.hid hlen
          have HN := Lib.hid hnt
          have HNL := Lib.hid hnL
          have hn6 : n ≤ 400000 := by omega
          clear hlen hnt hnL
          by_cases hA : n < L1
          · have da : decide ((n : Int) < (L1 : Int)) = true := decide_eq_true (by omega)
            have da2 : decide (n < L1) = true := decide_eq_true hA
            obtain ⟨b1, rfl, hb1, hc1⟩ := big_word (W1.out.below HB.out) n (by have := X1.out; omega)
            have lp : x / Nm.B ^ n % Nm.B < 4294967296 := Nat.mod_lt _ Nm.B_pos
            have PT := two_words x n k q t HN.out HQ.out
            have PV : Nm.val ds + Nm.B ^ t * (x / 2 ^ k / Nm.B ^ t % Nm.B) = x / 2 ^ k % Nm.B ^ (t + 1) := by rw [Nm.mod_next, HV.out]
            obtain ⟨p, hp⟩ : ∃ p, x / Nm.B ^ n % Nm.B = p := ⟨_, rfl⟩
            obtain ⟨m, hm⟩ : ∃ m, x / 2 ^ k / Nm.B ^ t % Nm.B = m := ⟨_, rfl⟩
            have lm : m < 4294967296 := by rw [← hm]; exact Nat.mod_lt _ Nm.B_pos
            rw [hp] at hc1 lp PT
            rw [hm] at PT PV
            have HP := Lib.hid PV
            clear PV hp hm
            by_cases hC : n + 1 < L1
            · have dc : decide ((n : Int) + 1 < (L1 : Int)) = true := decide_eq_true (by omega)
              have dc2 : decide (n + 1 < L1) = true := decide_eq_true hC
              obtain ⟨b2, hbb, hb2, hc2⟩ := big_word (W1.out.below HB.out) (n + 1) (by have := X1.out; omega)
              cases hbb
              have lp2 : x / Nm.B ^ (n + 1) % Nm.B < 4294967296 := Nat.mod_lt _ Nm.B_pos
              obtain ⟨p2, hp2⟩ : ∃ p, x / Nm.B ^ (n + 1) % Nm.B = p := ⟨_, rfl⟩
              rw [hp2] at hc2 lp2 PT
              have e4 : bits .or .u64 (p : Int) ((p2 : Int) * 4294967296) = ((p + Nm.B * p2 : Nat) : Int) := by
                rw [show ((p2 : Int) * 4294967296) = ((p2 * 2 ^ 32 : Nat) : Int) by omega, u64_or_nat p (p2 * 2 ^ 32) (by omega) (by omega), Nat.or_comm, nat_join 32 (p2 * 2 ^ 32) p (Nat.mul_mod_left _ _) (by omega), Nm.B_eq]
                congr 1; omega
              have lT : p + Nm.B * p2 < 2 ^ 64 := by rw [Nm.B_eq]; omega
              obtain ⟨T, hT⟩ : ∃ T, p + Nm.B * p2 = T := ⟨_, rfl⟩
              rw [hT] at e4 lT PT
              have hlo := shr_lo T k m lT PT
              clear PT hp2 hT
              go_wp2_with (at_builtin; refine wpList_append_own _ rfl (.tmp 57) (.tmp 65) 72 rfl w.heap.size 165 i0 (.int .u32 0) 1 4 Tryz.underlying72 hi hz0 hz1 hz2 rfl (by decide) (.slice ao ds.length co) ds.length (cells32 ds) rfl (HO.out.below ((Below.refl _ _).alloc (Nat.le_refl _) _)) ⟨wr.heap.size, 0, none⟩ 1 1 (cells32 [m]) rfl rfl (alloc_row _ [m]) (cells32_one _) (by unfold maxLen; have := HL.out; have := HN.out; omega) (by have := HL.out; have := HN.out; omega) (by have := HS.out; simp; omega) ?_; intro v2 w2 hown2 hgr2 hne2)
              obtain ⟨g1, g2⟩ := own_grow hown2 HO.out hgr2 HB.out HS.out
              have G1 := Lib.hid g1
              have G2 := Lib.hid g2
              clear hown2 hgr2 hne2 g1 g2
              go_wp2
              go_roundw
              case rel => exact ⟨n + 1, t + 1, ds ++ [m], rfl, by have := HN.out; omega, by rw [List.length_append, HL.out]; rfl, by omega, Lib.hid (snoc_lt HD.out lm), Lib.hid (by rw [snoc_val, HL.out]; exact HP.out), G1, G2⟩
              case measure => simp [intOf]; omega
            · have dc : decide ((n : Int) + 1 < (L1 : Int)) = false := decide_eq_false (by omega)
              have dc2 : decide (n + 1 < L1) = false := decide_eq_false hC
              rw [Nm.word_zero (x := x) (i := n + 1) (by have := X1.out; omega), Nat.mul_zero, Nat.add_zero] at PT
              have hlo := shr_lo p k m (by omega) PT
              clear PT
              go_wp2_with (at_builtin; refine wpList_append_own _ rfl (.tmp 57) (.tmp 65) 72 rfl w.heap.size 165 i0 (.int .u32 0) 1 4 Tryz.underlying72 hi hz0 hz1 hz2 rfl (by decide) (.slice ao ds.length co) ds.length (cells32 ds) rfl (HO.out.below ((Below.refl _ _).alloc (Nat.le_refl _) _)) ⟨wr.heap.size, 0, none⟩ 1 1 (cells32 [m]) rfl rfl (alloc_row _ [m]) (cells32_one _) (by unfold maxLen; have := HL.out; have := HN.out; omega) (by have := HL.out; have := HN.out; omega) (by have := HS.out; simp; omega) ?_; intro v2 w2 hown2 hgr2 hne2)
              obtain ⟨g1, g2⟩ := own_grow hown2 HO.out hgr2 HB.out HS.out
              have G1 := Lib.hid g1
              have G2 := Lib.hid g2
              clear hown2 hgr2 hne2 g1 g2
              go_wp2
              go_roundw
              case rel => exact ⟨n + 1, t + 1, ds ++ [m], rfl, by have := HN.out; omega, by rw [List.length_append, HL.out]; rfl, by omega, Lib.hid (snoc_lt HD.out lm), Lib.hid (by rw [snoc_val, HL.out]; exact HP.out), G1, G2⟩
              case measure => simp [intOf]; omega
          · have da : decide ((n : Int) < (L1 : Int)) = false := decide_eq_false (by omega)
            have da2 : decide (n < L1) = false := decide_eq_false hA
            have hv := HV.out
            have hsm : x / 2 ^ k < Nm.B ^ t := by
              have hlt := Nm.lt_wds x
              rw [X1.out] at hlt
              have h1 := Nat.pow_le_pow_right Nm.B_pos (show L1 ≤ q + t by have := HN.out; omega)
              rw [Nat.div_lt_iff_lt_mul (Nat.two_pow_pos k)]
              refine Nat.lt_of_lt_of_le hlt (Nat.le_trans h1 ?_)
              rw [Nat.add_comm q t, Nat.pow_add]
              refine Nat.mul_le_mul_left _ ?_
              rw [Nm.Bp]
              exact Nat.pow_le_pow_right (by decide) (by have := HQ.out; omega)
            rw [Nat.mod_eq_of_lt hsm] at hv
            have HV2 := Lib.hid hv
            obtain ⟨a3, c3, he3, hcap3, hwd⟩ := HO.out.wd (by have := HL.out; have := HN.out; omega) HD.out
            cases he3
            have HW := Lib.hid hwd
            clear hwd hv hsm
            go_wp2_with fail
            refine (trim_any ao ds co _ HW.out hcap3).mono ?_
            rintro e w3 ⟨⟨v, rfl, hbig⟩, rfl⟩
            have HG := Lib.hid hbig
            clear hbig
            go_wp2
            go_ret2
            exact ⟨v, rfl, by rw [← HV2.out]; exact HG.out, HB.out⟩
      · have d1 : decide ((j : Int) < (k : Int)) = true := decide_eq_true (by omega)
        have d2 : decide (j < k) = true := decide_eq_true h1
        have d3 : decide ((j : Int) < 32 * (L1 : Int)) = false := decide_eq_false (by omega)
        clear HF HT h1 h2
        go_wp2
        clear d1 d2 hjk hjL
        go_loopw [8, 9, 10] (fun o i _ wr => ∃ (n t : Nat) (ds : List Nat), i = .int .i64 n ∧ n = q + t ∧ ds.length = t ∧ (n ≤ L1 ∨ t = 0) ∧ Hid (∀ d ∈ ds, d < Nm.B) ∧ Hid (Nm.val ds = x / 2 ^ k % Nm.B ^ t) ∧ Hid (Own wr w.heap.size o ds) ∧ Hid (Below w.heap.size w wr)) (fun _ i _ _ => (L1 + 1 - intOf i).toNat)
        case atStart => exact ⟨q, 0, [], rfl, rfl, rfl, .inr rfl, Lib.hid (by simp), V0, Lib.hid (Own.nil _ _), HB0⟩
        case round =>
          obtain ⟨n, t, ds, rfl, hnt, hlen, hnL, HD, HV, HO, HB⟩ := hrel
          have HS := Lib.hid (Below.size HB.out)
          obtain ⟨ao, co, rfl⟩ := own_shape HO.out
          have HL := Lib.hid hlen
          have HN := Lib.hid hnt
          have HNL := Lib.hid hnL
          have hn6 : n ≤ 400000 := by omega
          clear hlen hnt hnL
          by_cases hA : n < L1
          · have da : decide ((n : Int) < (L1 : Int)) = true := decide_eq_true (by omega)
            have da2 : decide (n < L1) = true := decide_eq_true hA
            obtain ⟨b1, rfl, hb1, hc1⟩ := big_word (W1.out.below HB.out) n (by have := X1.out; omega)
            have lp : x / Nm.B ^ n % Nm.B < 4294967296 := Nat.mod_lt _ Nm.B_pos
            have PT := two_words x n k q t HN.out HQ.out
            have PV : Nm.val ds + Nm.B ^ t * (x / 2 ^ k / Nm.B ^ t % Nm.B) = x / 2 ^ k % Nm.B ^ (t + 1) := by rw [Nm.mod_next, HV.out]
            obtain ⟨p, hp⟩ : ∃ p, x / Nm.B ^ n % Nm.B = p := ⟨_, rfl⟩
            obtain ⟨m, hm⟩ : ∃ m, x / 2 ^ k / Nm.B ^ t % Nm.B = m := ⟨_, rfl⟩
            have lm : m < 4294967296 := by rw [← hm]; exact Nat.mod_lt _ Nm.B_pos
            rw [hp] at hc1 lp PT
            rw [hm] at PT PV
            have HP := Lib.hid PV
            clear PV hp hm
            by_cases hC : n + 1 < L1
            · have dc : decide ((n : Int) + 1 < (L1 : Int)) = true := decide_eq_true (by omega)
              have dc2 : decide (n + 1 < L1) = true := decide_eq_true hC
              obtain ⟨b2, hbb, hb2, hc2⟩ := big_word (W1.out.below HB.out) (n + 1) (by have := X1.out; omega)
              cases hbb
              have lp2 : x / Nm.B ^ (n + 1) % Nm.B < 4294967296 := Nat.mod_lt _ Nm.B_pos
              obtain ⟨p2, hp2⟩ : ∃ p, x / Nm.B ^ (n + 1) % Nm.B = p := ⟨_, rfl⟩
              rw [hp2] at hc2 lp2 PT
              have e4 : bits .or .u64 (p : Int) ((p2 : Int) * 4294967296) = ((p + Nm.B * p2 : Nat) : Int) := by
                rw [show ((p2 : Int) * 4294967296) = ((p2 * 2 ^ 32 : Nat) : Int) by omega, u64_or_nat p (p2 * 2 ^ 32) (by omega) (by omega), Nat.or_comm, nat_join 32 (p2 * 2 ^ 32) p (Nat.mul_mod_left _ _) (by omega), Nm.B_eq]
                congr 1; omega
              have lT : p + Nm.B * p2 < 2 ^ 64 := by rw [Nm.B_eq]; omega
              obtain ⟨T, hT⟩ : ∃ T, p + Nm.B * p2 = T := ⟨_, rfl⟩
              rw [hT] at e4 lT PT
              have hlo := shr_lo T k m lT PT
              clear PT hp2 hT
              go_wp2_with (at_builtin; refine wpList_append_own _ rfl (.tmp 57) (.tmp 65) 72 rfl w.heap.size 165 i0 (.int .u32 0) 1 4 Tryz.underlying72 hi hz0 hz1 hz2 rfl (by decide) (.slice ao ds.length co) ds.length (cells32 ds) rfl (HO.out.below ((Below.refl _ _).alloc (Nat.le_refl _) _)) ⟨wr.heap.size, 0, none⟩ 1 1 (cells32 [m]) rfl rfl (alloc_row _ [m]) (cells32_one _) (by unfold maxLen; have := HL.out; have := HN.out; omega) (by have := HL.out; have := HN.out; omega) (by have := HS.out; simp; omega) ?_; intro v2 w2 hown2 hgr2 hne2)
              obtain ⟨g1, g2⟩ := own_grow hown2 HO.out hgr2 HB.out HS.out
              have G1 := Lib.hid g1
              have G2 := Lib.hid g2
              clear hown2 hgr2 hne2 g1 g2
              go_wp2
              go_roundw
              case rel => exact ⟨n + 1, t + 1, ds ++ [m], rfl, by have := HN.out; omega, by rw [List.length_append, HL.out]; rfl, by omega, Lib.hid (snoc_lt HD.out lm), Lib.hid (by rw [snoc_val, HL.out]; exact HP.out), G1, G2⟩
              case measure => simp [intOf]; omega
            · have dc : decide ((n : Int) + 1 < (L1 : Int)) = false := decide_eq_false (by omega)
              have dc2 : decide (n + 1 < L1) = false := decide_eq_false hC
              rw [Nm.word_zero (x := x) (i := n + 1) (by have := X1.out; omega), Nat.mul_zero, Nat.add_zero] at PT
              have hlo := shr_lo p k m (by omega) PT
              clear PT
              go_wp2_with (at_builtin; refine wpList_append_own _ rfl (.tmp 57) (.tmp 65) 72 rfl w.heap.size 165 i0 (.int .u32 0) 1 4 Tryz.underlying72 hi hz0 hz1 hz2 rfl (by decide) (.slice ao ds.length co) ds.length (cells32 ds) rfl (HO.out.below ((Below.refl _ _).alloc (Nat.le_refl _) _)) ⟨wr.heap.size, 0, none⟩ 1 1 (cells32 [m]) rfl rfl (alloc_row _ [m]) (cells32_one _) (by unfold maxLen; have := HL.out; have := HN.out; omega) (by have := HL.out; have := HN.out; omega) (by have := HS.out; simp; omega) ?_; intro v2 w2 hown2 hgr2 hne2)
              obtain ⟨g1, g2⟩ := own_grow hown2 HO.out hgr2 HB.out HS.out
              have G1 := Lib.hid g1
              have G2 := Lib.hid g2
              clear hown2 hgr2 hne2 g1 g2
              go_wp2
              go_roundw
              case rel => exact ⟨n + 1, t + 1, ds ++ [m], rfl, by have := HN.out; omega, by rw [List.length_append, HL.out]; rfl, by omega, Lib.hid (snoc_lt HD.out lm), Lib.hid (by rw [snoc_val, HL.out]; exact HP.out), G1, G2⟩
              case measure => simp [intOf]; omega
          · have da : decide ((n : Int) < (L1 : Int)) = false := decide_eq_false (by omega)
            have da2 : decide (n < L1) = false := decide_eq_false hA
            have hv := HV.out
            have hsm : x / 2 ^ k < Nm.B ^ t := by
              have hlt := Nm.lt_wds x
              rw [X1.out] at hlt
              have h1 := Nat.pow_le_pow_right Nm.B_pos (show L1 ≤ q + t by have := HN.out; omega)
              rw [Nat.div_lt_iff_lt_mul (Nat.two_pow_pos k)]
              refine Nat.lt_of_lt_of_le hlt (Nat.le_trans h1 ?_)
              rw [Nat.add_comm q t, Nat.pow_add]
              refine Nat.mul_le_mul_left _ ?_
              rw [Nm.Bp]
              exact Nat.pow_le_pow_right (by decide) (by have := HQ.out; omega)
            rw [Nat.mod_eq_of_lt hsm] at hv
            have HV2 := Lib.hid hv
            obtain ⟨a3, c3, he3, hcap3, hwd⟩ := HO.out.wd (by have := HL.out; have := HN.out; omega) HD.out
            cases he3
            have HW := Lib.hid hwd
            clear hwd hv hsm
            go_wp2_with fail
            refine (trim_any ao ds co _ HW.out hcap3).mono ?_
            rintro e w3 ⟨⟨v, rfl, hbig⟩, rfl⟩
            have HG := Lib.hid hbig
            clear hbig
            go_wp2
            go_ret2
            exact ⟨v, rfl, by rw [← HV2.out]; exact HG.out, HB.out⟩
      · have d1 : decide ((j : Int) < (k : Int)) = true := decide_eq_true (by omega)
        have d2 : decide (j < k) = true := decide_eq_true h1
        have d3 : decide ((j : Int) < 32 * (L1 : Int)) = true := decide_eq_true (by omega)
        subst h3
        clear HF HT h1 h2
        go_wp2
        clear d1 d2 hjk hjL
        go_loopw [8, 9, 10] (fun o i _ wr => ∃ (n t : Nat) (ds : List Nat), i = .int .i64 n ∧ n = q + t ∧ ds.length = t ∧ (n ≤ L1 ∨ t = 0) ∧ Hid (∀ d ∈ ds, d < Nm.B) ∧ Hid (Nm.val ds = x / 2 ^ k % Nm.B ^ t) ∧ Hid (Own wr w.heap.size o ds) ∧ Hid (Below w.heap.size w wr)) (fun _ i _ _ => (L1 + 1 - intOf i).toNat)
        case atStart => exact ⟨q, 0, [], rfl, rfl, rfl, .inr rfl, Lib.hid (by simp), V0, Lib.hid (Own.nil _ _), HB0⟩
        case round =>
          obtain ⟨n, t, ds, rfl, hnt, hlen, hnL, HD, HV, HO, HB⟩ := hrel
          have HS := Lib.hid (Below.size HB.out)
          obtain ⟨ao, co, rfl⟩ := own_shape HO.out
          have HL := Lib.hid hlen
          have HN := Lib.hid hnt
          have HNL := Lib.hid hnL
          have hn6 : n ≤ 400000 := by omega
          clear hlen hnt hnL
          by_cases hA : n < L1
          · have da : decide ((n : Int) < (L1 : Int)) = true := decide_eq_true (by omega)
            have da2 : decide (n < L1) = true := decide_eq_true hA
            obtain ⟨b1, rfl, hb1, hc1⟩ := big_word (W1.out.below HB.out) n (by have := X1.out; omega)
            have lp : x / Nm.B ^ n % Nm.B < 4294967296 := Nat.mod_lt _ Nm.B_pos
            have PT := two_words x n k q t HN.out HQ.out
            have PV : Nm.val ds + Nm.B ^ t * (x / 2 ^ k / Nm.B ^ t % Nm.B) = x / 2 ^ k % Nm.B ^ (t + 1) := by rw [Nm.mod_next, HV.out]
            obtain ⟨p, hp⟩ : ∃ p, x / Nm.B ^ n % Nm.B = p := ⟨_, rfl⟩
            obtain ⟨m, hm⟩ : ∃ m, x / 2 ^ k / Nm.B ^ t % Nm.B = m := ⟨_, rfl⟩
            have lm : m < 4294967296 := by rw [← hm]; exact Nat.mod_lt _ Nm.B_pos
            rw [hp] at hc1 lp PT
            rw [hm] at PT PV
            have HP := Lib.hid PV
            clear PV hp hm
            by_cases hC : n + 1 < L1
            · have dc : decide ((n : Int) + 1 < (L1 : Int)) = true := decide_eq_true (by omega)
              have dc2 : decide (n + 1 < L1) = true := decide_eq_true hC
              obtain ⟨b2, hbb, hb2, hc2⟩ := big_word (W1.out.below HB.out) (n + 1) (by have := X1.out; omega)
              cases hbb
              have lp2 : x / Nm.B ^ (n + 1) % Nm.B < 4294967296 := Nat.mod_lt _ Nm.B_pos
              obtain ⟨p2, hp2⟩ : ∃ p, x / Nm.B ^ (n + 1) % Nm.B = p := ⟨_, rfl⟩
              rw [hp2] at hc2 lp2 PT
              have e4 : bits .or .u64 (p : Int) ((p2 : Int) * 4294967296) = ((p + Nm.B * p2 : Nat) : Int) := by
                rw [show ((p2 : Int) * 4294967296) = ((p2 * 2 ^ 32 : Nat) : Int) by omega, u64_or_nat p (p2 * 2 ^ 32) (by omega) (by omega), Nat.or_comm, nat_join 32 (p2 * 2 ^ 32) p (Nat.mul_mod_left _ _) (by omega), Nm.B_eq]
                congr 1; omega
              have lT : p + Nm.B * p2 < 2 ^ 64 := by rw [Nm.B_eq]; omega
              obtain ⟨T, hT⟩ : ∃ T, p + Nm.B * p2 = T := ⟨_, rfl⟩
              rw [hT] at e4 lT PT
              have hlo := shr_lo T k m lT PT
              clear PT hp2 hT
              go_wp2_with (at_builtin; refine wpList_append_own _ rfl (.tmp 57) (.tmp 65) 72 rfl w.heap.size 165 i0 (.int .u32 0) 1 4 Tryz.underlying72 hi hz0 hz1 hz2 rfl (by decide) (.slice ao ds.length co) ds.length (cells32 ds) rfl (HO.out.below ((Below.refl _ _).alloc (Nat.le_refl _) _)) ⟨wr.heap.size, 0, none⟩ 1 1 (cells32 [m]) rfl rfl (alloc_row _ [m]) (cells32_one _) (by unfold maxLen; have := HL.out; have := HN.out; omega) (by have := HL.out; have := HN.out; omega) (by have := HS.out; simp; omega) ?_; intro v2 w2 hown2 hgr2 hne2)
              obtain ⟨g1, g2⟩ := own_grow hown2 HO.out hgr2 HB.out HS.out
              have G1 := Lib.hid g1
              have G2 := Lib.hid g2
              clear hown2 hgr2 hne2 g1 g2
              go_wp2
              go_roundw
              case rel => exact ⟨n + 1, t + 1, ds ++ [m], rfl, by have := HN.out; omega, by rw [List.length_append, HL.out]; rfl, by omega, Lib.hid (snoc_lt HD.out lm), Lib.hid (by rw [snoc_val, HL.out]; exact HP.out), G1, G2⟩
              case measure => simp [intOf]; omega
            · have dc : decide ((n : Int) + 1 < (L1 : Int)) = false := decide_eq_false (by omega)
              have dc2 : decide (n + 1 < L1) = false := decide_eq_false hC
              rw [Nm.word_zero (x := x) (i := n + 1) (by have := X1.out; omega), Nat.mul_zero, Nat.add_zero] at PT
              have hlo := shr_lo p k m (by omega) PT
              clear PT
              go_wp2_with (at_builtin; refine wpList_append_own _ rfl (.tmp 57) (.tmp 65) 72 rfl w.heap.size 165 i0 (.int .u32 0) 1 4 Tryz.underlying72 hi hz0 hz1 hz2 rfl (by decide) (.slice ao ds.length co) ds.length (cells32 ds) rfl (HO.out.below ((Below.refl _ _).alloc (Nat.le_refl _) _)) ⟨wr.heap.size, 0, none⟩ 1 1 (cells32 [m]) rfl rfl (alloc_row _ [m]) (cells32_one _) (by unfold maxLen; have := HL.out; have := HN.out; omega) (by have := HL.out; have := HN.out; omega) (by have := HS.out; simp; omega) ?_; intro v2 w2 hown2 hgr2 hne2)
              obtain ⟨g1, g2⟩ := own_grow hown2 HO.out hgr2 HB.out HS.out
              have G1 := Lib.hid g1
              have G2 := Lib.hid g2
              clear hown2 hgr2 hne2 g1 g2
              go_wp2
              go_roundw
              case rel => exact ⟨n + 1, t + 1, ds ++ [m], rfl, by have := HN.out; omega, by rw [List.length_append, HL.out]; rfl, by omega, Lib.hid (snoc_lt HD.out lm), Lib.hid (by rw [snoc_val, HL.out]; exact HP.out), G1, G2⟩
              case measure => simp [intOf]; omega
          · have da : decide ((n : Int) < (L1 : Int)) = false := decide_eq_false (by omega)
            have da2 : decide (n < L1) = false := decide_eq_false hA
            have hv := HV.out
            have hsm : x / 2 ^ k < Nm.B ^ t := by
              have hlt := Nm.lt_wds x
              rw [X1.out] at hlt
              have h1 := Nat.pow_le_pow_right Nm.B_pos (show L1 ≤ q + t by have := HN.out; omega)
              rw [Nat.div_lt_iff_lt_mul (Nat.two_pow_pos k)]
              refine Nat.lt_of_lt_of_le hlt (Nat.le_trans h1 ?_)
              rw [Nat.add_comm q t, Nat.pow_add]
              refine Nat.mul_le_mul_left _ ?_
              rw [Nm.Bp]
              exact Nat.pow_le_pow_right (by decide) (by have := HQ.out; omega)
            rw [Nat.mod_eq_of_lt hsm] at hv
            have HV2 := Lib.hid hv
            obtain ⟨a3, c3, he3, hcap3, hwd⟩ := HO.out.wd (by have := HL.out; have := HN.out; omega) HD.out
            cases he3
            have HW := Lib.hid hwd
            clear hwd hv hsm
            go_wp2_with fail
            refine (trim_any ao ds co _ HW.out hcap3).mono ?_
            rintro e w3 ⟨⟨v, rfl, hbig⟩, rfl⟩
            have HG := Lib.hid hbig
            clear hbig
            go_wp2
            go_ret2
            exact ⟨v, rfl, by rw [← HV2.out]; exact HG.out, HB.out⟩
end Go.Proofs.YthhlhiighgnkmaaGreatDoor.Bg
/-! ## WALKS of the document's whole numbers: Round. -/
namespace Go.Proofs.YthhlhiighgnkmaaGreatDoor.Bg
set_option linter.unusedVariables false
set_option linter.unusedSimpArgs false
open Go.RowKit
set_option linter.unusedVariables false
set_option linter.unusedSimpArgs false
open Go.RowKit
def sgn (s : Bool) : Nat := if s then 9223372036854775808 else 0
theorem sgn_true : ((sgn true : Nat) : Int) = 9223372036854775808 := by unfold sgn; rw [if_pos rfl]; simp
theorem sgn_false : ((sgn false : Nat) : Int) = 0 := by unfold sgn; rw [if_neg (by decide)]; simp
theorem round_zero (s : Bool) (e : Int) (more : Bool) : Nr.round s 0 e more = sgn s := by
  unfold Nr.round Nr.word sgn
  rw [if_pos rfl]
def quoN (n : Nat) (l : Int) : Nat := if 0 < l then n / 2 ^ l.toNat else n * 2 ^ (-l).toNat
def upN (n : Nat) (l : Int) (more : Bool) : Bool := if 0 < l then Nr.goes n l.toNat more else false
theorem kept_parts (n : Nat) (e : Int) (more : Bool) : Nr.kept n e more = quoN n (Nr.los n e) + (upN n (Nr.los n e) more).toNat := by
  unfold Nr.kept quoN upN
  split
  · rfl
  · rfl
theorem or_sgn (s : Bool) (r : Nat) (h : r < 2 ^ 63) : bits .or .u64 ((sgn s : Nat) : Int) (r : Int) = ((Nr.word s r : Nat) : Int) := by
  cases s
  · rw [u64_or_nat (sgn false) r (by unfold sgn; decide) (by omega)]
    congr 1
    unfold sgn Nr.word
    rw [if_neg (by decide), if_neg (by decide)]
    exact Nat.zero_or r
  · rw [u64_or_nat (sgn true) r (by unfold sgn; decide) (by omega)]
    congr 1
    unfold sgn Nr.word
    rw [if_pos rfl, if_pos rfl]
    exact nat_join 63 9223372036854775808 r (by decide) h
theorem or_word (s : Bool) (t m : Nat) (ht : t ≤ 2046) (hm : m < 2 ^ 52) : bits .or .u64 ((Nr.word s (t * 2 ^ 52) : Nat) : Int) (m : Int) = ((Nr.word s (t * 2 ^ 52 + m) : Nat) : Int) := by
  have hw : Nr.word s (t * 2 ^ 52) < 18446744073709551616 := by unfold Nr.word; split <;> omega
  rw [u64_or_nat _ m hw (by omega)]
  congr 1
  rw [nat_join 52 (Nr.word s (t * 2 ^ 52)) m (by unfold Nr.word; split <;> omega) hm]
  unfold Nr.word
  split <;> omega
theorem kept_lt (n : Nat) (e : Int) (more : Bool) : Nr.kept n e more < 2 ^ 64 := Nat.lt_of_le_of_lt (Nr.kept_le n e more) (by decide)
set_option maxRecDepth 100000 in
set_option maxHeartbeats 4000000 in
theorem round_any (s more : Bool) (v1 : Value) (n : Nat) (e : Int) (w : World) (H1 : Big w v1 n) (hx : (Nm.wds n).length ≤ 300000) (he1 : -5000000 ≤ e) (he2 : e ≤ 5000000) :
    Calls Tryz.prog 48 #[.bool s, v1, .int .i64 e, .bool more] w (Gives w (.int .u64 (Nr.round s n e more : Nat))) := by
  obtain ⟨a1, cap1, rfl, hcap1, hW1⟩ := H1
  obtain ⟨L1, hL1⟩ : ∃ L, (Nm.wds n).length = L := ⟨_, rfl⟩
  have HBig : Hid (Big w (.slice a1 L1 cap1) n) := Lib.hid ⟨a1, cap1, by rw [hL1], hcap1, hW1⟩
  have X1 := Lib.hid hL1
  have HX := Lib.hid hx
  rw [hL1] at hx ⊢
  clear hW1 hL1 hcap1
  go_enter Tryz.func48, Tryz.ntmps48
  go_upto_if 16 with fail
  go_cut [9] from 16 (fun o wx => o = .int .u64 (sgn s : Nat) ∧ wx = w)
  case first =>
    cases s
    · go_wp2_with fail
      go_meet
      case rel => exact ⟨by rw [sgn_false], rfl⟩
    · go_wp2_with fail
      go_meet
      case rel => exact ⟨by rw [sgn_true], rfl⟩
  case rest =>
    obtain ⟨rfl, rfl⟩ := hcut
    obtain ⟨S, hS⟩ : ∃ S, sgn s = S := ⟨_, rfl⟩
    have HSg := Lib.hid hS
    rw [hS]
    clear hS
    by_cases h0 : L1 = 0
    · have hn : n = 0 := Nm.wds_nil.1 (by rw [X1.out]; exact h0)
      subst hn
      subst h0
      go_wp2
      go_ret
      refine ⟨?_, Below.refl _ _⟩
      rw [round_zero, HSg.out]
      rfl
    · have d0 : ((L1 : Int) == 0) = false := by simp; omega
      have hn0 : n ≠ 0 := fun h => h0 (by rw [← X1.out]; exact Nm.wds_nil.2 h)
      obtain ⟨N, hN⟩ : ∃ N, Nr.nb n = N := ⟨_, rfl⟩
      have hN2 : N ≤ 32 * L1 := by
        have h1 := Nm.lt_wds n
        rw [X1.out, Nm.Bp] at h1
        rw [← hN]
        exact (Nr.nb_le_iff n _).2 h1
      obtain ⟨lo, hlo⟩ : ∃ l, max ((N : Int) - 53) (-1074 - e) = l := ⟨_, rfl⟩
      have hlo2 : (if (N : Int) - 53 < -1074 - e then -1074 - e else (N : Int) - 53) = lo := by rw [← hlo]; split <;> omega
      have HLO := Lib.hid (show Nr.los n e = lo by unfold Nr.los; rw [hN]; exact hlo)
      have HN := Lib.hid hN
      have hl1 : -10000000 ≤ lo := by omega
      have hl2 : lo ≤ 9700000 := by omega
      clear hN
      go_upto_if 29 with (go_at_call 90; refine (bits_any _ n _ HBig.out).mono ?_; rintro e' w1 ⟨rfl, rfl⟩; rw [nb_two, HN.out])
      have KP := Lib.hid (kept_parts n e more)
      obtain ⟨Q, hQ⟩ : ∃ q, quoN n (Nr.los n e) = q := ⟨_, rfl⟩
      obtain ⟨U, hU⟩ : ∃ q, upN n (Nr.los n e) more = q := ⟨_, rfl⟩
      have HQ := Lib.hid (show quoN n lo = Q by rw [← hQ, HLO.out])
      have HU := Lib.hid (show upN n lo more = U by rw [← hU, HLO.out])
      obtain ⟨K, hK⟩ : ∃ q, Nr.kept n e more = q := ⟨_, rfl⟩
      have HK := Lib.hid (show K = Q + U.toNat by rw [← hK, KP.out, hQ, hU])
      have HK2 := Lib.hid (show K ≤ 2 ^ 53 by rw [← hK]; exact Nr.kept_le n e more)
      have HK3 := Lib.hid hK
      clear hQ hU hK KP
      go_cut [11, 12] from 16 (fun q u wx => Big wx q Q ∧ u = .bool U ∧ Hid (Below w1.heap.size w1 wx))
      case first =>
        by_cases hpos : 0 < lo
        · have dp : decide (0 < lo) = true := decide_eq_true hpos
          obtain ⟨l, hl⟩ : ∃ l : Nat, lo = (l : Int) := ⟨lo.toNat, by omega⟩
          obtain ⟨m, hm⟩ : ∃ m : Nat, l = m + 1 := ⟨l - 1, by omega⟩
          have hl3 : l ≤ 9700000 := by omega
          have hQl : n / 2 ^ l = Q := by
            have := HQ.out
            unfold quoN at this
            rw [if_pos hpos, hl, Int.toNat_natCast] at this
            exact this
          have hUl : (n.testBit m && ((decide (1 < l) && n % 2 ^ m != 0) || more || Q.testBit 0)) = U := by
            have := HU.out
            unfold upN Nr.goes at this
            rw [if_pos hpos, hl, Int.toNat_natCast, hm, Nat.add_sub_cancel] at this
            rw [← this, ← hQl, hm]
            congr 2
            rw [Nat.testBit_zero, Bool.eq_iff_iff]
            simp
          have hlm : (l : Int) - 1 = (m : Int) := by omega
          obtain ⟨hb, hhb⟩ : ∃ x, n.testBit m = x := ⟨_, rfl⟩
          obtain ⟨lb, hlb⟩ : ∃ x, (n % 2 ^ m != 0) = x := ⟨_, rfl⟩
          obtain ⟨qb, hqb⟩ : ∃ x, Q.testBit 0 = x := ⟨_, rfl⟩
          rw [hhb, hlb, hqb] at hUl
          have CD : Hid (∀ w, Big w (.slice a1 L1 cap1) n → Calls Tryz.prog 91 #[.slice a1 L1 cap1, .int .i64 (l : Int)] w (DownPost w Q (n % 2 ^ l != 0))) := Lib.hid (by rw [← hQl]; exact fun w H => down_any _ n l w H (by have := HX.out; omega) (by omega))
          have CM : Hid (∀ w, Big w (.slice a1 L1 cap1) n → Calls Tryz.prog 91 #[.slice a1 L1 cap1, .int .i64 (m : Int)] w (DownPost w (n / 2 ^ m) lb)) := Lib.hid (by rw [← hlb]; exact fun w H => down_any _ n m w H (by have := HX.out; omega) (by omega))
          have CB : Hid (∀ w, Big w (.slice a1 L1 cap1) n → Calls Tryz.prog 79 #[.slice a1 L1 cap1, .int .i64 (m : Int)] w fun e w' => e = .returned (.bool hb) ∧ w' = w) := Lib.hid (by rw [← hhb]; exact fun w H => bit_any _ n m w H (by omega))
          have CQ : Hid (∀ w v, Big w v Q → Calls Tryz.prog 79 #[v, .int .i64 0] w fun e w' => e = .returned (.bool qb) ∧ w' = w) := Lib.hid (by rw [← hqb]; exact fun w v H => bit_any v Q 0 w H (by omega))
          have HUL := Lib.hid hUl
          have HM := Lib.hid hm
          clear hUl hqb hlb hhb hQl hm hlo2
          subst hl
          by_cases h1 : 1 < l
          · have d1 : decide ((1 : Int) < (l : Int)) = true := decide_eq_true (by omega)
            have d2 : decide (1 < l) = true := decide_eq_true h1
            rw [d2] at HUL
            clear h1
            cases hb
            ·
              go_wp2_with fail
              refine (CD.out _ HBig.out).mono ?_
              rintro e' w2 ⟨v2, rfl, hbig2, hb2⟩
              have G2 := Lib.hid hbig2
              have B2 := Lib.hid hb2
              have HB2 := Lib.hid (HBig.out.below hb2)
              clear hbig2 hb2
              go_wp2_with fail
              refine (CM.out _ HB2.out).mono ?_
              rintro e' w3 ⟨v3, rfl, hbig3, hb3⟩
              have B3 := Lib.hid (B2.out.trans (hb3.mono B2.out.size))
              have HB3 := Lib.hid (HB2.out.below hb3)
              have G3 := Lib.hid (G2.out.below hb3)
              clear hbig3 hb3 B2 HB2 G2
              go_wp2_with fail
              refine (CB.out _ HB3.out).mono ?_
              rintro e' w4 ⟨rfl, rfl⟩
              go_wp2
              go_meet
              case rel => exact ⟨G3.out, by first | rfl | (rw [← HUL.out]; rfl) | (rw [← HUL.out]; simp), B3⟩
            · cases lb
              ·
                cases more
                ·
                  go_wp2_with fail
                  refine (CD.out _ HBig.out).mono ?_
                  rintro e' w2 ⟨v2, rfl, hbig2, hb2⟩
                  have G2 := Lib.hid hbig2
                  have B2 := Lib.hid hb2
                  have HB2 := Lib.hid (HBig.out.below hb2)
                  clear hbig2 hb2
                  go_wp2_with fail
                  refine (CM.out _ HB2.out).mono ?_
                  rintro e' w3 ⟨v3, rfl, hbig3, hb3⟩
                  have B3 := Lib.hid (B2.out.trans (hb3.mono B2.out.size))
                  have HB3 := Lib.hid (HB2.out.below hb3)
                  have G3 := Lib.hid (G2.out.below hb3)
                  clear hbig3 hb3 B2 HB2 G2
                  go_wp2_with fail
                  refine (CB.out _ HB3.out).mono ?_
                  rintro e' w4 ⟨rfl, rfl⟩
                  go_wp2_with fail
                  refine (CQ.out _ _ G3.out).mono ?_
                  rintro e' w5 ⟨rfl, rfl⟩
                  go_wp2
                  go_meet
                  case rel => exact ⟨G3.out, by first | rfl | (rw [← HUL.out]; rfl) | (rw [← HUL.out]; simp), B3⟩
                ·
                  go_wp2_with fail
                  refine (CD.out _ HBig.out).mono ?_
                  rintro e' w2 ⟨v2, rfl, hbig2, hb2⟩
                  have G2 := Lib.hid hbig2
                  have B2 := Lib.hid hb2
                  have HB2 := Lib.hid (HBig.out.below hb2)
                  clear hbig2 hb2
                  go_wp2_with fail
                  refine (CM.out _ HB2.out).mono ?_
                  rintro e' w3 ⟨v3, rfl, hbig3, hb3⟩
                  have B3 := Lib.hid (B2.out.trans (hb3.mono B2.out.size))
                  have HB3 := Lib.hid (HB2.out.below hb3)
                  have G3 := Lib.hid (G2.out.below hb3)
                  clear hbig3 hb3 B2 HB2 G2
                  go_wp2_with fail
                  refine (CB.out _ HB3.out).mono ?_
                  rintro e' w4 ⟨rfl, rfl⟩
                  go_wp2
                  go_meet
                  case rel => exact ⟨G3.out, by first | rfl | (rw [← HUL.out]; rfl) | (rw [← HUL.out]; simp), B3⟩
              ·
                go_wp2_with fail
                refine (CD.out _ HBig.out).mono ?_
                rintro e' w2 ⟨v2, rfl, hbig2, hb2⟩
                have G2 := Lib.hid hbig2
                have B2 := Lib.hid hb2
                have HB2 := Lib.hid (HBig.out.below hb2)
                clear hbig2 hb2
                go_wp2_with fail
                refine (CM.out _ HB2.out).mono ?_
                rintro e' w3 ⟨v3, rfl, hbig3, hb3⟩
                have B3 := Lib.hid (B2.out.trans (hb3.mono B2.out.size))
                have HB3 := Lib.hid (HB2.out.below hb3)
                have G3 := Lib.hid (G2.out.below hb3)
                clear hbig3 hb3 B2 HB2 G2
                go_wp2_with fail
                refine (CB.out _ HB3.out).mono ?_
                rintro e' w4 ⟨rfl, rfl⟩
                go_wp2
                go_meet
                case rel => exact ⟨G3.out, by first | rfl | (rw [← HUL.out]; rfl) | (rw [← HUL.out]; simp), B3⟩
          · have d1 : decide ((1 : Int) < (l : Int)) = false := decide_eq_false (by omega)
            have d2 : decide (1 < l) = false := decide_eq_false h1
            rw [d2] at HUL
            clear h1
            cases hb
            ·
              go_wp2_with fail
              refine (CD.out _ HBig.out).mono ?_
              rintro e' w2 ⟨v2, rfl, hbig2, hb2⟩
              have G2 := Lib.hid hbig2
              have B2 := Lib.hid hb2
              have HB2 := Lib.hid (HBig.out.below hb2)
              clear hbig2 hb2
              go_wp2_with fail
              refine (CB.out _ HB2.out).mono ?_
              rintro e' w4 ⟨rfl, rfl⟩
              go_wp2
              go_meet
              case rel => exact ⟨G2.out, by first | rfl | (rw [← HUL.out]; rfl) | (rw [← HUL.out]; simp), B2⟩
            · cases more
              ·
                go_wp2_with fail
                refine (CD.out _ HBig.out).mono ?_
                rintro e' w2 ⟨v2, rfl, hbig2, hb2⟩
                have G2 := Lib.hid hbig2
                have B2 := Lib.hid hb2
                have HB2 := Lib.hid (HBig.out.below hb2)
                clear hbig2 hb2
                go_wp2_with fail
                refine (CB.out _ HB2.out).mono ?_
                rintro e' w4 ⟨rfl, rfl⟩
                go_wp2_with fail
                refine (CQ.out _ _ G2.out).mono ?_
                rintro e' w5 ⟨rfl, rfl⟩
                go_wp2
                go_meet
                case rel => exact ⟨G2.out, by first | rfl | (rw [← HUL.out]; rfl) | (rw [← HUL.out]; simp), B2⟩
              ·
                go_wp2_with fail
                refine (CD.out _ HBig.out).mono ?_
                rintro e' w2 ⟨v2, rfl, hbig2, hb2⟩
                have G2 := Lib.hid hbig2
                have B2 := Lib.hid hb2
                have HB2 := Lib.hid (HBig.out.below hb2)
                clear hbig2 hb2
                go_wp2_with fail
                refine (CB.out _ HB2.out).mono ?_
                rintro e' w4 ⟨rfl, rfl⟩
                go_wp2
                go_meet
                case rel => exact ⟨G2.out, by first | rfl | (rw [← HUL.out]; rfl) | (rw [← HUL.out]; simp), B2⟩
        · have dp : decide (0 < lo) = false := decide_eq_false hpos
          obtain ⟨l, hl⟩ : ∃ l : Nat, -lo = (l : Int) := ⟨(-lo).toNat, by omega⟩
          have hwr : IntKind.i64.wrap (-lo) = (l : Int) := by rw [IntKind.wrap_i64]; omega
          have hQl : n * 2 ^ l = Q := by
            have := HQ.out
            unfold quoN at this
            rw [if_neg hpos, hl, Int.toNat_natCast] at this
            exact this
          have hUl : U = false := by
            have := HU.out
            unfold upN at this
            rw [if_neg hpos] at this
            exact this.symm
          subst hUl
          have CU : Hid (∀ w, Big w (.slice a1 L1 cap1) n → Calls Tryz.prog 92 #[.slice a1 L1 cap1, .int .i64 (l : Int)] w (BigPost w Q)) := Lib.hid (by rw [← hQl]; exact fun w H => up_any _ n l w H (by have := HX.out; omega) (by omega))
          clear hQl hlo2
          go_wp2_with fail
          refine (CU.out _ HBig.out).mono ?_
          rintro e' w2 ⟨v2, rfl, hbig2, hb2⟩
          have G2 := Lib.hid hbig2
          have B2 := Lib.hid hb2
          clear hbig2 hb2
          go_wp2
          go_meet
          case rel => exact ⟨G2.out, rfl, B2⟩
      case rest =>
        obtain ⟨hbq, rfl, HBw⟩ := hcut
        have GQ := Lib.hid hbq
        clear hbq
        have hwq : (Nm.wds Q).length ≤ 2 := Nm.wds_len2 (Nat.lt_of_le_of_lt (show Q ≤ 2 ^ 53 by have := HK.out; have := HK2.out; omega) (by decide))
        have HWQ := Lib.hid hwq
        clear hwq
        go_upto_if 64 with fail
        go_cut [11] from 16 (fun q wx => Big wx q K ∧ Hid (Below w1.heap.size w1 wx))
        case first =>
          cases U
          · have hKQ : K = Q := by have := HK.out; simpa using this
            subst hKQ
            go_wp2_with fail
            go_meet
            case rel => exact ⟨GQ.out, HBw⟩
          · have hKQ : K = Q + 1 := by have := HK.out; simpa using this
            subst hKQ
            go_wp2_with fail
            refine (from_any 1 (by decide) _).mono ?_
            rintro e' w2 ⟨v2, rfl, hbig2, hb2⟩
            have G2 := Lib.hid hbig2
            have GQ2 := Lib.hid (GQ.out.below hb2)
            have B2 := Lib.hid (HBw.out.trans (hb2.mono HBw.out.size))
            clear hbig2 hb2
            go_wp2_with fail
            refine (plus_any _ _ Q 1 _ GQ2.out G2.out (by have := HWQ.out; omega) (by have := Nm.wds_len2 (show 1 < 2 ^ (32 * 1) by decide); omega)).mono ?_
            rintro e' w3 ⟨v3, rfl, hbig3, hb3⟩
            have G3 := Lib.hid hbig3
            have B3 := Lib.hid (B2.out.trans (hb3.mono B2.out.size))
            clear hbig3 hb3
            go_wp2
            go_meet
            case rel => exact ⟨G3.out, B3⟩
        case rest =>
          obtain ⟨hbk, HBk⟩ := hcut
          have GK := Lib.hid hbk
          have HWK := Lib.hid (show (Nm.wds K).length ≤ 2 from Nm.wds_len2 (Nat.lt_of_le_of_lt HK2.out (by decide)))
          have HE := Lib.hid (show -1074 ≤ e + lo by
            have : -1074 - e ≤ lo := by rw [← hlo2]; split <;> omega
            omega)
          obtain ⟨NK, hNK⟩ : ∃ q, Nr.nb K = q := ⟨_, rfl⟩
          have HNK := Lib.hid hNK
          obtain ⟨K2, hK2⟩ : ∃ q, (if 53 < NK then K / 2 else K) = q := ⟨_, rfl⟩
          obtain ⟨E2, hE2⟩ : ∃ q, (if 53 < NK then e + lo + 1 else e + lo) = q := ⟨_, rfl⟩
          have HR := Lib.hid (show Nr.round s n e more = Nr.word s (Nr.lay K2 E2) by
            unfold Nr.round Nr.refRung
            rw [if_neg hn0, HLO.out, HK3.out, hNK, ← hK2, ← hE2]
            split <;> rfl)
          have hNK3 : NK ≤ 54 := by rw [← hNK]; exact (Nr.nb_le_iff K 54).2 (Nat.lt_of_le_of_lt HK2.out (by decide))
          have HK5 := Lib.hid (show K2 < 2 ^ 53 by
            rw [← hK2]
            have := HK2.out
            split
            · omega
            · exact (Nr.nb_le_iff K 53).1 (by omega))
          have HE5 := Lib.hid (show -1074 ≤ E2 by rw [← hE2]; have := HE.out; split <;> omega)
          have hE6 : E2 ≤ 20000000 := by rw [← hE2]; split <;> omega
          clear hbk hNK hlo2
          go_upto_if 73 with (go_at_call 90; refine (bits_any _ K _ GK.out).mono ?_; rintro e' wz ⟨rfl, rfl⟩; rw [nb_two, HNK.out])
          go_cut [2, 11] from 16 (fun e3 q wx => e3 = .int .i64 E2 ∧ Big wx q K2 ∧ Hid (Below w1.heap.size w1 wx))
          case first =>
            by_cases h53 : 53 < NK
            · have d53 : decide ((53 : Int) < (NK : Int)) = true := decide_eq_true (by omega)
              have d53b : decide (53 < NK) = true := decide_eq_true h53
              rw [if_pos h53] at hK2 hE2
              subst hK2
              have CD : Hid (∀ w v, Big w v K → Calls Tryz.prog 91 #[v, .int .i64 1] w (DownPost w (K / 2) (K % 2 ^ 1 != 0))) := Lib.hid (fun w v H => down_any v K 1 w H (by have := HWK.out; omega) (by omega))
              go_wp2_with fail
              refine (CD.out _ _ GK.out).mono ?_
              rintro e' w2 ⟨v2, rfl, hbig2, hb2⟩
              have G2 := Lib.hid hbig2
              have B2 := Lib.hid (HBk.out.trans (hb2.mono HBk.out.size))
              clear hbig2 hb2
              go_wp2
              go_meet
              case rel => exact ⟨by rw [← hE2], G2.out, B2⟩
            · have d53 : decide ((53 : Int) < (NK : Int)) = false := decide_eq_false (by omega)
              have d53b : decide (53 < NK) = false := decide_eq_false h53
              rw [if_neg h53] at hK2 hE2
              subst hK2
              go_wp2_with fail
              go_meet
              case rel => exact ⟨by rw [← hE2], GK.out, HBk⟩
          case rest =>
            obtain ⟨rfl, hb5, HB5⟩ := hcut
            have G5 := Lib.hid hb5
            have hm64 : K2 % 2 ^ 64 = K2 := Nat.mod_eq_of_lt (Nat.lt_trans HK5.out (by decide))
            have CL : Hid (∀ w v, Big w v K2 → Calls Tryz.prog 93 #[v] w fun e w' => e = .returned (.int .u64 (K2 : Int)) ∧ w' = w) := Lib.hid (fun w v H => by have := low_any v K2 w H; rw [hm64] at this; exact this)
            have hr := HR.out
            unfold Nr.lay at hr
            clear hb5 hm64 hK2 hE2
            have HSO : Hid (∀ r : Nat, r < 2 ^ 63 → bits .or .u64 (S : Int) (r : Int) = ((Nr.word s r : Nat) : Int)) := Lib.hid (by rw [← HSg.out]; exact fun r => or_sgn s r)
            have h53 := HK5.out
            by_cases hlt : K2 < 2 ^ 52
            · have c1 : decide ((K2 : Int) < 4503599627370496) = true := decide_eq_true (by omega)
              have c2 : decide (K2 < 4503599627370496) = true := decide_eq_true (by omega)
              rw [if_pos hlt] at hr
              have ho := HSO.out K2 (by omega)
              obtain ⟨R, hR⟩ : ∃ R, Nr.word s K2 = R := ⟨_, rfl⟩
              rw [hR] at ho hr
              have HRR := Lib.hid hr
              clear hr
              go_wp2_with fail
              refine (CL.out _ _ G5.out).mono ?_
              rintro e' w2 ⟨rfl, rfl⟩
              go_wp2
              go_ret
              exact ⟨by rw [HRR.out]; rfl, HB5.out⟩
            · have c1 : decide ((K2 : Int) < 4503599627370496) = false := decide_eq_false (by omega)
              have c2 : decide (K2 < 4503599627370496) = false := decide_eq_false (by omega)
              rw [if_neg hlt] at hr
              by_cases hbig : 2047 ≤ E2 + 1075
              · have c3 : decide (2047 ≤ E2 + 1075) = true := decide_eq_true hbig
                rw [if_pos hbig] at hr
                have ho := HSO.out 9218868437227405312 (by decide)
                rw [show ((9218868437227405312 : Nat) : Int) = 9218868437227405312 from rfl] at ho
                rw [show 2047 * 2 ^ 52 = 9218868437227405312 from rfl] at hr
                obtain ⟨R, hR⟩ : ∃ R, Nr.word s 9218868437227405312 = R := ⟨_, rfl⟩
                rw [hR] at ho hr
                have HRR := Lib.hid hr
                clear hr
                go_wp2_with fail
                refine (CL.out _ _ G5.out).mono ?_
                rintro e' w2 ⟨rfl, rfl⟩
                go_wp2
                go_ret
                exact ⟨by rw [HRR.out]; rfl, HB5.out⟩
              · have c3 : decide (2047 ≤ E2 + 1075) = false := decide_eq_false hbig
                rw [if_neg hbig] at hr
                obtain ⟨t, ht⟩ : ∃ t : Nat, E2 + 1075 = (t : Int) := ⟨(E2 + 1075).toNat, by have := HE5.out; omega⟩
                have ht2 : t ≤ 2046 := by omega
                have c4 : decide ((2047 : Int) ≤ (t : Int)) = false := decide_eq_false (by omega)
                have c5 : decide (2047 ≤ t) = false := decide_eq_false (by omega)
                obtain ⟨M2, hM2⟩ : ∃ q, K2 - 2 ^ 52 = q := ⟨_, rfl⟩
                have hM3 : (K2 : Int) - 4503599627370496 = (M2 : Int) := by omega
                have hM4 : M2 < 2 ^ 52 := by omega
                have ho := HSO.out (t * 2 ^ 52) (by omega)
                rw [ht, Int.toNat_natCast, hM2] at hr
                have hor := or_word s t M2 ht2 hM4
                obtain ⟨R, hR⟩ : ∃ R, Nr.word s (t * 2 ^ 52 + M2) = R := ⟨_, rfl⟩
                obtain ⟨R1, hR1⟩ : ∃ R, Nr.word s (t * 2 ^ 52) = R := ⟨_, rfl⟩
                rw [hR1] at ho hor
                rw [hR] at hor hr
                have HRR := Lib.hid hr
                clear hr
                have ho2 : bits .or .u64 (S : Int) ((t : Int) * 4503599627370496) = (R1 : Int) := by
                  rw [← ho]; congr 1
                clear ho hM2 hR hR1
                go_wp2_with fail
                refine (CL.out _ _ G5.out).mono ?_
                rintro e' w2 ⟨rfl, rfl⟩
                go_wp2
                go_ret
                exact ⟨by rw [HRR.out]; rfl, HB5.out⟩
end Go.Proofs.YthhlhiighgnkmaaGreatDoor.Bg
