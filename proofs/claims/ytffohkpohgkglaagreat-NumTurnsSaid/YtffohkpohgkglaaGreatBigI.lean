/-
  WALKS of the document's whole numbers: Parts, Root.
-/
import Derived.Test.YtffohkpohgkglaaGreatBigG
import Derived.Test.YtffohkpohgkglaaGreatBigH
namespace Go.Proofs.YtffohkpohgkglaaGreat
set_option linter.unusedVariables false
set_option linter.unusedSimpArgs false
open Go.RowKit
theorem div_bit (x m : Nat) : x / 2 ^ m = x / 2 ^ (m + 1) * 2 + (x.testBit m).toNat := by
  rw [Nat.pow_succ, ← Nat.div_div_eq_div_mul, Nat.testBit_eq_decide_div_mod_eq]
  generalize x / 2 ^ m = y
  rcases Nat.mod_two_eq_zero_or_one y with h | h <;> rw [h] <;> simp <;> omega
/-- one step of a long division -/
theorem long_step (x y m : Nat) (hy : 0 < y) :
    (x / 2 ^ m % y = (if x / 2 ^ (m + 1) % y * 2 + (x.testBit m).toNat < y then x / 2 ^ (m + 1) % y * 2 + (x.testBit m).toNat else x / 2 ^ (m + 1) % y * 2 + (x.testBit m).toNat - y)) ∧
    (x / 2 ^ m / y * 2 ^ m = x / 2 ^ (m + 1) / y * 2 ^ (m + 1) + (if x / 2 ^ (m + 1) % y * 2 + (x.testBit m).toNat < y then 0 else 2 ^ m)) := by
  have hb := div_bit x m
  have hbt : (x.testBit m).toNat ≤ 1 := by cases x.testBit m <;> decide
  generalize (x.testBit m).toNat = b at *
  have hq := Nat.div_add_mod (x / 2 ^ (m + 1)) y
  have hr := Nat.mod_lt (x / 2 ^ (m + 1)) hy
  generalize x / 2 ^ (m + 1) = X at *
  rw [hb]
  generalize hQ : X / y = Q at *
  generalize hR : X % y = R at *
  have e : X * 2 + b = y * (Q * 2) + (R * 2 + b) := by
    rw [← hq, Nat.add_mul, Nat.mul_assoc]; omega
  rw [e]
  by_cases h : R * 2 + b < y
  · rw [if_pos h, if_pos h, Nat.mul_add_mod, Nat.mod_eq_of_lt h, Nat.mul_add_div hy, Nat.div_eq_of_lt h, Nat.add_zero, Nat.add_zero, Nat.pow_succ, Nat.mul_assoc, Nat.mul_comm 2]
    exact ⟨rfl, rfl⟩
  · rw [if_neg h, if_neg h]
    have h2 : R * 2 + b - y < y := by omega
    have e2 : y * (Q * 2) + (R * 2 + b) = y * (Q * 2 + 1) + (R * 2 + b - y) := by rw [Nat.mul_add, Nat.mul_one]; omega
    rw [e2, Nat.mul_add_mod, Nat.mod_eq_of_lt h2, Nat.mul_add_div hy, Nat.div_eq_of_lt h2, Nat.add_zero, Nat.add_mul, Nat.one_mul, Nat.pow_succ, Nat.mul_assoc, Nat.mul_comm 2]
    exact ⟨rfl, rfl⟩
/-- a bit that is not there is set -/
theorem set_bit (q V m : Nat) (hV : V = q * 2 ^ (m + 1)) (r : Nat) (hr : m % 32 = r) : bits .or .u32 ((V / Nm.B ^ (m / 32) % Nm.B : Nat) : Int) ((2 ^ r : Nat) : Int) = ((V / Nm.B ^ (m / 32) % Nm.B + 2 ^ r : Nat) : Int) ∧ V / Nm.B ^ (m / 32) % Nm.B + 2 ^ r < Nm.B := by
  have hr32 : r < 32 := by omega
  have e1 : V / Nm.B ^ (m / 32) = q * 2 ^ (r + 1) := by
    rw [hV, Nm.Bp, show m + 1 = r + 1 + 32 * (m / 32) by omega, Nat.pow_add, ← Nat.mul_assoc, Nat.mul_div_cancel _ (Nat.two_pow_pos _)]
  rw [e1]
  have hl : q * 2 ^ (r + 1) % Nm.B < Nm.B := Nat.mod_lt _ Nm.B_pos
  have hz : q * 2 ^ (r + 1) % Nm.B % 2 ^ (r + 1) = 0 := by
    rw [Nm.B_pow, show 32 = r + 1 + (31 - r) by omega, Nat.pow_add 2 (r + 1) (31 - r), Nat.mod_mul_right_mod, Nat.mul_mod_left]
  have hp : 2 ^ r < 2 ^ (r + 1) := Nat.pow_lt_pow_right (by decide) (by omega)
  have h32 : (2 : Nat) ^ (r + 1) ≤ 2 ^ 32 := Nat.pow_le_pow_right (by decide) (by omega)
  have hB : Nm.B % 2 ^ (r + 1) = 0 := by
    rw [Nm.B_pow, show 32 = r + 1 + (31 - r) by omega, Nat.pow_add 2 (r + 1) (31 - r), Nat.mul_mod_right]
  generalize q * 2 ^ (r + 1) % Nm.B = W at *
  have hlt : W + 2 ^ (r + 1) ≤ Nm.B := by
    obtain ⟨a, ha⟩ := Nat.dvd_of_mod_eq_zero hz
    obtain ⟨b, hb⟩ := Nat.dvd_of_mod_eq_zero hB
    rw [ha, hb] at hl ⊢
    have : a < b := Nat.lt_of_mul_lt_mul_left hl
    have h2 := Nat.mul_le_mul_left (2 ^ (r + 1)) (show a + 1 ≤ b from this)
    rw [Nat.mul_add, Nat.mul_one] at h2
    exact h2
  constructor
  · rw [u32_or_nat W (2 ^ r) (by rw [Nm.B_eq] at hl; exact hl) (by omega)]
    congr 1
    exact nat_join (r + 1) W (2 ^ r) hz hp
  · omega
theorem wds_double (r : Nat) : (Nm.wds (r * 2 ^ 1)).length ≤ (Nm.wds r).length + 1 := by
  refine Nm.wds_len ?_
  have := Nm.lt_wds r
  show r * 2 < Nm.B ^ ((Nm.wds r).length + 1)
  rw [Nat.pow_succ]
  have h2 : Nm.B ^ (Nm.wds r).length * 2 ≤ Nm.B ^ (Nm.wds r).length * Nm.B := Nat.mul_le_mul_left _ (by decide)
  omega
theorem wds_double1 (r : Nat) : (Nm.wds (r * 2 ^ 1 + 1)).length ≤ (Nm.wds r).length + 1 := by
  refine Nm.wds_len ?_
  have := Nm.lt_wds r
  show r * 2 + 1 < Nm.B ^ ((Nm.wds r).length + 1)
  rw [Nat.pow_succ]
  have h2 : Nm.B ^ (Nm.wds r).length * 2 ≤ Nm.B ^ (Nm.wds r).length * Nm.B := Nat.mul_le_mul_left _ (by decide)
  omega
theorem two_small (r : Nat) (h : r < 32) : ((2 ^ r : Nat) : Int) = 2 ^ r % 4294967296 := by
  have h2 : (2 : Nat) ^ r ≤ 2 ^ 31 := Nat.pow_le_pow_right (by decide) (by omega)
  have e : ((2 ^ r : Nat) : Int) = 2 ^ r := by simp
  rw [← e]
  generalize (2 : Nat) ^ r = n at h2 ⊢
  omega
def PartsPost (w : World) (q r : Nat) (e : Ending) (w' : World) : Prop := ∃ v1 v2, e = .returned (.tuple #[v1, v2]) ∧ Big w' v1 q ∧ Big w' v2 r ∧ Below w.heap.size w w'
theorem Big.fresh_set {w : World} {v : Value} {n g i : Nat} {u : Value} (h : Big w v n) (hf : Fresh (g + 1) v) : Big (w.setCell ⟨g, i, none⟩ u) v n := by
  obtain ⟨a, cap, rfl, hc, h1, h2, h3⟩ := h
  refine ⟨a, cap, rfl, hc, h1, h2, fun hn => ?_⟩
  obtain ⟨b, rfl, hb, hcell⟩ := h3 hn
  have hbg : g + 1 ≤ b := hf b rfl
  refine ⟨b, rfl, by simpa [World.setCell] using hb, fun k hk => ?_⟩
  rw [← hcell k hk]
  exact World.cell?_of_block (w := w) (Below.heap_setCell w ⟨g, i, none⟩ u b (by show b ≠ g; omega))
theorem Fresh.mono {N M : Nat} {v : Value} (h : Fresh N v) (hm : M ≤ N) : Fresh M v := fun k hk => Nat.le_trans hm (h k hk)
set_option maxHeartbeats 4000000 in
theorem parts_any (v1 v2 : Value) (x y : Nat) (w : World) (H1 : Big w v1 x) (H2 : Big w v2 y) (hx : (Nm.wds x).length ≤ 300000) (hl : (Nm.wds y).length ≤ 300000) (hy : 0 < y) : Calls Tryz.prog 98 #[v1, v2] w (PartsPost w (x / y) (x % y)) := by
  obtain ⟨i0, hi, hz0, hz1, hz2⟩ := info_parts info75
  obtain ⟨a1, cap1, rfl, hcap1, hW1⟩ := H1
  obtain ⟨L1, hL1⟩ : ∃ L, (Nm.wds x).length = L := ⟨_, rfl⟩
  have HB1 : Hid (Big w (.slice a1 L1 cap1) x) := Lib.hid ⟨a1, cap1, by rw [hL1], hcap1, hW1⟩
  have HB2 := Lib.hid H2
  have X1 := Lib.hid hL1
  have HLY := Lib.hid hl
  have HY := Lib.hid hy
  rw [hL1] at hx ⊢
  obtain ⟨N, hN⟩ : ∃ N, Nm.nb x = N := ⟨_, rfl⟩
  have hN2 : N ≤ 32 * L1 := by
    have h1 := Nm.lt_wds x
    rw [hL1, Nm.Bp] at h1
    rw [← hN]
    exact (Nm.nb_le_iff x _).2 h1
  have hxN : x / 2 ^ N = 0 := by rw [← hN]; exact Nat.div_eq_of_lt (Nm.nb_lt x)
  have HN := Lib.hid hN
  have HXN := Lib.hid hxN
  clear hW1 hL1 hcap1 H2 hl hN hxN hy
  go_enter Tryz.func98, Tryz.ntmps98
  go_wp2_with (at_make; refine wpList_make_full _ rfl _ _ 45 rfl w.heap.size 67 i0 (.int .u32 0) 1 Tryz.underlying45 hi hz0 hz1 .i64 .i64 _ _ L1 rfl rfl rfl rfl (by rw [hz2]; omega) (by unfold maxLen; omega) (Nat.le_refl _) ?_; intro w1 hown1 hgr1)
  have A1 := Lib.hid (at_made hown1)
  have B1 := Lib.hid ((Below.refl w.heap.size w).grown hgr1 (Nat.le_refl _) (fun k hk => by cases hk))
  clear hown1 hgr1
  obtain ⟨g, hg⟩ : ∃ g, w.heap.size = g := ⟨_, rfl⟩
  rw [hg] at A1 ⊢
  have HG := Lib.hid hg
  clear hg
  go_wp2_with fail
  refine (bits_any _ x _ (HB1.out.below B1.out)).mono ?_
  rintro e w2 ⟨rfl, rfl⟩
  rw [HN.out]
  have V0 := Lib.hid (show Nm.val (List.replicate L1 0) = x / 2 ^ N / y * 2 ^ N by rw [val_zeros, HXN.out]; simp)
  have R0 := Lib.hid (show Big w2 (.slice none 0 0) (x / 2 ^ N % y) by rw [HXN.out, Nat.zero_mod]; exact Big.nil _)
  go_wp2
  go_loopw [7, 8] (fun r i wr => ∃ (j : Nat) (ds : List Nat), i = .int .i64 ((j : Int) - 1) ∧ j ≤ N ∧ Hid (Big wr r (x / 2 ^ j % y)) ∧ Hid (ds.length = L1) ∧ Hid (∀ d ∈ ds, d < Nm.B) ∧ Hid (Nm.val ds = x / 2 ^ j / y * 2 ^ j) ∧ Hid (At wr g ds) ∧ Hid (Below w.heap.size w wr)) (fun _ i _ => (intOf i + 1).toNat)
  case atStart => exact ⟨N, List.replicate L1 0, rfl, Nat.le_refl _, R0, Lib.hid (by simp), Lib.hid (fun d hd => by rw [(List.mem_replicate.1 hd).2]; exact Nm.B_pos), V0, A1, B1⟩
  case round =>
    obtain ⟨j, ds, rfl, hj, HR, HL, HD, HV, HAt, HB⟩ := hrel
    cases j with
    | zero =>
      have hv := HV.out
      have hr := HR.out
      rw [Nat.pow_zero, Nat.div_one, Nat.mul_one] at hv
      rw [Nat.pow_zero, Nat.div_one] at hr
      have hwd := HAt.out.wd (by have := HL.out; omega) HD.out
      have CT := trim_any (some ⟨g, 0, none⟩) ds ds.length wr hwd (Nat.le_refl _)
      rw [HL.out] at CT
      have HCT := Lib.hid CT
      have HV2 := Lib.hid hv
      have HR2 := Lib.hid hr
      clear hv hr hwd CT HV HR
      go_wp2_with fail
      refine HCT.out.mono ?_
      rintro e w3 ⟨⟨v, rfl, hbig⟩, rfl⟩
      rw [HV2.out] at hbig
      have HG2 := Lib.hid hbig
      clear hbig
      go_wp2
      go_ret2
      exact ⟨v, _, rfl, HG2.out, HR2.out, HB.out⟩
    | succ m =>
      have he : ((m + 1 : Nat) : Int) - 1 = (m : Int) := by omega
      rw [he]
      clear he
      obtain ⟨ls1, ls2⟩ := long_step x y m HY.out
      obtain ⟨r, hr⟩ : ∃ r, x / 2 ^ (m + 1) % y = r := ⟨_, rfl⟩
      obtain ⟨b, hb⟩ : ∃ b, x.testBit m = b := ⟨_, rfl⟩
      have hry : r < y := by rw [← hr]; exact Nat.mod_lt _ HY.out
      have HR1 := HR.out
      rw [hr] at ls1 ls2 HR1
      rw [hb] at ls1 ls2
      have hrl : (Nm.wds r).length ≤ 300000 := Nat.le_trans (Nm.wds_mono (Nat.le_of_lt hry)) HLY.out
      have hrl2 : (Nm.wds (r * 2)).length ≤ 300001 := Nat.le_trans (wds_double r) (by omega)
      have hrl3 : (Nm.wds (r * 2 + 1)).length ≤ 300001 := Nat.le_trans (wds_double1 r) (by omega)
      have h1l : (Nm.wds 1).length ≤ 1 := Nm.wds_len2 (by decide)
      have CU := Lib.hid (fun w H => up_new u7 r 1 w H (by omega) (by omega))
      have CB := Lib.hid (fun w H => (by have := bit_any (.slice a1 L1 cap1) x m w H (by omega); rw [hb] at this; exact this : Calls Tryz.prog 109 #[.slice a1 L1 cap1, .int .i64 (m : Int)] w fun e w' => e = .returned (.bool b) ∧ w' = w))
      have CF := Lib.hid (fun w => from_any 1 (by decide) w)
      have CP := Lib.hid (fun v3 v4 w H3 H4 => plus_new v3 v4 (r * 2) 1 w H3 H4 (by omega) (by omega))
      have GR := Lib.hid HR1
      have HA := Lib.hid HAt.out
      have hgw : w.heap.size < wr.heap.size := by have := HA.out.lt; have := HG.out; omega
      have hgg : g + 1 ≤ wr.heap.size := HA.out.lt
      -- the word
      obtain ⟨q, hq⟩ : ∃ q, m / 32 = q := ⟨_, rfl⟩
      have hq1 : Int.tdiv (m : Int) 32 = (q : Int) := by rw [Int.tdiv_eq_ediv_of_nonneg (by omega)]; omega
      have hq2 : (m : Int) / 32 = (q : Int) := by omega
      have hidx : q < ds.length := by have := HL.out; omega
      have hqL : q < L1 := by omega
      obtain ⟨s1, s2⟩ := set_bit (x / 2 ^ (m + 1) / y) (Nm.val ds) m HV.out (m % 32) rfl
      rw [hq] at s1 s2
      have hword := Nm.val_get HD.out q hidx
      rw [← hword] at s1 s2
      have VS := val_set (c := ds[q] + 2 ^ (m % 32)) hidx
      obtain ⟨d, hd⟩ : ∃ d, ds[q] = d := ⟨_, rfl⟩
      rw [hd] at s1 s2 VS
      have ld : d < 4294967296 := by rw [← hd]; exact HD.out _ (List.getElem_mem hidx)
      obtain ⟨d2, hd2⟩ : ∃ t, d + 2 ^ (m % 32) = t := ⟨_, rfl⟩
      rw [hd2] at s1 s2 VS
      have VS2 : Nm.val (ds.set q d2) = Nm.val ds + 2 ^ m := by
        rw [← hd2, Nat.mul_add] at VS
        have : Nm.B ^ q * 2 ^ (m % 32) = 2 ^ m := by rw [Nm.Bp, ← Nat.pow_add]; congr 1; omega
        rw [this] at VS
        rw [← hd2]
        omega
      have HVS := Lib.hid VS2
      have HIX := Lib.hid hidx
      have HDD := Lib.hid (show ∀ h : q < ds.length, ds[q]'h = d from fun _ => hd)
      have HS2 := Lib.hid s2
      have hone : ((2 ^ (m % 32) : Nat) : Int) = 2 ^ (m % 32) % 4294967296 := two_small (m % 32) (Nat.mod_lt _ (by decide))
      rw [hone] at s1
      have S1 := Lib.hid s1
      have L1S := Lib.hid ls1
      have L2S := Lib.hid ls2
      clear VS VS2 hword hd s1 s2 hd2 hidx ls1 ls2 HR1 hq hone hr hb
      have CL := Lib.hid (fun v3 z w H3 H4 => less_any v3 v2 z y w H3 H4)
      have CM := Lib.hid (fun v3 z w H3 H4 hz hyz => minus_new v3 v2 z y w H3 H4 hz hyz)
      have HQI := Lib.hid (show Int.tdiv (m : Int) 32 = (q : Int) from hq1)
      cases b
      · by_cases h3 : r * 2 < y
        · have e1 := L1S.out
          have e2 := L2S.out
          simp only [Bool.toNat_true, Bool.toNat_false, Nat.add_zero] at e1 e2
          rw [if_pos h3] at e1 e2
          rw [Nat.add_zero] at e2
          have hcm : Nm.cmpN (r * 2) y = -1 := by unfold Nm.cmpN; rw [if_pos h3]
          have E1 := Lib.hid e1
          have E2 := Lib.hid e2
          clear e1 e2 h3 L1S L2S
          go_wp2_with fail
          refine (CU.out _ GR.out).mono ?_
          rintro e w3 ⟨v3, rfl, hbig3, hb3, hf3⟩
          have G3 := Lib.hid (show Big w3 v3 (r * 2) from hbig3)
          have B3 := Lib.hid hb3
          have F3 := Lib.hid (hf3.mono hgg)
          clear hbig3 hb3 hf3
          go_wp2_with fail
          refine (CB.out _ ((HB1.out.below HB.out).below B3.out)).mono ?_
          rintro e w4 ⟨rfl, rfl⟩
          have GY3 := Lib.hid ((HB2.out.below HB.out).below B3.out)
          go_wp2_with fail
          refine (CL.out _ (r * 2) _ G3.out GY3.out).mono ?_
          rintro e w7 ⟨rfl, hb7⟩
          have G7 := Lib.hid (G3.out.below hb7)
          have GY7 := Lib.hid (GY3.out.below hb7)
          have B7 := Lib.hid (B3.out.trans (hb7.mono B3.out.size))
          clear hb7
          rw [hcm]
          have HA8 := Lib.hid (HA.out.below B7.out)
          have BB := Lib.hid (HB.out.trans (B7.out.mono (Nat.le_of_lt hgw)))
          go_wp2
          go_roundw
          case rel => exact ⟨m, ds, rfl, by omega, Lib.hid (by rw [E1.out]; exact G7.out), HL, HD, Lib.hid (by rw [E2.out]; exact HV.out), HA8, BB⟩
          case measure => simp [intOf]
        · have e1 := L1S.out
          have e2 := L2S.out
          simp only [Bool.toNat_true, Bool.toNat_false, Nat.add_zero] at e1 e2
          rw [if_neg h3] at e1 e2
          obtain ⟨cc, hcc, hc0⟩ : ∃ cc, Nm.cmpN (r * 2) y = cc ∧ 0 ≤ cc := ⟨_, rfl, by unfold Nm.cmpN; rw [if_neg h3]; split <;> omega⟩
          have dcc : decide (0 ≤ cc) = true := decide_eq_true hc0
          have HCC := Lib.hid hcc
          have E1 := Lib.hid e1
          have E2 := Lib.hid e2
          have HZ := Lib.hid (show y ≤ r * 2 by omega)
          clear e1 e2 h3 L1S L2S hcc
          go_wp2_with fail
          refine (CU.out _ GR.out).mono ?_
          rintro e w3 ⟨v3, rfl, hbig3, hb3, hf3⟩
          have G3 := Lib.hid (show Big w3 v3 (r * 2) from hbig3)
          have B3 := Lib.hid hb3
          have F3 := Lib.hid (hf3.mono hgg)
          clear hbig3 hb3 hf3
          go_wp2_with fail
          refine (CB.out _ ((HB1.out.below HB.out).below B3.out)).mono ?_
          rintro e w4 ⟨rfl, rfl⟩
          have GY3 := Lib.hid ((HB2.out.below HB.out).below B3.out)
          go_wp2_with fail
          refine (CL.out _ (r * 2) _ G3.out GY3.out).mono ?_
          rintro e w7 ⟨rfl, hb7⟩
          have G7 := Lib.hid (G3.out.below hb7)
          have GY7 := Lib.hid (GY3.out.below hb7)
          have B7 := Lib.hid (B3.out.trans (hb7.mono B3.out.size))
          clear hb7
          rw [HCC.out]
          go_wp2_with fail
          refine (CM.out _ (r * 2) _ G7.out GY7.out (by have := hrl2; have := hrl3; omega) HZ.out).mono ?_
          rintro e w8 ⟨v8, rfl, hbig8, hb8, hf8⟩
          have G8 := Lib.hid hbig8
          have B8 := Lib.hid (B7.out.trans (hb8.mono B7.out.size))
          have F8 := Lib.hid (hf8.mono (Nat.le_trans hgg B7.out.size))
          clear hbig8 hb8 hf8
          have HA8 := Lib.hid (HA.out.below B8.out)
          have BB := Lib.hid (HB.out.trans (B8.out.mono (Nat.le_of_lt hgw)))
          obtain ⟨hcell, hfz⟩ := HA8.out.cell q HIX.out
          rw [HDD.out] at hcell
          have hg8 := HA8.out.lt
          have s1 := S1.out
          go_wp2
          go_roundw
          case rel => exact ⟨m, ds.set q d2, rfl, by omega, Lib.hid (by rw [E1.out]; exact G8.out.fresh_set F8.out), Lib.hid (by rw [List.length_set]; exact HL.out), Lib.hid (set_lt HD.out HS2.out), Lib.hid (by rw [E2.out, HVS.out, HV.out]), Lib.hid (HA8.out.set _ _ HIX.out), Lib.hid (BB.out.setCell (by have := HG.out; show w.heap.size ≤ g; omega) _)⟩
          case measure => simp [intOf]
      · by_cases h3 : r * 2 + 1 < y
        · have e1 := L1S.out
          have e2 := L2S.out
          simp only [Bool.toNat_true, Bool.toNat_false, Nat.add_zero] at e1 e2
          rw [if_pos h3] at e1 e2
          rw [Nat.add_zero] at e2
          have hcm : Nm.cmpN (r * 2 + 1) y = -1 := by unfold Nm.cmpN; rw [if_pos h3]
          have E1 := Lib.hid e1
          have E2 := Lib.hid e2
          clear e1 e2 h3 L1S L2S
          go_wp2_with fail
          refine (CU.out _ GR.out).mono ?_
          rintro e w3 ⟨v3, rfl, hbig3, hb3, hf3⟩
          have G3 := Lib.hid (show Big w3 v3 (r * 2) from hbig3)
          have B3 := Lib.hid hb3
          have F3 := Lib.hid (hf3.mono hgg)
          clear hbig3 hb3 hf3
          go_wp2_with fail
          refine (CB.out _ ((HB1.out.below HB.out).below B3.out)).mono ?_
          rintro e w4 ⟨rfl, rfl⟩
          go_wp2_with fail
          refine (CF.out _).mono ?_
          rintro e w5 ⟨v5, rfl, hbig5, hb5⟩
          have G5 := Lib.hid hbig5
          have G35 := Lib.hid (G3.out.below hb5)
          have B5 := Lib.hid (B3.out.trans (hb5.mono B3.out.size))
          clear hbig5 hb5
          go_wp2_with fail
          refine (CP.out _ _ _ G35.out G5.out).mono ?_
          rintro e w6 ⟨v6, rfl, hbig6, hb6, hf6⟩
          have G6 := Lib.hid hbig6
          have B6 := Lib.hid (B5.out.trans (hb6.mono B5.out.size))
          have F6 := Lib.hid (hf6.mono (Nat.le_trans hgg B5.out.size))
          clear hbig6 hb6 hf6
          have GY6 := Lib.hid ((HB2.out.below HB.out).below B6.out)
          go_wp2_with fail
          refine (CL.out _ (r * 2 + 1) _ G6.out GY6.out).mono ?_
          rintro e w7 ⟨rfl, hb7⟩
          have G7 := Lib.hid (G6.out.below hb7)
          have GY7 := Lib.hid (GY6.out.below hb7)
          have B7 := Lib.hid (B6.out.trans (hb7.mono B6.out.size))
          clear hb7
          rw [hcm]
          have HA8 := Lib.hid (HA.out.below B7.out)
          have BB := Lib.hid (HB.out.trans (B7.out.mono (Nat.le_of_lt hgw)))
          go_wp2
          go_roundw
          case rel => exact ⟨m, ds, rfl, by omega, Lib.hid (by rw [E1.out]; exact G7.out), HL, HD, Lib.hid (by rw [E2.out]; exact HV.out), HA8, BB⟩
          case measure => simp [intOf]
        · have e1 := L1S.out
          have e2 := L2S.out
          simp only [Bool.toNat_true, Bool.toNat_false, Nat.add_zero] at e1 e2
          rw [if_neg h3] at e1 e2
          obtain ⟨cc, hcc, hc0⟩ : ∃ cc, Nm.cmpN (r * 2 + 1) y = cc ∧ 0 ≤ cc := ⟨_, rfl, by unfold Nm.cmpN; rw [if_neg h3]; split <;> omega⟩
          have dcc : decide (0 ≤ cc) = true := decide_eq_true hc0
          have HCC := Lib.hid hcc
          have E1 := Lib.hid e1
          have E2 := Lib.hid e2
          have HZ := Lib.hid (show y ≤ r * 2 + 1 by omega)
          clear e1 e2 h3 L1S L2S hcc
          go_wp2_with fail
          refine (CU.out _ GR.out).mono ?_
          rintro e w3 ⟨v3, rfl, hbig3, hb3, hf3⟩
          have G3 := Lib.hid (show Big w3 v3 (r * 2) from hbig3)
          have B3 := Lib.hid hb3
          have F3 := Lib.hid (hf3.mono hgg)
          clear hbig3 hb3 hf3
          go_wp2_with fail
          refine (CB.out _ ((HB1.out.below HB.out).below B3.out)).mono ?_
          rintro e w4 ⟨rfl, rfl⟩
          go_wp2_with fail
          refine (CF.out _).mono ?_
          rintro e w5 ⟨v5, rfl, hbig5, hb5⟩
          have G5 := Lib.hid hbig5
          have G35 := Lib.hid (G3.out.below hb5)
          have B5 := Lib.hid (B3.out.trans (hb5.mono B3.out.size))
          clear hbig5 hb5
          go_wp2_with fail
          refine (CP.out _ _ _ G35.out G5.out).mono ?_
          rintro e w6 ⟨v6, rfl, hbig6, hb6, hf6⟩
          have G6 := Lib.hid hbig6
          have B6 := Lib.hid (B5.out.trans (hb6.mono B5.out.size))
          have F6 := Lib.hid (hf6.mono (Nat.le_trans hgg B5.out.size))
          clear hbig6 hb6 hf6
          have GY6 := Lib.hid ((HB2.out.below HB.out).below B6.out)
          go_wp2_with fail
          refine (CL.out _ (r * 2 + 1) _ G6.out GY6.out).mono ?_
          rintro e w7 ⟨rfl, hb7⟩
          have G7 := Lib.hid (G6.out.below hb7)
          have GY7 := Lib.hid (GY6.out.below hb7)
          have B7 := Lib.hid (B6.out.trans (hb7.mono B6.out.size))
          clear hb7
          rw [HCC.out]
          go_wp2_with fail
          refine (CM.out _ (r * 2 + 1) _ G7.out GY7.out (by have := hrl2; have := hrl3; omega) HZ.out).mono ?_
          rintro e w8 ⟨v8, rfl, hbig8, hb8, hf8⟩
          have G8 := Lib.hid hbig8
          have B8 := Lib.hid (B7.out.trans (hb8.mono B7.out.size))
          have F8 := Lib.hid (hf8.mono (Nat.le_trans hgg B7.out.size))
          clear hbig8 hb8 hf8
          have HA8 := Lib.hid (HA.out.below B8.out)
          have BB := Lib.hid (HB.out.trans (B8.out.mono (Nat.le_of_lt hgw)))
          obtain ⟨hcell, hfz⟩ := HA8.out.cell q HIX.out
          rw [HDD.out] at hcell
          have hg8 := HA8.out.lt
          have s1 := S1.out
          go_wp2
          go_roundw
          case rel => exact ⟨m, ds.set q d2, rfl, by omega, Lib.hid (by rw [E1.out]; exact G8.out.fresh_set F8.out), Lib.hid (by rw [List.length_set]; exact HL.out), Lib.hid (set_lt HD.out HS2.out), Lib.hid (by rw [E2.out, HVS.out, HV.out]), Lib.hid (HA8.out.set _ _ HIX.out), Lib.hid (BB.out.setCell (by have := HG.out; show w.heap.size ≤ g; omega) _)⟩
          case measure => simp [intOf]
end Go.Proofs.YtffohkpohgkglaaGreat
