/-
  WALKS of the document's whole numbers: Up.
-/
import Derived.Test.YtffohkpohgkglaaGreatBigC
namespace Go.Proofs.YtffohkpohgkglaaGreat
set_option linter.unusedVariables false
set_option linter.unusedSimpArgs false
open Go.RowKit
theorem zero_cells (n : Nat) : List.replicate n (Value.int .u32 0) = cells32 (List.replicate n 0) := by
  unfold cells32; rw [List.map_replicate]; rfl
theorem val_zeros (n : Nat) : Nm.val (List.replicate n 0) = 0 := by
  induction n with
  | zero => rfl
  | succ n ih => rw [List.replicate_succ]; simp [Nm.val, ih]
theorem up_step (x i q r V c : Nat) (h : V + Nm.B ^ (q + i) * c = x % Nm.B ^ i * (Nm.B ^ q * 2 ^ r)) :
    V + Nm.B ^ (q + i) * ((x / Nm.B ^ i % Nm.B * 2 ^ r + c) % Nm.B) + Nm.B ^ (q + (i + 1)) * ((x / Nm.B ^ i % Nm.B * 2 ^ r + c) / Nm.B) = x % Nm.B ^ (i + 1) * (Nm.B ^ q * 2 ^ r) := by
  rw [Nm.mod_next, ← Nat.add_assoc q i 1, Nat.pow_succ Nm.B (q + i), Nat.add_mul]
  generalize x / Nm.B ^ i % Nm.B = p at *
  have e : Nm.B ^ i * p * (Nm.B ^ q * 2 ^ r) = Nm.B ^ (q + i) * (p * 2 ^ r) := by
    rw [Nat.pow_add, Nat.mul_assoc, Nat.mul_comm (Nm.B ^ q) (Nm.B ^ i), Nat.mul_assoc, Nat.mul_left_comm p]
  rw [e, ← h]
  have e2 := Nat.div_add_mod (p * 2 ^ r + c) Nm.B
  generalize Nm.B ^ (q + i) = P at *
  have e3 : P * (p * 2 ^ r + c) = P * (Nm.B * ((p * 2 ^ r + c) / Nm.B)) + P * ((p * 2 ^ r + c) % Nm.B) := by rw [← Nat.mul_add, e2]
  rw [Nat.mul_add] at e3
  rw [Nat.mul_assoc P Nm.B]
  omega
theorem shl_or (p r c : Nat) (hp : p < 4294967296) (hr : r < 32) (hc : c < 2 ^ r) : IntKind.u64.wrap ((p : Int) * 2 ^ r) = ((p * 2 ^ r : Nat) : Int) ∧ bits .or .u64 ((p * 2 ^ r : Nat) : Int) (c : Int) = ((p * 2 ^ r + c : Nat) : Int) ∧ p * 2 ^ r + c < 2 ^ 64 ∧ (p * 2 ^ r + c) / Nm.B < 2 ^ r := by
  have h32 : (2 : Nat) ^ r ≤ 2 ^ 31 := Nat.pow_le_pow_right (by decide) (by omega)
  have hm : (p + 1) * 2 ^ r ≤ 4294967296 * 2 ^ r := Nat.mul_le_mul_right _ hp
  rw [Nat.add_mul, Nat.one_mul] at hm
  have hlt : p * 2 ^ r + c < 2 ^ 64 := by omega
  refine ⟨?_, ?_, hlt, ?_⟩
  · have e : (p : Int) * 2 ^ r = ((p * 2 ^ r : Nat) : Int) := by simp
    rw [e, IntKind.wrap_u64]; omega
  · rw [u64_or_nat _ _ (by omega) (by omega)]
    congr 1
    exact nat_join r (p * 2 ^ r) c (Nat.mul_mod_left _ _) hc
  · rw [Nat.div_lt_iff_lt_mul Nm.B_pos, Nm.B_eq]; omega
set_option maxHeartbeats 1000000 in
theorem up_new (v1 : Value) (x k : Nat) (w : World) (H1 : Big w v1 x) (hx : (Nm.wds x).length ≤ 400000) (hk : k ≤ 10000000) : Calls Tryz.prog 99 #[v1, .int .i64 (k : Int)] w (BigNew w (x * 2 ^ k)) := by
  obtain ⟨i0, hi, hz0, hz1, hz2⟩ := info_parts info75
  obtain ⟨a1, cap1, rfl, _, hW1⟩ := H1
  obtain ⟨L1, hL1⟩ : ∃ L, (Nm.wds x).length = L := ⟨_, rfl⟩
  have W1 := Lib.hid hW1
  have X1 := Lib.hid hL1
  rw [hL1] at hx ⊢
  clear hW1 hL1
  obtain ⟨q, hq⟩ : ∃ q, k / 32 = q := ⟨_, rfl⟩
  obtain ⟨r, hr⟩ : ∃ r, k % 32 = r := ⟨_, rfl⟩
  have hkq : 2 ^ k = Nm.B ^ q * 2 ^ r := by rw [Nm.Bp, ← Nat.pow_add]; congr 1; omega
  have hq1 : Int.tdiv (k : Int) 32 = (q : Int) := by rw [Int.tdiv_eq_ediv_of_nonneg (by omega)]; omega
  have hq2 : (k : Int) / 32 = (q : Int) := by omega
  have hq3 : q ≤ 400000 := by omega
  have V0 := Lib.hid (show Nm.val (List.replicate q 0) + Nm.B ^ (q + 0) * 0 = x % Nm.B ^ 0 * (Nm.B ^ q * 2 ^ r) by rw [val_zeros]; simp [Nat.mod_one])
  rw [hkq]
  have HR := Lib.hid (show r < 32 by omega)
  have HKR := Lib.hid hr
  clear hkq hq hr
  go_enter Tryz.func99, Tryz.ntmps99
  go_wp2_with (at_make; refine wpList_make_full _ rfl _ _ 45 rfl w.heap.size 67 i0 (.int .u32 0) 1 Tryz.underlying45 hi hz0 hz1 .i64 .i64 _ _ q rfl rfl rfl rfl (by rw [hz2]; omega) (by unfold maxLen; omega) (Nat.le_refl _) ?_; intro w1 hown1 hgr1)
  have hO1 : Own w1 w.heap.size (.slice (some ⟨w.heap.size, 0, none⟩) q q) (List.replicate q 0) := by
    unfold Own
    rw [← zero_cells, List.length_replicate]
    have := hown1
    rw [show (Value.int .u32 0).cells = #[Value.int .u32 0] from rfl, toList_madeCells_one, Nat.mul_one] at this
    exact this
  have O1 := Lib.hid hO1
  have B1 := Lib.hid ((Below.refl w.heap.size w).grown hgr1 (Nat.le_refl _) (fun k hk => by cases hk))
  clear hown1 hgr1 hO1
  go_wp2
  go_loopw [5, 6, 7, 8] (fun o c i _ wr => ∃ (j k : Nat) (ds : List Nat), i = .int .i64 j ∧ c = .int .u64 k ∧ ds.length = q + j ∧ j ≤ L1 ∧ Hid (k < 2 ^ r) ∧ Hid (∀ d ∈ ds, d < Nm.B) ∧ Hid (Nm.val ds + Nm.B ^ (q + j) * k = x % Nm.B ^ j * (Nm.B ^ q * 2 ^ r)) ∧ Hid (Own wr w.heap.size o ds) ∧ Hid (Below w.heap.size w wr)) (fun _ _ i _ _ => (L1 + 1 - intOf i).toNat)
  case atStart => exact ⟨0, 0, List.replicate q 0, rfl, rfl, by simp, by omega, Lib.hid (Nat.two_pow_pos r), Lib.hid (fun d hd => by rw [(List.mem_replicate.1 hd).2]; exact Nm.B_pos), V0, O1, B1⟩
  case round =>
    obtain ⟨j, c, ds, rfl, rfl, hlen, hj, HC, HD, HV, HO, HB⟩ := hrel
    have HS := Lib.hid (Below.size HB.out)
    obtain ⟨ao, co, rfl⟩ := own_shape HO.out
    have HL := Lib.hid hlen
    clear hlen
    by_cases hA : j < L1
    · have da : decide ((j : Int) < (L1 : Int)) = true := decide_eq_true (by omega)
      have da2 : decide (j < L1) = true := decide_eq_true hA
      obtain ⟨b1, rfl, hb1, hc1⟩ := big_word (W1.out.below HB.out) j (by have := X1.out; omega)
      have lp : x / Nm.B ^ j % Nm.B < 4294967296 := Nat.mod_lt _ Nm.B_pos
      have PS := up_step x j q r (Nm.val ds) c HV.out
      obtain ⟨p, hp⟩ : ∃ p, x / Nm.B ^ j % Nm.B = p := ⟨_, rfl⟩
      rw [hp] at hc1 lp PS
      obtain ⟨s1, s2, s3, s4⟩ := shl_or p r c lp HR.out HC.out
      rw [← HKR.out] at s1
      have hlo := lo_bits (p * 2 ^ r + c) s3
      obtain ⟨P, hP⟩ : ∃ P, p * 2 ^ (k % 32) = P := ⟨_, rfl⟩
      have hP2 : p * 2 ^ r = P := by rw [← hP, HKR.out]
      obtain ⟨T, hT⟩ : ∃ T, p * 2 ^ r + c = T := ⟨_, rfl⟩
      rw [hP] at s1
      rw [hT] at s2 s3 s4 hlo PS
      rw [hP2] at s2
      obtain ⟨m, hm⟩ : ∃ m, T % Nm.B = m := ⟨_, rfl⟩
      obtain ⟨c2, hc2⟩ : ∃ t, T / Nm.B = t := ⟨_, rfl⟩
      have lm : m < 4294967296 := by rw [← hm]; exact Nat.mod_lt _ Nm.B_pos
      rw [hm] at hlo PS
      rw [hc2] at PS s4
      have hcar : (T : Int) / 4294967296 = (c2 : Int) := by rw [Nm.B_eq] at hc2; omega
      have HP := Lib.hid PS
      have H4 := Lib.hid s4
      clear PS s4 hm hc2 hT hP hP2 hp
      go_wp2_with (at_builtin; refine wpList_append_own _ rfl (.tmp 29) (.tmp 33) 45 rfl w.heap.size 67 i0 (.int .u32 0) 1 4 Tryz.underlying45 hi hz0 hz1 hz2 rfl (by decide) (.slice ao ds.length co) ds.length (cells32 ds) rfl (HO.out.below ((Below.refl _ _).alloc (Nat.le_refl _) _)) ⟨wr.heap.size, 0, none⟩ 1 1 (cells32 [m]) rfl rfl (alloc_row _ [m]) (cells32_one _) (by unfold maxLen; have := HL.out; omega) (by have := HL.out; omega) (by have := HS.out; simp; omega) ?_; intro v2 w2 hown2 hgr2 hne2)
      obtain ⟨g1, g2⟩ := own_grow hown2 HO.out hgr2 HB.out HS.out
      have G1 := Lib.hid g1
      have G2 := Lib.hid g2
      clear hown2 hgr2 hne2 g1 g2
      go_wp2
      go_roundw
      case rel => exact ⟨j + 1, c2, ds ++ [m], rfl, rfl, by rw [List.length_append, HL.out]; rfl, by omega, H4, Lib.hid (snoc_lt HD.out lm), Lib.hid (by rw [snoc_val, HL.out]; exact HP.out), G1, G2⟩
      case measure => simp [intOf]; omega
    · have da : decide ((j : Int) < (L1 : Int)) = false := decide_eq_false (by omega)
      have da2 : decide (j < L1) = false := decide_eq_false hA
      obtain rfl : j = L1 := by omega
      have hv := HV.out
      rw [Nm.mod_all (by have := X1.out; omega)] at hv
      have hcl : c < 4294967296 := by
        have h1 := HC.out
        have h2 : (2 : Nat) ^ r ≤ 2 ^ 32 := Nat.pow_le_pow_right (by decide) (by have := HR.out; omega)
        omega
      go_wp2_with (at_builtin; refine wpList_append_own _ rfl (.tmp 37) (.tmp 40) 45 rfl w.heap.size 67 i0 (.int .u32 0) 1 4 Tryz.underlying45 hi hz0 hz1 hz2 rfl (by decide) (.slice ao ds.length co) ds.length (cells32 ds) rfl (HO.out.below ((Below.refl _ _).alloc (Nat.le_refl _) _)) ⟨wr.heap.size, 0, none⟩ 1 1 (cells32 [c]) rfl rfl (alloc_row _ [c]) (cells32_one _) (by unfold maxLen; have := HL.out; omega) (by have := HL.out; omega) (by have := HS.out; simp; omega) ?_; intro v2 w2 hown2 hgr2 hne2)
      obtain ⟨g1, g2⟩ := own_grow hown2 HO.out hgr2 HB.out HS.out
      obtain ⟨a3, c3, rfl, hcap3, hwd⟩ := g1.wd (by rw [List.length_append, HL.out]; simp; omega) (snoc_lt HD.out hcl)
      have HW := Lib.hid hwd
      have G2 := Lib.hid g2
      have FR := Lib.hid (show Fresh w.heap.size (.slice a3 (ds ++ [c]).length c3) from own_block g1)
      have HV2 := Lib.hid (show Nm.val (ds ++ [c]) = x * (Nm.B ^ q * 2 ^ r) by rw [snoc_val, HL.out]; exact hv)
      obtain ⟨es, hes⟩ : ∃ es, ds ++ [c] = es := ⟨_, rfl⟩
      rw [hes] at hcap3 HW HV2 FR ⊢
      clear hown2 hgr2 hne2 g1 g2 hwd hes hv
      go_wp2_with fail
      refine (trim_new a3 es c3 _ HW.out hcap3).mono ?_
      rintro e w3 ⟨⟨v, rfl, hbig, hfr⟩, rfl⟩
      have HG := Lib.hid hbig
      have HF := Lib.hid (hfr _ FR.out)
      clear hbig hfr
      go_wp2
      go_ret
      exact ⟨v, rfl, by rw [← HV2.out]; exact HG.out, G2.out, HF.out⟩
theorem up_any (v1 : Value) (x k : Nat) (w : World) (H1 : Big w v1 x) (hx : (Nm.wds x).length ≤ 400000) (hk : k ≤ 10000000) : Calls Tryz.prog 99 #[v1, .int .i64 (k : Int)] w (BigPost w (x * 2 ^ k)) :=
  (up_new v1 x k w H1 hx hk).mono fun _ _ h => h.post
end Go.Proofs.YtffohkpohgkglaaGreat
