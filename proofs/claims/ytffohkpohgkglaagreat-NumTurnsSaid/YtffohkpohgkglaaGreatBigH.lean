/-
  WALKS of the document's whole numbers: Times.
-/
import Derived.Test.YtffohkpohgkglaaGreatBigD
namespace Go.Proofs.YtffohkpohgkglaaGreat
set_option linter.unusedVariables false
set_option linter.unusedSimpArgs false
open Go.RowKit
theorem val_set {ds : List Nat} {i c : Nat} (hi : i < ds.length) : Nm.val (ds.set i c) + Nm.B ^ i * ds[i] = Nm.val ds + Nm.B ^ i * c := by
  induction ds generalizing i with
  | nil => simp at hi
  | cons d ds ih =>
    cases i with
    | zero => simp [Nm.val]; omega
    | succ i =>
      have h := ih (i := i) (by simpa using hi)
      simp only [List.set_cons_succ, Nm.val, List.getElem_cons_succ, Nat.pow_succ]
      generalize ds[i]'(by simpa using hi) = e at *
      rw [Nat.mul_comm (Nm.B ^ i) Nm.B, Nat.mul_assoc, Nat.mul_assoc, Nat.add_assoc, ← Nat.mul_add, h, Nat.mul_add]
      omega
theorem set_lt {ds : List Nat} {i c : Nat} (h : ∀ d ∈ ds, d < Nm.B) (hc : c < Nm.B) : ∀ d ∈ ds.set i c, d < Nm.B := by
  intro d hd
  rcases List.mem_or_eq_of_mem_set hd with h1 | h1
  · exact h d h1
  · rw [h1]; exact hc
/-- a row at the head of a block -/
def At (w : World) (g : Nat) (ds : List Nat) : Prop := Own w g (.slice (some ⟨g, 0, none⟩) ds.length ds.length) ds
theorem At.cell {w : World} {g : Nat} {ds : List Nat} (h : At w g ds) (i : Nat) (hi : i < ds.length) : w.cell? ⟨g, i, none⟩ = some (.int .u32 ((ds[i] : Nat) : Int)) ∧ w.frozen? ⟨g, i, none⟩ = false := by
  rcases h.2 with ⟨h1, _⟩ | ⟨g', cap, cur, hv, hg, hc, h3, h4, h5, h6⟩
  · cases h1
  · cases hv
    refine ⟨?_, frozen_of_row _ _ _ _ _ hc⟩
    rw [cell_of_row _ _ _ _ _ _ hc, ← Array.getElem?_toList]
    have := congrArg (fun l => l[i]?) h6
    simp only [Nat.mul_one, List.getElem?_take, if_pos hi, cells32_get ds i hi] at this
    exact this
theorem At.set {w : World} {g : Nat} {ds : List Nat} (h : At w g ds) (i c : Nat) (hi : i < ds.length) : At (w.setCell ⟨g, i, none⟩ (.int .u32 (c : Int))) g (ds.set i c) := by
  rcases h.2 with ⟨h1, _⟩ | ⟨g', cap, cur, hv, hg, hc, h3, h4, h5, h6⟩
  · cases h1
  · cases hv
    refine ⟨by rw [cells32_length, Nat.mul_one], .inr ⟨g, ds.length, cur.setIfInBounds i (.int .u32 (c : Int)), by rw [List.length_set], Nat.le_refl _, heap_setCell_same _ _ _ _ _ _ hc, by simp, h4, by simpa using h5, ?_⟩⟩
    rw [List.length_set, Nat.mul_one] at *
    rw [Array.toList_setIfInBounds, List.take_set, h6]
    unfold cells32
    rw [List.map_set]
theorem At.lt {w : World} {g : Nat} {ds : List Nat} (h : At w g ds) : g < w.heap.size := by
  rcases h.2 with ⟨h1, _⟩ | ⟨g', cap, cur, hv, hg, hc, h3, h4, h5, h6⟩
  · cases h1
  · cases hv
    exact (Array.getElem?_eq_some_iff.1 hc).1
theorem At.below {w w' : World} {g : Nat} {ds : List Nat} (h : At w g ds) (hb : Below w.heap.size w w') : At w' g ds := Own.below h hb
theorem At.wd {w : World} {g : Nat} {ds : List Nat} (h : At w g ds) (hl : ds.length ≤ 1000000) (h32 : ∀ c ∈ ds, c < Nm.B) : Wd w (some ⟨g, 0, none⟩) ds := by
  obtain ⟨a, cap, hv, hc, hw⟩ := Own.wd h hl h32
  cases hv
  exact hw
/-- a new row of noughts -/
theorem at_made {w1 : World} {g q : Nat} (hown : w1.ownsRow g 67 1 (.slice (some ⟨g, 0, none⟩) q q) q (madeCells (Value.int .u32 0).cells (q * 1)).toList) : At w1 g (List.replicate q 0) := by
  unfold At Own
  rw [← zero_cells, List.length_replicate]
  rw [show (Value.int .u32 0).cells = #[Value.int .u32 0] from rfl, toList_madeCells_one, Nat.mul_one] at hown
  exact hown
/-- the step of a product -/
theorem times_step (V V2 P0 y p c d t i k : Nat) (h : V + Nm.B ^ (i + k) * c = P0 + p * (y % Nm.B ^ k) * Nm.B ^ i) (hs : V2 + Nm.B ^ (i + k) * d = V + Nm.B ^ (i + k) * (t % Nm.B)) (ht : t = c + d + p * (y / Nm.B ^ k % Nm.B)) :
    V2 + Nm.B ^ (i + (k + 1)) * (t / Nm.B) = P0 + p * (y % Nm.B ^ (k + 1)) * Nm.B ^ i := by
  rw [Nm.mod_next, ← Nat.add_assoc i k 1, Nat.pow_succ Nm.B (i + k), Nat.mul_add, Nat.add_mul]
  generalize y / Nm.B ^ k % Nm.B = q at *
  have e : p * (Nm.B ^ k * q) * Nm.B ^ i = Nm.B ^ (i + k) * (p * q) := by
    rw [Nat.pow_add, Nat.mul_left_comm p, Nat.mul_comm _ (Nm.B ^ i), Nat.mul_assoc]
  rw [e]
  have e2 := Nat.div_add_mod t Nm.B
  generalize Nm.B ^ (i + k) = P at *
  have e3 : P * t = P * (Nm.B * (t / Nm.B)) + P * (t % Nm.B) := by rw [← Nat.mul_add, e2]
  have e4 : P * t = P * c + P * d + P * (p * q) := by rw [ht, Nat.mul_add, Nat.mul_add]
  rw [Nat.mul_assoc P Nm.B]
  omega
def Zero (ds : List Nat) (n : Nat) : Prop := ∀ t (h : t < ds.length), n ≤ t → ds[t] = 0
theorem Zero.set {ds : List Nat} {n i c : Nat} (h : Zero ds n) (hi : i < n) : Zero (ds.set i c) n := by
  intro t ht hn
  rw [List.getElem_set_ne (by omega)]
  exact h t (by simpa using ht) hn
theorem pq_bound (p q : Nat) (hp : p < 4294967296) (hq : q < 4294967296) : p * q ≤ 18446744065119617025 := Nat.mul_le_mul (show p ≤ 4294967295 by omega) (show q ≤ 4294967295 by omega)
set_option maxHeartbeats 2000000 in
theorem times_any (v1 v2 : Value) (x y : Nat) (w : World) (H1 : Big w v1 x) (H2 : Big w v2 y) (hx : (Nm.wds x).length ≤ 400000) (hy : (Nm.wds y).length ≤ 400000) : Calls Tryz.prog 97 #[v1, v2] w (BigPost w (x * y)) := by
  obtain ⟨i0, hi, hz0, hz1, hz2⟩ := info_parts info75
  obtain ⟨a1, cap1, rfl, _, hW1⟩ := H1
  obtain ⟨a2, cap2, rfl, _, hW2⟩ := H2
  obtain ⟨L1, hL1⟩ : ∃ L, (Nm.wds x).length = L := ⟨_, rfl⟩
  obtain ⟨L2, hL2⟩ : ∃ L, (Nm.wds y).length = L := ⟨_, rfl⟩
  have W1 := Lib.hid hW1
  have W2 := Lib.hid hW2
  have X1 := Lib.hid hL1
  have X2 := Lib.hid hL2
  rw [hL1] at hx ⊢
  rw [hL2] at hy ⊢
  clear hW1 hW2 hL1 hL2
  go_enter Tryz.func97, Tryz.ntmps97
  go_wp2_with (at_make; refine wpList_make_full _ rfl _ _ 45 rfl w.heap.size 67 i0 (.int .u32 0) 1 Tryz.underlying45 hi hz0 hz1 .i64 .i64 _ _ (L1 + L2) rfl rfl (by simp) (by simp) (by rw [hz2]; omega) (by unfold maxLen; omega) (Nat.le_refl _) ?_; intro w1 hown1 hgr1)
  have A1 := Lib.hid (at_made hown1)
  have B1 := Lib.hid ((Below.refl w.heap.size w).grown hgr1 (Nat.le_refl _) (fun k hk => by cases hk))
  clear hown1 hgr1
  obtain ⟨g, hg⟩ : ∃ g, w.heap.size = g := ⟨_, rfl⟩
  rw [hg] at A1 ⊢
  obtain ⟨n, hn⟩ : ∃ n, L1 + L2 = n := ⟨_, rfl⟩
  have HN := Lib.hid hn
  have hn8 : n ≤ 800000 := by omega
  have HG := Lib.hid hg
  rw [hn] at A1 ⊢
  clear hn hg
  have V0 := Lib.hid (show Nm.val (List.replicate n 0) = x % Nm.B ^ 0 * y by rw [val_zeros]; simp [Nat.mod_one])
  go_wp2
  go_loopw [6, 7, 8] (fun i _ _ wr => ∃ (j : Nat) (ds : List Nat), i = .int .i64 j ∧ j ≤ L1 ∧ Hid (ds.length = n) ∧ Hid (∀ d ∈ ds, d < Nm.B) ∧ Hid (Zero ds (j + L2)) ∧ Hid (Nm.val ds = x % Nm.B ^ j * y) ∧ Hid (At wr g ds) ∧ Hid (Below w.heap.size w wr)) (fun i _ _ _ => (L1 + 1 - intOf i).toNat)
  case atStart => exact ⟨0, List.replicate n 0, rfl, by omega, Lib.hid (by simp), Lib.hid (fun d hd => by rw [(List.mem_replicate.1 hd).2]; exact Nm.B_pos), Lib.hid (fun t ht _ => by simp), V0, A1, B1⟩
  case round =>
    obtain ⟨j, ds0, rfl, hj, HL0, HD0, HZ0, HV0, HA0, HB0⟩ := hrel
    by_cases hA : j < L1
    · have da : decide ((j : Int) < (L1 : Int)) = true := decide_eq_true (by omega)
      have da2 : decide (j < L1) = true := decide_eq_true hA
      have lp : x / Nm.B ^ j % Nm.B < 4294967296 := Nat.mod_lt _ Nm.B_pos
      obtain ⟨b1, rfl, hb1, _⟩ := big_word (W1.out.below HB0.out) j (by have := X1.out; omega)
      obtain ⟨p, hp⟩ : ∃ p, x / Nm.B ^ j % Nm.B = p := ⟨_, rfl⟩
      have HP := Lib.hid hp
      rw [hp] at lp
      clear hp
      have I0 := Lib.hid (show Nm.val ds0 + Nm.B ^ (j + 0) * 0 = Nm.val ds0 + p * (y % Nm.B ^ 0) * Nm.B ^ j by simp [Nat.mod_one])
      go_wp2
      go_loopw [7, 8] (fun c i wr2 => ∃ (k c2 : Nat) (ds : List Nat), i = .int .i64 k ∧ c = .int .u64 c2 ∧ k ≤ L2 ∧ c2 < 4294967296 ∧ Hid (ds.length = n) ∧ Hid (∀ d ∈ ds, d < Nm.B) ∧ Hid (Zero ds (j + L2)) ∧ Hid (Nm.val ds + Nm.B ^ (j + k) * c2 = Nm.val ds0 + p * (y % Nm.B ^ k) * Nm.B ^ j) ∧ Hid (At wr2 g ds) ∧ Hid (Below w.heap.size w wr2)) (fun _ i _ => (L2 + 1 - intOf i).toNat)
      case atStart => exact ⟨0, 0, ds0, rfl, rfl, by omega, by omega, HL0, HD0, HZ0, I0, HA0, HB0⟩
      case round =>
        obtain ⟨k, c, ds, rfl, rfl, hk, hc, HL, HD, HZ, HV, HAt, HB⟩ := hrel
        have hg := HAt.out.lt
        by_cases hC : k < L2
        · have dc : decide ((k : Int) < (L2 : Int)) = true := decide_eq_true (by omega)
          have dc2 : decide (k < L2) = true := decide_eq_true hC
          obtain ⟨b1', hbb, hb1', hc1⟩ := big_word (W1.out.below HB.out) j (by have := X1.out; omega)
          cases hbb
          obtain ⟨b2, rfl, hb2, hc2⟩ := big_word (W2.out.below HB.out) k (by have := X2.out; omega)
          have lq : y / Nm.B ^ k % Nm.B < 4294967296 := Nat.mod_lt _ Nm.B_pos
          have hidx : j + k < ds.length := by have := HL.out; have := HN.out; omega
          obtain ⟨hcell, hfz⟩ := HAt.out.cell (j + k) hidx
          have ld : ds[j + k] < 4294967296 := HD.out _ (List.getElem_mem hidx)
          have VS := fun c' => val_set (c := c') hidx
          obtain ⟨d, hd⟩ : ∃ d, ds[j + k] = d := ⟨_, rfl⟩
          rw [hd] at hcell ld
          rw [HP.out] at hc1
          obtain ⟨q, hq⟩ : ∃ q, y / Nm.B ^ k % Nm.B = q := ⟨_, rfl⟩
          rw [hq] at hc2 lq
          obtain ⟨P, hP⟩ : ∃ P, p * q = P := ⟨_, rfl⟩
          have hPQ : (p : Int) * (q : Int) = (P : Int) := by rw [← hP]; simp
          have lP : P ≤ 18446744065119617025 := by rw [← hP]; exact pq_bound p q lp lq
          have TS := times_step (Nm.val ds) (Nm.val (ds.set (j + k) ((c + d + P) % Nm.B))) (Nm.val ds0) y p c d (c + d + P) j k HV.out (by rw [← hd]; exact VS _) (by rw [hq, hP])
          have hlo := lo_bits (c + d + P) (by omega)
          obtain ⟨m, hm⟩ : ∃ m, (c + d + P) % Nm.B = m := ⟨_, rfl⟩
          obtain ⟨c3, hc3⟩ : ∃ m, (c + d + P) / Nm.B = m := ⟨_, rfl⟩
          rw [hm] at TS hlo
          rw [hc3] at TS
          have lm : m < 4294967296 := by rw [← hm]; exact Nat.mod_lt _ Nm.B_pos
          simp only [Int.natCast_add] at hlo
          have hcar : ((c : Int) + (d : Int) + (P : Int)) / 4294967296 = (c3 : Int) := by rw [Nm.B_eq] at hc3; omega
          have lc3 : c3 < 4294967296 := by rw [Nm.B_eq] at hc3; omega
          have HT := Lib.hid TS
          have HI := Lib.hid hidx
          have hjkn : j + k < n := by rw [← HL.out]; exact hidx
          clear TS hm hc3 hP hq hd VS hidx
          go_wp2
          go_quiet (fail)
          go_wp2
          exact ⟨⟨k + 1, c3, ds.set (j + k) m, rfl, rfl, by omega, lc3, Lib.hid (by rw [List.length_set]; exact HL.out), Lib.hid (set_lt HD.out lm), Lib.hid (HZ.out.set (by omega)), HT, Lib.hid ((HAt.out.below (below_drewN (Below.refl _ _) _)).set _ _ HI.out), Lib.hid ((below_drewN HB.out _).setCell (by have := HG.out; show w.heap.size ≤ g; omega) _)⟩, by simp [intOf]; omega⟩
        · have dc : decide ((k : Int) < (L2 : Int)) = false := decide_eq_false (by omega)
          have dc2 : decide (k < L2) = false := decide_eq_false hC
          obtain rfl : k = L2 := by omega
          have hidx : j + k < ds.length := by have := HL.out; have := HN.out; omega
          obtain ⟨hcell, hfz⟩ := HAt.out.cell (j + k) hidx
          have hz := HZ.out (j + k) hidx (Nat.le_refl _)
          have VS := val_set (c := c) hidx
          rw [hz] at hcell
          rw [hz, Nat.mul_zero, Nat.add_zero, HV.out, Nm.mod_all (x := y) (by have := X2.out; omega)] at VS
          have hnx := Nm.mod_next x j
          rw [HP.out] at hnx
          have HT := Lib.hid (show Nm.val (ds.set (j + k) c) = x % Nm.B ^ (j + 1) * y by
            rw [VS, HV0.out, hnx, Nat.add_mul, Nat.mul_assoc (Nm.B ^ j), Nat.mul_comm (Nm.B ^ j)])
          have HI := Lib.hid hidx
          have hjkn : j + k < n := by rw [← HL.out]; exact hidx
          have HZ2 := Lib.hid (show Zero (ds.set (j + k) c) (j + 1 + k) from Zero.set (fun t ht hn => HZ.out t ht (by omega)) (by omega))
          clear VS hnx hz hidx
          go_wp2
          exact ⟨⟨j + 1, ds.set (j + k) c, rfl, by omega, Lib.hid (by rw [List.length_set]; exact HL.out), Lib.hid (set_lt HD.out hc), HZ2, HT, Lib.hid (HAt.out.set _ _ HI.out), Lib.hid (HB.out.setCell (by have := HG.out; show w.heap.size ≤ g; omega) _)⟩, by simp [intOf]; omega⟩
    · have da : decide ((j : Int) < (L1 : Int)) = false := decide_eq_false (by omega)
      have da2 : decide (j < L1) = false := decide_eq_false hA
      obtain rfl : j = L1 := by omega
      have hv := HV0.out
      rw [Nm.mod_all (x := x) (by have := X1.out; omega)] at hv
      have hwd := HA0.out.wd (by have := HL0.out; omega) HD0.out
      have HW := Lib.hid hwd
      have HV2 := Lib.hid hv
      have CT := trim_any (some ⟨g, 0, none⟩) ds0 ds0.length wr HW.out (Nat.le_refl _)
      rw [HL0.out] at CT
      have HCT := Lib.hid CT
      clear hwd hv CT
      go_wp2_with fail
      refine HCT.out.mono ?_
      rintro e w3 ⟨⟨v, rfl, hbig⟩, rfl⟩
      have HG2 := Lib.hid hbig
      clear hbig
      go_wp2
      go_ret
      exact ⟨v, rfl, by rw [← HV2.out]; exact HG2.out, HB0.out⟩
end Go.Proofs.YtffohkpohgkglaaGreat
