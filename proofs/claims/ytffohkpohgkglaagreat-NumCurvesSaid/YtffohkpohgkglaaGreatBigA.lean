/-
  WALKS of the document's whole numbers: what a list of words is; trim, Low, Bits, Bit, Less, From.
-/
import Derived.Test.YtffohkpohgkglaaGreatWalkA
import Derived.Test.YtffohkpohgkglaaGreatNumP
import Derived.Laws.Rows
import Derived.Laws.AppendOwnNone
import Derived.Deep.LoopGhost
import Derived.Deep.QuietTactic
import Derived.BigQuiet
import Derived.StillTailTactics
import Derived.IntWalk
namespace Go.Proofs.YtffohkpohgkglaaGreat
set_option linter.unusedVariables false
set_option linter.unusedSimpArgs false
open Go.RowKit
/-- numbers as cells -/
def cells32 (ds : List Nat) : List Value := ds.map fun c => Value.int .u32 ((c : Nat) : Int)
theorem cells32_length (ds : List Nat) : (cells32 ds).length = ds.length := by simp [cells32]
theorem cells32_one (ds : List Nat) : ∀ u ∈ cells32 ds, u.oneCell' = true := by
  intro u hu
  obtain ⟨c, _, rfl⟩ := List.mem_map.1 hu
  rfl
theorem cells32_append (a b : List Nat) : cells32 (a ++ b) = cells32 a ++ cells32 b := by simp [cells32]
theorem cells32_get (ds : List Nat) (i : Nat) (h : i < ds.length) : (cells32 ds)[i]? = some (.int .u32 ((ds[i] : Nat) : Int)) := by
  simp [cells32, h]
/-- a slice's address leads to these words -/
def Wd (w : World) (a : Option Addr) (ds : List Nat) : Prop :=
  ds.length ≤ 1000000 ∧ (∀ c ∈ ds, c < Nm.B) ∧ (ds ≠ [] → ∃ b, a = some ⟨b, 0, none⟩ ∧ b < w.heap.size ∧ ∀ i (h : i < ds.length), w.cell? ⟨b, i, none⟩ = some (.int .u32 ((ds[i] : Nat) : Int)))
theorem Wd.below {w w' : World} {a : Option Addr} {ds : List Nat} (h : Wd w a ds) (hb : Below w.heap.size w w') : Wd w' a ds := by
  obtain ⟨h1, h2, h3⟩ := h
  refine ⟨h1, h2, fun hn => ?_⟩
  obtain ⟨b, ha, hlt, hc⟩ := h3 hn
  exact ⟨b, ha, Nat.lt_of_lt_of_le hlt hb.size, fun i hi => (hb.cell (p := ⟨b, i, none⟩) hlt).trans (hc i hi)⟩
theorem Wd.take {w : World} {a : Option Addr} {ds : List Nat} (h : Wd w a ds) (k : Nat) : Wd w a (ds.take k) := by
  obtain ⟨h1, h2, h3⟩ := h
  refine ⟨by rw [List.length_take]; omega, fun c hc => h2 c (List.mem_of_mem_take hc), fun hn => ?_⟩
  obtain ⟨b, ha, hlt, hc⟩ := h3 (by rintro rfl; simp at hn)
  refine ⟨b, ha, hlt, fun i hi => ?_⟩
  rw [List.length_take] at hi
  rw [hc i (by omega), List.getElem_take]
theorem Wd.at {w : World} {a : Option Addr} {ds : List Nat} (h : Wd w a ds) (k : Nat) (hk : k < ds.length) :
    ∃ b, a = some ⟨b, 0, none⟩ ∧ b < w.heap.size ∧ w.cell? ⟨b, k, none⟩ = some (.int .u32 ((ds[k] : Nat) : Int)) := by
  obtain ⟨b, e, hb, hc⟩ := h.2.2 (by intro h0; rw [h0] at hk; simp at hk)
  exact ⟨b, e, hb, hc k hk⟩
theorem Wd.nil (w : World) (a : Option Addr) : Wd w a [] := ⟨by simp, by simp, fun h => absurd rfl h⟩
/-- a value is a whole number -/
def Big (w : World) (v : Value) (n : Nat) : Prop := ∃ a cap, v = .slice a (Nm.wds n).length cap ∧ (Nm.wds n).length ≤ cap ∧ Wd w a (Nm.wds n)
theorem Big.below {w w' : World} {v : Value} {n : Nat} (h : Big w v n) (hb : Below w.heap.size w w') : Big w' v n := by
  obtain ⟨a, cap, h1, h2, h3⟩ := h
  exact ⟨a, cap, h1, h2, h3.below hb⟩
theorem Big.nil (w : World) : Big w (.slice none 0 0) 0 := ⟨none, 0, by rw [Nm.wds_zero]; rfl, by rw [Nm.wds_zero]; simp, by rw [Nm.wds_zero]; exact Wd.nil _ _⟩
/-- a word of it -/
theorem big_word {w : World} {a : Option Addr} {n : Nat} (h : Wd w a (Nm.wds n)) (i : Nat) (hi : i < (Nm.wds n).length) :
    ∃ b, a = some ⟨b, 0, none⟩ ∧ b < w.heap.size ∧ w.cell? ⟨b, i, none⟩ = some (.int .u32 ((n / Nm.B ^ i % Nm.B : Nat) : Int)) := by
  obtain ⟨b, h1, h2, h3⟩ := h.at i hi
  rw [Nm.wds_get n i hi] at h3
  exact ⟨b, h1, h2, h3⟩
def BigPost (w : World) (n : Nat) (e : Ending) (w' : World) : Prop := ∃ v, e = .returned v ∧ Big w' v n ∧ Below w.heap.size w w'
/-- its block is no elder one -/
def Fresh (N : Nat) (v : Value) : Prop := ∀ k, v.ownBlock = some k → N ≤ k
theorem fresh_len {N l c l2 c2 : Nat} {a : Option Addr} (h : Fresh N (.slice a l c)) : Fresh N (.slice a l2 c2) := by
  intro k hk
  cases a with
  | none => cases hk
  | some x => exact h k hk
theorem trim_new (a : Option Addr) (ds : List Nat) (cap : Nat) (w : World) (H : Wd w a ds) (hc : ds.length ≤ cap) :
    Calls Tryz.prog 107 #[.slice a ds.length cap] w fun e w' => (∃ v, e = .returned v ∧ Big w v (Nm.val ds) ∧ ∀ N, Fresh N (.slice a ds.length cap) → Fresh N v) ∧ w' = w := by
  have H0 := Lib.hid H
  have HC := Lib.hid hc
  have hl := H.1
  clear H
  go_enter Tryz.func107, Tryz.ntmps107
  go_wp2
  go_loop [0] (fun v => ∃ k : Nat, k ≤ ds.length ∧ v = .slice a k cap ∧ Hid (Nm.val (ds.take k) = Nm.val ds)) (fun v => match v with | .slice _ k _ => k | _ => 0)
  case atStart => exact ⟨ds.length, Nat.le_refl _, rfl, Lib.hid (by rw [List.take_length])⟩
  case round =>
    obtain ⟨k, hk, rfl, HV⟩ := hrel
    cases k with
    | zero =>
      go_wp2
      go_ret
      have hv := HV.out
      rw [List.take_zero] at hv
      refine ⟨⟨_, rfl, ?_, fun N h => fresh_len h⟩, rfl⟩
      rw [← hv]
      exact ⟨a, cap, by rw [show Nm.val [] = 0 from rfl, Nm.wds_zero]; rfl, by rw [show Nm.val [] = 0 from rfl, Nm.wds_zero]; simp, by rw [show Nm.val [] = 0 from rfl, Nm.wds_zero]; exact Wd.nil _ _⟩
    | succ m =>
      obtain ⟨b, rfl, hb, hcell⟩ := H0.out.at m (by omega)
      have he : ((m + 1 : Nat) : Int) - 1 = (m : Int) := by omega
      have hpos : decide ((0 : Int) < ((m + 1 : Nat) : Int)) = true := decide_eq_true (by omega)
      obtain ⟨c, hcc⟩ : ∃ c, ds[m] = c := ⟨_, rfl⟩
      rw [hcc] at hcell
      have hidx : m < ds.length := by omega
      have hle : (m : Int) ≤ (cap : Int) := by have := HC.out; omega
      by_cases h0 : c = 0
      · subst h0
        go_wp2
        go_round
        case rel => exact ⟨m, by omega, rfl, Lib.hid (by rw [← HV.out]; exact (Nm.take_drop_zero (by omega) hcc).symm)⟩
        case measure => simp
      · have hne : (((c : Nat) : Int) == 0) = false := by simpa using h0
        go_wp2
        go_ret
        refine ⟨⟨_, rfl, ?_, fun N h => fresh_len h⟩, rfl⟩
        have hW := H0.out.take (m + 1)
        have e : Nm.wds (Nm.val ds) = ds.take (m + 1) := by
          rw [← HV.out]
          refine Nm.wds_of hW.2.1 fun h => ?_
          rw [List.getLast_take]
          simp [hcc, h0, hidx]
        have el : (ds.take (m + 1)).length = m + 1 := by rw [List.length_take]; omega
        refine ⟨some ⟨b, 0, none⟩, cap, by rw [e, el]; rfl, by rw [e, el]; have := HC.out; omega, by rw [e]; exact hW⟩

theorem trim_any (a : Option Addr) (ds : List Nat) (cap : Nat) (w : World) (H : Wd w a ds) (hc : ds.length ≤ cap) :
    Calls Tryz.prog 107 #[.slice a ds.length cap] w fun e w' => (∃ v, e = .returned v ∧ Big w v (Nm.val ds)) ∧ w' = w :=
  (trim_new a ds cap w H hc).mono fun _ _ ⟨⟨v, h1, h2, _⟩, h3⟩ => ⟨⟨v, h1, h2⟩, h3⟩
def BigNew (w : World) (n : Nat) (e : Ending) (w' : World) : Prop := ∃ v, e = .returned v ∧ Big w' v n ∧ Below w.heap.size w w' ∧ Fresh w.heap.size v
theorem BigNew.post {w : World} {n : Nat} {e : Ending} {w' : World} (h : BigNew w n e w') : BigPost w n e w' := by
  obtain ⟨v, h1, h2, h3, _⟩ := h
  exact ⟨v, h1, h2, h3⟩
theorem big_len {w : World} {a : Option Addr} {n : Nat} (h : Wd w a (Nm.wds n)) : (Nm.wds n).length ≤ 1000000 := h.1
/-- the lowest 64 bits -/
theorem low_any (v : Value) (n : Nat) (w : World) (H : Big w v n) : Calls Tryz.prog 101 #[v] w fun e w' => e = .returned (.int .u64 ((n % 2 ^ 64 : Nat) : Int)) ∧ w' = w := by
  obtain ⟨a, cap, rfl, _, hW⟩ := H
  obtain ⟨L, hL⟩ : ∃ L, (Nm.wds n).length = L := ⟨_, rfl⟩
  by_cases h0 : L = 0
  · have hn : n = 0 := Nm.wds_nil.1 (by rw [hL]; exact h0)
    subst hn
    rw [hL, h0]
    clear hW hL h0
    go_enter Tryz.func101, Tryz.ntmps101
    go_wp2
    go_ret
    exact ⟨rfl, rfl⟩
  · obtain ⟨b, rfl, hb, hc0⟩ := big_word hW 0 (by omega)
    rw [Nat.pow_zero, Nat.div_one] at hc0
    have g0 : decide ((0 : Int) < (L : Int)) = true := decide_eq_true (by omega)
    have m0 : n % Nm.B < 4294967296 := Nat.mod_lt _ Nm.B_pos
    have hlo : n % 2 ^ 64 = n % Nm.B + 2 ^ 32 * (n / Nm.B % Nm.B) := by
      rw [show (2 : Nat) ^ 64 = Nm.B * Nm.B from rfl, Nat.mod_mul]; rfl
    obtain ⟨c0, hcc0⟩ : ∃ c, n % Nm.B = c := ⟨_, rfl⟩
    rw [hcc0] at hc0 hlo m0
    rw [hL]
    have hi0 : 0 < L := by omega
    by_cases h1 : L = 1
    · have z := Nm.word_zero (x := n) (i := 1) (by rw [hL]; omega)
      rw [Nat.pow_one] at z
      rw [z, Nat.mul_zero, Nat.add_zero] at hlo
      rw [hlo]
      subst h1
      clear hlo z hW
      go_enter Tryz.func101, Tryz.ntmps101
      go_wp2
      go_ret
      exact ⟨rfl, rfl⟩
    · obtain ⟨b', hbb, _, hc1⟩ := big_word hW 1 (by omega)
      cases hbb
      rw [Nat.pow_one] at hc1
      have m1 : n / Nm.B % Nm.B < 4294967296 := Nat.mod_lt _ Nm.B_pos
      obtain ⟨c1, hcc1⟩ : ∃ c, n / Nm.B % Nm.B = c := ⟨_, rfl⟩
      rw [hcc1] at hc1 hlo m1
      rw [hlo]
      have g1 : decide ((1 : Int) < (L : Int)) = true := decide_eq_true (by omega)
      have hi1 : 1 < L := by omega
      have e4 : bits .or .u64 (c0 : Int) ((c1 : Int) * 4294967296) = ((c0 + 2 ^ 32 * c1 : Nat) : Int) := by
        rw [show ((c1 : Int) * 4294967296) = ((c1 * 2 ^ 32 : Nat) : Int) by omega, u64_or_nat c0 (c1 * 2 ^ 32) (by omega) (by omega), Nat.or_comm, nat_join 32 (c1 * 2 ^ 32) c0 (Nat.mul_mod_left _ _) (by omega)]
        congr 1; omega
      obtain ⟨r, hr⟩ : ∃ r, c0 + 2 ^ 32 * c1 = r := ⟨_, rfl⟩
      rw [hr] at e4 ⊢
      clear hlo hW hr
      go_enter Tryz.func101, Tryz.ntmps101
      go_wp2
      go_ret
      exact ⟨rfl, rfl⟩
theorem nb_half {t : Nat} (h : 0 < t) : Nm.nb t = Nm.nb (t / 2) + 1 := by
  unfold Nm.nb
  rw [if_neg (by omega)]
  by_cases h1 : t / 2 = 0
  · rw [if_pos h1, show t = 1 by omega]; rfl
  · rw [if_neg h1, Nat.log2_def t, if_pos (by omega)]
theorem nb_top (n k : Nat) (h : n / 2 ^ k ≠ 0) : Nm.nb n = k + Nm.nb (n / 2 ^ k) := by
  induction k generalizing n with
  | zero => simp
  | succ k ih =>
    have e : n / 2 ^ (k + 1) = n / 2 / 2 ^ k := by rw [Nat.pow_succ, Nat.mul_comm, Nat.div_div_eq_div_mul]
    rw [e] at h ⊢
    have hn : 0 < n := by
      refine Nat.pos_of_ne_zero ?_
      rintro rfl
      simp at h
    rw [nb_half hn, ih (n / 2) h]
    omega
theorem nb_zero : Nm.nb 0 = 0 := by unfold Nm.nb; rw [if_pos rfl]
/-- how many bits -/
theorem bits_any (v : Value) (n : Nat) (w : World) (H : Big w v n) : Calls Tryz.prog 74 #[v] w fun e w' => e = .returned (.int .i64 ((Nm.nb n : Nat) : Int)) ∧ w' = w := by
  obtain ⟨a, cap, rfl, _, hW⟩ := H
  have hlen := hW.1
  obtain ⟨L, hL⟩ : ∃ L, (Nm.wds n).length = L := ⟨_, rfl⟩
  by_cases h0 : L = 0
  · have hn : n = 0 := Nm.wds_nil.1 (by rw [hL]; exact h0)
    have hz : Nm.nb n = 0 := by rw [hn]; exact nb_zero
    rw [hz, hL, h0]
    clear hW hL h0 hn hlen hz
    go_enter Tryz.func74, Tryz.ntmps74
    go_wp2
    go_ret
    exact ⟨rfl, rfl⟩
  · obtain ⟨M, rfl⟩ : ∃ M, L = M + 1 := ⟨L - 1, by omega⟩
    obtain ⟨b, rfl, hb, hc0⟩ := big_word hW M (by omega)
    have htop : n / Nm.B ^ M % Nm.B = n / Nm.B ^ M := by
      refine Nat.mod_eq_of_lt ?_
      rw [Nat.div_lt_iff_lt_mul (Nm.Bp_pos M), ← Nat.pow_succ', show M.succ = M + 1 from rfl, ← hL]
      exact Nm.lt_wds n
    have hn0 : n ≠ 0 := fun e => by subst e; rw [Nm.wds_zero] at hL; simp at hL
    have hge := Nm.wds_le hn0
    rw [hL, Nat.add_sub_cancel] at hge
    have hne : n / Nm.B ^ M ≠ 0 := by
      have := Nat.div_pos hge (Nm.Bp_pos M)
      omega
    have hnb := nb_top n (32 * M) (by rw [← Nm.Bp]; exact hne)
    rw [← Nm.Bp] at hnb
    have hlt : n / Nm.B ^ M % Nm.B < 4294967296 := Nat.mod_lt _ Nm.B_pos
    rw [htop] at hc0 hlt
    obtain ⟨t, ht⟩ : ∃ t, n / Nm.B ^ M = t := ⟨_, rfl⟩
    obtain ⟨N, hN⟩ : ∃ N, Nm.nb n = N := ⟨_, rfl⟩
    rw [ht] at hc0 hlt hnb
    rw [hN] at hnb ⊢
    rw [hL] at hlen ⊢
    have he : ((M + 1 : Nat) : Int) - 1 = (M : Int) := by omega
    have HN := Lib.hid hnb
    have hidx : M < M + 1 := by omega
    have hN2 : N ≤ 33000000 := by
      have : Nm.nb t ≤ 32 := (Nm.nb_le_iff t 32).2 (by omega)
      omega
    clear hnb hN ht hne hge htop hW hL hn0 h0
    go_enter Tryz.func74, Tryz.ntmps74
    go_wp2
    go_loop [3, 4] (fun k x => ∃ j s : Nat, k = .int .i64 j ∧ x = .int .u32 s ∧ s < 4294967296 ∧ Hid (N = j + Nm.nb s)) (fun _ x => (intOf x).toNat)
    case atStart => exact ⟨32 * M, t, by first | rfl | (simp), rfl, hlt, HN⟩
    case round =>
      obtain ⟨j, s, rfl, rfl, hs, HJ⟩ := hrel
      by_cases hs0 : 0 < s
      · have hd : decide ((0 : Int) < (s : Int)) = true := decide_eq_true (by omega)
        have hj : j ≤ 33000000 := by have := HJ.out; omega
        go_wp2
        go_round
        case rel => exact ⟨j + 1, s / 2, by first | rfl | simp, by first | rfl | simp, by omega, Lib.hid (by have := HJ.out; rw [nb_half hs0] at this; omega)⟩
        case measure => simp [intOf]; omega
      · obtain rfl : s = 0 := by omega
        have hj := HJ.out
        rw [nb_zero, Nat.add_zero] at hj
        subst hj
        go_wp2
        go_ret
        exact ⟨rfl, rfl⟩
/-- one bit -/
theorem bit_word (n i : Nat) : (n / Nm.B ^ (i / 32) % Nm.B) / 2 ^ (i % 32) % 2 = n / 2 ^ i % 2 := by
  rw [Nm.Bp, Nm.B_pow]
  have hi : i = 32 * (i / 32) + i % 32 := (Nat.div_add_mod i 32).symm
  have hr : i % 32 < 32 := Nat.mod_lt _ (by decide)
  generalize i / 32 = q at *
  generalize i % 32 = r at *
  subst hi
  rw [Nat.pow_add, ← Nat.div_div_eq_div_mul]
  generalize n / 2 ^ (32 * q) = m
  obtain ⟨k, hk⟩ : ∃ k, 32 = r + (k + 1) := ⟨31 - r, by omega⟩
  rw [hk, Nat.pow_add, Nat.mod_mul_right_div_self, Nat.pow_succ, Nat.mod_mul_left_mod]
theorem and1_spell (c r : Nat) (hc : c < 4294967296) : (bits .and .u32 ((c : Int) / 2 ^ r) 1 == 1) = decide (c / 2 ^ r % 2 = 1) := by
  have e : ((c : Int) / 2 ^ r) = ((c / 2 ^ r : Nat) : Int) := by
    simp only [Int.natCast_ediv, Int.natCast_pow, Int.cast_ofNat_Int]
  have hl : c / 2 ^ r < 4294967296 := Nat.lt_of_le_of_lt (Nat.div_le_self _ _) hc
  have h := u32_and_nat (c / 2 ^ r) 1 hl (by decide)
  rw [nat_mask1] at h
  rw [e, show (1 : Int) = ((1 : Nat) : Int) from rfl, h, Bool.eq_iff_iff]
  simp
  omega
theorem bit_any (v : Value) (n i : Nat) (w : World) (H : Big w v n) (hi : i ≤ 40000000) : Calls Tryz.prog 109 #[v, .int .i64 (i : Int)] w fun e w' => e = .returned (.bool (n.testBit i)) ∧ w' = w := by
  obtain ⟨a, cap, rfl, _, hW⟩ := H
  have hlen := hW.1
  obtain ⟨L, hL⟩ : ∃ L, (Nm.wds n).length = L := ⟨_, rfl⟩
  obtain ⟨q, hq⟩ : ∃ q, i / 32 = q := ⟨_, rfl⟩
  have hq1 : Int.tdiv (i : Int) 32 = (q : Int) := by rw [Int.tdiv_eq_ediv_of_nonneg (by omega)]; omega
  have hq2 : (i : Int) / 32 = (q : Int) := by omega
  by_cases h0 : q < L
  · obtain ⟨b, rfl, hb, hc0⟩ := big_word hW q (by omega)
    have hlt : n / Nm.B ^ q % Nm.B < 4294967296 := Nat.mod_lt _ Nm.B_pos
    have hbt := bit_word n i
    rw [hq] at hbt
    rw [Nat.testBit_eq_decide_div_mod_eq, ← hbt]
    obtain ⟨c, hc⟩ : ∃ c, n / Nm.B ^ q % Nm.B = c := ⟨_, rfl⟩
    rw [hc] at hc0 hlt ⊢
    rw [hL] at hlen ⊢
    have hsp := and1_spell c (i % 32) hlt
    obtain ⟨t, ht⟩ : ∃ t, decide (c / 2 ^ (i % 32) % 2 = 1) = t := ⟨_, rfl⟩
    rw [ht] at hsp ⊢
    clear hbt hW hL hc ht
    go_enter Tryz.func109, Tryz.ntmps109
    go_wp2
    go_ret
    exact ⟨rfl, rfl⟩
  · have hf : n.testBit i = false := by
      refine Nat.testBit_lt_two_pow ?_
      have h1 := Nm.lt_wds n
      rw [hL, Nm.Bp] at h1
      exact Nat.lt_of_lt_of_le h1 (Nat.pow_le_pow_right (by decide) (by omega))
    have hd : decide ((q : Int) < (L : Int)) = false := decide_eq_false (by omega)
    have hd2 : decide (q < L) = false := decide_eq_false h0
    rw [hf, hL]
    clear hW hf
    go_enter Tryz.func109, Tryz.ntmps109
    go_wp2
    go_ret
    exact ⟨rfl, rfl⟩
theorem below_drewN {B : Nat} {a b : World} (h : Below B a b) (n : Nat) : Below B a (b.drewN n) := ⟨h.os, h.tape, h.output, h.size, h.block⟩
/-- compared -/
theorem less_any (v1 v2 : Value) (x y : Nat) (w : World) (H1 : Big w v1 x) (H2 : Big w v2 y) : Calls Tryz.prog 95 #[v1, v2] w fun e w' => e = .returned (.int .i64 (Nm.cmpN x y)) ∧ Below w.heap.size w w' := by
  obtain ⟨a1, cap1, rfl, _, hW1⟩ := H1
  obtain ⟨a2, cap2, rfl, _, hW2⟩ := H2
  have hl1 := hW1.1
  have hl2 := hW2.1
  obtain ⟨L1, hL1⟩ : ∃ L, (Nm.wds x).length = L := ⟨_, rfl⟩
  obtain ⟨L2, hL2⟩ : ∃ L, (Nm.wds y).length = L := ⟨_, rfl⟩
  by_cases hne : L1 = L2
  · subst hne
    have W1 := Lib.hid hW1
    have W2 := Lib.hid hW2
    have X1 := Lib.hid hL1
    have X2 := Lib.hid hL2
    have S0 := Lib.hid (show x / Nm.B ^ L1 = y / Nm.B ^ L1 by
      rw [Nat.div_eq_of_lt (by rw [← hL1]; exact Nm.lt_wds x), Nat.div_eq_of_lt (by rw [← hL2]; exact Nm.lt_wds y)])
    rw [hL1, hL2]
    rw [hL1] at hl1
    obtain ⟨r, hr⟩ : ∃ r, Nm.cmpN x y = r := ⟨_, rfl⟩
    have HR := Lib.hid hr
    rw [hr]
    clear hW1 hW2 hL1 hL2 hl2 hr
    have hne : (((L1 : Nat) : Int) != (L1 : Int)) = false := by simp
    go_enter Tryz.func95, Tryz.ntmps95
    go_wp2
    go_loopw [5] (fun i wr => ∃ j : Nat, j ≤ L1 ∧ i = .int .i64 ((j : Int) - 1) ∧ Hid (x / Nm.B ^ j = y / Nm.B ^ j) ∧ Hid (Below w.heap.size w wr)) (fun i _ => (intOf i + 1).toNat)
    case atStart => exact ⟨L1, Nat.le_refl _, rfl, S0, Lib.hid (Below.refl _ _)⟩
    case round =>
      obtain ⟨j, hj, rfl, HS, HB⟩ := hrel
      cases j with
      | zero =>
        have hs := HS.out
        rw [Nat.pow_zero, Nat.div_one, Nat.div_one] at hs
        have hr := HR.out
        subst hs
        have h0 : r = 0 := by rw [← hr]; unfold Nm.cmpN; rw [if_neg (by omega), if_neg (by omega)]
        subst h0
        go_wp2
        go_ret
        exact ⟨rfl, HB.out⟩
      | succ m =>
        have he : ((m + 1 : Nat) : Int) - 1 = (m : Int) := by omega
        rw [he]
        obtain ⟨b1, rfl, hb1, hc1⟩ := big_word (W1.out.below HB.out) m (by have := X1.out; omega)
        obtain ⟨b2, rfl, hb2, hc2⟩ := big_word (W2.out.below HB.out) m (by have := X2.out; omega)
        have q1 := Nat.div_add_mod (x / Nm.B ^ m) Nm.B
        have q2 := Nat.div_add_mod (y / Nm.B ^ m) Nm.B
        have hs := HS.out
        rw [Nat.pow_succ, ← Nat.div_div_eq_div_mul, ← Nat.div_div_eq_div_mul] at hs
        rw [hs] at q1
        obtain ⟨c1, k1⟩ : ∃ c, x / Nm.B ^ m % Nm.B = c := ⟨_, rfl⟩
        obtain ⟨c2, k2⟩ : ∃ c, y / Nm.B ^ m % Nm.B = c := ⟨_, rfl⟩
        rw [k1] at hc1 q1
        rw [k2] at hc2 q2
        have hidx : m < L1 := by omega
        have hm63 : (m : Int) ≤ 1000000 := by omega
        have hlt : c1 < c2 → x < y := fun h => by
          refine Decidable.by_contra fun hn => ?_
          have := Nat.div_le_div_right (c := Nm.B ^ m) (show y ≤ x by omega)
          omega
        have hgt : c2 < c1 → y < x := fun h => by
          refine Decidable.by_contra fun hn => ?_
          have := Nat.div_le_div_right (c := Nm.B ^ m) (show x ≤ y by omega)
          omega
        have GL := Lib.hid hlt
        have GG := Lib.hid hgt
        have SS := Lib.hid (show c1 = c2 → x / Nm.B ^ m = y / Nm.B ^ m from fun h => by omega)
        clear hlt hgt q1 q2 hs k1 k2 he
        rcases Nat.lt_trichotomy c1 c2 with h | h | h
        · have d1 : decide (c1 < c2) = true := decide_eq_true h
          have hr := HR.out
          have h0 : r = -1 := by rw [← hr]; unfold Nm.cmpN; rw [if_pos (GL.out h)]
          subst h0
          go_wp2
          go_quiet (fail)
          go_wp2
          go_ret
          exact ⟨rfl, below_drewN HB.out _⟩
        · subst h
          have d1 : decide (c1 < c1) = false := decide_eq_false (by omega)
          go_wp2
          go_quiet (fail)
          go_wp2
          go_quiet (fail)
          go_wp2
          go_roundw
          case rel => exact ⟨m, by omega, rfl, Lib.hid (by first | exact SS.out rfl | exact SS.out trivial | simpa using SS.out), Lib.hid (by first | exact below_drewN HB.out _ | exact below_drewN (below_drewN HB.out _) _)⟩
          case measure => simp [intOf]
        · have d1 : decide (c1 < c2) = false := decide_eq_false (by omega)
          have d2 : decide (c2 < c1) = true := decide_eq_true h
          have hr := HR.out
          have h0 : r = 1 := by rw [← hr]; unfold Nm.cmpN; have := GG.out h; rw [if_neg (by omega), if_pos this]
          subst h0
          go_wp2
          go_quiet (fail)
          go_wp2
          go_quiet (fail)
          go_wp2
          go_ret
          exact ⟨rfl, by first | exact below_drewN HB.out _ | exact below_drewN (below_drewN HB.out _) _⟩
  · have hd0 : (((L1 : Nat) : Int) != (L2 : Int)) = true := by simp; omega
    by_cases hlt : L1 < L2
    · have hd1 : decide ((L1 : Int) < (L2 : Int)) = true := decide_eq_true (by omega)
      have hd2 : decide (L1 < L2) = true := decide_eq_true hlt
      have hx : x < y := Nm.cmp_len (by omega)
      rw [show Nm.cmpN x y = -1 by unfold Nm.cmpN; rw [if_pos hx], hL1, hL2]
      clear hx hW1 hW2 hL1 hL2
      go_enter Tryz.func95, Tryz.ntmps95
      go_wp2
      go_ret
      exact ⟨rfl, Below.refl _ _⟩
    · have hd1 : decide ((L1 : Int) < (L2 : Int)) = false := decide_eq_false (by omega)
      have hd2 : decide (L1 < L2) = false := decide_eq_false hlt
      have hx : y < x := Nm.cmp_len (by omega)
      rw [show Nm.cmpN x y = 1 by unfold Nm.cmpN; rw [if_neg (by omega), if_pos hx], hL1, hL2]
      clear hx hW1 hW2 hL1 hL2
      go_enter Tryz.func95, Tryz.ntmps95
      go_wp2
      go_ret
      exact ⟨rfl, Below.refl _ _⟩
end Go.Proofs.YtffohkpohgkglaaGreat
