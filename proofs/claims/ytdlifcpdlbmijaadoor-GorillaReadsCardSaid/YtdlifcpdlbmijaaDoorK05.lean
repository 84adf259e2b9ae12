/-
  PACKED: GwL, GwM, GrG, GrH, GoA, GoB, B2BookA, GoD, GoE
-/
import Derived.Test.YtdlifcpdlbmijaaDoorK03
import Derived.Test.YtdlifcpdlbmijaaDoorK04
import Derived.Test.YtdlifcpdlbmijaaDoorK02
import Derived.Shelf.Abstract
import Derived.Laws.StructEq
import Derived.Maps.AppendAt
import Derived.Deep.AppendLies
set_option linter.unusedVariables false
set_option linter.unusedSimpArgs false
namespace Go.Proofs.YtdlifcpdlbmijaaDoor
set_option linter.unusedVariables false
set_option linter.unusedSimpArgs false
open Go.RowKit Go.PlainAid Go.Shelf
open B2 (Only Wr PutPost Bys Row cellsOf)
open Gm (St Smp)
theorem and0_spell (v i : Nat) (hv : v < 18446744073709551616) : (bits .and .u64 ((v : Int) / 2 ^ i) 1 == 0) = !v.testBit i := by
  have h := B2.and1_spell v i hv
  have e : ((v : Int) / 2 ^ i) = ((v >>> i : Nat) : Int) := by
    rw [Nat.shiftRight_eq_div_pow]
    simp only [Int.natCast_ediv, Int.natCast_pow, Int.cast_ofNat_Int]
  have hl : v >>> i < 18446744073709551616 := by
    rw [Nat.shiftRight_eq_div_pow]; exact Nat.lt_of_le_of_lt (Nat.div_le_self _ _) hv
  have h2 := u64_and_nat (v >>> i) 1 hl (by decide)
  rw [nat_mask1] at h2
  rw [e] at h ⊢
  have h3 : bits .and .u64 ((v >>> i : Nat) : Int) 1 = ((v >>> i % 2 : Nat) : Int) := h2
  rw [h3] at h ⊢
  rw [← h]
  have h4 : v >>> i % 2 = 0 ∨ v >>> i % 2 = 1 := by omega
  rcases h4 with h4 | h4 <;> rw [h4] <;> rfl
theorem ctz_bits (x : Nat) (h0 : x ≠ 0) (hx : x < 18446744073709551616) : x.testBit (Lib.ctz 64 x) = true ∧ ∀ q, q < Lib.ctz 64 x → x.testBit q = false := by
  obtain ⟨h1, m, h2⟩ := Gm.ctz_facts x h0 hx
  generalize Lib.ctz 64 x = c at *
  have hs : x = (2 * m + 1) <<< c := by rw [h2, Nat.shiftLeft_eq, Nat.mul_comm]
  constructor
  · rw [hs, Nat.testBit_shiftLeft]; simp
  · intro q hq
    rw [hs, Nat.testBit_shiftLeft]
    have : ¬ q ≥ c := by omega
    simp [this]
theorem lead_lt (x l : Nat) (hx : x < 18446744073709551616) (hl : l ≤ 64) (h : ∀ q, q < l → x.testBit (63 - q) = false) : x < 2 ^ (64 - l) := by
  induction l with
  | zero => simpa using hx
  | succ l ih =>
    have h1 := ih (by omega) (fun q hq => h q (by omega))
    have h2 := h l (by omega)
    refine Nat.lt_of_not_le fun hge => ?_
    have h3 : x.testBit (63 - l) = true := by
      rw [Nat.testBit_eq_decide_div_mod_eq]
      have e1 : 64 - (l + 1) = 63 - l := by omega
      rw [e1] at hge
      have e2 : 2 ^ (64 - l) = 2 ^ (63 - l) * 2 := by rw [← Nat.pow_succ]; congr 1; omega
      have h5 : x / 2 ^ (63 - l) = 1 := by
        refine Nat.div_eq_of_lt_le (by omega) ?_
        rw [Nat.add_mul, Nat.one_mul]; omega
      rw [h5]; rfl
    rw [h3] at h2; cases h2
theorem lead_is (x l : Nat) (h0 : x ≠ 0) (hx : x < 18446744073709551616) (hl : l ≤ 31) (h : ∀ q, q < l → x.testBit (63 - q) = false) (he : l = 31 ∨ x.testBit (63 - l) = true) : Gm.wS x = l := by
  obtain ⟨b1, b2, b3, b4⟩ := Gm.bitLen_facts x h0 hx
  have h1 := lead_lt x l hx (by omega) h
  unfold Gm.wS
  have hb : Lib.bitLen x ≤ 64 - l := by
    refine Nat.le_of_not_lt fun hlt => ?_
    have : 2 ^ (64 - l) ≤ 2 ^ (Lib.bitLen x - 1) := Nat.pow_le_pow_right (by decide) (by omega)
    omega
  rcases he with rfl | he
  · omega
  · have hge : 2 ^ (63 - l) ≤ x := Nat.ge_two_pow_of_testBit he
    have hb2 : 63 - l < Lib.bitLen x := by
      refine Nat.lt_of_not_le fun hle => ?_
      have : 2 ^ Lib.bitLen x ≤ 2 ^ (63 - l) := Nat.pow_le_pow_right (by decide) hle
      omega
    omega
set_option maxHeartbeats 8000000 in
set_option maxRecDepth 100000 in
theorem ends_any (x : Nat) (h0 : x ≠ 0) (hx : x < 18446744073709551616) (w : World) :
    Calls Tryd.prog 90 #[.int .u64 ((x : Nat) : Int)] w fun e w' => e = .returned (.tuple #[.int .i64 ((Gm.wS x : Nat) : Int), .int .i64 ((Lib.ctz 64 x : Nat) : Int)]) ∧ w' = w := by
  have HX := Lib.hid (And.intro h0 hx)
  obtain ⟨t1, t2⟩ := ctz_bits x h0 hx
  have hc := (Gm.ctz_facts x h0 hx).1
  obtain ⟨c, hcc⟩ : ∃ c, Lib.ctz 64 x = c := ⟨_, rfl⟩
  rw [hcc] at t1 t2 hc ⊢
  have HT := Lib.hid (And.intro t1 t2)
  have HS := Lib.hid (fun i => and0_spell x i hx)
  clear h0 hx t1 t2 hcc
  go_enter Tryd.func90, Tryd.ntmps90
  go_wp2
  go_loopw [4] (fun i wr => ∃ l : Nat, l ≤ 31 ∧ i = .int .i64 l ∧ Hid (∀ q, q < l → x.testBit (63 - q) = false) ∧ wr = w) (fun i _ => 31 - (intOf i).toNat)
  case atStart => exact ⟨0, by omega, rfl, Lib.hid (fun q h => by omega), rfl⟩
  case round =>
    obtain ⟨l, hl, rfl, HQ, rfl⟩ := hrel
    by_cases h31 : l < 31
    · have g1 : decide ((l : Int) < 31) = true := decide_eq_true (by omega)
      have g2 : decide (l < 31) = true := decide_eq_true h31
      have h63 : (63 : Int) - (l : Int) = ((63 - l : Nat) : Int) := by omega
      have h64 : 63 - l < 64 := by omega
      have hw : IntKind.u64.wrap ((63 - l : Nat) : Int) = ((63 - l : Nat) : Int) := by rw [IntKind.wrap_u64]; omega
      have hsp := HS.out (63 - l)
      by_cases hb : x.testBit (63 - l) = true
      · rw [hb] at hsp
        have HL := Lib.hid (lead_is x l HX.out.1 HX.out.2 hl HQ.out (.inr hb))
        clear hb HQ
        go_wp2
        go_loopw [5] (fun i wr2 => ∃ e : Nat, e ≤ c ∧ i = .int .i64 e ∧ wr2 = wr) (fun i _ => c - (intOf i).toNat)
        case atStart => exact ⟨0, by omega, rfl, rfl⟩
        case round =>
          obtain ⟨e, hec, rfl, rfl⟩ := hrel
          have he64 : e < 64 := by omega
          have hwe : IntKind.u64.wrap ((e : Nat) : Int) = ((e : Nat) : Int) := by rw [IntKind.wrap_u64]; omega
          have hspe := HS.out e
          by_cases hlt : e < c
          · rw [HT.out.2 e hlt] at hspe
            go_wp2
            go_roundw
            case rel => exact ⟨e + 1, by omega, rfl, trivial⟩
            case measure => simp [intOf]; omega
          · have hee : e = c := by omega
            subst hee
            rw [HT.out.1] at hspe
            go_wp2
            go_ret2
            exact ⟨by rw [HL.out]; rfl, rfl⟩
      · have hb2 : x.testBit (63 - l) = false := by simpa using hb
        rw [hb2] at hsp
        have HQ2 := Lib.hid (show ∀ q, q < l + 1 → x.testBit (63 - q) = false from fun q hq => by
          rcases Nat.lt_or_ge q l with h | h
          · exact HQ.out q h
          · have : q = l := by omega
            subst this; exact hb2)
        clear hb hb2 HQ
        go_wp2
        go_roundw
        case rel => exact ⟨l + 1, by omega, rfl, HQ2, trivial⟩
        case measure => simp [intOf]; omega
    · have hl31 : l = 31 := by omega
      subst hl31
      have HL := Lib.hid (lead_is x 31 HX.out.1 HX.out.2 hl HQ.out (.inl rfl))
      have g1 : decide (((31 : Nat) : Int) < 31) = false := decide_eq_false (by omega)
      clear HQ
      go_wp2
      go_loopw [5] (fun i wr2 => ∃ e : Nat, e ≤ c ∧ i = .int .i64 e ∧ wr2 = wr) (fun i _ => c - (intOf i).toNat)
      case atStart => exact ⟨0, by omega, rfl, rfl⟩
      case round =>
        obtain ⟨e, hec, rfl, rfl⟩ := hrel
        have he64 : e < 64 := by omega
        have hwe : IntKind.u64.wrap ((e : Nat) : Int) = ((e : Nat) : Int) := by rw [IntKind.wrap_u64]; omega
        have hspe := HS.out e
        by_cases hlt : e < c
        · rw [HT.out.2 e hlt] at hspe
          go_wp2
          go_roundw
          case rel => exact ⟨e + 1, by omega, rfl, trivial⟩
          case measure => simp [intOf]; omega
        · have hee : e = c := by omega
          subst hee
          rw [HT.out.1] at hspe
          go_wp2
          go_ret2
          exact ⟨by rw [HL.out]; rfl, rfl⟩
end Go.Proofs.YtdlifcpdlbmijaaDoor
namespace Go.Proofs.YtdlifcpdlbmijaaDoor
set_option linter.unusedVariables false
set_option linter.unusedSimpArgs false
open Go.RowKit Go.PlainAid Go.Shelf
open B2 (Only Wr PutPost Bys Row cellsOf Rf RfPost)
open Gm (St Smp)
/-- samples in memory -/
def Sam (w : World) (b : Nat) (l : List Smp) : Prop := ∀ i (hi : i < l.length), w.cell? ⟨b, i * 2, none⟩ = some (.int .i64 l[i].t) ∧ w.cell? ⟨b, i * 2 + 1, none⟩ = some (.int .u64 ((l[i].v : Nat) : Int))
theorem Sam.below {w w' : World} {b : Nat} {l : List Smp} (h : Sam w b l) (hb : Below w.heap.size w w') : Sam w' b l := fun i hi => ⟨cell_below (h i hi).1 hb, cell_below (h i hi).2 hb⟩
theorem Sam.only {w w' : World} {S : List Nat} {b : Nat} {l : List Smp} (h : Sam w b l) (ho : Only S w w') (hn : b ∉ S) : Sam w' b l := fun i hi => ⟨Only_cell ho (h i hi).1 hn, Only_cell ho (h i hi).2 hn⟩
def bkL : List (List Int) := [[2, 2, -63, 64, 7], [6, 3, -255, 256, 9], [14, 4, -2047, 2048, 12]]
/-- the document's table in memory: q, q0, q1, q2: its blocks -/
structure TabB (w : World) (q q0 q1 q2 c c0 c1 c2 o9 oa oc od : Nat) : Prop where
  g : w.cell? ⟨0, 0, none⟩ = some (.slice (some ⟨q, o9, none⟩) 3 c)
  r : w.cell? ⟨q, o9, none⟩ = some (.slice (some ⟨q0, oa, none⟩) 5 c0) ∧ w.cell? ⟨q, o9 + 1, none⟩ = some (.slice (some ⟨q1, oc, none⟩) 5 c1) ∧ w.cell? ⟨q, o9 + 2, none⟩ = some (.slice (some ⟨q2, od, none⟩) 5 c2)
  t0 : w.cell? ⟨q0, oa, none⟩ = some (.int .i64 2) ∧ w.cell? ⟨q0, oa + 1, none⟩ = some (.int .i64 2) ∧ w.cell? ⟨q0, oa + 2, none⟩ = some (.int .i64 (-63)) ∧ w.cell? ⟨q0, oa + 3, none⟩ = some (.int .i64 64) ∧ w.cell? ⟨q0, oa + 4, none⟩ = some (.int .i64 7)
  t1 : w.cell? ⟨q1, oc, none⟩ = some (.int .i64 6) ∧ w.cell? ⟨q1, oc + 1, none⟩ = some (.int .i64 3) ∧ w.cell? ⟨q1, oc + 2, none⟩ = some (.int .i64 (-255)) ∧ w.cell? ⟨q1, oc + 3, none⟩ = some (.int .i64 256) ∧ w.cell? ⟨q1, oc + 4, none⟩ = some (.int .i64 9)
  t2 : w.cell? ⟨q2, od, none⟩ = some (.int .i64 14) ∧ w.cell? ⟨q2, od + 1, none⟩ = some (.int .i64 4) ∧ w.cell? ⟨q2, od + 2, none⟩ = some (.int .i64 (-2047)) ∧ w.cell? ⟨q2, od + 3, none⟩ = some (.int .i64 2048) ∧ w.cell? ⟨q2, od + 4, none⟩ = some (.int .i64 12)
theorem row_zero (D : Nat) (hD : D < 18446744073709551616) : Gm.hasR 0 D = decide (Gm.i64 D = 0) := by
  unfold Gm.hasR Gm.i64; rw [Bool.eq_iff_iff]; simp only [decide_eq_true_eq, Gm.pl, Gm.sz, Nat.pow_zero, Nat.div_one]; split <;> omega
theorem row_one (D : Nat) (hD : D < 18446744073709551616) : Gm.hasR 1 D = (decide (-63 ≤ Gm.i64 D) && decide (Gm.i64 D ≤ 64)) := by
  unfold Gm.hasR Gm.i64; rw [Bool.eq_iff_iff]; simp only [decide_eq_true_eq, Bool.and_eq_true, Gm.pl, Gm.sz, show (2 : Nat) ^ 7 = 128 from rfl]; split <;> omega
theorem row_two (D : Nat) (hD : D < 18446744073709551616) : Gm.hasR 2 D = (decide (-255 ≤ Gm.i64 D) && decide (Gm.i64 D ≤ 256)) := by
  unfold Gm.hasR Gm.i64; rw [Bool.eq_iff_iff]; simp only [decide_eq_true_eq, Bool.and_eq_true, Gm.pl, Gm.sz, show (2 : Nat) ^ 9 = 512 from rfl]; split <;> omega
theorem row_three (D : Nat) (hD : D < 18446744073709551616) : Gm.hasR 3 D = (decide (-2047 ≤ Gm.i64 D) && decide (Gm.i64 D ≤ 2048)) := by
  unfold Gm.hasR Gm.i64; rw [Bool.eq_iff_iff]; simp only [decide_eq_true_eq, Bool.and_eq_true, Gm.pl, Gm.sz, show (2 : Nat) ^ 12 = 4096 from rfl]; split <;> omega
theorem wrap_u (t : Int) : IntKind.u64.wrap t = ((Gm.gapOf t 0 : Nat) : Int) := by rw [IntKind.wrap_u64]; unfold Gm.gapOf; omega
theorem gap_u (t l : Int) : IntKind.u64.wrap (IntKind.u64.wrap t - IntKind.u64.wrap l) = ((Gm.gapOf t l : Nat) : Int) := by rw [IntKind.wrap_u64, IntKind.wrap_u64, IntKind.wrap_u64]; unfold Gm.gapOf; omega
theorem i64_of (D : Nat) (hD : D < 18446744073709551616) : IntKind.i64.wrap (D : Int) = Gm.i64 D := by rw [i64_is]; unfold RowKit.wrap64 Gm.i64; split <;> omega
theorem u_of_i64 (D : Nat) (hD : D < 18446744073709551616) : IntKind.u64.wrap (Gm.i64 D) = (D : Int) := by rw [IntKind.wrap_u64]; unfold Gm.i64; split <;> omega
theorem i64_bd (D : Nat) (hD : D < 18446744073709551616) : -9223372036854775808 ≤ Gm.i64 D ∧ Gm.i64 D ≤ 9223372036854775807 := by unfold Gm.i64; split <;> omega
/-- how the time of sample i is told -/
def timeL (l : List Smp) (i : Nat) : List Bool := if i = 1 then B2.Bt.vb (Gm.gapOf (l.getD 1 ⟨0, 0⟩).t (l.getD 0 ⟨0, 0⟩).t) else Gm.stepB (Gm.subW (Gm.gapOf (l.getD i ⟨0, 0⟩).t (l.getD (i - 1) ⟨0, 0⟩).t) (Gm.gapOf (l.getD (i - 1) ⟨0, 0⟩).t (l.getD (i - 2) ⟨0, 0⟩).t))
set_option maxHeartbeats 8000000 in
set_option maxRecDepth 100000 in
theorem time_one (r g b n cap : Nat) (B : List Bool) (l : List Smp) (hn : l.length = n) (hl : 1 < n) (hB : B.length + 200 ≤ 1000000000) (w : World) (H : Rf w r g B 0) (HS : Sam w b l) :
    Calls Tryd.prog 88 #[pt r, .slice (some ⟨b, 0, none⟩) n cap, .int .i64 1] w fun e w' => e = .returned (.tuple #[]) ∧ RfPost w r g (B ++ timeL l 1) 0 w' := by
  have h0 := (HS 0 (by omega)).1
  have h1 := (HS 1 (by omega)).1
  have q0 : l[0] = l.getD 0 ⟨0, 0⟩ := by simp [List.getD, List.getElem?_eq_getElem (show 0 < l.length by omega)]
  have q1 : l[1] = l.getD 1 ⟨0, 0⟩ := by simp [List.getD, List.getElem?_eq_getElem (show 1 < l.length by omega)]
  rw [q0] at h0
  rw [q1] at h1
  unfold timeL
  rw [if_pos rfl]
  obtain ⟨a0, ha0⟩ : ∃ a0, (l.getD 0 ⟨0, 0⟩).t = a0 := ⟨_, rfl⟩
  obtain ⟨a1, ha1⟩ : ∃ a1, (l.getD 1 ⟨0, 0⟩).t = a1 := ⟨_, rfl⟩
  rw [ha0] at h0 ⊢
  rw [ha1] at h1 ⊢
  have hg := gap_u a1 a0
  have hgl := Gm.gapOf_lt a1 a0
  obtain ⟨G, hG⟩ : ∃ G, Gm.gapOf a1 a0 = G := ⟨_, rfl⟩
  rw [hG] at hg hgl ⊢
  have CV := Lib.hid (fun W (h : Rf W r g B 0) => B2.fputvar_any r g B 0 G hgl W h (by omega))
  have HH := Lib.hid H
  have hb1 : (1 : Int) < (n : Int) := by omega
  have hb2 : (0 : Int) < (n : Int) := by omega
  have hn1 : 1 < n := hl
  have hn0 : 0 < n := by omega
  clear H HS q0 q1 ha0 ha1 hG hB hn hl
  unfold pt at *
  go_enter Tryd.func88, Tryd.ntmps88
  go_wp2_with fail
  go_quiet (fail)
  go_wp2_with (go_at_call 112; refine (CV.out _ (HH.out.below (drewn_below _ _))).mono ?_; rintro e w1 ⟨rfl, hp⟩)
  exact bodyPost_ret (results_none rfl _ _ _) rfl ⟨rfl, RfPost.trans ((Only.refl [r, g] w).drewN _) (.inl rfl) hp⟩
theorem TabB.only {w w' : World} {q q0 q1 q2 c c0 c1 c2 o9 oa oc od r g : Nat} (h : TabB w q q0 q1 q2 c c0 c1 c2 o9 oa oc od) (ho : Only [r, g] w w') (hne : r ≠ 0 ∧ r ≠ q ∧ r ≠ q0 ∧ r ≠ q1 ∧ r ≠ q2 ∧ g ≠ 0 ∧ g ≠ q ∧ g ≠ q0 ∧ g ≠ q1 ∧ g ≠ q2) : TabB w' q q0 q1 q2 c c0 c1 c2 o9 oa oc od := by
  have n0 : 0 ∉ [r, g] := by simp only [List.mem_cons, List.not_mem_nil, or_false]; omega
  have nq : q ∉ [r, g] := by simp only [List.mem_cons, List.not_mem_nil, or_false]; omega
  have n1 : q0 ∉ [r, g] := by simp only [List.mem_cons, List.not_mem_nil, or_false]; omega
  have n2 : q1 ∉ [r, g] := by simp only [List.mem_cons, List.not_mem_nil, or_false]; omega
  have n3 : q2 ∉ [r, g] := by simp only [List.mem_cons, List.not_mem_nil, or_false]; omega
  exact ⟨Only_cell ho h.g n0, ⟨Only_cell ho h.r.1 nq, Only_cell ho h.r.2.1 nq, Only_cell ho h.r.2.2 nq⟩,
    ⟨Only_cell ho h.t0.1 n1, Only_cell ho h.t0.2.1 n1, Only_cell ho h.t0.2.2.1 n1, Only_cell ho h.t0.2.2.2.1 n1, Only_cell ho h.t0.2.2.2.2 n1⟩,
    ⟨Only_cell ho h.t1.1 n2, Only_cell ho h.t1.2.1 n2, Only_cell ho h.t1.2.2.1 n2, Only_cell ho h.t1.2.2.2.1 n2, Only_cell ho h.t1.2.2.2.2 n2⟩,
    ⟨Only_cell ho h.t2.1 n3, Only_cell ho h.t2.2.1 n3, Only_cell ho h.t2.2.2.1 n3, Only_cell ho h.t2.2.2.2.1 n3, Only_cell ho h.t2.2.2.2.2 n3⟩⟩
theorem TabB.below {w w' : World} {q q0 q1 q2 c c0 c1 c2 o9 oa oc od : Nat} (h : TabB w q q0 q1 q2 c c0 c1 c2 o9 oa oc od) (hb : Below w.heap.size w w') : TabB w' q q0 q1 q2 c c0 c1 c2 o9 oa oc od :=
  ⟨cell_below h.g hb, ⟨cell_below h.r.1 hb, cell_below h.r.2.1 hb, cell_below h.r.2.2 hb⟩,
    ⟨cell_below h.t0.1 hb, cell_below h.t0.2.1 hb, cell_below h.t0.2.2.1 hb, cell_below h.t0.2.2.2.1 hb, cell_below h.t0.2.2.2.2 hb⟩,
    ⟨cell_below h.t1.1 hb, cell_below h.t1.2.1 hb, cell_below h.t1.2.2.1 hb, cell_below h.t1.2.2.2.1 hb, cell_below h.t1.2.2.2.2 hb⟩,
    ⟨cell_below h.t2.1 hb, cell_below h.t2.2.1 hb, cell_below h.t2.2.2.1 hb, cell_below h.t2.2.2.2.1 hb, cell_below h.t2.2.2.2.2 hb⟩⟩
theorem add_two (i : Nat) : ((i + 2 : Nat) : Int) - 1 = ((i + 1 : Nat) : Int) ∧ ((i + 2 : Nat) : Int) - 2 = (i : Int) := ⟨by omega, by omega⟩
set_option maxHeartbeats 8000000 in
set_option maxRecDepth 100000 in
theorem time_more (r g b n cap j : Nat) (B : List Bool) (l : List Smp) (hn : l.length = n) (hl : j + 2 < n) (hn9 : n ≤ 1000000) (hB : B.length + 200 ≤ 1000000000) (q p0 p1 p2 c c0 c1 c2 o9 oa oc od : Nat) (w : World) (H : Rf w r g B 0) (HS : Sam w b l) (HT : TabB w q p0 p1 p2 c c0 c1 c2 o9 oa oc od)
    (hne : r ≠ 0 ∧ r ≠ q ∧ r ≠ p0 ∧ r ≠ p1 ∧ r ≠ p2 ∧ g ≠ 0 ∧ g ≠ q ∧ g ≠ p0 ∧ g ≠ p1 ∧ g ≠ p2) :
    Calls Tryd.prog 88 #[pt r, .slice (some ⟨b, 0, none⟩) n cap, .int .i64 ((j + 2 : Nat) : Int)] w fun e w' => e = .returned (.tuple #[]) ∧ RfPost w r g (B ++ timeL l (j + 2)) 0 w' := by
  have h0 := (HS j (by omega)).1
  have h1 := (HS (j + 1) (by omega)).1
  have h2 := (HS (j + 2) (by omega)).1
  have q0 : l[j] = l.getD j ⟨0, 0⟩ := by simp [List.getD, List.getElem?_eq_getElem (show j < l.length by omega)]
  have q1 : l[j + 1] = l.getD (j + 1) ⟨0, 0⟩ := by simp [List.getD, List.getElem?_eq_getElem (show j + 1 < l.length by omega)]
  have q2 : l[j + 2] = l.getD (j + 2) ⟨0, 0⟩ := by simp [List.getD, List.getElem?_eq_getElem (show j + 2 < l.length by omega)]
  rw [q0] at h0
  rw [q1] at h1
  rw [q2] at h2
  unfold timeL
  rw [if_neg (by omega), show j + 2 - 1 = j + 1 by omega, show j + 2 - 2 = j by omega]
  obtain ⟨a0, ha0⟩ : ∃ a0, (l.getD j ⟨0, 0⟩).t = a0 := ⟨_, rfl⟩
  obtain ⟨a1, ha1⟩ : ∃ a1, (l.getD (j + 1) ⟨0, 0⟩).t = a1 := ⟨_, rfl⟩
  obtain ⟨a2, ha2⟩ : ∃ a2, (l.getD (j + 2) ⟨0, 0⟩).t = a2 := ⟨_, rfl⟩
  rw [ha0] at h0 ⊢
  rw [ha1] at h1 ⊢
  rw [ha2] at h2 ⊢
  have hg := gap_u a2 a1
  have hg2 := gap_u a1 a0
  have hgl := Gm.gapOf_lt a2 a1
  have hgl2 := Gm.gapOf_lt a1 a0
  obtain ⟨G, hG⟩ : ∃ G, Gm.gapOf a2 a1 = G := ⟨_, rfl⟩
  obtain ⟨G2, hG2⟩ : ∃ G2, Gm.gapOf a1 a0 = G2 := ⟨_, rfl⟩
  rw [hG] at hg hgl ⊢
  rw [hG2] at hg2 hgl2 ⊢
  have hs := sub_word G G2 hgl hgl2
  have hDl := Gm.subW_lt G G2
  obtain ⟨D, hD⟩ : ∃ D, Gm.subW G G2 = D := ⟨_, rfl⟩
  rw [hD] at hs hDl ⊢
  have hi := i64_of D hDl
  obtain ⟨e, he⟩ : ∃ e, Gm.i64 D = e := ⟨_, rfl⟩
  rw [he] at hi
  have HE := Lib.hid (And.intro he hDl)
  have HH := Lib.hid H
  have HTT := Lib.hid HT
  have HNE := Lib.hid hne
  have HB := Lib.hid hB
  have hb2 : ((j + 2 : Nat) : Int) < (n : Int) := by omega
  have hb1 : ((j + 1 : Nat) : Int) < (n : Int) := by omega
  have hb0 : (j : Int) < (n : Int) := by omega
  have hc2 : j + 2 < n := hl
  have hc1 : j + 1 < n := by omega
  have hc0 : j < n := by omega
  have hj1 := (add_two j).1
  have hj2 := (add_two j).2
  have hne1 : (((j + 2 : Nat) : Int) == 1) = false := by simp; omega
  have hne2 : ¬ ((j + 2 : Nat) : Int) = 1 := by omega
  obtain ⟨m2, hm2⟩ : ∃ m2, j + 2 = m2 := ⟨_, rfl⟩
  obtain ⟨m1, hm1⟩ : ∃ m1, j + 1 = m1 := ⟨_, rfl⟩
  rw [hm2] at h2 hb2 hc2 hj1 hj2 hne1 hne2 ⊢
  rw [hm1] at h1 hb1 hc1 hj1
  clear H HS HT hne q0 q1 q2 ha0 ha1 ha2 hG hG2 hB hn hl hD hm1 hm2 he hgl hgl2 hDl
  unfold pt at *
  go_enter Tryd.func88, Tryd.ntmps88
  go_wp2_with fail
  go_quiet (fail)
  revert nq
  intro nq1
  go_wp2_with fail
  go_quiet (fail)
  have HO := Lib.hid (show Only [r, g] w ((w.drewN nq1).drewN nq) from ((Only.refl [r, g] w).drewN _).drewN _)
  have HTW := Lib.hid ((HTT.out.below (drewn_below w nq1)).below (drewn_below (w.drewN nq1) nq))
  have HRW := Lib.hid ((HH.out.below (drewn_below w nq1)).below (drewn_below (w.drewN nq1) nq))
  clear h0 h1 h2 hb0 hb1 hb2 hc0 hc1 hc2 hj1 hj2 hg hg2 hs hi hne1 hne2 HH HTT
  generalize (w.drewN nq1).drewN nq = W0 at HO HTW HRW ⊢
  have he := HE.out.1
  have hDl := HE.out.2
  clear HE
  have r0 := row_zero D hDl
  have r1 := row_one D hDl
  have r2 := row_two D hDl
  have r3 := row_three D hDl
  rw [he] at r0 r1 r2 r3
  have hbd := i64_bd D hDl
  rw [he] at hbd
  have hue := u_of_i64 D hDl
  rw [he] at hue
  have hcase : e = 0 ∨ (e ≠ 0 ∧ -63 ≤ e ∧ e ≤ 64) ∨ (-255 ≤ e ∧ e < -63) ∨ (64 < e ∧ e ≤ 256) ∨ (-2047 ≤ e ∧ e < -255) ∨ (256 < e ∧ e ≤ 2048) ∨ e < -2047 ∨ 2048 < e := by omega
  rcases hcase with h | h | h | h | h | h | h | h
  · have hk : Gm.rowOf D = 0 := row_is D 0 (by decide) (fun q h => by omega) (by rw [r0, decide_eq_true h])
    have CB := Lib.hid (fun W (h : Rf W r g B 0) => B2.fbit_any r g B 0 false W h (by have := HB.out; omega))
    have HSB := Lib.hid (show Gm.stepB D = [false] by unfold Gm.stepB; rw [hk]; rfl)
    subst h
    clear r0 r1 r2 r3 hbd hue hk HTW he hDl
    go_wp2_with (go_at_call 89; refine (CB.out _ HRW.out).mono ?_; rintro e' w1 ⟨rfl, hp⟩)
    refine bodyPost_ret (results_none rfl _ _ _) rfl ⟨rfl, ?_⟩
    rw [HSB.out]
    exact RfPost.trans HO.out (.inl rfl) hp
  · have hz1 : (e == 0) = false := by simp; omega
    have hz2 : ¬ e = 0 := by omega
    have u1a : decide ((-63 : Int) ≤ e) = true := decide_eq_true (by omega)
    have u1b : decide (e ≤ (64 : Int)) = true := decide_eq_true (by omega)
    have u2a : decide ((-255 : Int) ≤ e) = true := decide_eq_true (by omega)
    have u2b : decide (e ≤ (256 : Int)) = true := decide_eq_true (by omega)
    have u3a : decide ((-2047 : Int) ≤ e) = true := decide_eq_true (by omega)
    have u3b : decide (e ≤ (2048 : Int)) = true := decide_eq_true (by omega)
    have z0 : decide (e = 0) = false := decide_eq_false (by omega)
    rw [z0] at r0
    rw [u1a, u1b] at r1
    rw [u2a, u2b] at r2
    rw [u3a, u3b] at r3
    have r1 : Gm.hasR 1 D = true := r1
    have r2 : Gm.hasR 2 D = true := r2
    have r3 : Gm.hasR 3 D = true := r3
    have hk : Gm.rowOf D = 1 := row_is D 1 (by decide) (fun q h => by
      have h5 : q = 0 := by omega
      rcases h5 with rfl
      · exact r0
    ) r1
    have HSB := Lib.hid (show Gm.stepB D = B2.Bt.top 2 2 ++ B2.Bt.top ((D + 63) % 18446744073709551616) 7 by unfold Gm.stepB; rw [hk]; rfl)
    have hcv : e + 63 = (((D + 63) % 18446744073709551616 : Nat) : Int) := by rw [← he] at h ⊢; unfold Gm.i64 at h ⊢; split at h <;> rename_i h2 <;> simp only [h2, if_true, if_false] <;> omega
    have CB := Lib.hid (fun W (h : Rf W r g B 0) => B2.fbits_good r g B 0 2 2 (by decide) (by decide) W h (by have := HB.out; omega))
    have CB2 := Lib.hid (fun g1 W (h : Rf W r g1 (B ++ B2.Bt.top 2 2) 0) => B2.fbits_good r g1 (B ++ B2.Bt.top 2 2) 0 ((D + 63) % 18446744073709551616) 7 (Nat.mod_lt _ (by decide)) (by decide) W h (by simp only [List.length_append, B2.Bt.top_length]; have := HB.out; omega))
    rw [← hcv] at CB2
    simp only [Int.cast_ofNat_Int] at CB CB2
    have hTg := HTW.out.g
    obtain ⟨hTr0, hTr1, hTr2⟩ := HTW.out.r
    obtain ⟨ta0, ta1, ta2, ta3, ta4⟩ := HTW.out.t0
    obtain ⟨tb0, tb1, tb2, tb3, tb4⟩ := HTW.out.t1
    obtain ⟨tc0, tc1, tc2, tc3, tc4⟩ := HTW.out.t2
    clear r0 r1 r2 r3 hue hk he hDl z0 hcv
    go_wp2_with fail
    refine wp_loop_rounds 4 ?_
    rw [rounds_succ]
    go_wp2_with fail
    go_still_tail 8, (by kernel_rfl)
    change wpList _ _ _ _ _ (World.drew _)
    clear hTg hTr0 hTr1 hTr2 ta0 ta1 ta2 ta3 ta4 tb0 tb1 tb2 tb3 tb4 tc0 tc1 tc2 tc3 tc4
    go_wp2_with fail
    go_at_call 87
    refine (CB.out _ (HRW.out.below (drew_below _))).mono ?_
    rintro e' w1 ⟨rfl, hp⟩
    obtain ⟨g1, hr1, hg1, ho1⟩ := hp
    have ho2 : Only [r, g] W0 w1 := ((Only.refl [r, g] W0).drew).trans ho1 (fun x hx => .inl hx)
    have hTw := HTW.out.only ho2 HNE.out
    have hx2 := hTw.t0.2.2.1
    have hx4 := hTw.t0.2.2.2.2
    have HO2 := Lib.hid (HO.out.trans ho2 (fun x hx => .inl hx))
    have HG1 := Lib.hid (show g1 = g ∨ w.heap.size ≤ g1 from hg1.imp id (fun h => Nat.le_trans HO.out.size h))
    have HR1 := Lib.hid hr1
    clear hr1 hg1 ho1 ho2 hTw CB HTW HRW
    go_upto_region 12 with (fail)
    go_still_tail 10, (by kernel_rfl)
    change wpList _ _ _ _ _ (World.drew _)
    go_wp2_with fail
    go_at_call 87
    refine (CB2.out g1 _ (HR1.out.below (drew_below _))).mono ?_
    rintro e' w2 ⟨rfl, hp⟩
    go_wp2_with fail
    refine bodyPost_ret (results_none rfl _ _ _) rfl ⟨rfl, ?_⟩
    rw [HSB.out, ← List.append_assoc]
    exact RfPost.trans (HO2.out.drew) HG1.out hp
  · have hz1 : (e == 0) = false := by simp; omega
    have hz2 : ¬ e = 0 := by omega
    have u1a : decide ((-63 : Int) ≤ e) = false := decide_eq_false (by omega)
    have u1b : decide (e ≤ (64 : Int)) = true := decide_eq_true (by omega)
    have u2a : decide ((-255 : Int) ≤ e) = true := decide_eq_true (by omega)
    have u2b : decide (e ≤ (256 : Int)) = true := decide_eq_true (by omega)
    have u3a : decide ((-2047 : Int) ≤ e) = true := decide_eq_true (by omega)
    have u3b : decide (e ≤ (2048 : Int)) = true := decide_eq_true (by omega)
    have z0 : decide (e = 0) = false := decide_eq_false (by omega)
    rw [z0] at r0
    rw [u1a, u1b] at r1
    rw [u2a, u2b] at r2
    rw [u3a, u3b] at r3
    have r1 : Gm.hasR 1 D = false := r1
    have r2 : Gm.hasR 2 D = true := r2
    have r3 : Gm.hasR 3 D = true := r3
    have hk : Gm.rowOf D = 2 := row_is D 2 (by decide) (fun q h => by
      have h5 : q = 0 ∨ q = 1 := by omega
      rcases h5 with rfl | rfl
      · exact r0
      · exact r1
    ) r2
    have HSB := Lib.hid (show Gm.stepB D = B2.Bt.top 6 3 ++ B2.Bt.top ((D + 255) % 18446744073709551616) 9 by unfold Gm.stepB; rw [hk]; rfl)
    have hcv : e + 255 = (((D + 255) % 18446744073709551616 : Nat) : Int) := by rw [← he] at h ⊢; unfold Gm.i64 at h ⊢; split at h <;> rename_i h2 <;> simp only [h2, if_true, if_false] <;> omega
    have CB := Lib.hid (fun W (h : Rf W r g B 0) => B2.fbits_good r g B 0 6 3 (by decide) (by decide) W h (by have := HB.out; omega))
    have CB2 := Lib.hid (fun g1 W (h : Rf W r g1 (B ++ B2.Bt.top 6 3) 0) => B2.fbits_good r g1 (B ++ B2.Bt.top 6 3) 0 ((D + 255) % 18446744073709551616) 9 (Nat.mod_lt _ (by decide)) (by decide) W h (by simp only [List.length_append, B2.Bt.top_length]; have := HB.out; omega))
    rw [← hcv] at CB2
    simp only [Int.cast_ofNat_Int] at CB CB2
    have hTg := HTW.out.g
    obtain ⟨hTr0, hTr1, hTr2⟩ := HTW.out.r
    obtain ⟨ta0, ta1, ta2, ta3, ta4⟩ := HTW.out.t0
    obtain ⟨tb0, tb1, tb2, tb3, tb4⟩ := HTW.out.t1
    obtain ⟨tc0, tc1, tc2, tc3, tc4⟩ := HTW.out.t2
    clear r0 r1 r2 r3 hue hk he hDl z0 hcv
    go_wp2_with fail
    refine wp_loop_rounds 4 ?_
    rw [rounds_succ]
    go_wp2_with fail
    rw [rounds_succ]
    go_wp2_with fail
    go_still_tail 8, (by kernel_rfl)
    change wpList _ _ _ _ _ (World.drew _)
    clear hTg hTr0 hTr1 hTr2 ta0 ta1 ta2 ta3 ta4 tb0 tb1 tb2 tb3 tb4 tc0 tc1 tc2 tc3 tc4
    go_wp2_with fail
    go_at_call 87
    refine (CB.out _ (HRW.out.below (drew_below _))).mono ?_
    rintro e' w1 ⟨rfl, hp⟩
    obtain ⟨g1, hr1, hg1, ho1⟩ := hp
    have ho2 : Only [r, g] W0 w1 := ((Only.refl [r, g] W0).drew).trans ho1 (fun x hx => .inl hx)
    have hTw := HTW.out.only ho2 HNE.out
    have hx2 := hTw.t1.2.2.1
    have hx4 := hTw.t1.2.2.2.2
    have HO2 := Lib.hid (HO.out.trans ho2 (fun x hx => .inl hx))
    have HG1 := Lib.hid (show g1 = g ∨ w.heap.size ≤ g1 from hg1.imp id (fun h => Nat.le_trans HO.out.size h))
    have HR1 := Lib.hid hr1
    clear hr1 hg1 ho1 ho2 hTw CB HTW HRW
    go_upto_region 12 with (fail)
    go_still_tail 10, (by kernel_rfl)
    change wpList _ _ _ _ _ (World.drew _)
    go_wp2_with fail
    go_at_call 87
    refine (CB2.out g1 _ (HR1.out.below (drew_below _))).mono ?_
    rintro e' w2 ⟨rfl, hp⟩
    go_wp2_with fail
    refine bodyPost_ret (results_none rfl _ _ _) rfl ⟨rfl, ?_⟩
    rw [HSB.out, ← List.append_assoc]
    exact RfPost.trans (HO2.out.drew) HG1.out hp
  · have hz1 : (e == 0) = false := by simp; omega
    have hz2 : ¬ e = 0 := by omega
    have u1a : decide ((-63 : Int) ≤ e) = true := decide_eq_true (by omega)
    have u1b : decide (e ≤ (64 : Int)) = false := decide_eq_false (by omega)
    have u2a : decide ((-255 : Int) ≤ e) = true := decide_eq_true (by omega)
    have u2b : decide (e ≤ (256 : Int)) = true := decide_eq_true (by omega)
    have u3a : decide ((-2047 : Int) ≤ e) = true := decide_eq_true (by omega)
    have u3b : decide (e ≤ (2048 : Int)) = true := decide_eq_true (by omega)
    have z0 : decide (e = 0) = false := decide_eq_false (by omega)
    rw [z0] at r0
    rw [u1a, u1b] at r1
    rw [u2a, u2b] at r2
    rw [u3a, u3b] at r3
    have r1 : Gm.hasR 1 D = false := r1
    have r2 : Gm.hasR 2 D = true := r2
    have r3 : Gm.hasR 3 D = true := r3
    have hk : Gm.rowOf D = 2 := row_is D 2 (by decide) (fun q h => by
      have h5 : q = 0 ∨ q = 1 := by omega
      rcases h5 with rfl | rfl
      · exact r0
      · exact r1
    ) r2
    have HSB := Lib.hid (show Gm.stepB D = B2.Bt.top 6 3 ++ B2.Bt.top ((D + 255) % 18446744073709551616) 9 by unfold Gm.stepB; rw [hk]; rfl)
    have hcv : e + 255 = (((D + 255) % 18446744073709551616 : Nat) : Int) := by rw [← he] at h ⊢; unfold Gm.i64 at h ⊢; split at h <;> rename_i h2 <;> simp only [h2, if_true, if_false] <;> omega
    have CB := Lib.hid (fun W (h : Rf W r g B 0) => B2.fbits_good r g B 0 6 3 (by decide) (by decide) W h (by have := HB.out; omega))
    have CB2 := Lib.hid (fun g1 W (h : Rf W r g1 (B ++ B2.Bt.top 6 3) 0) => B2.fbits_good r g1 (B ++ B2.Bt.top 6 3) 0 ((D + 255) % 18446744073709551616) 9 (Nat.mod_lt _ (by decide)) (by decide) W h (by simp only [List.length_append, B2.Bt.top_length]; have := HB.out; omega))
    rw [← hcv] at CB2
    simp only [Int.cast_ofNat_Int] at CB CB2
    have hTg := HTW.out.g
    obtain ⟨hTr0, hTr1, hTr2⟩ := HTW.out.r
    obtain ⟨ta0, ta1, ta2, ta3, ta4⟩ := HTW.out.t0
    obtain ⟨tb0, tb1, tb2, tb3, tb4⟩ := HTW.out.t1
    obtain ⟨tc0, tc1, tc2, tc3, tc4⟩ := HTW.out.t2
    clear r0 r1 r2 r3 hue hk he hDl z0 hcv
    go_wp2_with fail
    refine wp_loop_rounds 4 ?_
    rw [rounds_succ]
    go_wp2_with fail
    rw [rounds_succ]
    go_wp2_with fail
    go_still_tail 8, (by kernel_rfl)
    change wpList _ _ _ _ _ (World.drew _)
    clear hTg hTr0 hTr1 hTr2 ta0 ta1 ta2 ta3 ta4 tb0 tb1 tb2 tb3 tb4 tc0 tc1 tc2 tc3 tc4
    go_wp2_with fail
    go_at_call 87
    refine (CB.out _ (HRW.out.below (drew_below _))).mono ?_
    rintro e' w1 ⟨rfl, hp⟩
    obtain ⟨g1, hr1, hg1, ho1⟩ := hp
    have ho2 : Only [r, g] W0 w1 := ((Only.refl [r, g] W0).drew).trans ho1 (fun x hx => .inl hx)
    have hTw := HTW.out.only ho2 HNE.out
    have hx2 := hTw.t1.2.2.1
    have hx4 := hTw.t1.2.2.2.2
    have HO2 := Lib.hid (HO.out.trans ho2 (fun x hx => .inl hx))
    have HG1 := Lib.hid (show g1 = g ∨ w.heap.size ≤ g1 from hg1.imp id (fun h => Nat.le_trans HO.out.size h))
    have HR1 := Lib.hid hr1
    clear hr1 hg1 ho1 ho2 hTw CB HTW HRW
    go_upto_region 12 with (fail)
    go_still_tail 10, (by kernel_rfl)
    change wpList _ _ _ _ _ (World.drew _)
    go_wp2_with fail
    go_at_call 87
    refine (CB2.out g1 _ (HR1.out.below (drew_below _))).mono ?_
    rintro e' w2 ⟨rfl, hp⟩
    go_wp2_with fail
    refine bodyPost_ret (results_none rfl _ _ _) rfl ⟨rfl, ?_⟩
    rw [HSB.out, ← List.append_assoc]
    exact RfPost.trans (HO2.out.drew) HG1.out hp
  · have hz1 : (e == 0) = false := by simp; omega
    have hz2 : ¬ e = 0 := by omega
    have u1a : decide ((-63 : Int) ≤ e) = false := decide_eq_false (by omega)
    have u1b : decide (e ≤ (64 : Int)) = true := decide_eq_true (by omega)
    have u2a : decide ((-255 : Int) ≤ e) = false := decide_eq_false (by omega)
    have u2b : decide (e ≤ (256 : Int)) = true := decide_eq_true (by omega)
    have u3a : decide ((-2047 : Int) ≤ e) = true := decide_eq_true (by omega)
    have u3b : decide (e ≤ (2048 : Int)) = true := decide_eq_true (by omega)
    have z0 : decide (e = 0) = false := decide_eq_false (by omega)
    rw [z0] at r0
    rw [u1a, u1b] at r1
    rw [u2a, u2b] at r2
    rw [u3a, u3b] at r3
    have r1 : Gm.hasR 1 D = false := r1
    have r2 : Gm.hasR 2 D = false := r2
    have r3 : Gm.hasR 3 D = true := r3
    have hk : Gm.rowOf D = 3 := row_is D 3 (by decide) (fun q h => by
      have h5 : q = 0 ∨ q = 1 ∨ q = 2 := by omega
      rcases h5 with rfl | rfl | rfl
      · exact r0
      · exact r1
      · exact r2
    ) r3
    have HSB := Lib.hid (show Gm.stepB D = B2.Bt.top 14 4 ++ B2.Bt.top ((D + 2047) % 18446744073709551616) 12 by unfold Gm.stepB; rw [hk]; rfl)
    have hcv : e + 2047 = (((D + 2047) % 18446744073709551616 : Nat) : Int) := by rw [← he] at h ⊢; unfold Gm.i64 at h ⊢; split at h <;> rename_i h2 <;> simp only [h2, if_true, if_false] <;> omega
    have CB := Lib.hid (fun W (h : Rf W r g B 0) => B2.fbits_good r g B 0 14 4 (by decide) (by decide) W h (by have := HB.out; omega))
    have CB2 := Lib.hid (fun g1 W (h : Rf W r g1 (B ++ B2.Bt.top 14 4) 0) => B2.fbits_good r g1 (B ++ B2.Bt.top 14 4) 0 ((D + 2047) % 18446744073709551616) 12 (Nat.mod_lt _ (by decide)) (by decide) W h (by simp only [List.length_append, B2.Bt.top_length]; have := HB.out; omega))
    rw [← hcv] at CB2
    simp only [Int.cast_ofNat_Int] at CB CB2
    have hTg := HTW.out.g
    obtain ⟨hTr0, hTr1, hTr2⟩ := HTW.out.r
    obtain ⟨ta0, ta1, ta2, ta3, ta4⟩ := HTW.out.t0
    obtain ⟨tb0, tb1, tb2, tb3, tb4⟩ := HTW.out.t1
    obtain ⟨tc0, tc1, tc2, tc3, tc4⟩ := HTW.out.t2
    clear r0 r1 r2 r3 hue hk he hDl z0 hcv
    go_wp2_with fail
    refine wp_loop_rounds 4 ?_
    rw [rounds_succ]
    go_wp2_with fail
    rw [rounds_succ]
    go_wp2_with fail
    rw [rounds_succ]
    go_wp2_with fail
    go_still_tail 8, (by kernel_rfl)
    change wpList _ _ _ _ _ (World.drew _)
    clear hTg hTr0 hTr1 hTr2 ta0 ta1 ta2 ta3 ta4 tb0 tb1 tb2 tb3 tb4 tc0 tc1 tc2 tc3 tc4
    go_wp2_with fail
    go_at_call 87
    refine (CB.out _ (HRW.out.below (drew_below _))).mono ?_
    rintro e' w1 ⟨rfl, hp⟩
    obtain ⟨g1, hr1, hg1, ho1⟩ := hp
    have ho2 : Only [r, g] W0 w1 := ((Only.refl [r, g] W0).drew).trans ho1 (fun x hx => .inl hx)
    have hTw := HTW.out.only ho2 HNE.out
    have hx2 := hTw.t2.2.2.1
    have hx4 := hTw.t2.2.2.2.2
    have HO2 := Lib.hid (HO.out.trans ho2 (fun x hx => .inl hx))
    have HG1 := Lib.hid (show g1 = g ∨ w.heap.size ≤ g1 from hg1.imp id (fun h => Nat.le_trans HO.out.size h))
    have HR1 := Lib.hid hr1
    clear hr1 hg1 ho1 ho2 hTw CB HTW HRW
    go_upto_region 12 with (fail)
    go_still_tail 10, (by kernel_rfl)
    change wpList _ _ _ _ _ (World.drew _)
    go_wp2_with fail
    go_at_call 87
    refine (CB2.out g1 _ (HR1.out.below (drew_below _))).mono ?_
    rintro e' w2 ⟨rfl, hp⟩
    go_wp2_with fail
    refine bodyPost_ret (results_none rfl _ _ _) rfl ⟨rfl, ?_⟩
    rw [HSB.out, ← List.append_assoc]
    exact RfPost.trans (HO2.out.drew) HG1.out hp
  · have hz1 : (e == 0) = false := by simp; omega
    have hz2 : ¬ e = 0 := by omega
    have u1a : decide ((-63 : Int) ≤ e) = true := decide_eq_true (by omega)
    have u1b : decide (e ≤ (64 : Int)) = false := decide_eq_false (by omega)
    have u2a : decide ((-255 : Int) ≤ e) = true := decide_eq_true (by omega)
    have u2b : decide (e ≤ (256 : Int)) = false := decide_eq_false (by omega)
    have u3a : decide ((-2047 : Int) ≤ e) = true := decide_eq_true (by omega)
    have u3b : decide (e ≤ (2048 : Int)) = true := decide_eq_true (by omega)
    have z0 : decide (e = 0) = false := decide_eq_false (by omega)
    rw [z0] at r0
    rw [u1a, u1b] at r1
    rw [u2a, u2b] at r2
    rw [u3a, u3b] at r3
    have r1 : Gm.hasR 1 D = false := r1
    have r2 : Gm.hasR 2 D = false := r2
    have r3 : Gm.hasR 3 D = true := r3
    have hk : Gm.rowOf D = 3 := row_is D 3 (by decide) (fun q h => by
      have h5 : q = 0 ∨ q = 1 ∨ q = 2 := by omega
      rcases h5 with rfl | rfl | rfl
      · exact r0
      · exact r1
      · exact r2
    ) r3
    have HSB := Lib.hid (show Gm.stepB D = B2.Bt.top 14 4 ++ B2.Bt.top ((D + 2047) % 18446744073709551616) 12 by unfold Gm.stepB; rw [hk]; rfl)
    have hcv : e + 2047 = (((D + 2047) % 18446744073709551616 : Nat) : Int) := by rw [← he] at h ⊢; unfold Gm.i64 at h ⊢; split at h <;> rename_i h2 <;> simp only [h2, if_true, if_false] <;> omega
    have CB := Lib.hid (fun W (h : Rf W r g B 0) => B2.fbits_good r g B 0 14 4 (by decide) (by decide) W h (by have := HB.out; omega))
    have CB2 := Lib.hid (fun g1 W (h : Rf W r g1 (B ++ B2.Bt.top 14 4) 0) => B2.fbits_good r g1 (B ++ B2.Bt.top 14 4) 0 ((D + 2047) % 18446744073709551616) 12 (Nat.mod_lt _ (by decide)) (by decide) W h (by simp only [List.length_append, B2.Bt.top_length]; have := HB.out; omega))
    rw [← hcv] at CB2
    simp only [Int.cast_ofNat_Int] at CB CB2
    have hTg := HTW.out.g
    obtain ⟨hTr0, hTr1, hTr2⟩ := HTW.out.r
    obtain ⟨ta0, ta1, ta2, ta3, ta4⟩ := HTW.out.t0
    obtain ⟨tb0, tb1, tb2, tb3, tb4⟩ := HTW.out.t1
    obtain ⟨tc0, tc1, tc2, tc3, tc4⟩ := HTW.out.t2
    clear r0 r1 r2 r3 hue hk he hDl z0 hcv
    go_wp2_with fail
    refine wp_loop_rounds 4 ?_
    rw [rounds_succ]
    go_wp2_with fail
    rw [rounds_succ]
    go_wp2_with fail
    rw [rounds_succ]
    go_wp2_with fail
    go_still_tail 8, (by kernel_rfl)
    change wpList _ _ _ _ _ (World.drew _)
    clear hTg hTr0 hTr1 hTr2 ta0 ta1 ta2 ta3 ta4 tb0 tb1 tb2 tb3 tb4 tc0 tc1 tc2 tc3 tc4
    go_wp2_with fail
    go_at_call 87
    refine (CB.out _ (HRW.out.below (drew_below _))).mono ?_
    rintro e' w1 ⟨rfl, hp⟩
    obtain ⟨g1, hr1, hg1, ho1⟩ := hp
    have ho2 : Only [r, g] W0 w1 := ((Only.refl [r, g] W0).drew).trans ho1 (fun x hx => .inl hx)
    have hTw := HTW.out.only ho2 HNE.out
    have hx2 := hTw.t2.2.2.1
    have hx4 := hTw.t2.2.2.2.2
    have HO2 := Lib.hid (HO.out.trans ho2 (fun x hx => .inl hx))
    have HG1 := Lib.hid (show g1 = g ∨ w.heap.size ≤ g1 from hg1.imp id (fun h => Nat.le_trans HO.out.size h))
    have HR1 := Lib.hid hr1
    clear hr1 hg1 ho1 ho2 hTw CB HTW HRW
    go_upto_region 12 with (fail)
    go_still_tail 10, (by kernel_rfl)
    change wpList _ _ _ _ _ (World.drew _)
    go_wp2_with fail
    go_at_call 87
    refine (CB2.out g1 _ (HR1.out.below (drew_below _))).mono ?_
    rintro e' w2 ⟨rfl, hp⟩
    go_wp2_with fail
    refine bodyPost_ret (results_none rfl _ _ _) rfl ⟨rfl, ?_⟩
    rw [HSB.out, ← List.append_assoc]
    exact RfPost.trans (HO2.out.drew) HG1.out hp
  · have hz1 : (e == 0) = false := by simp; omega
    have hz2 : ¬ e = 0 := by omega
    have u1a : decide ((-63 : Int) ≤ e) = false := decide_eq_false (by omega)
    have u1b : decide (e ≤ (64 : Int)) = true := decide_eq_true (by omega)
    have u2a : decide ((-255 : Int) ≤ e) = false := decide_eq_false (by omega)
    have u2b : decide (e ≤ (256 : Int)) = true := decide_eq_true (by omega)
    have u3a : decide ((-2047 : Int) ≤ e) = false := decide_eq_false (by omega)
    have u3b : decide (e ≤ (2048 : Int)) = true := decide_eq_true (by omega)
    have z0 : decide (e = 0) = false := decide_eq_false (by omega)
    rw [z0] at r0
    rw [u1a, u1b] at r1
    rw [u2a, u2b] at r2
    rw [u3a, u3b] at r3
    have r1 : Gm.hasR 1 D = false := r1
    have r2 : Gm.hasR 2 D = false := r2
    have r3 : Gm.hasR 3 D = false := r3
    have hk : Gm.rowOf D = 4 := row_is D 4 (by decide) (fun q h => by
      have h5 : q = 0 ∨ q = 1 ∨ q = 2 ∨ q = 3 := by omega
      rcases h5 with rfl | rfl | rfl | rfl
      · exact r0
      · exact r1
      · exact r2
      · exact r3
    ) (by unfold Gm.hasR; exact decide_eq_true (Nat.div_eq_of_lt (Nat.mod_lt _ (by decide))))
    have HSB := Lib.hid (show Gm.stepB D = B2.Bt.top 15 4 ++ B2.Bt.top D 64 by unfold Gm.stepB; rw [hk]; show B2.Bt.top 15 4 ++ B2.Bt.top ((D + 0) % 18446744073709551616) 64 = _; rw [Nat.add_zero, Nat.mod_eq_of_lt hDl])
    have CB := Lib.hid (fun W (h : Rf W r g B 0) => B2.fbits_good r g B 0 15 4 (by decide) (by decide) W h (by have := HB.out; omega))
    have CB2 := Lib.hid (fun g1 W (h : Rf W r g1 (B ++ B2.Bt.top 15 4) 0) => B2.fbits_good r g1 (B ++ B2.Bt.top 15 4) 0 D 64 hDl (by decide) W h (by simp only [List.length_append, B2.Bt.top_length]; have := HB.out; omega))
    rw [← hue] at CB2
    simp only [Int.cast_ofNat_Int] at CB CB2
    have hTg := HTW.out.g
    obtain ⟨hTr0, hTr1, hTr2⟩ := HTW.out.r
    obtain ⟨ta0, ta1, ta2, ta3, ta4⟩ := HTW.out.t0
    obtain ⟨tb0, tb1, tb2, tb3, tb4⟩ := HTW.out.t1
    obtain ⟨tc0, tc1, tc2, tc3, tc4⟩ := HTW.out.t2
    clear r0 r1 r2 r3 hue hk he hDl z0
    go_wp2_with fail
    refine wp_loop_rounds 4 ?_
    rw [rounds_succ]
    go_wp2_with fail
    rw [rounds_succ]
    go_wp2_with fail
    rw [rounds_succ]
    go_wp2_with fail
    rw [rounds_succ]
    go_wp2_with fail
    go_at_call 87
    refine (CB.out _ HRW.out).mono ?_
    rintro e' w1 ⟨rfl, hp⟩
    obtain ⟨g1, hr1, hg1, ho1⟩ := hp
    have HO2 := Lib.hid (HO.out.trans ho1 (fun x hx => .inl hx))
    have HG1 := Lib.hid (show g1 = g ∨ w.heap.size ≤ g1 from hg1.imp id (fun h => Nat.le_trans HO.out.size h))
    have HR1 := Lib.hid hr1
    clear hr1 hg1 ho1 CB HTW HRW hTg hTr0 hTr1 hTr2 ta0 ta1 ta2 ta3 ta4 tb0 tb1 tb2 tb3 tb4 tc0 tc1 tc2 tc3 tc4
    go_wp2_with fail
    go_at_call 87
    refine (CB2.out g1 _ HR1.out).mono ?_
    rintro e' w2 ⟨rfl, hp⟩
    go_wp2_with fail
    refine bodyPost_end (results_none rfl _ _ _) rfl ⟨rfl, ?_⟩
    rw [HSB.out, ← List.append_assoc]
    exact RfPost.trans HO2.out HG1.out hp
  · have hz1 : (e == 0) = false := by simp; omega
    have hz2 : ¬ e = 0 := by omega
    have u1a : decide ((-63 : Int) ≤ e) = true := decide_eq_true (by omega)
    have u1b : decide (e ≤ (64 : Int)) = false := decide_eq_false (by omega)
    have u2a : decide ((-255 : Int) ≤ e) = true := decide_eq_true (by omega)
    have u2b : decide (e ≤ (256 : Int)) = false := decide_eq_false (by omega)
    have u3a : decide ((-2047 : Int) ≤ e) = true := decide_eq_true (by omega)
    have u3b : decide (e ≤ (2048 : Int)) = false := decide_eq_false (by omega)
    have z0 : decide (e = 0) = false := decide_eq_false (by omega)
    rw [z0] at r0
    rw [u1a, u1b] at r1
    rw [u2a, u2b] at r2
    rw [u3a, u3b] at r3
    have r1 : Gm.hasR 1 D = false := r1
    have r2 : Gm.hasR 2 D = false := r2
    have r3 : Gm.hasR 3 D = false := r3
    have hk : Gm.rowOf D = 4 := row_is D 4 (by decide) (fun q h => by
      have h5 : q = 0 ∨ q = 1 ∨ q = 2 ∨ q = 3 := by omega
      rcases h5 with rfl | rfl | rfl | rfl
      · exact r0
      · exact r1
      · exact r2
      · exact r3
    ) (by unfold Gm.hasR; exact decide_eq_true (Nat.div_eq_of_lt (Nat.mod_lt _ (by decide))))
    have HSB := Lib.hid (show Gm.stepB D = B2.Bt.top 15 4 ++ B2.Bt.top D 64 by unfold Gm.stepB; rw [hk]; show B2.Bt.top 15 4 ++ B2.Bt.top ((D + 0) % 18446744073709551616) 64 = _; rw [Nat.add_zero, Nat.mod_eq_of_lt hDl])
    have CB := Lib.hid (fun W (h : Rf W r g B 0) => B2.fbits_good r g B 0 15 4 (by decide) (by decide) W h (by have := HB.out; omega))
    have CB2 := Lib.hid (fun g1 W (h : Rf W r g1 (B ++ B2.Bt.top 15 4) 0) => B2.fbits_good r g1 (B ++ B2.Bt.top 15 4) 0 D 64 hDl (by decide) W h (by simp only [List.length_append, B2.Bt.top_length]; have := HB.out; omega))
    have hwe : IntKind.u64.wrap e = e := by rw [IntKind.wrap_u64]; omega
    rw [hwe] at hue
    rw [← hue] at CB2
    simp only [Int.cast_ofNat_Int] at CB CB2
    have hTg := HTW.out.g
    obtain ⟨hTr0, hTr1, hTr2⟩ := HTW.out.r
    obtain ⟨ta0, ta1, ta2, ta3, ta4⟩ := HTW.out.t0
    obtain ⟨tb0, tb1, tb2, tb3, tb4⟩ := HTW.out.t1
    obtain ⟨tc0, tc1, tc2, tc3, tc4⟩ := HTW.out.t2
    clear r0 r1 r2 r3 hue hk he hDl z0
    go_wp2_with fail
    refine wp_loop_rounds 4 ?_
    rw [rounds_succ]
    go_wp2_with fail
    rw [rounds_succ]
    go_wp2_with fail
    rw [rounds_succ]
    go_wp2_with fail
    rw [rounds_succ]
    go_wp2_with fail
    go_at_call 87
    refine (CB.out _ HRW.out).mono ?_
    rintro e' w1 ⟨rfl, hp⟩
    obtain ⟨g1, hr1, hg1, ho1⟩ := hp
    have HO2 := Lib.hid (HO.out.trans ho1 (fun x hx => .inl hx))
    have HG1 := Lib.hid (show g1 = g ∨ w.heap.size ≤ g1 from hg1.imp id (fun h => Nat.le_trans HO.out.size h))
    have HR1 := Lib.hid hr1
    clear hr1 hg1 ho1 CB HTW HRW hTg hTr0 hTr1 hTr2 ta0 ta1 ta2 ta3 ta4 tb0 tb1 tb2 tb3 tb4 tc0 tc1 tc2 tc3 tc4
    go_wp2_with fail
    go_at_call 87
    refine (CB2.out g1 _ HR1.out).mono ?_
    rintro e' w2 ⟨rfl, hp⟩
    go_wp2_with fail
    refine bodyPost_end (results_none rfl _ _ _) rfl ⟨rfl, ?_⟩
    rw [HSB.out, ← List.append_assoc]
    exact RfPost.trans HO2.out HG1.out hp
end Go.Proofs.YtdlifcpdlbmijaaDoor
namespace Go.Proofs.YtdlifcpdlbmijaaDoor
set_option linter.unusedVariables false
set_option linter.unusedSimpArgs false
open Go.RowKit Go.PlainAid Go.Shelf
open B2 (Only Bys Row cellsOf)
open Gm (St Smp)
/-- behind a whole number that is read of the bits -/
def VarPost (w : World) (a p g : Nat) (ds : List Nat) (s : Gm.Rd) (v : Value) (e : Ending) (w' : World) : Prop :=
  ∃ x : Nat, e = .returned (.tuple #[v, .int .u16 ((x : Nat) : Int)]) ∧ Rdr w' a p g ds { s with c := ((Gm.rvar s.c).2.1, s.c.2) } ∧ (s.c.2 || decide (x ≠ 0)) = (Gm.rvar s.c).2.2 ∧ Only [a, p] w w'
theorem varint_rdr (a p g : Nat) (ds : List Nat) (s : Gm.Rd) (hbd : ds.length ≤ 1000000000) (w : World) (H : Rdr w a p g ds s) :
    Calls Tryd.prog 119 #[pt p] w (VarPost w a p g ds s (.int .u64 (((Gm.rvar s.c).1 : Nat) : Int))) := by
  obtain ⟨at_, h1, h2⟩ := H.bits
  have hL := H.lt
  have hN := H.ne
  obtain ⟨n, last, gap, ws, we, S, q⟩ := s
  simp only at h2
  subst h2
  refine (B2.rvarint_any p g ds at_ w h1 hbd).mono ?_
  rintro e w1 ⟨rfl, hR, hO⟩
  exact ⟨_, rfl, ⟨(hO.block a hL.1 (by simp; omega)).trans H.row, ⟨_, hR, by show List.drop _ _ = _; rw [List.drop_drop]⟩, hN⟩, rfl, hO.mono (fun x hx => by simp at hx ⊢; exact .inr hx)⟩
theorem signed_rdr (a p g : Nat) (ds : List Nat) (s : Gm.Rd) (hbd : ds.length ≤ 1000000000) (w : World) (H : Rdr w a p g ds s) :
    Calls Tryd.prog 117 #[pt p] w (VarPost w a p g ds s (.int .i64 (B2.Bt.uz (Gm.rvar s.c).1))) := by
  obtain ⟨at_, h1, h2⟩ := H.bits
  have hL := H.lt
  have hN := H.ne
  obtain ⟨n, last, gap, ws, we, S, q⟩ := s
  simp only at h2
  subst h2
  refine (B2.rsigned_any p g ds at_ w h1 hbd).mono ?_
  rintro e w1 ⟨rfl, hR, hO⟩
  exact ⟨_, rfl, ⟨(hO.block a hL.1 (by simp; omega)).trans H.row, ⟨_, hR, by show List.drop _ _ = _; rw [List.drop_drop]⟩, hN⟩, rfl, hO.mono (fun x hx => by simp at hx ⊢; exact .inr hx)⟩
theorem wI_is (x : Int) : IntKind.i64.wrap x = Gm.wI x := by rw [i64_is]; unfold RowKit.wrap64 Gm.wI; rfl
theorem u64_add (a b : Nat) : IntKind.u64.wrap ((a : Int) + (b : Int)) = (((a + b) % 18446744073709551616 : Nat) : Int) := by rw [IntKind.wrap_u64]; omega
set_option maxHeartbeats 8000000 in
set_option maxRecDepth 100000 in
theorem time_first (a p g : Nat) (ds : List Nat) (s : Gm.Rd) (hbd : ds.length ≤ 1000000000) (h0 : s.n = 0) (w : World) (H : Rdr w a p g ds s) :
    Calls Tryd.prog 113 #[pt a] w (RdrPost w a p g ds (.int .i64 (Gm.rdTime s).1) { s with c := (Gm.rdTime s).2 }) := by
  have c0 : w.cell? ⟨a, 0, none⟩ = some (.int .i64 ((s.n : Nat) : Int)) := (cell_of_row _ _ 0 _ _ _ H.row).trans rfl
  have c6 : w.cell? ⟨a, 6, none⟩ = some (pt p) := (cell_of_row _ _ 6 _ _ _ H.row).trans rfl
  have e : Gm.rdTime s = (B2.Bt.uz (Gm.rvar s.c).1, (Gm.rvar s.c).2) := by unfold Gm.rdTime; rw [if_pos h0]
  rw [e]
  have C := Lib.hid (signed_rdr a p g ds s hbd w H)
  unfold VarPost at C
  have CN := Lib.hid (fun x W (h : Rdr W a p g ds { s with c := ((Gm.rvar s.c).2.1, s.c.2) }) => note_rdr a p g x ds _ W h)
  simp only at CN
  obtain ⟨V, hV⟩ : ∃ V, B2.Bt.uz (Gm.rvar s.c).1 = V := ⟨_, rfl⟩
  obtain ⟨Y, hY⟩ : ∃ Y, (Gm.rvar s.c).2 = Y := ⟨_, rfl⟩
  rw [hV, hY] at C
  rw [hY] at CN
  rw [hV, hY]
  rw [h0] at c0
  simp only [Int.cast_ofNat_Int] at c0
  clear e H h0 hV hY
  unfold pt at *
  go_enter Tryd.func113, Tryd.ntmps113
  go_wp2_with fail
  go_at_call 117
  refine C.out.mono ?_
  rintro e w1 ⟨x, rfl, hR, hx, hO⟩
  have CX := Lib.hid (CN.out x w1 hR)
  have HX := Lib.hid (And.intro hx hO)
  clear hR hx hO C CN
  go_wp2_with fail
  go_at_call 118
  refine CX.out.mono ?_
  rintro e w2 ⟨rfl, hR, hO⟩
  have HY := Lib.hid (And.intro hR (HX.out.2.trans hO (fun _ hx => .inl hx)))
  clear hR hO CX
  go_wp2_with fail
  go_ret
  refine ⟨rfl, ?_, HY.out.2⟩
  have h := HY.out.1
  rw [HX.out.1] at h
  exact h
set_option maxHeartbeats 8000000 in
set_option maxRecDepth 100000 in
theorem time_second (a p g : Nat) (ds : List Nat) (s : Gm.Rd) (hbd : ds.length ≤ 1000000000) (h0 : s.n = 1) (w : World) (H : Rdr w a p g ds s) :
    Calls Tryd.prog 113 #[pt a] w (RdrPost w a p g ds (.int .i64 (Gm.rdTime s).1) { s with c := (Gm.rdTime s).2 }) := by
  have c0 : w.cell? ⟨a, 0, none⟩ = some (.int .i64 ((s.n : Nat) : Int)) := (cell_of_row _ _ 0 _ _ _ H.row).trans rfl
  have c6 : w.cell? ⟨a, 6, none⟩ = some (pt p) := (cell_of_row _ _ 6 _ _ _ H.row).trans rfl
  have e : Gm.rdTime s = (Gm.wI (s.last.t + Gm.i64 (Gm.rvar s.c).1), (Gm.rvar s.c).2) := by unfold Gm.rdTime; rw [if_neg (by omega), if_pos h0]
  rw [e]
  have hVl : (Gm.rvar s.c).1 < 18446744073709551616 := B2.Bt.rv_lt _
  have C := Lib.hid (varint_rdr a p g ds s hbd w H)
  unfold VarPost at C
  have CN := Lib.hid (fun x W (h : Rdr W a p g ds { s with c := ((Gm.rvar s.c).2.1, s.c.2) }) => note_rdr a p g x ds _ W h)
  simp only at CN
  obtain ⟨V, hV⟩ : ∃ V, (Gm.rvar s.c).1 = V := ⟨_, rfl⟩
  obtain ⟨Y, hY⟩ : ∃ Y, (Gm.rvar s.c).2 = Y := ⟨_, rfl⟩
  rw [hV] at hVl
  rw [hV, hY] at C
  rw [hY] at CN
  rw [hV, hY]
  rw [h0] at c0
  obtain ⟨t, ht⟩ : ∃ t, s.last.t = t := ⟨_, rfl⟩
  rw [ht]
  have hw : IntKind.i64.wrap (t + IntKind.i64.wrap (V : Int)) = Gm.wI (t + Gm.i64 V) := by rw [i64_of V hVl, wI_is]
  have hw : RowKit.wrap64 (t + RowKit.wrap64 (V : Int)) = Gm.wI (t + Gm.i64 V) := by simpa only [i64_is] using hw
  obtain ⟨R, hR⟩ : ∃ R, Gm.wI (t + Gm.i64 V) = R := ⟨_, rfl⟩
  rw [hR] at hw ⊢
  have HW := Lib.hid hw
  simp only [Int.cast_ofNat_Int] at c0
  clear e H h0 hV hY hR hw
  unfold pt at *
  go_enter Tryd.func113, Tryd.ntmps113
  go_wp2_with fail
  go_at_call 119
  refine C.out.mono ?_
  rintro e w1 ⟨x, rfl, hR, hx, hO⟩
  have CX := Lib.hid (CN.out x w1 hR)
  have HX := Lib.hid (And.intro hx hO)
  clear hR hx hO C CN
  go_wp2_with fail
  go_at_call 118
  refine CX.out.mono ?_
  rintro e w2 ⟨rfl, hR, hO⟩
  have c1 : w2.cell? ⟨a, 1, none⟩ = some (.int .i64 t) := by
    rw [← ht]
    exact (cell_of_row _ _ 1 _ _ _ hR.row).trans rfl
  have HY := Lib.hid (And.intro hR (HX.out.2.trans hO (fun _ hx => .inl hx)))
  clear hR hO CX
  go_wp2_with fail
  go_ret
  refine ⟨?_, ?_, HY.out.2⟩
  · rw [← HW.out]; first | done | rfl
  · have h := HY.out.1
    rw [HX.out.1] at h
    exact h
set_option maxHeartbeats 8000000 in
set_option maxRecDepth 100000 in
theorem time_later (a p g : Nat) (ds : List Nat) (s : Gm.Rd) (hbd : ds.length ≤ 1000000000) (h0 : 2 ≤ s.n) (w : World) (H : Rdr w a p g ds s) :
    Calls Tryd.prog 113 #[pt a] w (RdrPost w a p g ds (.int .i64 (Gm.rdTime s).1) { s with c := (Gm.rdTime s).2 }) := by
  have c0 : w.cell? ⟨a, 0, none⟩ = some (.int .i64 ((s.n : Nat) : Int)) := (cell_of_row _ _ 0 _ _ _ H.row).trans rfl
  have e : Gm.rdTime s = (Gm.wI (s.last.t + Gm.i64 ((s.gap + (Gm.stepR s.c).1) % 18446744073709551616)), (Gm.stepR s.c).2) := by unfold Gm.rdTime; rw [if_neg (by omega), if_neg (by omega)]
  rw [e]
  have hn1 : ((s.n : Int) == 0) = false := by simp; omega
  have hn2 : ((s.n : Int) == 1) = false := by simp; omega
  have hn3 : ¬ (s.n : Int) = 0 := by omega
  have hn4 : ¬ (s.n : Int) = 1 := by omega
  have C := Lib.hid (fun W (h : Rdr W a p g ds s) => step_rdr a p g ds s hbd W h)
  obtain ⟨V, hV⟩ : ∃ V, (Gm.stepR s.c).1 = V := ⟨_, rfl⟩
  obtain ⟨s4, hs4⟩ : ∃ s4 : Gm.Rd, { s with c := (Gm.stepR s.c).2 } = s4 := ⟨_, rfl⟩
  have e1 : s4.last.t = s.last.t ∧ s4.gap = s.gap := by rw [← hs4]; exact ⟨rfl, rfl⟩
  rw [hV, hs4] at C
  simp only
  rw [hV, hs4]
  obtain ⟨t, ht⟩ : ∃ t, s.last.t = t := ⟨_, rfl⟩
  obtain ⟨G, hG⟩ : ∃ G, s.gap = G := ⟨_, rfl⟩
  rw [ht, hG] at e1 ⊢
  have hw : IntKind.i64.wrap (t + IntKind.i64.wrap (IntKind.u64.wrap ((G : Int) + (V : Int)))) = Gm.wI (t + Gm.i64 ((G + V) % 18446744073709551616)) := by rw [u64_add, i64_of _ (Nat.mod_lt _ (by decide)), wI_is]
  obtain ⟨R, hR⟩ : ∃ R, Gm.wI (t + Gm.i64 ((G + V) % 18446744073709551616)) = R := ⟨_, rfl⟩
  rw [hR] at hw ⊢
  have HW := Lib.hid hw
  have HD := Lib.hid (show Rdr w.drew a p g ds s from H.below (drew_below w))
  have q1 : w.drew.cell? ⟨a, 1, none⟩ = some (.int .i64 t) := by
    rw [← ht]
    exact (cell_of_row _ _ 1 _ _ _ HD.out.row).trans rfl
  have q3 : w.drew.cell? ⟨a, 3, none⟩ = some (.int .u64 ((G : Nat) : Int)) := by
    rw [← hG]
    exact (cell_of_row _ _ 3 _ _ _ HD.out.row).trans rfl
  have HO := Lib.hid (show Only [a, p] w w.drew from (Only.refl _ _).drew)
  have HE := Lib.hid e1
  clear e H h0 hV hs4 hR hw e1
  unfold pt at *
  go_enter Tryd.func113, Tryd.ntmps113
  go_wp2_with fail
  go_region_with (first
    | (go_at_call 120; refine (C.out _ HD.out).mono ?_; rintro e w9 ⟨rfl, hR9, hO9⟩; have q19 : w9.cell? ⟨a, 1, none⟩ = some (.int .i64 t) := (by rw [← HE.out.1]; exact (cell_of_row _ _ 1 _ _ _ hR9.row).trans rfl); have q39 : w9.cell? ⟨a, 3, none⟩ = some (.int .u64 ((G : Nat) : Int)) := (by rw [← HE.out.2]; exact (cell_of_row _ _ 3 _ _ _ hR9.row).trans rfl); have hF9 := Lib.hid (And.intro hR9 (HO.out.trans hO9 (fun _ hx => .inl hx))); clear hR9 hO9))
  all_goals
    go_wp2_with fail
    go_ret
    exact ⟨by rw [← HW.out]; rfl, hF9.out.1, hF9.out.2⟩
theorem time_rdr (a p g : Nat) (ds : List Nat) (s : Gm.Rd) (hbd : ds.length ≤ 1000000000) (w : World) (H : Rdr w a p g ds s) :
    Calls Tryd.prog 113 #[pt a] w (RdrPost w a p g ds (.int .i64 (Gm.rdTime s).1) { s with c := (Gm.rdTime s).2 }) := by
  by_cases h0 : s.n = 0
  · exact time_first a p g ds s hbd h0 w H
  · by_cases h1 : s.n = 1
    · exact time_second a p g ds s hbd h1 w H
    · exact time_later a p g ds s hbd (by omega) w H
end Go.Proofs.YtdlifcpdlbmijaaDoor
namespace Go.Proofs.YtdlifcpdlbmijaaDoor
set_option linter.unusedVariables false
set_option linter.unusedSimpArgs false
open Go.RowKit Go.PlainAid Go.Shelf
open B2 (Only Bys Row cellsOf)
open Gm (St Smp)
/-- what a reader may be -/
structure RdI (s : Gm.Rd) : Prop where
  win : s.ws ≤ s.we ∧ s.we ≤ 64
  v : s.last.v < 18446744073709551616
  t : -9223372036854775808 ≤ s.last.t ∧ s.last.t ≤ 9223372036854775807
theorem rdTime_bd (s : Gm.Rd) : -9223372036854775808 ≤ (Gm.rdTime s).1 ∧ (Gm.rdTime s).1 ≤ 9223372036854775807 := by
  unfold Gm.rdTime
  split
  · have h : (Gm.rvar s.c).1 < 18446744073709551616 := B2.Bt.rv_lt _
    simp only
    unfold B2.Bt.uz
    split <;> omega
  · split <;> (simp only; unfold Gm.wI; omega)
theorem xor_bd (a b : Nat) (h : a < 18446744073709551616) : (a ^^^ (b % 18446744073709551616)) < 18446744073709551616 := Nat.xor_lt_two_pow (n := 64) h (Nat.mod_lt _ (by decide))
theorem rdNum_bd (s : Gm.Rd) (c : Gm.Cx) (h : RdI s) : (Gm.rdNum s c).1 < 18446744073709551616 ∧ (Gm.rdNum s c).2.1 ≤ (Gm.rdNum s c).2.2.1 ∧ (Gm.rdNum s c).2.2.1 ≤ 64 := by
  unfold Gm.rdNum
  by_cases h0 : s.n = 0
  · rw [if_pos h0]
    exact ⟨rb_lt 64 c (by decide), h.win⟩
  · rw [if_neg h0]
    simp only
    generalize Gm.rb 1 c = r
    by_cases h1 : r.1 = 0
    · rw [if_pos h1]
      exact ⟨h.v, h.win⟩
    · rw [if_neg h1]
      generalize Gm.rb 1 r.2 = u
      have hW : ((if u.1 = 1 then Gm.rdWin s.ws s.we u.2 else (s.ws, s.we, u.2)).1 ≤ (if u.1 = 1 then Gm.rdWin s.ws s.we u.2 else (s.ws, s.we, u.2)).2.1) ∧ (if u.1 = 1 then Gm.rdWin s.ws s.we u.2 else (s.ws, s.we, u.2)).2.1 ≤ 64 := by
        by_cases hu : u.1 = 1
        · rw [if_pos hu]; exact rdWin_win _ _ _ h.win
        · rw [if_neg hu]; exact h.win
      generalize (if u.1 = 1 then Gm.rdWin s.ws s.we u.2 else (s.ws, s.we, u.2)) = W at *
      exact ⟨xor_bd _ _ h.v, hW⟩
theorem rdNext_I (s : Gm.Rd) (h : RdI s) : RdI (Gm.rdNext s).2 :=
  ⟨(rdNum_bd s _ h).2, (rdNum_bd s _ h).1, rdTime_bd s⟩
theorem number_rdr (a p g : Nat) (ds : List Nat) (s : Gm.Rd) (hbd : ds.length ≤ 1000000000) (hI : RdI s) (w : World) (H : Rdr w a p g ds s) :
    Calls Tryd.prog 114 #[pt a] w (RdrPost w a p g ds (.int .u64 (((Gm.rdNum s s.c).1 : Nat) : Int)) { s with ws := (Gm.rdNum s s.c).2.1, we := (Gm.rdNum s s.c).2.2.1, c := (Gm.rdNum s s.c).2.2.2 }) := by
  by_cases h0 : s.n = 0
  · exact number_first a p g ds s hbd h0 w H
  · have h := rb_lt 1 s.c (by decide)
    by_cases h1 : (Gm.rb 1 s.c).1 = 0
    · exact number_same a p g ds s hbd h0 h1 w H
    · exact number_more a p g ds s hbd hI.win hI.v h0 (by omega) w H
/-- the sample turned -/
theorem Rdr.push {w w' : World} {a p g : Nat} {ds : List Nat} {s : Gm.Rd} (h : Rdr w a p g ds s) (x : Smp) (G : Nat) (hr : w'.heap[a]? = some (.cells (rowP (s.n + 1) x.t x.v G (.int .i64 ((s.ws : Nat) : Int)) (.int .i64 ((s.we : Nat) : Int)) (pt p) (.bool s.c.2)) 239 (0, 0))) (ho : Only [a] w w') : Rdr w' a p g ds ⟨s.n + 1, x, G, s.ws, s.we, s.c⟩ := by
  obtain ⟨at_, k1, k2⟩ := h.bits
  have hn := h.ne
  exact ⟨hr, ⟨at_, k1.only ho (by simp; omega) (by simp; omega), k2⟩, h.ne⟩
set_option maxHeartbeats 8000000 in
set_option maxRecDepth 100000 in
theorem next_rdr (a p g : Nat) (ds : List Nat) (s : Gm.Rd) (hbd : ds.length ≤ 1000000000) (hI : RdI s) (hN : s.n ≤ 9223372036854775806) (w : World) (H : Rdr w a p g ds s) :
    Calls Tryd.prog 95 #[pt a] w (RdrPost w a p g ds (smV (Gm.rdNext s).1) (Gm.rdNext s).2) := by
  have hl := H.lt
  obtain ⟨n, hn⟩ : ∃ n, w.heap.size = n := ⟨_, rfl⟩
  rw [hn] at hl
  have hA := (Below.refl w.heap.size w).alloc (Nat.le_refl _) (.cells #[.int .i64 0, .int .u64 0] 70)
  have hr0 := heap_alloc_new w (.cells #[.int .i64 0, .int .u64 0] 70)
  rw [hn] at hr0
  have C1 := Lib.hid (time_rdr a p g ds s hbd _ (H.below hA))
  have hs1 : ∃ s1 : Gm.Rd, { s with c := (Gm.rdTime s).2 } = s1 := ⟨_, rfl⟩
  obtain ⟨s1, hs1⟩ := hs1
  have hI1 : RdI s1 := by rw [← hs1]; exact ⟨hI.win, hI.v, hI.t⟩
  have e1 : Gm.rdNum s1 s1.c = Gm.rdNum s (Gm.rdTime s).2 := by rw [← hs1]; rfl
  have C2 := Lib.hid (fun W (h : Rdr W a p g ds s1) => number_rdr a p g ds s1 hbd hI1 W h)
  have hbt := rdTime_bd s
  have hbn := rdNum_bd s (Gm.rdTime s).2 hI
  rw [e1] at C2
  rw [hs1] at C1
  obtain ⟨t, ht⟩ : ∃ t, (Gm.rdTime s).1 = t := ⟨_, rfl⟩
  obtain ⟨v, hv⟩ : ∃ v, (Gm.rdNum s (Gm.rdTime s).2).1 = v := ⟨_, rfl⟩
  obtain ⟨s2, hs2⟩ : ∃ s2 : Gm.Rd, { s1 with ws := (Gm.rdNum s (Gm.rdTime s).2).2.1, we := (Gm.rdNum s (Gm.rdTime s).2).2.2.1, c := (Gm.rdNum s (Gm.rdTime s).2).2.2.2 } = s2 := ⟨_, rfl⟩
  rw [hv, hs2] at C2
  rw [ht] at C1 hbt
  rw [hv] at hbn
  have eN : Gm.rdNext s = (⟨t, v⟩, ⟨s2.n + 1, ⟨t, v⟩, Gm.gapOf t s2.last.t, s2.ws, s2.we, s2.c⟩) := by
    unfold Gm.rdNext
    simp only
    rw [ht, hv, ← hs2, ← hs1]
  have e2 : s2.n = s.n ∧ s2.last = s.last := by rw [← hs2, ← hs1]; exact ⟨rfl, rfl⟩
  rw [eN]
  have CP := Lib.hid (fun W (h : Rdr W a p g ds s2) => push_any a s2.n s2.last.v s2.gap v s2.last.t t (by rw [e2.2]; exact hI.t) hbt (by omega) 239 (.int .i64 ((s2.ws : Nat) : Int)) (.int .i64 ((s2.we : Nat) : Int)) (pt p) (.bool s2.c.2) W h.row)
  have HA := Lib.hid (And.intro hA hl)
  have HR0 := Lib.hid hr0
  clear hA hr0 H hs1 hI1 e1 hbt hbn ht hv hs2 eN e2 hI hN
  simp only [smV]
  unfold pt at *
  go_enter Tryd.func95, Tryd.ntmps95
  go_wp2_with fail
  go_at_call 113
  refine C1.out.mono ?_
  rintro e w1 ⟨rfl, hR1, hO1⟩
  have C2 := Lib.hid (C2.out w1 hR1)
  have HS1 := Lib.hid (show w1.heap[n]? = some (.cells #[.int .i64 0, .int .u64 0] 70 (0, 0)) from (hO1.block n (Array.getElem?_eq_some_iff.1 HR0.out).1 (by have := HA.out.2; simp; omega)).trans HR0.out)
  have HO1 := Lib.hid (show Only [a, p] w w1 from (Only.of_below HA.out.1 [a, p]).trans hO1 (fun _ hx => .inl hx))
  clear hR1 hO1 C1 HR0
  go_wp2_with fail
  go_at_call 114
  refine C2.out.mono ?_
  rintro e w2 ⟨rfl, hR2, hO2⟩
  have hS2 : w2.heap[n]? = some (.cells #[.int .i64 0, .int .u64 0] 70 (0, 0)) := (hO2.block n (Array.getElem?_eq_some_iff.1 HS1.out).1 (by have := HA.out.2; simp; omega)).trans HS1.out
  have hO2 := HO1.out.trans hO2 (fun _ hx => .inl hx)
  have hAl := (Below.refl w2.heap.size w2).alloc (Nat.le_refl _) (.cells #[.int .i64 t, .int .u64 ((v : Nat) : Int)] 70)
  have hr3 := heap_alloc_new w2 (.cells #[.int .i64 t, .int .u64 ((v : Nat) : Int)] 70)
  have hS3 : (w2.alloc (.cells #[.int .i64 t, .int .u64 ((v : Nat) : Int)] 70)).drew.heap[n]? = some (.cells #[.int .i64 0, .int .u64 0] 70 (0, 0)) := (hAl.block n (Array.getElem?_eq_some_iff.1 hS2).1).trans hS2
  have HR3 := Lib.hid (show Rdr (w2.alloc (.cells #[.int .i64 t, .int .u64 ((v : Nat) : Int)] 70)).drew a p g ds s2 from (hR2.below hAl).below (drew_below _))
  have HO3 := Lib.hid (show Only [a, p] w (w2.alloc (.cells #[.int .i64 t, .int .u64 ((v : Nat) : Int)] 70)).drew from (hO2.alloc _).drew)
  have q0 : (w2.alloc (.cells #[.int .i64 t, .int .u64 ((v : Nat) : Int)] 70)).drew.cell? ⟨w2.heap.size, 0, none⟩ = some (.int .i64 t) := (cell_of_row _ _ 0 _ _ _ hr3).trans rfl
  have q1 : (w2.alloc (.cells #[.int .i64 t, .int .u64 ((v : Nat) : Int)] 70)).drew.cell? ⟨w2.heap.size, 1, none⟩ = some (.int .u64 ((v : Nat) : Int)) := (cell_of_row _ _ 1 _ _ _ hr3).trans rfl
  have hB : w2.heap.size ≠ a ∧ w2.heap.size ≠ n := by
    have h1 := hR2.lt
    have h2 := (Array.getElem?_eq_some_iff.1 hS2).1
    omega
  have HS3 := Lib.hid hS3
  clear hAl hr3 hS2 hS3 hO2 hR2 C2 HS1 HO1
  go_wp2_with fail
  generalize w2.alloc (.cells #[.int .i64 t, .int .u64 ((v : Nat) : Int)] 70) = W at *
  generalize w2.heap.size = B at *
  go_region_with (first
    | (go_at_call 84; refine (CP.out _ HR3.out).mono ?_; rintro e w9 ⟨rfl, hr9, hO9⟩; have q09 := Only_cell hO9 q0 (by have := hB; simp; omega); have q19 := Only_cell hO9 q1 (by have := hB; simp; omega); have hF9 := Lib.hid (And.intro (HR3.out.push ⟨t, v⟩ _ hr9 hO9) (And.intro (HO3.out.trans hO9 (fun x hx => .inl (by simp at hx ⊢; exact .inl hx))) ((hO9.block n (Array.getElem?_eq_some_iff.1 HS3.out).1 (by have := HA.out.2; simp; omega)).trans HS3.out))); clear hr9 hO9))
  all_goals
    have hS9 := hF9.out.2.2
    have f0 : w9.frozen? ⟨n, 0, none⟩ = false := frozen_of_row _ _ _ _ _ hS9
    have f1 : (w9.setCell ⟨n, 0, none⟩ (.int .i64 t)).frozen? ⟨n, 1, none⟩ = false := by rw [World.frozen?_setCell]; exact frozen_of_row _ _ _ _ _ hS9
    have z0 : w9.cell? ⟨n, 0, none⟩ = some (.int .i64 0) := (cell_of_row _ _ 0 _ _ _ hS9).trans rfl
    have z1 : (w9.setCell ⟨n, 0, none⟩ (.int .i64 t)).cell? ⟨n, 1, none⟩ = some (.int .u64 0) := (cell_of_row _ _ 1 _ _ _ (heap_setCell_same _ _ _ _ _ _ hS9)).trans rfl
    have hE : ((w9.setCell ⟨n, 0, none⟩ (.int .i64 t)).setCell ⟨n, 1, none⟩ (.int .u64 ((v : Nat) : Int))).heap[n]? = some (.cells #[.int .i64 t, .int .u64 ((v : Nat) : Int)] 70 (0, 0)) := by
      rw [heap_setCell_same _ _ _ _ _ _ (heap_setCell_same _ _ _ _ _ _ hS9)]
      rfl
    have hOO : Only [n] w9 ((w9.setCell ⟨n, 0, none⟩ (.int .i64 t)).setCell ⟨n, 1, none⟩ (.int .u64 ((v : Nat) : Int))) := ((Only.refl [n] w9).setCell (p := ⟨n, 0, none⟩) (.inl (by simp)) _).setCell (p := ⟨n, 1, none⟩) (.inl (by simp)) _
    have HE := Lib.hid (And.intro hE (And.intro (hF9.out.1.only hOO (by have := HA.out.2; simp; omega) (by have := HA.out.2; simp; omega) (by have := HA.out.2; simp; omega)) (hF9.out.2.1.trans hOO (fun x hx => .inr (by simp at hx; omega)))))
    clear hE hOO hS9
    go_wp2_with fail
    refine bodyPost_ret (v := .agg #[.int .i64 t, .int .u64 ((v : Nat) : Int)]) ?_ ?_ ?_
    · exact results_cell_row (fn := Tryd.f95) (p := 2) (ty := 70) rfl _ _ n 70 _ (0, 0) _ rfl HE.out.1 Tryd.underlying70 rfl (by kernel_rfl)
    · rfl
    · exact ⟨rfl, HE.out.2.1, HE.out.2.2⟩
end Go.Proofs.YtdlifcpdlbmijaaDoor
namespace Go.Proofs.YtdlifcpdlbmijaaDoor.Gm
open B2.Bt
set_option linter.unusedVariables false
/-- the samples of chunk j -/
def grp (l : List Smp) (j : Nat) : List Smp := (l.drop (120 * j)).take 120
def cnt (n : Nat) : Nat := (n + 119) / 120
theorem grp_get (l : List Smp) (j r : Nat) (h : r < 120) : (grp l j)[r]? = l[120 * j + r]? := by
  unfold grp
  rw [List.getElem?_take, if_pos h, List.getElem?_drop]
theorem grp_all {l m : List Smp} (h : ∀ j, grp l j = grp m j) : l = m := by
  apply List.ext_getElem?
  intro i
  have h1 : (grp l (i / 120))[i % 120]? = (grp m (i / 120))[i % 120]? := by rw [h]
  rw [grp_get _ _ _ (by omega), grp_get _ _ _ (by omega), show 120 * (i / 120) + i % 120 = i by omega] at h1
  exact h1
theorem grp_past (l : List Smp) (j : Nat) (h : cnt l.length ≤ j) : grp l j = [] := by
  unfold grp cnt at *
  rw [List.drop_of_length_le (by omega)]; rfl
theorem grp_mem {l : List Smp} {j : Nat} {a : Smp} (h : a ∈ grp l j) : a ∈ l := List.mem_of_mem_drop (List.mem_of_mem_take h)
theorem grp_len (l : List Smp) (j : Nat) : (grp l j).length = min 120 (l.length - 120 * j) := by unfold grp; rw [List.length_take, List.length_drop]
/-- a chunk as it is told -/
structure Chk where
  frm : Int
  to : Int
  n : Nat
  bs : List Nat
deriving DecidableEq
def IsChk (g : List Smp) (c : Chk) : Prop := c.frm = (run g).frm ∧ c.to = (run g).last.t ∧ c.n = (run g).n ∧ ∃ k, k < 8 ∧ Packs k c.bs (run g).out
structure Enc (l : List Smp) (cs : List Chk) : Prop where
  len : cs.length = cnt l.length
  each : ∀ j (h : j < cs.length), IsChk (grp l j) cs[j]
theorem chk_same {g h : List Smp} {c d : Chk} (hg : ∀ a ∈ g, OkS a) (hh : ∀ a ∈ h, OkS a) (C : IsChk g c) (D : IsChk h d) (e : c = d) : g = h := by
  subst e
  obtain ⟨c1, c2, c3, k, hk, hP⟩ := C
  obtain ⟨d1, d2, d3, j, hj, hQ⟩ := D
  have hn : g.length = h.length := by rw [← run_n, ← run_n, ← c3, ← d3]
  exact run_inj g h hg hh hn (List.replicate k false) (List.replicate j false) (hP.2.symm.trans hQ.2)
theorem chk_one {g : List Smp} {c d : Chk} (C : IsChk g c) (D : IsChk g d) : c = d := by
  obtain ⟨c1, c2, c3, k, hk, hP⟩ := C
  obtain ⟨d1, d2, d3, j, hj, hQ⟩ := D
  obtain ⟨cf, ct, cn, cb⟩ := c
  obtain ⟨df, dt, dn, db⟩ := d
  simp only at c1 c2 c3 d1 d2 d3 hP hQ
  subst c1; subst c2; subst c3; subst d1; subst d2; subst d3
  rw [packs_unique hP hQ hk hj]
theorem enc_same {l m : List Smp} {cs ds : List Chk} (hl : ∀ a ∈ l, OkS a) (hm : ∀ a ∈ m, OkS a) (C : Enc l cs) (D : Enc m ds) : cs = ds ↔ l = m := by
  constructor
  · intro e
    subst e
    refine grp_all fun j => ?_
    by_cases h : j < cs.length
    · exact chk_same (fun a ha => hl a (grp_mem ha)) (fun a ha => hm a (grp_mem ha)) (C.each j h) (D.each j h) rfl
    · rw [grp_past l j (by have := C.len; omega), grp_past m j (by have := D.len; omega)]
  · intro e
    subst e
    apply List.ext_getElem
    · rw [C.len, D.len]
    · intro j h1 h2
      exact chk_one (C.each j h1) (D.each j h2)
/-- samples made to rise -/
def stp (t : Int) : Int := (if t < 0 then -(t + 1) else t) % 4398046511104 + 1
def ris : Int → List Smp → List Smp
  | _, [] => []
  | t, a :: l => ⟨t + stp a.t, a.v⟩ :: ris (t + stp a.t) l
def rising (l : List Smp) : List Smp := ris (-9007199254740992) (l.take 2000)
/-- the time behind some -/
def risT : Int → List Smp → Int
  | t, [] => t
  | t, a :: l => risT (t + stp a.t) l
theorem stp_pos (t : Int) : 1 ≤ stp t ∧ stp t ≤ 4398046511104 := by unfold stp; omega
theorem ris_len (l : List Smp) : ∀ t, (ris t l).length = l.length := by
  induction l with
  | nil => intro t; rfl
  | cons a l ih => intro t; simp [ris, ih]
theorem ris_snoc (l : List Smp) (a : Smp) : ∀ t, ris t (l ++ [a]) = ris t l ++ [⟨risT t l + stp a.t, a.v⟩] := by
  induction l with
  | nil => intro t; rfl
  | cons b l ih => intro t; simp [ris, risT, ih]
theorem risT_snoc (l : List Smp) (a : Smp) : ∀ t, risT t (l ++ [a]) = risT t l + stp a.t := by
  induction l with
  | nil => intro t; rfl
  | cons b l ih => intro t; simp [risT, ih]
theorem risT_bound (l : List Smp) : ∀ t, t ≤ risT t l ∧ risT t l ≤ t + 4398046511104 * l.length := by
  induction l with
  | nil => intro t; simp [risT]
  | cons a l ih =>
    intro t
    have h1 := ih (t + stp a.t)
    have h2 := stp_pos a.t
    simp only [risT, List.length_cons]
    omega
theorem ris_facts (l : List Smp) : ∀ t, (∀ a ∈ ris t l, t < a.t ∧ a.t ≤ t + 4398046511104 * l.length) ∧ (ris t l).Pairwise (fun a b => a.t < b.t) := by
  induction l with
  | nil => intro t; exact ⟨fun a h => (by cases h), List.Pairwise.nil⟩
  | cons a l ih =>
    intro t
    obtain ⟨h1, h2⟩ := ih (t + stp a.t)
    have h3 := stp_pos a.t
    refine ⟨fun b hb => ?_, List.Pairwise.cons (fun b hb => (h1 b hb).1) h2⟩
    rw [ris] at hb
    rcases List.mem_cons.1 hb with rfl | hb
    · simp only [List.length_cons]; omega
    · have := h1 b hb
      simp only [List.length_cons]; omega
theorem ris_v (l : List Smp) : ∀ t, (∀ a ∈ l, OkS a) → ∀ a ∈ ris t l, a.v < 18446744073709551616 := by
  induction l with
  | nil => intro t _ a h; cases h
  | cons a l ih =>
    intro t hl b hb
    rw [ris] at hb
    rcases List.mem_cons.1 hb with rfl | hb
    · exact (hl a (by simp)).2.2
    · exact ih _ (fun x hx => hl x (by simp [hx])) b hb
/-- samples that rise, in range -/
structure Rising (l : List Smp) : Prop where
  len : l.length ≤ 2000
  ok : ∀ a ∈ l, OkS a
  inr : ∀ a ∈ l, -9007199254740992 ≤ a.t ∧ a.t ≤ 9007199254740992
  up : ∀ i (h : i + 1 < l.length), l[i].t < l[i + 1].t
theorem rising_is (l : List Smp) (hl : ∀ a ∈ l, OkS a) : Rising (rising l) := by
  have h0 : (l.take 2000).length ≤ 2000 := by simp; omega
  obtain ⟨h1, h2⟩ := ris_facts (l.take 2000) (-9007199254740992)
  have h3 := ris_v (l.take 2000) (-9007199254740992) (fun a ha => hl a (List.mem_of_mem_take ha))
  refine ⟨by unfold rising; rw [ris_len]; exact h0, fun a ha => ?_, fun a ha => ?_, fun i hi => ?_⟩
  · have := h1 a ha
    exact ⟨by omega, by omega, h3 a ha⟩
  · have := h1 a ha
    omega
  · have hi' : i + 1 < (ris (-9007199254740992) (l.take 2000)).length := hi
    exact List.pairwise_iff_getElem.1 h2 i (i + 1) (by omega) hi' (by omega)
end Go.Proofs.YtdlifcpdlbmijaaDoor.Gm
namespace Go.Proofs.YtdlifcpdlbmijaaDoor
set_option linter.unusedVariables false
set_option linter.unusedSimpArgs false
open Go.RowKit Go.PlainAid Go.Shelf
open B2 (Only Bys Row cellsOf)
open Gm (St Smp)
/-- samples in memory -/
def Sms (w : World) (a : Option Addr) (xs : List Smp) : Prop := xs ≠ [] → ∃ b off, a = some ⟨b, off, none⟩ ∧ b < w.heap.size ∧ ∀ k (h : k < xs.length), w.cell? ⟨b, off + k * 2, none⟩ = some (.int .i64 xs[k].t) ∧ w.cell? ⟨b, off + k * 2 + 1, none⟩ = some (.int .u64 ((xs[k].v : Nat) : Int))
theorem Sms.below {w w' : World} {a : Option Addr} {xs : List Smp} (H : Sms w a xs) (hb : Below w.heap.size w w') : Sms w' a xs := fun hn => by
  obtain ⟨b, off, h1, h2, h3⟩ := H hn
  exact ⟨b, off, h1, Nat.lt_of_lt_of_le h2 hb.size, fun k hk => ⟨cell_below (h3 k hk).1 hb, cell_below (h3 k hk).2 hb⟩⟩
theorem neq70 (x y : Smp) (W : World) : (binOp .neq 70 (.agg #[.int .i64 x.t, .int .u64 ((x.v : Nat) : Int)]) (.agg #[.int .i64 y.t, .int .u64 ((y.v : Nat) : Int)])).run Tryd.prog W = .ok (.bool (!decide (x = y))) W := by
  have u2 := Tryd.underlying2
  have u68 := Tryd.underlying68
  have hS : Tryd.prog.underlying 70 = some (.struct (Tryd.prog.fieldsOf 70)) := by kernel_rfl
  have hp : Tryd.prog.stoodInHeld 70 = false := by kernel_rfl
  rw [run_neq_struct, show (10000 : Nat) = 9999 + 1 from rfl, run_equalIn_agg W 9999 70 _ _ hS hp]
  simp only [Program.fieldsOf, Tryd.underlying70]
  go_simp
  obtain ⟨xt, xv⟩ := x
  obtain ⟨yt, yv⟩ := y
  by_cases h1 : xt = yt <;> by_cases h2 : xv = yv <;> simp [h1, h2] <;> omega
theorem guard70 (x y : Operand) (p q : Smp) (W : World) : (eqGuard .neq 70 x y (.agg #[.int .i64 p.t, .int .u64 ((p.v : Nat) : Int)]) (.agg #[.int .i64 q.t, .int .u64 ((q.v : Nat) : Int)])).run Tryd.prog W = .ok () W := run_eqGuard_agg _ _ _ _ _ _ _ (by kernel_rfl)
set_option maxHeartbeats 4000000 in
set_option maxRecDepth 100000 in
theorem samebyt_any (a1 a2 : Option Addr) (c1 c2 n k : Nat) (l m : List Nat) (hn : l.length = n) (hk : m.length = k) (w : World) (H1 : Bys w a1 l) (H2 : Bys w a2 m) (hz : n ≤ 1000000000) (hz2 : k ≤ 1000000000) : Calls Tryd.prog 29 #[.slice a1 n c1, .slice a2 k c2] w fun e w' => e = .returned (.bool (decide (l = m))) ∧ Below w.heap.size w w' := by
  by_cases hlen : n = k
  · subst hlen
    have HL := Lib.hid H1
    have HM := Lib.hid H2
    have HN := Lib.hid hn
    have HK := Lib.hid hk
    clear H1 H2 hn hk
    go_enter Tryd.func29, Tryd.ntmps29
    go_wp2
    go_loopw [5] (fun i wr => ∃ k : Nat, k ≤ n ∧ i = .int .i64 k ∧ Hid (Below w.heap.size w wr) ∧ Hid (l.take k = m.take k)) (fun i _ => (n - (intOf i).toNat))
    case atStart => exact ⟨0, Nat.zero_le _, rfl, Lib.hid (Below.refl _ _), Lib.hid rfl⟩
    case round =>
      obtain ⟨k, hk1, rfl, HB, HT⟩ := hrel
      by_cases hkn : k < n
      · have da : decide ((k : Int) < (n : Int)) = true := decide_eq_true (by omega)
        have da2 : decide (k < n) = true := decide_eq_true hkn
        have hkl : k < l.length := by rw [HN.out]; exact hkn
        have hkm : k < m.length := by rw [HK.out]; exact hkn
        obtain ⟨b1, o1, rfl, hb1, hc1⟩ := (HL.out.below HB.out).2.2 (by intro e; rw [e] at hkl; simp at hkl)
        obtain ⟨b2, o2, rfl, hb2, hc2⟩ := (HM.out.below HB.out).2.2 (by intro e; rw [e] at hkm; simp at hkm)
        have p1 := hc1 k hkl
        have q1 := hc2 k hkm
        obtain ⟨x, hx⟩ : ∃ x, l[k] = x := ⟨_, rfl⟩
        obtain ⟨y, hy⟩ : ∃ y, m[k] = y := ⟨_, rfl⟩
        have HX := Lib.hid (And.intro ((List.getElem?_eq_getElem hkl).trans (congrArg some hx)) ((List.getElem?_eq_getElem hkm).trans (congrArg some hy)))
        rw [hx] at p1
        rw [hy] at q1
        skip
        clear hx hy hc1 hc2
        by_cases hxy : x = y
        · have hd : ((x : Int) != (y : Int)) = false := by rw [hxy]; simp
          have T2 := Lib.hid (show l.take (k + 1) = m.take (k + 1) by
            obtain ⟨h1, h2⟩ := HX.out
            rw [List.take_add_one, List.take_add_one, h1, h2, HT.out, hxy])
          subst hxy
          clear hd
          go_wp2_with (go_quiet (fail))
          go_roundw
          case rel => exact ⟨k + 1, by omega, by simp, Lib.hid (by have := HB.out; exact ⟨this.os, this.tape, this.output, this.size, this.block⟩), T2⟩
          case measure => simp [intOf]; omega
        · have hd : ((x : Int) != (y : Int)) = true := by simp; omega
          have hd2 : ¬ (x : Int) = (y : Int) := by omega
          have E := Lib.hid (show decide (l = m) = false by
            obtain ⟨h1, h2⟩ := HX.out
            refine decide_eq_false (fun e => hxy ?_)
            rw [e, h2] at h1
            exact (Option.some.inj h1).symm)
          clear hxy
          go_wp2_with (go_quiet (fail))
          go_ret
          exact ⟨congrArg (fun x => Ending.returned (.bool x)) E.out.symm, (by have := HB.out; exact ⟨this.os, this.tape, this.output, this.size, this.block⟩)⟩
      · have hk : k = n := by omega
        subst hk
        have da : decide ((k : Int) < (k : Int)) = false := decide_eq_false (by omega)
        have da2 : decide (k < k) = false := decide_eq_false (by omega)
        have E := Lib.hid (show decide (l = m) = true by
          refine decide_eq_true ?_
          have h := HT.out
          rw [← HN.out, List.take_length, HN.out, ← HK.out, List.take_length] at h
          exact h)
        go_wp2
        go_ret
        exact ⟨congrArg (fun x => Ending.returned (.bool x)) E.out.symm, HB.out⟩
  · have E := Lib.hid (show decide (l = m) = false from decide_eq_false (fun e => hlen (by rw [← hn, ← hk, e])))
    have h2 : ¬ ((n : Int) = (k : Int)) := by omega
    clear H1 H2 hz hn hk
    go_enter Tryd.func29, Tryd.ntmps29
    go_wp2
    go_ret
    exact ⟨congrArg (fun x => Ending.returned (.bool x)) E.out.symm, Below.refl _ _⟩
set_option maxHeartbeats 4000000 in
set_option maxRecDepth 100000 in
theorem samesmp_any (a1 a2 : Option Addr) (c1 c2 n k : Nat) (l m : List Smp) (hn : l.length = n) (hk : m.length = k) (w : World) (H1 : Sms w a1 l) (H2 : Sms w a2 m) (hz : n ≤ 1000000000) (hz2 : k ≤ 1000000000) : Calls Tryd.prog 21 #[.slice a1 n c1, .slice a2 k c2] w fun e w' => e = .returned (.bool (decide (l = m))) ∧ Below w.heap.size w w' := by
  by_cases hlen : n = k
  · subst hlen
    have HL := Lib.hid H1
    have HM := Lib.hid H2
    have HN := Lib.hid hn
    have HK := Lib.hid hk
    clear H1 H2 hn hk
    go_enter Tryd.func21, Tryd.ntmps21
    go_wp2
    go_loopw [5] (fun i wr => ∃ k : Nat, k ≤ n ∧ i = .int .i64 k ∧ Hid (Below w.heap.size w wr) ∧ Hid (l.take k = m.take k)) (fun i _ => (n - (intOf i).toNat))
    case atStart => exact ⟨0, Nat.zero_le _, rfl, Lib.hid (Below.refl _ _), Lib.hid rfl⟩
    case round =>
      obtain ⟨k, hk1, rfl, HB, HT⟩ := hrel
      by_cases hkn : k < n
      · have da : decide ((k : Int) < (n : Int)) = true := decide_eq_true (by omega)
        have da2 : decide (k < n) = true := decide_eq_true hkn
        have hkl : k < l.length := by rw [HN.out]; exact hkn
        have hkm : k < m.length := by rw [HK.out]; exact hkn
        obtain ⟨b1, o1, rfl, hb1, hc1⟩ := (HL.out.below HB.out) (by intro e; rw [e] at hkl; simp at hkl)
        obtain ⟨b2, o2, rfl, hb2, hc2⟩ := (HM.out.below HB.out) (by intro e; rw [e] at hkm; simp at hkm)
        obtain ⟨p1, p2⟩ := hc1 k hkl
        obtain ⟨q1, q2⟩ := hc2 k hkm
        obtain ⟨x, hx⟩ : ∃ x, l[k] = x := ⟨_, rfl⟩
        obtain ⟨y, hy⟩ : ∃ y, m[k] = y := ⟨_, rfl⟩
        have HX := Lib.hid (And.intro ((List.getElem?_eq_getElem hkl).trans (congrArg some hx)) ((List.getElem?_eq_getElem hkm).trans (congrArg some hy)))
        rw [hx] at p1 p2
        rw [hy] at q1 q2
        have hne := fun W => neq70 x y W
        clear hx hy hc1 hc2
        by_cases hxy : x = y
        · have hd : (!decide (x = y)) = false := by rw [decide_eq_true hxy]; rfl
          rw [hd] at hne
          have T2 := Lib.hid (show l.take (k + 1) = m.take (k + 1) by
            obtain ⟨h1, h2⟩ := HX.out
            rw [List.take_add_one, List.take_add_one, h1, h2, HT.out, hxy])
          clear hd hxy
          go_wp2_with (go_quiet (fail))
          go_roundw
          case rel => exact ⟨k + 1, by omega, by simp, Lib.hid (by have := HB.out; exact ⟨this.os, this.tape, this.output, this.size, this.block⟩), T2⟩
          case measure => simp [intOf]; omega
        · have hd : (!decide (x = y)) = true := by rw [decide_eq_false hxy]; rfl
          rw [hd] at hne
          have E := Lib.hid (show decide (l = m) = false by
            obtain ⟨h1, h2⟩ := HX.out
            refine decide_eq_false (fun e => hxy ?_)
            rw [e, h2] at h1
            exact (Option.some.inj h1).symm)
          clear hd hxy
          go_wp2_with (go_quiet (fail))
          go_ret
          exact ⟨congrArg (fun x => Ending.returned (.bool x)) E.out.symm, (by have := HB.out; exact ⟨this.os, this.tape, this.output, this.size, this.block⟩)⟩
      · have hk : k = n := by omega
        subst hk
        have da : decide ((k : Int) < (k : Int)) = false := decide_eq_false (by omega)
        have da2 : decide (k < k) = false := decide_eq_false (by omega)
        have E := Lib.hid (show decide (l = m) = true by
          refine decide_eq_true ?_
          have h := HT.out
          rw [← HN.out, List.take_length, HN.out, ← HK.out, List.take_length] at h
          exact h)
        go_wp2
        go_ret
        exact ⟨congrArg (fun x => Ending.returned (.bool x)) E.out.symm, HB.out⟩
  · have E := Lib.hid (show decide (l = m) = false from decide_eq_false (fun e => hlen (by rw [← hn, ← hk, e])))
    have h2 : ¬ ((n : Int) = (k : Int)) := by omega
    clear H1 H2 hz hn hk
    go_enter Tryd.func21, Tryd.ntmps21
    go_wp2
    go_ret
    exact ⟨congrArg (fun x => Ending.returned (.bool x)) E.out.symm, Below.refl _ _⟩
end Go.Proofs.YtdlifcpdlbmijaaDoor
namespace Go.Proofs.YtdlifcpdlbmijaaDoor.B2
open Go.RowKit
section
variable {P : Program}
/-- where an append of at least one element goes: in place, with the same room; or to new memory, and then nothing that was there has turned -/
def Goes (w w' : World) (v v' : Value) (n m : Nat) : Prop :=
  (∃ g cap, v = .slice (some ⟨g, 0, none⟩) n cap ∧ v' = .slice (some ⟨g, 0, none⟩) (n + m) cap ∧ w.grownBy w' (some g)) ∨
  (∃ g cap, v' = .slice (some ⟨g, 0, none⟩) (n + m) cap ∧ w.heap.size ≤ g ∧ w.grownBy w' none)
theorem run_append_goes (w : World) (t ty e : TypeId) (i : TypeInfo) (z : Value) (size bytes : Nat) (ht : P.underlying t = some (.slice e)) (hi : P.info? e = some i) (hz : i.zero = some z)
    (hsize : i.size = size) (hby : i.bytes = bytes) (hzs : z.cells.size = size) (hsz : 0 < size)
    (v : Value) (n : Nat) (xs : List Value) (hown : w.ownsRow 0 e size v n xs)
    (a : Addr) (m c : Nat) (news : List Value) (hl : news.length = m * size) (hnews : ∀ j u, news[j]? = some u → w.cell? (a.add j) = some u) (h1 : ∀ u ∈ news, u.oneCell' = true)
    (h63 : n + m ≤ maxLen) (hbytes : (n + m) * bytes ≤ 140737488355328) (hm : 0 < m) :
    ∃ v' w', (Builtin.append_ #[t, t] ty #[v, .slice (some a) m c]).run P w = .ok v' w' ∧ w'.ownsRow 0 e size v' (n + m) (xs ++ news) ∧ Goes w w' v v' n m := by
  obtain ⟨v', w', hr, h2, h3, h4⟩ := run_append_own (P := P) w 0 t ty e i z size bytes ht hi hz hsize hby hzs hsz v n xs hown a m c news hl hnews h1 h63 hbytes (Nat.zero_le _)
  refine ⟨v', w', hr, h2, ?_⟩
  rcases hown.2 with ⟨rfl, rfl⟩ | ⟨g, cap, cur, rfl, hbg, hg, hnc, hcm, hcs, htake⟩
  · have hx : xs = [] := List.eq_nil_of_length_eq_zero (by simpa using hown.1)
    subst hx
    obtain ⟨v2, w2, hr2, k2, k3, k4⟩ := run_append_own (P := P) w w.heap.size t ty e i z size bytes ht hi hz hsize hby hzs hsz _ 0 [] (World.ownsRow_nil w _ e size) a m c news hl hnews h1 h63 hbytes (Nat.le_refl _)
    rw [hr] at hr2
    cases hr2
    rcases k2.2 with ⟨_, h0⟩ | ⟨g, cap, cur, hv, hg, _⟩
    · omega
    · exact .inr ⟨g, cap, hv, hg, h3⟩
  · by_cases hroom : n + m ≤ cap
    · have hfit : n * i.size + news.length ≤ cur.size := by rw [hl, hcs, hsize, ← Nat.add_mul]; exact Nat.mul_le_mul_right _ hroom
      have hr2 := run_append_room (P := P) w t ty e i ht hi g n cap cur hg a m c news (by rw [hsize]; exact hl) hnews h1 hroom hfit
      rw [hr] at hr2
      cases hr2
      exact .inl ⟨g, cap, rfl, rfl, h3⟩
    · have holds := hown.cells (g := g) rfl
      have hr2 := run_append_grow (P := P) w t ty e i z ht hi hz ⟨g, 0, none⟩ n cap xs (by rw [hsize]; exact hown.1) holds a m c news (by rw [hsize]; exact hl) hnews (by omega) (by simp only [maxLen] at h63; omega) (growslice_fits (by omega) (by rw [hby]; exact hbytes))
      rw [hr] at hr2
      cases hr2
      exact .inr ⟨_, _, rfl, Nat.le_refl _, ⟨rfl, rfl, rfl, by simp, fun k hk _ => Below.heap_alloc w.drew _ k hk⟩⟩
theorem wpList_append_goes (w : World) {ops : Array Oper} {rest : List Oper} {o : Oper} {a : Act} {Q : Exit → Act → World → Prop} (hgd : o.guard = none) (s x : Operand) (t : TypeId)
    (ho : o.op = .call { callee := .builtin .append, args := #[s, x], argTypes := #[t, t] })
    (e : TypeId) (i : TypeInfo) (z : Value) (size bytes : Nat) (ht : P.underlying t = some (.slice e)) (hi : P.info? e = some i) (hz : i.zero = some z)
    (hsize : i.size = size) (hby : i.bytes = bytes) (hzs : z.cells.size = size) (hsz : 0 < size)
    (v : Value) (n : Nat) (xs : List Value) (hs : a.eval s = v) (hown : w.ownsRow 0 e size v n xs)
    (ad : Addr) (m c : Nat) (news : List Value) (hx : a.eval x = .slice (some ad) m c) (hl : news.length = m * size) (hnews : ∀ j u, news[j]? = some u → w.cell? (ad.add j) = some u) (h1 : ∀ u ∈ news, u.oneCell' = true)
    (h63 : n + m ≤ maxLen) (hbytes : (n + m) * bytes ≤ 140737488355328) (hm : 0 < m)
    (h : ∀ v' w', w'.ownsRow 0 e size v' (n + m) (xs ++ news) → Goes w w' v v' n m → wpList P ops Q rest (a.put o.dst v') w') : wpList P ops Q (o :: rest) a w := by
  refine wpList_plain hgd fun K hK => ?_
  obtain ⟨v', w', hr, h2, h3⟩ := run_append_goes (P := P) w t o.type e i z size bytes ht hi hz hsize hby hzs hsz v n xs hown ad m c news hl hnews h1 h63 hbytes hm
  unfold Oper.wp execOp
  simp only [ho, resolve, invoke, builtin, Sem.run_bind, Sem.run_pure, Result.andThen_ok, List.map_toArray, List.map_cons, List.map_nil, hs, hx, hr]
  exact hK _ _ (h v' w' h2 h3)
end
/-- rows of bytes, each in a block of its own or nil -/
structure Lots (w : World) (N : Nat) (X : Nat → Value) (C : Nat → List Nat) : Prop where
  own : ∀ i, w.ownsRow N 5 1 (X i) (C i).length (cellsOf (C i))
  apart : ∀ i j, i ≠ j → (X i).ownBlock = none ∨ (X i).ownBlock ≠ (X j).ownBlock
theorem Lots.shape {w : World} {N : Nat} {X : Nat → Value} {C : Nat → List Nat} (h : Lots w N X C) (i : Nat) : (X i = .slice none 0 0 ∧ C i = []) ∨ ∃ g cap cur, X i = .slice (some ⟨g, 0, none⟩) (C i).length cap ∧ N ≤ g ∧ w.heap[g]? = some (.cells cur 5 (0, 0)) ∧ (C i).length ≤ cap ∧ cap ≤ maxLen ∧ cur.size = cap ∧ cur.toList.take (C i).length = cellsOf (C i) := by
  rcases (h.own i).2 with ⟨hv, hn⟩ | ⟨g, cap, cur, hv, hg, hh, hc, hm, hs, ht⟩
  · exact .inl ⟨hv, List.eq_nil_of_length_eq_zero hn⟩
  · exact .inr ⟨g, cap, cur, hv, hg, hh, hc, hm, by simpa using hs, by simpa using ht⟩
theorem Lots.cell {w : World} {N : Nat} {X : Nat → Value} {C : Nat → List Nat} (h : Lots w N X C) (i k : Nat) (hk : k < (C i).length) :
    ∃ g cap, X i = .slice (some ⟨g, 0, none⟩) (C i).length cap ∧ N ≤ g ∧ g < w.heap.size ∧ w.cell? ⟨g, k, none⟩ = some (.int .u8 (((C i)[k] : Nat) : Int)) ∧ w.frozen? ⟨g, k, none⟩ = false := by
  rcases h.shape i with ⟨_, h0⟩ | ⟨g, cap, cur, hv, hg, hh, hc, hm, hs, ht⟩
  · rw [h0] at hk; simp at hk
  · refine ⟨g, cap, hv, hg, (Array.getElem?_eq_some_iff.1 hh).1, ?_, frozen_of_row _ _ _ _ _ hh⟩
    rw [cell_of_row _ _ _ _ _ _ hh, ← Array.getElem?_toList]
    have := congrArg (fun l => l[k]?) ht
    simp only [List.getElem?_take, if_pos hk, cellsOf_get _ k hk] at this
    exact this
/-- a row that is not written, or not there, stays -/
theorem owns_only {w w' : World} {N e size n : Nat} {v : Value} {xs : List Value} (h : w.ownsRow N e size v n xs) {S : List Nat} (ho : Only S w w') (hn : ∀ g, v.ownBlock = some g → g ∉ S) : w'.ownsRow N e size v n xs := by
  refine ⟨h.1, ?_⟩
  rcases h.2 with h2 | ⟨g, cap, cur, hv, hg, hh, r⟩
  · exact .inl h2
  · exact .inr ⟨g, cap, cur, hv, hg, (ho.block g (Array.getElem?_eq_some_iff.1 hh).1 (hn g (by rw [hv]; rfl))).trans hh, r⟩
theorem Lots.only {w w' : World} {N : Nat} {X : Nat → Value} {C : Nat → List Nat} (h : Lots w N X C) {S : List Nat} (ho : Only S w w') (hn : ∀ i g, (X i).ownBlock = some g → g ∉ S) : Lots w' N X C :=
  ⟨fun i => owns_only (h.own i) ho (hn i), h.apart⟩
/-- one byte of one row is written -/
theorem Lots.set {w : World} {N i k g cap c : Nat} {X : Nat → Value} {C : Nat → List Nat} (h : Lots w N X C) (hX : X i = .slice (some ⟨g, 0, none⟩) (C i).length cap) (hk : k < (C i).length) :
    Lots (w.setCell ⟨g, k, none⟩ (.int .u8 ((c : Nat) : Int))) N X (fun j => if j = i then (C i).set k c else C j) := by
  refine ⟨fun j => ?_, h.apart⟩
  have ho : Only [g] w (w.setCell ⟨g, k, none⟩ (.int .u8 ((c : Nat) : Int))) := (Only.refl _ _).setCell (p := ⟨g, k, none⟩) (.inl (by simp)) _
  by_cases hj : j = i
  · subst hj
    rw [if_pos rfl]
    rcases h.shape j with ⟨hv, _⟩ | ⟨g2, cap2, cur, hv, hg, hh, hc, hm, hs, ht⟩
    · rw [hX] at hv; cases hv
    · rw [hX] at hv
      cases hv
      refine ⟨by simp [cellsOf_length], .inr ⟨g, cap, cur.setIfInBounds k (.int .u8 ((c : Nat) : Int)), by rw [hX]; simp, hg, heap_setCell_same _ _ _ _ _ _ hh, by simpa using hc, hm, by simpa using hs, ?_⟩⟩
      rw [Array.toList_setIfInBounds, List.length_set, Nat.mul_one, List.take_set, ht]
      simp [cellsOf, List.map_set]
  · rw [if_neg hj]
    refine owns_only (h.own j) ho (fun g' hg' => ?_)
    rcases h.apart j i hj with h1 | h1
    · rw [h1] at hg'; cases hg'
    · rw [hg', hX] at h1
      simp only [Value.ownBlock] at h1
      intro hm
      simp only [List.mem_singleton] at hm
      exact h1 (by rw [hm])
/-- the slice of slices itself -/
def Outer (w : World) (a : Option Addr) (h n : Nat) (X : Nat → Value) : Prop := 0 < n → a = some ⟨h, 0, none⟩ ∧ h < w.heap.size ∧ ∀ i, i < n → w.cell? ⟨h, i, none⟩ = some (X i)
theorem Outer.only {w w' : World} {a : Option Addr} {h n : Nat} {X : Nat → Value} (H : Outer w a h n X) {S : List Nat} (ho : Only S w w') (hn : h ∉ S) : Outer w' a h n X := fun h0 => by
  obtain ⟨e, hl, hc⟩ := H h0
  exact ⟨e, Nat.lt_of_lt_of_le hl ho.size, fun i hi => (ho.cell (p := ⟨h, i, none⟩) hl hn).trans (hc i hi)⟩
/-- the marks -/
def mark1 (i k : Nat) : Nat := (i * 97 + k * 13) % 256
def mark2 (i k : Nat) : Nat := ((((-1 : Int) - (i : Int)) * 97 + (k : Int) * 13) % 256).toNat
theorem mark1_spell (i k : Nat) : ((i : Int) * 97 + (k : Int) * 13) % 256 = ((mark1 i k : Nat) : Int) := by unfold mark1; omega
theorem mark2_spell (i k : Nat) : (((-1 : Int) - (i : Int)) * 97 + (k : Int) * 13) % 256 = ((mark2 i k : Nat) : Int) := by unfold mark2; omega
end Go.Proofs.YtdlifcpdlbmijaaDoor.B2
namespace Go.Proofs.YtdlifcpdlbmijaaDoor
set_option linter.unusedVariables false
set_option linter.unusedSimpArgs false
open Go.RowKit Go.PlainAid Go.Shelf
open B2 (Only Bys Row cellsOf)
open Gm (St Smp Chk)
theorem info70' : (Tryd.prog.info? 70).map (fun i => (i.zero, i.size, i.bytes)) = some (some (.agg #[.int .i64 0, .int .u64 0]), 2, 16) := by kernel_rfl
def smC (l : List Smp) : List Value := l.flatMap fun a => [.int .i64 a.t, .int .u64 ((a.v : Nat) : Int)]
theorem smC_snoc (l : List Smp) (a : Smp) : smC (l ++ [a]) = smC l ++ [.int .i64 a.t, .int .u64 ((a.v : Nat) : Int)] := by simp [smC]
theorem smC_get (l : List Smp) (k : Nat) (h : k < l.length) : (smC l)[k * 2]? = some (.int .i64 l[k].t) ∧ (smC l)[k * 2 + 1]? = some (.int .u64 ((l[k].v : Nat) : Int)) := by
  induction l generalizing k with
  | nil => simp at h
  | cons a l ih =>
    cases k with
    | zero => exact ⟨rfl, rfl⟩
    | succ k =>
      have h2 := ih k (by simpa using h)
      have e : smC (a :: l) = .int .i64 a.t :: .int .u64 ((a.v : Nat) : Int) :: smC l := rfl
      rw [e, show (k + 1) * 2 = k * 2 + 1 + 1 by omega]
      simpa using h2
/-- samples of the call's own -/
def OwnS (w : World) (base : Nat) (v : Value) (l : List Smp) : Prop := w.ownsRow base 70 2 v l.length (smC l)
theorem OwnS.shape {w : World} {base : Nat} {v : Value} {l : List Smp} (H : OwnS w base v l) : ∃ a c, v = .slice a l.length c ∧ Sms w a l := by
  rcases H.2 with ⟨hv, h0⟩ | ⟨g, c, cur, hv, _, hh, _⟩
  · exact ⟨none, 0, by rw [hv, h0], fun h => absurd (List.eq_nil_of_length_eq_zero h0) h⟩
  · refine ⟨_, c, hv, fun _ => ⟨g, 0, rfl, (Array.getElem?_eq_some_iff.1 hh).1, fun k hk => ?_⟩⟩
    obtain ⟨h1, h2⟩ := smC_get l k hk
    have k1 := H.cells (g := g) (by rw [hv]; rfl) _ _ h1
    have k2 := H.cells (g := g) (by rw [hv]; rfl) _ _ h2
    rw [B2.add_here] at k1 k2
    rw [Nat.zero_add]
    exact ⟨k1, k2⟩
theorem OwnS.below {w w' : World} {base : Nat} {v : Value} {l : List Smp} (H : OwnS w base v l) (hb : Below w.heap.size w w') : OwnS w' base v l := B2.owns_only H (Only.of_below hb []) (fun _ _ => by simp)
theorem two_cellsN (w : World) (x : Smp) : ∀ j u, ([.int .i64 x.t, .int .u64 ((x.v : Nat) : Int)] : List Value)[j]? = some u → (w.alloc (.cells #[.int .i64 x.t, .int .u64 ((x.v : Nat) : Int)] 70)).cell? ((⟨w.heap.size, 0, none⟩ : Addr).add j) = some u := by
  intro j u hj
  rw [B2.add_here, cell_of_row _ _ _ _ _ _ (heap_alloc_new w _), List.getElem?_toArray]
  exact hj
theorem stp_neg (T : Int) (h : T < 0) : Gm.stp T = (-(T + 1)) % 4398046511104 + 1 := by unfold Gm.stp; rw [if_pos h]
theorem stp_nn (T : Int) (h : ¬ T < 0) : Gm.stp T = T % 4398046511104 + 1 := by unfold Gm.stp; rw [if_neg h]
set_option maxHeartbeats 8000000 in
set_option maxRecDepth 100000 in
theorem rising_any (a : Option Addr) (n c : Nat) (l : List Smp) (hn : l.length = n) (hz : n ≤ 9223372036854775807) (hOk : ∀ x ∈ l, Gm.OkS x) (w : World) (H : Sms w a l) :
    Calls Tryd.prog 22 #[.slice a n c] w fun e w' => ∃ v, e = .returned v ∧ OwnS w' w.heap.size v (Gm.rising l) ∧ Below w.heap.size w w' := by
  obtain ⟨i0, hi, hz0, hz1, hz2⟩ := info_parts info70'
  have HI := Lib.hid (And.intro hi (And.intro hz0 (And.intro hz1 hz2)))
  have HL := Lib.hid (And.intro H (And.intro hn hOk))
  have G0 := Lib.hid (show OwnS w w.heap.size (.slice none 0 0) (Gm.ris (-9007199254740992) (l.take 0)) ∧ Below w.heap.size w w from ⟨by simpa [Gm.ris, OwnS, smC] using World.ownsRow_nil w w.heap.size 70 2, Below.refl _ _⟩)
  clear H hn hOk hi hz0 hz1 hz2
  go_enter Tryd.func22, Tryd.ntmps22
  go_wp2_with fail
  go_loopw [3, 4, 5, 6] (fun v t i s wr => ∃ k : Nat, k ≤ n ∧ k ≤ 2000 ∧ i = .int .i64 k ∧ Hid (t = .int .i64 (Gm.risT (-9007199254740992) (l.take k))) ∧ Hid (OwnS wr w.heap.size v (Gm.ris (-9007199254740992) (l.take k)) ∧ Below w.heap.size w wr)) (fun _ _ i _ _ => 2000 - (intOf i).toNat)
  case atStart => exact ⟨0, Nat.zero_le _, Nat.zero_le _, rfl, Lib.hid rfl, G0⟩
  case round =>
    clear G0
    obtain ⟨k, hk, hk2, rfl, HT, HG⟩ := hrel
    obtain ⟨tt, htt⟩ : ∃ tt, Gm.risT (-9007199254740992) (l.take k) = tt := ⟨_, rfl⟩
    have hbt := Gm.risT_bound (l.take k) (-9007199254740992)
    rw [htt] at hbt HT
    have hlen : (l.take k).length = k := by rw [List.length_take, HL.out.2.1]; omega
    rw [hlen] at hbt
    have HTT := Lib.hid htt
    obtain ⟨rfl⟩ := HT
    obtain ⟨av, cv, rfl, _⟩ := HG.out.1.shape
    have hlr : (Gm.ris (-9007199254740992) (l.take k)).length = k := by rw [Gm.ris_len, hlen]
    rw [hlr] at HG ⊢
    clear htt hlen hlr
    by_cases hkn : k < n
    · have da : decide ((k : Int) < (n : Int)) = true := decide_eq_true (by omega)
      have da2 : decide (k < n) = true := decide_eq_true hkn
      by_cases hk3 : k < 2000
      · have db : decide ((k : Int) < 2000) = true := decide_eq_true (by omega)
        have db2 : decide (k < 2000) = true := decide_eq_true hk3
        have hkl : k < l.length := by rw [HL.out.2.1]; exact hkn
        obtain ⟨b1, o1, rfl, hl1, hc1⟩ := (HL.out.1.below HG.out.2) (by intro e; rw [e] at hkl; simp at hkl)
        obtain ⟨p1, p2⟩ := hc1 k hkl
        obtain ⟨x, hx⟩ : ∃ x, l[k] = x := ⟨_, rfl⟩
        have hok : Gm.OkS x := by rw [← hx]; exact HL.out.2.2 _ (List.getElem_mem hkl)
        rw [hx] at p1 p2
        have HX := Lib.hid (show l.take (k + 1) = l.take k ++ [x] by rw [List.take_succ_eq_append_getElem hkl, hx])
        obtain ⟨T, V⟩ := x
        have hT1 : -9223372036854775808 ≤ T := hok.1
        have hT2 : T ≤ 9223372036854775807 := hok.2.1
        simp only at p1 p2
        clear hc1 hx hok
        by_cases hneg : T < 0
        · have dn : decide (T < 0) = true := decide_eq_true hneg
          obtain ⟨m, hm⟩ := Int.eq_ofNat_of_zero_le (show 0 ≤ -(T + 1) by omega)
          have hm2 : T + 1 = -(m : Int) := by omega
          have HS := Lib.hid (show tt + ((m : Int) % 4398046511104 + 1) = tt + Gm.stp T from by unfold Gm.stp; omega)
          obtain ⟨y, hy⟩ : ∃ y : Smp, y = ⟨tt + ((m : Int) % 4398046511104 + 1), V⟩ := ⟨_, rfl⟩
          have HR := Lib.hid (show Gm.ris (-9007199254740992) (l.take (k + 1)) = Gm.ris (-9007199254740992) (l.take k) ++ [y] ∧ Gm.risT (-9007199254740992) (l.take (k + 1)) = tt + ((m : Int) % 4398046511104 + 1) from by
            rw [HX.out, Gm.ris_snoc, Gm.risT_snoc, HTT.out, hy]
            simp only [← HS.out]
            exact ⟨trivial, trivial⟩)
          have HSRC := Lib.hid (two_cellsN wr ⟨tt + ((m : Int) % 4398046511104 + 1), V⟩)
          have HONE := Lib.hid (show ∀ u ∈ ([.int .i64 (tt + ((m : Int) % 4398046511104 + 1)), .int .u64 ((V : Nat) : Int)] : List Value), u.oneCell' = true by simp [Value.oneCell'])
          have HOW := Lib.hid (show wr.ownsRow w.heap.size 70 2 (.slice av k cv) k (smC (Gm.ris (-9007199254740992) (l.take k))) from by
            have h := HG.out.1
            unfold OwnS at h
            rw [Gm.ris_len, List.length_take, HL.out.2.1, Nat.min_eq_left (by omega)] at h
            exact h)
          have HY := Lib.hid hy
          clear hy
          go_wp2_with (at_builtin; refine wpList_append_own_at _ rfl (.tmp 32) (.tmp 40) 22 rfl w.heap.size 70 i0 (.agg #[.int .i64 0, .int .u64 0]) 2 16 Tryd.underlying22 HI.out.1 HI.out.2.1 HI.out.2.2.1 HI.out.2.2.2 rfl (by decide) (.slice av k cv) k (smC (Gm.ris (-9007199254740992) (l.take k))) rfl (HOW.out.alloc _) ⟨wr.heap.size, 0, none⟩ 1 1 [.int .i64 (tt + ((m : Int) % 4398046511104 + 1)), .int .u64 ((V : Nat) : Int)] rfl rfl HSRC.out HONE.out (by unfold maxLen; omega) (by omega) (by have := HG.out.2.size; simp; omega) ?_; intro v2 w2 hown2 hgr2 _ _; have HN := Lib.hid (show OwnS w2 w.heap.size v2 (Gm.ris (-9007199254740992) (l.take (k + 1))) ∧ Below w.heap.size w w2 from (by refine ⟨?_, ?_⟩; (· unfold OwnS; rw [HR.out.1, smC_snoc, List.length_append, Gm.ris_len, List.length_take, HL.out.2.1, Nat.min_eq_left (by omega), HY.out]; exact hown2); (· exact (HG.out.2.trans (((Below.refl wr.heap.size wr).alloc (Nat.le_refl _) _).mono HG.out.2.size)).grown hgr2 (by have := HG.out.2.size; simp; omega) (fun q hq => by have := (HOW.out.lt q hq).1; omega)))); obtain ⟨a2, c2, rfl⟩ : ∃ a2 c2, v2 = .slice a2 (k + 1) c2 := (by obtain ⟨a2, c2, h, _⟩ := HN.out.1.shape; rw [Gm.ris_len, List.length_take, HL.out.2.1, Nat.min_eq_left (by omega)] at h; exact ⟨a2, c2, h⟩); clear hown2 hgr2)
          go_wp2_with fail
          go_roundw
          case rel => exact ⟨k + 1, by omega, by omega, by go_num, Lib.hid (by rw [HR.out.2]), HN⟩
          case measure => simp [intOf]; omega
        · obtain ⟨m, rfl⟩ := Int.eq_ofNat_of_zero_le (show 0 ≤ T by omega)
          have dn : decide ((m : Int) < 0) = false := decide_eq_false hneg
          have HS := Lib.hid (show tt + ((m : Int) % 4398046511104 + 1) = tt + Gm.stp (m : Int) from by unfold Gm.stp; omega)
          obtain ⟨y, hy⟩ : ∃ y : Smp, y = ⟨tt + ((m : Int) % 4398046511104 + 1), V⟩ := ⟨_, rfl⟩
          have HR := Lib.hid (show Gm.ris (-9007199254740992) (l.take (k + 1)) = Gm.ris (-9007199254740992) (l.take k) ++ [y] ∧ Gm.risT (-9007199254740992) (l.take (k + 1)) = tt + ((m : Int) % 4398046511104 + 1) from by
            rw [HX.out, Gm.ris_snoc, Gm.risT_snoc, HTT.out, hy]
            simp only [← HS.out]
            exact ⟨trivial, trivial⟩)
          have HSRC := Lib.hid (two_cellsN wr ⟨tt + ((m : Int) % 4398046511104 + 1), V⟩)
          have HONE := Lib.hid (show ∀ u ∈ ([.int .i64 (tt + ((m : Int) % 4398046511104 + 1)), .int .u64 ((V : Nat) : Int)] : List Value), u.oneCell' = true by simp [Value.oneCell'])
          have HOW := Lib.hid (show wr.ownsRow w.heap.size 70 2 (.slice av k cv) k (smC (Gm.ris (-9007199254740992) (l.take k))) from by
            have h := HG.out.1
            unfold OwnS at h
            rw [Gm.ris_len, List.length_take, HL.out.2.1, Nat.min_eq_left (by omega)] at h
            exact h)
          have HY := Lib.hid hy
          clear hy
          go_wp2_with (at_builtin; refine wpList_append_own_at _ rfl (.tmp 32) (.tmp 40) 22 rfl w.heap.size 70 i0 (.agg #[.int .i64 0, .int .u64 0]) 2 16 Tryd.underlying22 HI.out.1 HI.out.2.1 HI.out.2.2.1 HI.out.2.2.2 rfl (by decide) (.slice av k cv) k (smC (Gm.ris (-9007199254740992) (l.take k))) rfl (HOW.out.alloc _) ⟨wr.heap.size, 0, none⟩ 1 1 [.int .i64 (tt + ((m : Int) % 4398046511104 + 1)), .int .u64 ((V : Nat) : Int)] rfl rfl HSRC.out HONE.out (by unfold maxLen; omega) (by omega) (by have := HG.out.2.size; simp; omega) ?_; intro v2 w2 hown2 hgr2 _ _; have HN := Lib.hid (show OwnS w2 w.heap.size v2 (Gm.ris (-9007199254740992) (l.take (k + 1))) ∧ Below w.heap.size w w2 from (by refine ⟨?_, ?_⟩; (· unfold OwnS; rw [HR.out.1, smC_snoc, List.length_append, Gm.ris_len, List.length_take, HL.out.2.1, Nat.min_eq_left (by omega), HY.out]; exact hown2); (· exact (HG.out.2.trans (((Below.refl wr.heap.size wr).alloc (Nat.le_refl _) _).mono HG.out.2.size)).grown hgr2 (by have := HG.out.2.size; simp; omega) (fun q hq => by have := (HOW.out.lt q hq).1; omega)))); obtain ⟨a2, c2, rfl⟩ : ∃ a2 c2, v2 = .slice a2 (k + 1) c2 := (by obtain ⟨a2, c2, h, _⟩ := HN.out.1.shape; rw [Gm.ris_len, List.length_take, HL.out.2.1, Nat.min_eq_left (by omega)] at h; exact ⟨a2, c2, h⟩); clear hown2 hgr2)
          go_wp2_with fail
          go_roundw
          case rel => exact ⟨k + 1, by omega, by omega, by go_num, Lib.hid (by rw [HR.out.2]), HN⟩
          case measure => simp [intOf]; omega
      · obtain rfl : k = 2000 := by omega
        have db : decide (((2000 : Nat) : Int) < 2000) = false := by simp
        go_wp2_with fail
        go_ret
        exact ⟨_, rfl, HG.out.1, HG.out.2⟩
    · obtain rfl : k = n := by omega
      have da : decide ((k : Int) < (k : Int)) = false := by simp
      have da2 : decide (k < k) = false := by simp
      have HE := Lib.hid (show l.take k = l.take 2000 by rw [List.take_of_length_le (by rw [HL.out.2.1]; omega), List.take_of_length_le (by rw [HL.out.2.1]; omega)])
      go_wp2_with fail
      go_ret
      exact ⟨_, rfl, by unfold Gm.rising; rw [← HE.out]; exact HG.out.1, HG.out.2⟩
end Go.Proofs.YtdlifcpdlbmijaaDoor
namespace Go.Proofs.YtdlifcpdlbmijaaDoor
set_option linter.unusedVariables false
set_option linter.unusedSimpArgs false
open Go.RowKit Go.PlainAid Go.Shelf
open B2 (Only Bys Row cellsOf)
open Gm (St Smp Chk)
set_option maxRecDepth 100000 in
theorem out_no (t : Int) (v : Nat) (h : -9007199254740992 ≤ t ∧ t ≤ 9007199254740992) (w : World) : Calls Tryd.prog 75 #[.agg #[.int .i64 t, .int .u64 ((v : Nat) : Int)]] w fun e w' => e = .returned (.bool false) ∧ Below w.heap.size w w' := by
  have hb := heap_alloc_new w (.cells #[.int .i64 t, .int .u64 ((v : Nat) : Int)] 70)
  have b0 : (w.alloc (.cells #[.int .i64 t, .int .u64 ((v : Nat) : Int)] 70)).cell? ⟨w.heap.size, 0, none⟩ = some (.int .i64 t) := (cell_of_row _ _ 0 _ _ _ hb).trans rfl
  have HA := Lib.hid ((Below.refl w.heap.size w).alloc (Nat.le_refl _) (.cells #[.int .i64 t, .int .u64 ((v : Nat) : Int)] 70))
  have CI := Lib.hid (fun W => inrange_any t W)
  rw [decide_eq_true h] at CI
  clear hb h
  go_enter Tryd.func75, Tryd.ntmps75
  go_wp2_with (go_at_call 26; refine (CI.out _).mono ?_; rintro e w1 ⟨rfl, hw⟩; subst hw)
  go_ret
  exact ⟨rfl, HA.out⟩
set_option maxRecDepth 100000 in
set_option maxHeartbeats 2000000 in
theorem index_none (a : Option Addr) (n c : Nat) (l : List Smp) (hn : l.length = n) (hz : n ≤ 1000000000) (hR : ∀ x ∈ l, -9007199254740992 ≤ x.t ∧ x.t ≤ 9007199254740992) (w : World) (H : Sms w a l) :
    Calls Tryd.prog 99 #[.slice a n c, .func (.func 75) #[] #[]] w fun e w' => e = .returned (.int .i64 (-1)) ∧ Below w.heap.size w w' := by
  have HL := Lib.hid (And.intro H (And.intro hn hR))
  clear H hn hR
  go_enter Tryd.func99, Tryd.ntmps99
  go_wp2_with fail
  go_loopw [5, 8] (fun j i wr => ∃ k : Nat, k ≤ n ∧ i = .int .i64 k ∧ Hid (Below w.heap.size w wr)) (fun _ i _ => n - (intOf i).toNat)
  case atStart => exact ⟨0, Nat.zero_le _, rfl, Lib.hid (Below.refl _ _)⟩
  case round =>
    obtain ⟨k, hk, rfl, HB⟩ := hrel
    by_cases hkn : k < n
    · have da : decide ((k : Int) < (n : Int)) = true := decide_eq_true (by omega)
      have da2 : decide (k < n) = true := decide_eq_true hkn
      have hkl : k < l.length := by rw [HL.out.2.1]; exact hkn
      obtain ⟨b1, o1, rfl, hl1, hc1⟩ := (HL.out.1.below HB.out) (by intro e; rw [e] at hkl; simp at hkl)
      obtain ⟨p1, p2⟩ := hc1 k hkl
      have hx := HL.out.2.2 _ (List.getElem_mem hkl)
      generalize l[k] = x at *
      have CO := Lib.hid (out_no x.t x.v hx wr)
      clear hc1 hx
      go_wp2_with fail
      go_at_call 75
      refine CO.out.mono ?_
      rintro e w1 ⟨rfl, hb⟩
      have HB2 := Lib.hid (HB.out.trans (hb.mono HB.out.size))
      clear hb CO
      go_wp2_with fail
      go_roundw
      case rel => exact ⟨k + 1, by omega, by go_num, HB2⟩
      case measure => simp [intOf]; omega
    · obtain rfl : k = n := by omega
      have da : decide ((k : Int) < (k : Int)) = false := by simp
      have da2 : decide (k < k) = false := by simp
      go_wp2_with fail
      go_ret
      exact ⟨rfl, HB.out⟩
set_option maxRecDepth 100000 in
theorem contains_none (a : Option Addr) (n c : Nat) (l : List Smp) (hn : l.length = n) (hz : n ≤ 1000000000) (hR : ∀ x ∈ l, -9007199254740992 ≤ x.t ∧ x.t ≤ 9007199254740992) (w : World) (H : Sms w a l) :
    Calls Tryd.prog 74 #[.slice a n c, .func (.func 75) #[] #[]] w fun e w' => e = .returned (.bool false) ∧ Below w.heap.size w w' := by
  have C := Lib.hid (index_none a n c l hn hz hR w H)
  clear hn hz hR H
  go_enter Tryd.func74, Tryd.ntmps74
  go_wp2_with (go_at_call 99; refine C.out.mono ?_; rintro e w1 ⟨rfl, hb⟩; have HB := Lib.hid hb; clear hb)
  go_ret
  exact ⟨rfl, HB.out⟩
/-- put, of an appender of the call's own -/
theorem own_put (w0 : World) (s : St) (a : Nat) (x : Smp) (hx : Gm.OkS x) (hI : Gm.Inv s) (hn : s.n ≤ 1000) (hB : s.out.length + 1000 ≤ 1000000000) (w : World) (H : Own1 w0 w s a) :
    Calls Tryd.prog 27 #[pt a, smV x] w fun e w' => e = .returned (.tuple #[]) ∧ Own1 w0 w' (Gm.put s x) a := by
  obtain ⟨p, d, h1, h2, h3⟩ := H.ap
  have hl := H.lt
  have hla := H.la
  by_cases h0 : s.n = 0
  · refine (put_first a p d s x hx hI h0 hB w h1).mono ?_
    rintro e w' ⟨rfl, h⟩
    exact ⟨rfl, H.put h2 h3 h⟩
  · refine (put_more a p d s x hx hI hn h0 hB w h1 H.tab (by omega)).mono ?_
    rintro e w' ⟨rfl, h⟩
    exact ⟨rfl, H.put h2 h3 h⟩
end Go.Proofs.YtdlifcpdlbmijaaDoor
