/-
  CURVES, put together of CurveA, CurveM, CurveB, CurveC (a claim holds at most 60 files).
-/
import Derived.Test.YtffohkpohgkglaaGreatRefH
import Derived.Test.YtffohkpohgkglaaGreatNumV
import Derived.Deep.RegionHeld3
/-! ## CURVES: less, above, below; powers of two; the terms of Exp and Ln. -/
namespace Go.Proofs.YtffohkpohgkglaaGreat
set_option linter.unusedVariables false
set_option linter.unusedSimpArgs false
open Go.RowKit
def dLt (a b : Nat) : Bool := decide (Nm.dCmp a b < 0)
def dTwo (n : Int) : Nat := (n + 1023).toNat * 2 ^ 52
theorem two_round (n : Int) (h1 : -1022 ≤ n) (h2 : n ≤ 1023) : Nm.round false 1 n false = dTwo n := by
  obtain ⟨t, ht⟩ : ∃ t : Nat, n + 1023 = t := ⟨(n + 1023).toNat, by omega⟩
  obtain ⟨m1, p1, n1, _, f1, _⟩ := Nm.mk_parts t 0 (by omega) (by omega) (by decide)
  unfold dTwo
  rw [ht, Int.toNat_natCast]
  rw [Nat.add_zero] at m1 p1
  have hx : t * 2 ^ 52 % 2 ^ 63 = t * 2 ^ 52 := Nat.mod_eq_of_lt (by omega)
  have h := Nm.rung_own (t * 2 ^ 52) (by rw [hx]; unfold Nm.inf; omega) (by rw [m1]; decide)
  rw [m1, p1, hx] at h
  have e := Nm.rung_scale 1 52 ((t : Int) - 1075) (by decide)
  rw [Nat.one_mul] at e
  rw [Nm.round_pos _ _ (by decide), ← h, show (2 ^ 52 : Nat) + 0 = 2 ^ 52 from rfl, e]
  congr 1
  omega
theorem two_lt (n : Int) (h2 : n ≤ 1023) : dTwo n < 2 ^ 63 := by
  unfold dTwo
  have : (n + 1023).toNat ≤ 2046 := by omega
  omega
theorem isless_any (a b : Nat) (ha : a < 2 ^ 64) (hb : b < 2 ^ 64) (w : World) : Calls Tryz.prog 39 #[.int .u64 (a : Int), .int .u64 (b : Int)] w fun e w' => e = .returned (.bool (dLt a b)) ∧ w' = w := by
  have CC := Lib.hid (fun w => cmp_any a b ha hb w)
  unfold dLt
  obtain ⟨c, hc⟩ : ∃ c, Nm.dCmp a b = c := ⟨_, rfl⟩
  obtain ⟨o, ho⟩ : ∃ c, Nm.dCok a b = c := ⟨_, rfl⟩
  rw [hc, ho] at CC
  rw [hc]
  clear hc ho
  go_enter Tryz.func39, Tryz.ntmps39
  go_wp2_with fail
  refine (CC.out _).mono ?_
  rintro e' wq ⟨rfl, rfl⟩
  go_wp2
  go_ret
  exact ⟨rfl, rfl⟩
theorem rabove_any (a b : Nat) (ha : a < 2 ^ 64) (hb : b < 2 ^ 64) (w : World) : Calls Tryz.prog 51 #[.int .u64 (a : Int), .int .u64 (b : Int)] w (Gives w (.bool (dLt b a))) := by
  have CC := Lib.hid (fun w => rcmp_any a b ha hb w)
  have hz : Nm.dCok a b = false → Nm.dCmp a b = 0 := fun h => by
    unfold Nm.dCok at h
    unfold Nm.dCmp
    rw [Bool.not_eq_false'] at h
    rw [h, if_pos rfl]
  have ht := Nm.cmp_turn a b
  unfold dLt
  obtain ⟨c, hc⟩ : ∃ c, Nm.dCmp a b = c := ⟨_, rfl⟩
  obtain ⟨o, ho⟩ : ∃ c, Nm.dCok a b = c := ⟨_, rfl⟩
  rw [hc, ho] at CC hz
  rw [hc] at ht
  rw [ht]
  clear hc ho ht
  cases o
  · obtain rfl := hz rfl
    clear hz
    have BB := Lib.hid (Below.refl w.heap.size w)
    go_enter Tryz.func51, Tryz.ntmps51
    go_wp2_with fail
    refine (CC.out _).mono ?_
    rintro e' wq ⟨rfl, hb⟩
    have BB := Lib.hid (BB.out.trans (hb.mono BB.out.size))
    clear hb
    go_wp2
    go_ret
    exact ⟨rfl, BB.out⟩
  · clear hz
    have hd : decide (-c < 0) = decide (0 < c) := by rw [decide_eq_decide]; omega
    rw [hd]
    have BB := Lib.hid (Below.refl w.heap.size w)
    go_enter Tryz.func51, Tryz.ntmps51
    go_wp2_with fail
    refine (CC.out _).mono ?_
    rintro e' wq ⟨rfl, hb⟩
    have BB := Lib.hid (BB.out.trans (hb.mono BB.out.size))
    clear hb
    go_wp2
    go_ret
    exact ⟨rfl, BB.out⟩
theorem rbelow_any (a b : Nat) (ha : a < 2 ^ 64) (hb : b < 2 ^ 64) (w : World) : Calls Tryz.prog 52 #[.int .u64 (a : Int), .int .u64 (b : Int)] w (Gives w (.bool (dLt a b))) := by
  have CC := Lib.hid (fun w => rabove_any b a hb ha w)
  obtain ⟨c, hc⟩ : ∃ c, dLt a b = c := ⟨_, rfl⟩
  rw [hc] at CC ⊢
  clear hc
  have BB := Lib.hid (Below.refl w.heap.size w)
  go_enter Tryz.func52, Tryz.ntmps52
  go_wp2_with fail
  refine (CC.out _).mono ?_
  rintro e' wq ⟨rfl, hb⟩
  have BB := Lib.hid (BB.out.trans (hb.mono BB.out.size))
  clear hb
  go_wp2
  go_ret
  exact ⟨rfl, BB.out⟩
theorem rptwo_any (n : Int) (h1 : -1022 ≤ n) (h2 : n ≤ 1023) (w : World) : Calls Tryz.prog 60 #[.int .i64 n] w (Gives w (.int .u64 (dTwo n : Nat))) := by
  have CF : Hid (∀ w, Calls Tryz.prog 75 #[.int .u64 1] w (BigPost w 1)) := Lib.hid (fun w => from_any 1 (by decide) w)
  have CR : Hid (∀ w v, Big w v 1 → Calls Tryz.prog 76 #[.bool false, v, .int .i64 n, .bool false] w (Gives w (.int .u64 (dTwo n : Nat)))) := Lib.hid (by
    rw [← two_round n h1 h2]
    exact fun w v H => round_any _ false v 1 n w H (Nat.le_trans (Nm.wds_len2 (k := 1) (by decide)) (by omega)) (by omega) (by omega))
  obtain ⟨R, hR⟩ : ∃ R, dTwo n = R := ⟨_, rfl⟩
  rw [hR] at CR ⊢
  clear hR
  have BB := Lib.hid (Below.refl w.heap.size w)
  go_enter Tryz.func60, Tryz.ntmps60
  go_wp2_with fail
  refine (CF.out _).mono ?_
  rintro e w2 ⟨v2, rfl, hbig, hb⟩
  have BB := Lib.hid (BB.out.trans (hb.mono BB.out.size))
  clear hb
  have G := Lib.hid hbig
  clear hbig
  go_wp2_with fail
  refine (CR.out _ _ G.out).mono ?_
  rintro e w3 ⟨rfl, hb⟩
  have BB := Lib.hid (BB.out.trans (hb.mono BB.out.size))
  clear hb
  go_wp2
  go_ret
  exact ⟨rfl, BB.out⟩
theorem ptwo_any (n : Int) (h1 : -1022 ≤ n) (h2 : n ≤ 1023) (w : World) : Calls Tryz.prog 49 #[.int .i64 n] w fun e w' => e = .returned (.int .u64 (dTwo n : Nat)) ∧ w' = w := by
  obtain ⟨t, ht⟩ : ∃ t : Nat, n + 1023 = t := ⟨(n + 1023).toNat, by omega⟩
  have e1 : IntKind.i64.wrap (n + 1023) = (t : Int) := by rw [IntKind.wrap_i64]; omega
  have e2 : IntKind.u64.wrap (t : Int) = (t : Int) := by rw [IntKind.wrap_u64]; omega
  have e3 : IntKind.u64.wrap ((t : Int) * 4503599627370496) = (dTwo n : Nat) := by unfold dTwo; rw [ht, IntKind.wrap_u64, Int.toNat_natCast]; omega
  obtain ⟨R, hR⟩ : ∃ R, dTwo n = R := ⟨_, rfl⟩
  rw [hR] at e3 ⊢
  clear hR ht
  go_enter Tryz.func49, Tryz.ntmps49
  go_wp2
  go_ret
  exact ⟨rfl, rfl⟩
/-- the terms -/
def fExp (r p : Nat) (i : Int) : Nat := Nm.dAdd 4607182418800017408 (Nm.dDiv (Nm.dMul r p) (dInt i))
def fLn (r p : Nat) (i : Int) : Nat := Nm.dAdd (Nm.dDiv 4607182418800017408 (dInt i)) (Nm.dMul r p)
def fAtan (r p : Nat) (i : Int) : Nat := Nm.dSub (Nm.dDiv 4607182418800017408 (dInt i)) (Nm.dMul r p)
/-- n terms, from s * n - d down -/
def serN (f : Nat → Int → Nat) (s d : Nat) : Nat → Nat → Nat
  | 0, p => p
  | n + 1, p => serN f s d n (f p ((s * (n + 1) : Nat) - (d : Int)))
theorem fExp_ok (r p : Nat) (i : Int) : fExp r p i < 2 ^ 64 := (Nm.ok_add _ _ (by decide) (Nm.ok_div _ _).1).1
theorem fLn_ok (r p : Nat) (i : Int) : fLn r p i < 2 ^ 64 := (Nm.ok_add _ _ (Nm.ok_div _ _).1 (Nm.ok_mul _ _).1).1
theorem fAtan_ok (r p : Nat) (i : Int) : fAtan r p i < 2 ^ 64 := (Nm.ok_add _ _ (Nm.ok_div _ _).1 (Nm.neg_lt _ (Nm.ok_mul _ _).1)).1
theorem exp1_any (r p g : Nat) (i : Int) (hr : r < 2 ^ 64) (hp : p < 2 ^ 64) (w : World) (hc : w.cell? ⟨g, 0, none⟩ = some (.int .u64 (r : Nat))) :
    Calls Tryz.prog 45 #[.int .u64 (p : Nat), .int .i64 i, .pointer (some ⟨g, 0, none⟩)] w (Gives w (.int .u64 (fExp r p i : Nat))) := by
  have l1 := (Nm.ok_mul r p).1
  have l2 := (ok_int i).1
  have l3 := (Nm.ok_div (Nm.dMul r p) (dInt i)).1
  have CM := Lib.hid (fun w => mul_any r p hr hp w)
  have CI := Lib.hid (fun w => int_any i w)
  have CD := Lib.hid (fun w => div_any (Nm.dMul r p) (dInt i) l1 l2 w)
  have CA : Hid (∀ w, Calls Tryz.prog 41 #[.int .u64 4607182418800017408, .int .u64 (Nm.dDiv (Nm.dMul r p) (dInt i) : Nat)] w (Gives w (.int .u64 (fExp r p i : Nat)))) := Lib.hid (fun w => add_any 4607182418800017408 _ (by decide) l3 w)
  obtain ⟨R, hR⟩ : ∃ R, fExp r p i = R := ⟨_, rfl⟩
  rw [hR] at CA ⊢
  obtain ⟨D, hD⟩ : ∃ R, Nm.dDiv (Nm.dMul r p) (dInt i) = R := ⟨_, rfl⟩
  rw [hD] at CD CA
  obtain ⟨M, hM⟩ : ∃ R, Nm.dMul r p = R := ⟨_, rfl⟩
  rw [hM] at CD CM
  obtain ⟨I, hI⟩ : ∃ R, dInt i = R := ⟨_, rfl⟩
  rw [hI] at CD CI
  clear hR hD hM hI l1 l2 l3 hr hp
  have BB := Lib.hid (Below.refl w.heap.size w)
  go_enter Tryz.func45, Tryz.ntmps45
  go_wp2_with fail
  refine (CM.out _).mono ?_
  rintro e w1 ⟨rfl, hb⟩
  have BB := Lib.hid (BB.out.trans (hb.mono BB.out.size))
  clear hb
  go_wp2_with fail
  refine (CI.out _).mono ?_
  rintro e w2 ⟨rfl, rfl⟩
  go_wp2_with fail
  refine (CD.out _).mono ?_
  rintro e w3 ⟨rfl, hb⟩
  have BB := Lib.hid (BB.out.trans (hb.mono BB.out.size))
  clear hb
  go_wp2_with fail
  refine (CA.out _).mono ?_
  rintro e w4 ⟨rfl, hb⟩
  have BB := Lib.hid (BB.out.trans (hb.mono BB.out.size))
  clear hb
  go_wp2
  go_ret
  exact ⟨rfl, BB.out⟩
end Go.Proofs.YtffohkpohgkglaaGreat
/-! ## MATHEMATICS for Exp: the whole number of ln2 is small. -/
namespace Go.Proofs.YtffohkpohgkglaaGreat
set_option linter.unusedVariables false
set_option linter.unusedSimpArgs false
open Nm
theorem mul_size {a c X : Nat} (h0 : mag a * mag c ≠ 0) (h : va a ≤ va X) : rung (mag a * mag c) (plc a + plc c) ≤ rung (mag X * mag c) (plc X + plc c) := by
  have pa := plc_ge a
  have px := plc_ge X
  have hc : mag c ≠ 0 := fun e => h0 (by rw [e, Nat.mul_zero])
  have ha : mag a ≠ 0 := fun e => h0 (by rw [e, Nat.zero_mul])
  have hva : va a ≠ 0 := by unfold va; exact Nat.mul_ne_zero ha (Nat.ne_of_gt (Nat.two_pow_pos _))
  have hvx : va X ≠ 0 := by omega
  have hX : mag X ≠ 0 := fun e => hvx (by unfold va; rw [e, Nat.zero_mul])
  have e1 : rung (va a * mag c) (plc c - 1074) = rung (mag a * mag c) (plc a + plc c) := by
    have e := rung_scale (mag a * mag c) (plc a + 1074).toNat (plc c - 1074) h0
    rw [show plc c - 1074 + ((plc a + 1074).toNat : Int) = plc a + plc c by omega] at e
    rw [← e]
    unfold va
    rw [Nat.mul_right_comm]
  have e2 : rung (va X * mag c) (plc c - 1074) = rung (mag X * mag c) (plc X + plc c) := by
    have e := rung_scale (mag X * mag c) (plc X + 1074).toNat (plc c - 1074) (Nat.mul_ne_zero hX hc)
    rw [show plc c - 1074 + ((plc X + 1074).toNat : Int) = plc X + plc c by omega] at e
    rw [← e]
    unfold va
    rw [Nat.mul_right_comm]
  rw [← e1, ← e2]
  exact rung_mono _ (Nat.mul_ne_zero hva hc) (Nat.mul_le_mul_right _ h)
theorem va_le {a b : Nat} (fa : a % 2 ^ 63 < inf) (fb : b % 2 ^ 63 < inf) (h : a % 2 ^ 63 ≤ b % 2 ^ 63) : va a ≤ va b := by
  have := va_lt fb fa
  exact Nat.le_of_not_lt fun hh => absurd (this.1 hh) (by omega)
theorem fin_facts {a : Nat} (fa : a % 2 ^ 63 < inf) : isNaN a = false ∧ isInf a = false := by
  unfold isNaN isInf
  exact ⟨decide_eq_false (by omega), decide_eq_false (by omega)⟩
theorem mul_small {a c X Z : Nat} (fa : a % 2 ^ 63 < inf) (fc : c % 2 ^ 63 < inf) (fX : X % 2 ^ 63 < inf) (h : a % 2 ^ 63 ≤ X % 2 ^ 63) (hz : rung (mag X * mag c) (plc X + plc c) ≤ Z) : dMul a c % 2 ^ 63 ≤ Z := by
  obtain ⟨na, ia⟩ := fin_facts fa
  obtain ⟨nc, ic⟩ := fin_facts fc
  unfold dMul
  rw [na, nc, ia, ic]
  simp only [Bool.false_and, Bool.or_self, Bool.false_eq_true, if_false]
  unfold round
  by_cases h0 : mag a * mag c = 0
  · rw [if_pos h0, word_mod _ (Nat.zero_le _)]
    exact Nat.zero_le _
  · rw [if_neg h0, refRung_eq _ _ h0, word_mod _ (rung_le _ _)]
    exact Nat.le_trans (mul_size h0 (va_le fa fX h)) hz
theorem add_num {a b : Nat} (fa : a % 2 ^ 63 < inf) (fb : b % 2 ^ 63 < inf) : isNaN (dAdd a b) = false := by
  obtain ⟨na, ia⟩ := fin_facts fa
  obtain ⟨nb', ib⟩ := fin_facts fb
  unfold dAdd
  rw [na, nb', ia, ib]
  simp only [Bool.false_and, Bool.or_self, Bool.false_eq_true, if_false]
  split
  · exact round_nan _ _ _ _
  · split
    · decide
    · split
      · exact round_nan _ _ _ _
      · exact round_nan _ _ _ _
theorem key_bounds {x Z : Nat} (h : x % 2 ^ 63 ≤ Z) : -(Z : Int) ≤ key x ∧ key x ≤ Z := by
  unfold key sg
  split <;> omega
theorem bounds_key {x Z : Nat} (h1 : -(Z : Int) ≤ key x) (h2 : key x ≤ Z) : x % 2 ^ 63 ≤ Z := by
  unfold key sg at h1 h2
  cases hn : neg x
  · rw [hn, if_neg (by decide)] at h1 h2
    omega
  · rw [hn, if_pos rfl] at h1 h2
    omega
theorem wv_le {s V n : Nat} (fs : s % 2 ^ 63 < inf) (fV : V % 2 ^ 63 < inf) (h : s % 2 ^ 63 ≤ V % 2 ^ 63) (hl : left V = false) (hw : wv V = n) : wv s ≤ n := by
  have h1 := va_le fs fV h
  rw [va_whole hl, hw, va_wv s] at h1
  have : wv s * U ≤ n * U := by omega
  exact Nat.le_of_mul_le_mul_right this U_pos
theorem wv_round (s : Bool) (n : Nat) (hn : n < 2 ^ 53) : wv (round s n 0 false) = n := by
  unfold round
  by_cases h0 : n = 0
  · subst h0
    rw [if_pos rfl]
    cases s <;> decide +kernel
  · rw [if_neg h0, refRung_eq _ _ h0]
    have hL := log2_small hn
    have := (va_rung2 s n 0 h0 hn (by decide) (by omega)).1
    exact (whole_of (by rw [this, U_eq _ (by decide)])).1
theorem exp_range {a : Nat} (ha : a < 2 ^ 64) (na : isNaN a = false) (h1 : dLt 4649454530587146735 a = false) (h2 : dLt a 13873137513782915154 = false) :
    -1502 ≤ dWhole (dFloor (dAdd (dMul a 4609176140021203710) 4602678819172646912)) ∧ dWhole (dFloor (dAdd (dMul a 4609176140021203710) 4602678819172646912)) ≤ 1502 := by
  have g1 := of_decide_eq_false h1
  have g2 := of_decide_eq_false h2
  have t1 := cmp_turn 4649454530587146735 a
  have t2 := cmp_turn a 13873137513782915154
  have k1 : key a ≤ key 4649454530587146735 := cmp_key (by unfold dCok; rw [na]; decide) (by omega)
  have k2 : key 13873137513782915154 ≤ key a := cmp_key (by unfold dCok; rw [na]; decide) (by omega)
  rw [show key 4649454530587146735 = 4649454530587146735 by decide] at k1
  rw [show key 13873137513782915154 = -4649765476928139346 by decide] at k2
  have hx : a % 2 ^ 63 ≤ 4649765476928139346 := bounds_key (by omega) (by omega)
  have fa : a % 2 ^ 63 < inf := by unfold inf; omega
  have hm := mul_small (c := 4609176140021203710) (X := 4649765476928139346) (Z := 4654311885213007872) fa (by decide) (by decide) (by omega) (by decide +kernel)
  have hm2 := key_bounds hm
  obtain ⟨m, hme⟩ : ∃ m, dMul a 4609176140021203710 = m := ⟨_, rfl⟩
  have hmk : m < 2 ^ 64 := by rw [← hme]; exact (ok_mul _ _).1
  rw [hme] at hm hm2 ⊢
  have fm : m % 2 ^ 63 < inf := by unfold inf; omega
  have r0 := add_num fm (show 4602678819172646912 % 2 ^ 63 < inf by decide)
  have q1 := add_mono (a := m) (b := 4654311885213007872) (c := 4602678819172646912) (fin_facts fm).1 (by decide) (by decide) (by rw [show key 4654311885213007872 = 4654311885213007872 by decide]; exact hm2.2) r0 (by decide +kernel)
  have q2 := add_mono (a := 13877683922067783680) (b := m) (c := 4602678819172646912) (by decide) (fin_facts fm).1 (by decide) (by rw [show key 13877683922067783680 = -4654311885213007872 by decide]; exact hm2.1) (by decide +kernel) r0
  have q3 : key (dAdd 4654311885213007872 4602678819172646912) ≤ 4654316283259518976 := by decide +kernel
  have q4 : -4654316283259518976 ≤ key (dAdd 13877683922067783680 4602678819172646912) := by decide +kernel
  have hs : dAdd m 4602678819172646912 % 2 ^ 63 ≤ 4654316283259518976 := bounds_key (by omega) (by omega)
  obtain ⟨s, hse⟩ : ∃ s, dAdd m 4602678819172646912 = s := ⟨_, rfl⟩
  rw [hse] at hs ⊢
  have fs : s % 2 ^ 63 < inf := by unfold inf; omega
  have hw : wv s ≤ 1501 := wv_le (V := 4654316283259518976) fs (by decide) (by omega) (by decide +kernel) (by decide +kernel)
  obtain ⟨ns, is⟩ := fin_facts fs
  unfold dFloor
  rw [step_wv, ns, is, if_neg (by decide), if_neg (by decide)]
  have hb : (neg s && left s).toNat ≤ 1 := Bool.toNat_le _
  obtain ⟨n, hn⟩ : ∃ n, wv s + (neg s && left s).toNat = n := ⟨_, rfl⟩
  rw [hn]
  have hwk := wv_round (neg s) n (by omega)
  unfold dWhole
  rw [hwk]
  unfold sg
  split
  · split <;> omega
  · omega
end Go.Proofs.YtffohkpohgkglaaGreat
/-! ## CURVES: the terms of Ln and Atan; the series. -/
namespace Go.Proofs.YtffohkpohgkglaaGreat
set_option linter.unusedVariables false
set_option linter.unusedSimpArgs false
open Go.RowKit
structure Since (a b : World) : Prop where
  out : Below a.heap.size a b
theorem Since.start (a : World) : Since a a.drew := ⟨(Below.refl _ _).drew⟩
theorem Since.next {a b c : World} (h : Since a b) (k : Below b.heap.size b c) : Since a c := ⟨h.out.trans (k.mono h.out.size)⟩
theorem Since.same (a : World) : Since a a := ⟨Below.refl _ _⟩
theorem Since.below {a b c : World} (h : Since a b) (k : Below b.heap.size b c) : Since a c := h.next k
theorem keep_next {w b c : World} {g : Nat} {x : Option Value} (hg : g < w.heap.size) (hc : w.cell? ⟨g, 0, none⟩ = x) (h : b.cell? ⟨g, 0, none⟩ = x ∧ Since w b) (k : Below b.heap.size b c) : c.cell? ⟨g, 0, none⟩ = x ∧ Since w c :=
  have hs := h.2.next k
  ⟨(hs.out.cell hg).trans hc, hs⟩
theorem kept_out {w c : World} {x y : Option Value} (h : x = y ∧ Since w c) : Below w.heap.size w c := h.2.out
theorem gives_of {w w' : World} {v : Value} {e : Ending} (h : e = .returned v ∧ w' = w) : Gives w v e w' := ⟨h.1, by rw [h.2]; exact Below.refl _ _⟩
set_option maxHeartbeats 4000000 in
theorem ln1_any (r p g : Nat) (i : Int) (hr : r < 2 ^ 64) (hp : p < 2 ^ 64) (w : World) (hg : g < w.heap.size) (hc : w.cell? ⟨g, 0, none⟩ = some (.int .u64 (r : Nat))) :
    Calls Tryz.prog 68 #[.int .u64 (p : Nat), .int .i64 i, .pointer (some ⟨g, 0, none⟩)] w (Gives w (.int .u64 (fLn r p i : Nat))) := by
  have l1 := (Nm.ok_mul r p).1
  have l2 := (ok_int i).1
  have l3 := (Nm.ok_div 4607182418800017408 (dInt i)).1
  have CM := Lib.hid (fun w => mul_any r p hr hp w)
  have CI : Hid (∀ w, Calls Tryz.prog 47 #[.int .i64 i] w (Gives w (.int .u64 (dInt i : Nat)))) := Lib.hid (fun w => (int_any i w).mono fun _ _ h => gives_of h)
  have CD : Hid (∀ w, Calls Tryz.prog 46 #[.int .u64 4607182418800017408, .int .u64 (dInt i : Nat)] w (Gives w (.int .u64 (Nm.dDiv 4607182418800017408 (dInt i) : Nat)))) := Lib.hid (fun w => div_any 4607182418800017408 (dInt i) (by decide) l2 w)
  have CA : Hid (∀ w, Calls Tryz.prog 41 #[.int .u64 (Nm.dDiv 4607182418800017408 (dInt i) : Nat), .int .u64 (Nm.dMul r p : Nat)] w (Gives w (.int .u64 (fLn r p i : Nat)))) := Lib.hid (fun w => add_any _ _ l3 l1 w)
  obtain ⟨R, hR⟩ : ∃ R, fLn r p i = R := ⟨_, rfl⟩
  rw [hR] at CA ⊢
  obtain ⟨D, hD⟩ : ∃ R, Nm.dDiv 4607182418800017408 (dInt i) = R := ⟨_, rfl⟩
  rw [hD] at CD CA
  obtain ⟨M, hM⟩ : ∃ R, Nm.dMul r p = R := ⟨_, rfl⟩
  rw [hM] at CA CM
  obtain ⟨I, hI⟩ : ∃ R, dInt i = R := ⟨_, rfl⟩
  rw [hI] at CD CI
  have HG := Lib.hid hg
  have HC := Lib.hid hc
  clear hR hD hM hI l1 l2 l3 hr hp hg
  go_enter Tryz.func68, Tryz.ntmps68
  go_wp2_with fail
  go_region_held3 (fun w' => w'.cell? ⟨g, 0, none⟩ = some (.int .u64 (r : Nat)) ∧ Since w w') ((first | exact ⟨hc, Since.start _⟩ | (refine keep_next HG.out HC.out ?_ (by assumption); assumption)))
    ((first
      | (go_at_call 47; refine (CI.out _).mono ?_; rintro e w' ⟨rfl, hb⟩)
      | (go_at_call 46; refine (CD.out _).mono ?_; rintro e w' ⟨rfl, hb⟩)
      | (go_at_call 42; refine (CM.out _).mono ?_; rintro e w' ⟨rfl, hb⟩)
      | (go_at_call 41; refine (CA.out _).mono ?_; rintro e w' ⟨rfl, hb⟩)))
  all_goals
    go_wp2
    go_ret
    exact ⟨rfl, kept_out (by assumption)⟩
set_option maxHeartbeats 4000000 in
theorem atan1_any (r p g : Nat) (i : Int) (hr : r < 2 ^ 64) (hp : p < 2 ^ 64) (w : World) (hg : g < w.heap.size) (hc : w.cell? ⟨g, 0, none⟩ = some (.int .u64 (r : Nat))) :
    Calls Tryz.prog 129 #[.int .u64 (p : Nat), .int .i64 i, .pointer (some ⟨g, 0, none⟩)] w (Gives w (.int .u64 (fAtan r p i : Nat))) := by
  have l1 := (Nm.ok_mul r p).1
  have l2 := (ok_int i).1
  have l3 := (Nm.ok_div 4607182418800017408 (dInt i)).1
  have CM := Lib.hid (fun w => mul_any r p hr hp w)
  have CI : Hid (∀ w, Calls Tryz.prog 47 #[.int .i64 i] w (Gives w (.int .u64 (dInt i : Nat)))) := Lib.hid (fun w => (int_any i w).mono fun _ _ h => gives_of h)
  have CD : Hid (∀ w, Calls Tryz.prog 46 #[.int .u64 4607182418800017408, .int .u64 (dInt i : Nat)] w (Gives w (.int .u64 (Nm.dDiv 4607182418800017408 (dInt i) : Nat)))) := Lib.hid (fun w => div_any 4607182418800017408 (dInt i) (by decide) l2 w)
  have CA : Hid (∀ w, Calls Tryz.prog 43 #[.int .u64 (Nm.dDiv 4607182418800017408 (dInt i) : Nat), .int .u64 (Nm.dMul r p : Nat)] w (Gives w (.int .u64 (fAtan r p i : Nat)))) := Lib.hid (fun w => sub_any _ _ l3 l1 w)
  obtain ⟨R, hR⟩ : ∃ R, fAtan r p i = R := ⟨_, rfl⟩
  rw [hR] at CA ⊢
  obtain ⟨D, hD⟩ : ∃ R, Nm.dDiv 4607182418800017408 (dInt i) = R := ⟨_, rfl⟩
  rw [hD] at CD CA
  obtain ⟨M, hM⟩ : ∃ R, Nm.dMul r p = R := ⟨_, rfl⟩
  rw [hM] at CA CM
  obtain ⟨I, hI⟩ : ∃ R, dInt i = R := ⟨_, rfl⟩
  rw [hI] at CD CI
  have HG := Lib.hid hg
  have HC := Lib.hid hc
  clear hR hD hM hI l1 l2 l3 hr hp hg
  go_enter Tryz.func129, Tryz.ntmps129
  go_wp2_with fail
  go_region_held3 (fun w' => w'.cell? ⟨g, 0, none⟩ = some (.int .u64 (r : Nat)) ∧ Since w w') ((first | exact ⟨hc, Since.start _⟩ | (refine keep_next HG.out HC.out ?_ (by assumption); assumption)))
    ((first
      | (go_at_call 47; refine (CI.out _).mono ?_; rintro e w' ⟨rfl, hb⟩)
      | (go_at_call 46; refine (CD.out _).mono ?_; rintro e w' ⟨rfl, hb⟩)
      | (go_at_call 42; refine (CM.out _).mono ?_; rintro e w' ⟨rfl, hb⟩)
      | (go_at_call 43; refine (CA.out _).mono ?_; rintro e w' ⟨rfl, hb⟩)))
  all_goals
    go_wp2
    go_ret
    exact ⟨rfl, kept_out (by assumption)⟩
set_option maxHeartbeats 2000000 in
theorem serExp_any (r p g n : Nat) (hn : n ≤ 40) (hr : r < 2 ^ 64) (hp : p < 2 ^ 64) (w : World) (hg : g < w.heap.size) (hc : w.cell? ⟨g, 0, none⟩ = some (.int .u64 (r : Nat))) (k : Int) (hk : k = (1 * n : Nat) - 0) :
    Calls Tryz.prog 44 #[.int .u64 (p : Nat), .int .i64 k, .int .i64 1, .int .i64 1, .func (.func 45) #[] #[.pointer (some ⟨g, 0, none⟩)]] w (Gives w (.int .u64 (serN (fExp r) 1 0 n p : Nat))) := by
  have CE : Hid (∀ (t : Nat) (j : Int) (w' : World), t < 2 ^ 64 → Below w.heap.size w w' → Calls Tryz.prog 45 #[.int .u64 (t : Nat), .int .i64 j, .pointer (some ⟨g, 0, none⟩)] w' (Gives w' (.int .u64 (fExp r t j : Nat)))) :=
    Lib.hid (fun t j w' ht hb => exp1_any r t g j hr ht w' ((hb.cell hg).trans hc))
  have B0 := Lib.hid (Below.refl w.heap.size w)
  obtain ⟨R, hR⟩ : ∃ R, serN (fExp r) 1 0 n p = R := ⟨_, rfl⟩
  have HR := Lib.hid hR
  have HK := Lib.hid hk
  have HP := Lib.hid hp
  have hk1 : k ≤ 100 := by omega
  have hk2 : -1 ≤ k := by omega
  rw [hR]
  clear hR hk hr hp hc hg
  go_enter Tryz.func44, Tryz.ntmps44
  go_wp2
  go_loopw [0, 11] (fun q i wr => ∃ (m t : Nat) (j : Int), i = .int .i64 j ∧ q = .int .u64 (t : Nat) ∧ -1 ≤ j ∧ j ≤ 100 ∧ Hid (j = (1 * m : Nat) - 0) ∧ Hid (t < 2 ^ 64) ∧ Hid (serN (fExp r) 1 0 m t = R) ∧ Hid (Below w.heap.size w wr)) (fun _ i _ => (intOf i + 2).toNat)
  case atStart => exact ⟨n, p, k, rfl, rfl, hk2, hk1, HK, HP, HR, B0⟩
  case round =>
    obtain ⟨m, t, j, rfl, rfl, hj1, hj2, HJ, HT, HS, HB⟩ := hrel
    cases m with
    | zero =>
      have d1 : decide (j ≥ 1) = false := by have := HJ.out; apply decide_eq_false; omega
      have d2 : decide ((1 : Int) ≤ j) = false := d1
      have hs : t = R := HS.out
      subst hs
      go_wp2
      go_ret
      exact ⟨rfl, HB.out⟩
    | succ m =>
      have d1 : decide (j ≥ 1) = true := by have := HJ.out; apply decide_eq_true; omega
      have d2 : decide ((1 : Int) ≤ j) = true := d1
      have hj3 : 1 ≤ j := of_decide_eq_true d2
      have e1 : IntKind.i64.wrap (j - 1) = j - 1 := by rw [IntKind.wrap_i64]; omega
      have HS2 : Hid (serN (fExp r) 1 0 m (fExp r t j) = R) := Lib.hid (by
        have h := HS.out
        have ej : ((1 * (m + 1) : Nat) : Int) - ((0 : Nat) : Int) = j := by have := HJ.out; omega
        rw [serN, ej] at h
        exact h)
      have CS := Lib.hid (CE.out t j wr HT.out HB.out)
      have HF := Lib.hid (fExp_ok r t j)
      go_wp2_with fail
      refine CS.out.mono ?_
      rintro e' wk ⟨rfl, hbk⟩
      have BK := Lib.hid (HB.out.trans (hbk.mono HB.out.size))
      clear hbk
      go_wp2
      go_roundw
      case rel => exact ⟨m, _, j - 1, by first | rfl | rw [e1], rfl, by omega, by omega, Lib.hid (by have := HJ.out; omega), HF, HS2, BK⟩
      case measure => simp [intOf]; omega
set_option maxHeartbeats 2000000 in
theorem serLn_any (r p g n : Nat) (hn : n ≤ 40) (hr : r < 2 ^ 64) (hp : p < 2 ^ 64) (w : World) (hg : g < w.heap.size) (hc : w.cell? ⟨g, 0, none⟩ = some (.int .u64 (r : Nat))) (k : Int) (hk : k = (2 * n : Nat) - 1) :
    Calls Tryz.prog 44 #[.int .u64 (p : Nat), .int .i64 k, .int .i64 2, .int .i64 1, .func (.func 68) #[] #[.pointer (some ⟨g, 0, none⟩)]] w (Gives w (.int .u64 (serN (fLn r) 2 1 n p : Nat))) := by
  have CE : Hid (∀ (t : Nat) (j : Int) (w' : World), t < 2 ^ 64 → Below w.heap.size w w' → Calls Tryz.prog 68 #[.int .u64 (t : Nat), .int .i64 j, .pointer (some ⟨g, 0, none⟩)] w' (Gives w' (.int .u64 (fLn r t j : Nat)))) :=
    Lib.hid (fun t j w' ht hb => ln1_any r t g j hr ht w' (Nat.lt_of_lt_of_le hg hb.size) ((hb.cell hg).trans hc))
  have B0 := Lib.hid (Below.refl w.heap.size w)
  obtain ⟨R, hR⟩ : ∃ R, serN (fLn r) 2 1 n p = R := ⟨_, rfl⟩
  have HR := Lib.hid hR
  have HK := Lib.hid hk
  have HP := Lib.hid hp
  have hk1 : k ≤ 100 := by omega
  have hk2 : -1 ≤ k := by omega
  rw [hR]
  clear hR hk hr hp hc hg
  go_enter Tryz.func44, Tryz.ntmps44
  go_wp2
  go_loopw [0, 11] (fun q i wr => ∃ (m t : Nat) (j : Int), i = .int .i64 j ∧ q = .int .u64 (t : Nat) ∧ -1 ≤ j ∧ j ≤ 100 ∧ Hid (j = (2 * m : Nat) - 1) ∧ Hid (t < 2 ^ 64) ∧ Hid (serN (fLn r) 2 1 m t = R) ∧ Hid (Below w.heap.size w wr)) (fun _ i _ => (intOf i + 2).toNat)
  case atStart => exact ⟨n, p, k, rfl, rfl, hk2, hk1, HK, HP, HR, B0⟩
  case round =>
    obtain ⟨m, t, j, rfl, rfl, hj1, hj2, HJ, HT, HS, HB⟩ := hrel
    cases m with
    | zero =>
      have d1 : decide (j ≥ 1) = false := by have := HJ.out; apply decide_eq_false; omega
      have d2 : decide ((1 : Int) ≤ j) = false := d1
      have hs : t = R := HS.out
      subst hs
      go_wp2
      go_ret
      exact ⟨rfl, HB.out⟩
    | succ m =>
      have d1 : decide (j ≥ 1) = true := by have := HJ.out; apply decide_eq_true; omega
      have d2 : decide ((1 : Int) ≤ j) = true := d1
      have hj3 : 1 ≤ j := of_decide_eq_true d2
      have e1 : IntKind.i64.wrap (j - 2) = j - 2 := by rw [IntKind.wrap_i64]; omega
      have HS2 : Hid (serN (fLn r) 2 1 m (fLn r t j) = R) := Lib.hid (by
        have h := HS.out
        have ej : ((2 * (m + 1) : Nat) : Int) - ((1 : Nat) : Int) = j := by have := HJ.out; omega
        rw [serN, ej] at h
        exact h)
      have CS := Lib.hid (CE.out t j wr HT.out HB.out)
      have HF := Lib.hid (fLn_ok r t j)
      go_wp2_with fail
      refine CS.out.mono ?_
      rintro e' wk ⟨rfl, hbk⟩
      have BK := Lib.hid (HB.out.trans (hbk.mono HB.out.size))
      clear hbk
      go_wp2
      go_roundw
      case rel => exact ⟨m, _, j - 2, by first | rfl | rw [e1], rfl, by omega, by omega, Lib.hid (by have := HJ.out; omega), HF, HS2, BK⟩
      case measure => simp [intOf]; omega
set_option maxHeartbeats 2000000 in
theorem serAtan_any (r p g n : Nat) (hn : n ≤ 40) (hr : r < 2 ^ 64) (hp : p < 2 ^ 64) (w : World) (hg : g < w.heap.size) (hc : w.cell? ⟨g, 0, none⟩ = some (.int .u64 (r : Nat))) (k : Int) (hk : k = (2 * n : Nat) - 1) :
    Calls Tryz.prog 44 #[.int .u64 (p : Nat), .int .i64 k, .int .i64 2, .int .i64 1, .func (.func 129) #[] #[.pointer (some ⟨g, 0, none⟩)]] w (Gives w (.int .u64 (serN (fAtan r) 2 1 n p : Nat))) := by
  have CE : Hid (∀ (t : Nat) (j : Int) (w' : World), t < 2 ^ 64 → Below w.heap.size w w' → Calls Tryz.prog 129 #[.int .u64 (t : Nat), .int .i64 j, .pointer (some ⟨g, 0, none⟩)] w' (Gives w' (.int .u64 (fAtan r t j : Nat)))) :=
    Lib.hid (fun t j w' ht hb => atan1_any r t g j hr ht w' (Nat.lt_of_lt_of_le hg hb.size) ((hb.cell hg).trans hc))
  have B0 := Lib.hid (Below.refl w.heap.size w)
  obtain ⟨R, hR⟩ : ∃ R, serN (fAtan r) 2 1 n p = R := ⟨_, rfl⟩
  have HR := Lib.hid hR
  have HK := Lib.hid hk
  have HP := Lib.hid hp
  have hk1 : k ≤ 100 := by omega
  have hk2 : -1 ≤ k := by omega
  rw [hR]
  clear hR hk hr hp hc hg
  go_enter Tryz.func44, Tryz.ntmps44
  go_wp2
  go_loopw [0, 11] (fun q i wr => ∃ (m t : Nat) (j : Int), i = .int .i64 j ∧ q = .int .u64 (t : Nat) ∧ -1 ≤ j ∧ j ≤ 100 ∧ Hid (j = (2 * m : Nat) - 1) ∧ Hid (t < 2 ^ 64) ∧ Hid (serN (fAtan r) 2 1 m t = R) ∧ Hid (Below w.heap.size w wr)) (fun _ i _ => (intOf i + 2).toNat)
  case atStart => exact ⟨n, p, k, rfl, rfl, hk2, hk1, HK, HP, HR, B0⟩
  case round =>
    obtain ⟨m, t, j, rfl, rfl, hj1, hj2, HJ, HT, HS, HB⟩ := hrel
    cases m with
    | zero =>
      have d1 : decide (j ≥ 1) = false := by have := HJ.out; apply decide_eq_false; omega
      have d2 : decide ((1 : Int) ≤ j) = false := d1
      have hs : t = R := HS.out
      subst hs
      go_wp2
      go_ret
      exact ⟨rfl, HB.out⟩
    | succ m =>
      have d1 : decide (j ≥ 1) = true := by have := HJ.out; apply decide_eq_true; omega
      have d2 : decide ((1 : Int) ≤ j) = true := d1
      have hj3 : 1 ≤ j := of_decide_eq_true d2
      have e1 : IntKind.i64.wrap (j - 2) = j - 2 := by rw [IntKind.wrap_i64]; omega
      have HS2 : Hid (serN (fAtan r) 2 1 m (fAtan r t j) = R) := Lib.hid (by
        have h := HS.out
        have ej : ((2 * (m + 1) : Nat) : Int) - ((1 : Nat) : Int) = j := by have := HJ.out; omega
        rw [serN, ej] at h
        exact h)
      have CS := Lib.hid (CE.out t j wr HT.out HB.out)
      have HF := Lib.hid (fAtan_ok r t j)
      go_wp2_with fail
      refine CS.out.mono ?_
      rintro e' wk ⟨rfl, hbk⟩
      have BK := Lib.hid (HB.out.trans (hbk.mono HB.out.size))
      clear hbk
      go_wp2
      go_roundw
      case rel => exact ⟨m, _, j - 2, by first | rfl | rw [e1], rfl, by omega, by omega, Lib.hid (by have := HJ.out; omega), HF, HS2, BK⟩
      case measure => simp [intOf]; omega
end Go.Proofs.YtffohkpohgkglaaGreat
/-! ## CURVES: Exp, the code's and the document's. -/
namespace Go.Proofs.YtffohkpohgkglaaGreat
set_option linter.unusedVariables false
set_option linter.unusedSimpArgs false
open Go.RowKit
def kExp (a : Nat) : Nat := Nm.dFloor (Nm.dAdd (Nm.dMul a 4609176140021203710) 4602678819172646912)
def rExp (a : Nat) : Nat := Nm.dSub (Nm.dSub a (Nm.dMul (kExp a) 4604418534311723008)) (Nm.dMul (kExp a) 4461442080421002358)
def pExp (a : Nat) : Nat := serN (fExp (rExp a)) 1 0 13 4607182418800017408
def dExp (a : Nat) : Nat :=
  if Nm.isNaN a then Nm.nan else if dLt 4649454530587146735 a then Nm.inf else if dLt a 13873137513782915154 then 0
  else Nm.dMul (Nm.dMul (pExp a) (dTwo ((Nm.dWhole (kExp a)).tdiv 2))) (dTwo (Nm.dWhole (kExp a) - (Nm.dWhole (kExp a)).tdiv 2))
theorem half_bd (n : Int) (h1 : -1502 ≤ n) (h2 : n ≤ 1502) : -1000 ≤ n.tdiv 2 ∧ n.tdiv 2 ≤ 1000 ∧ -1000 ≤ n - n.tdiv 2 ∧ n - n.tdiv 2 ≤ 1000 := by
  by_cases h : 0 ≤ n
  · rw [Int.tdiv_eq_ediv_of_nonneg h]
    omega
  · have e : n.tdiv 2 = -((-n) / 2) := by rw [← Int.tdiv_eq_ediv_of_nonneg (by omega : 0 ≤ -n), Int.neg_tdiv, Int.neg_neg]
    rw [e]
    omega
theorem alloc_lt (w : World) (o : Obj) : w.heap.size < (w.alloc o).heap.size := by
  show w.heap.size < (w.heap.push o).size
  rw [Array.size_push]
  omega
theorem serN_ok (f : Nat → Int → Nat) (hf : ∀ p i, f p i < 2 ^ 64) (s d n p : Nat) (hp : p < 2 ^ 64) : serN f s d n p < 2 ^ 64 := by
  induction n generalizing p with
  | zero => exact hp
  | succ n ih => exact ih _ (hf _ _)
theorem sub_ok (a b : Nat) (ha : a < 2 ^ 64) (hb : b < 2 ^ 64) : Nm.dSub a b < 2 ^ 64 := (Nm.ok_add _ _ ha (Nm.neg_lt _ hb)).1
theorem kExp_ok (a : Nat) : kExp a < 2 ^ 64 := (Nm.ok_step _ _ (Nm.ok_add _ _ (Nm.ok_mul _ _).1 (by decide)).1).1
theorem rExp_ok (a : Nat) (ha : a < 2 ^ 64) : rExp a < 2 ^ 64 := sub_ok _ _ (sub_ok _ _ ha (Nm.ok_mul _ _).1) (Nm.ok_mul _ _).1
theorem pExp_ok (a : Nat) : pExp a < 2 ^ 64 := serN_ok _ (fun p i => fExp_ok _ p i) _ _ _ _ (by decide)
theorem dExp_ok (a : Nat) : dExp a < 2 ^ 64 := by
  unfold dExp
  split
  · decide
  · split
    · decide
    · split
      · decide
      · exact (Nm.ok_mul _ _).1
set_option maxHeartbeats 4000000 in
theorem exp_any (a : Nat) (ha : a < 2 ^ 64) (w : World) : Calls Tryz.prog 5 #[.int .u64 (a : Int)] w (Gives w (.int .u64 (dExp a : Nat))) := by
  obtain ⟨E, hE⟩ : ∃ E, dExp a = E := ⟨_, rfl⟩
  obtain ⟨na, hna⟩ : ∃ x, Nm.isNaN a = x := ⟨_, rfl⟩
  obtain ⟨gt, hgt⟩ : ∃ x, dLt 4649454530587146735 a = x := ⟨_, rfl⟩
  obtain ⟨lt, hlt⟩ : ∃ x, dLt a 13873137513782915154 = x := ⟨_, rfl⟩
  have NA : Hid (∀ w, Calls Tryz.prog 38 #[.int .u64 (a : Nat)] w (Gives w (.bool na))) := Lib.hid (by rw [← hna]; exact fun w => (nannum_any a ha w).mono fun _ _ h => gives_of h)
  have GT : Hid (∀ w, Calls Tryz.prog 39 #[.int .u64 4649454530587146735, .int .u64 (a : Nat)] w (Gives w (.bool gt))) := Lib.hid (by rw [← hgt]; exact fun w => (isless_any 4649454530587146735 a (by decide) ha w).mono fun _ _ h => gives_of h)
  have LE : Hid (∀ w, Calls Tryz.prog 39 #[.int .u64 (a : Nat), .int .u64 13873137513782915154] w (Gives w (.bool lt))) := Lib.hid (by rw [← hlt]; exact fun w => (isless_any a 13873137513782915154 ha (by decide) w).mono fun _ _ h => gives_of h)
  unfold dExp at hE
  rw [hna, hgt, hlt] at hE
  rw [show dExp a = E by unfold dExp; rw [hna, hgt, hlt]; exact hE]
  cases na
  · rw [if_neg (by decide)] at hE
    cases gt
    · rw [if_neg (by decide)] at hE
      cases lt
      · rw [if_neg (by decide)] at hE
        obtain ⟨h1, h2⟩ := exp_range ha hna hgt hlt
        have hk := kExp_ok a
        have hr := rExp_ok a ha
        have hp := pExp_ok a
        have CM1 : Hid (∀ w, Calls Tryz.prog 42 #[.int .u64 (a : Nat), .int .u64 4609176140021203710] w (Gives w (.int .u64 (Nm.dMul a 4609176140021203710 : Nat)))) := Lib.hid (fun w => mul_any a 4609176140021203710 ha (by decide) w)
        have CA1 : Hid (∀ w, Calls Tryz.prog 41 #[.int .u64 (Nm.dMul a 4609176140021203710 : Nat), .int .u64 4602678819172646912] w (Gives w (.int .u64 (Nm.dAdd (Nm.dMul a 4609176140021203710) 4602678819172646912 : Nat)))) := Lib.hid (fun w => add_any _ 4602678819172646912 (Nm.ok_mul _ _).1 (by decide) w)
        have CF : Hid (∀ w, Calls Tryz.prog 40 #[.int .u64 (Nm.dAdd (Nm.dMul a 4609176140021203710) 4602678819172646912 : Nat)] w (Gives w (.int .u64 (kExp a : Nat)))) := Lib.hid (fun w => floor_any _ (Nm.ok_add _ _ (Nm.ok_mul _ _).1 (by decide)).1 w)
        obtain ⟨x2, hx2⟩ : ∃ x, Nm.dAdd (Nm.dMul a 4609176140021203710) 4602678819172646912 = x := ⟨_, rfl⟩
        rw [hx2] at CA1 CF
        obtain ⟨x1, hx1⟩ : ∃ x, Nm.dMul a 4609176140021203710 = x := ⟨_, rfl⟩
        rw [hx1] at CA1 CM1
        have ER : rExp a = Nm.dSub (Nm.dSub a (Nm.dMul (kExp a) 4604418534311723008)) (Nm.dMul (kExp a) 4461442080421002358) := rfl
        obtain ⟨n, hn⟩ : ∃ n, Nm.dWhole (kExp a) = n := ⟨_, rfl⟩
        have CW : Hid (∀ w, Calls Tryz.prog 48 #[.int .u64 (kExp a : Nat)] w (WholePost w n (Nm.fits (kExp a)))) := Lib.hid (by rw [← hn]; exact fun w => whole_any _ hk w)
        obtain ⟨fk, hfk⟩ : ∃ n, Nm.fits (kExp a) = n := ⟨_, rfl⟩
        rw [hfk] at CW
        have h1 : -1502 ≤ n := by rw [← hn]; exact h1
        have h2 : n ≤ 1502 := by rw [← hn]; exact h2
        rw [hn] at hE
        obtain ⟨P, hP⟩ : ∃ p, pExp a = p := ⟨_, rfl⟩
        rw [hP] at hE hp
        unfold pExp at hP
        obtain ⟨r, hre⟩ : ∃ r, rExp a = r := ⟨_, rfl⟩
        rw [hre] at ER hr hP
        obtain ⟨k, hke⟩ : ∃ k, kExp a = k := ⟨_, rfl⟩
        rw [hke] at ER hk CF CW
        have hTD : n.tdiv 2 = n.tdiv 2 := rfl
        obtain ⟨h, hh⟩ : ∃ h, n.tdiv 2 = h := ⟨_, rfl⟩
        rw [hh] at hE
        have b1 : -1000 ≤ h ∧ h ≤ 1000 ∧ -1000 ≤ n - h ∧ n - h ≤ 1000 := by rw [← hh]; exact half_bd n h1 h2
        have e1 : IntKind.i64.wrap (n.tdiv 2) = h := by rw [hh, IntKind.wrap_i64]; omega
        have e2 : IntKind.i64.wrap (n - h) = n - h := by rw [IntKind.wrap_i64]; omega
        have CT1 : Hid (∀ w, Calls Tryz.prog 49 #[.int .i64 h] w (Gives w (.int .u64 (dTwo h : Nat)))) := Lib.hid (fun w => (ptwo_any h (by omega) (by omega) w).mono fun _ _ h => gives_of h)
        have CT2 : Hid (∀ w, Calls Tryz.prog 49 #[.int .i64 (n - h)] w (Gives w (.int .u64 (dTwo (n - h) : Nat)))) := Lib.hid (fun w => (ptwo_any (n - h) (by omega) (by omega) w).mono fun _ _ h => gives_of h)
        have lt1 := two_lt h (by omega)
        have lt2 := two_lt (n - h) (by omega)
        obtain ⟨t1, ht1⟩ : ∃ t, dTwo h = t := ⟨_, rfl⟩
        rw [ht1] at CT1 hE lt1
        obtain ⟨t2, ht2⟩ : ∃ t, dTwo (n - h) = t := ⟨_, rfl⟩
        rw [ht2] at CT2 hE lt2
        have CM4 : Hid (∀ w, Calls Tryz.prog 42 #[.int .u64 (P : Nat), .int .u64 (t1 : Nat)] w (Gives w (.int .u64 (Nm.dMul P t1 : Nat)))) := Lib.hid (fun w => mul_any P t1 hp (by omega) w)
        have CM5 : Hid (∀ w, Calls Tryz.prog 42 #[.int .u64 (Nm.dMul P t1 : Nat), .int .u64 (t2 : Nat)] w (Gives w (.int .u64 (E : Nat)))) := Lib.hid (by rw [← hE]; exact fun w => mul_any _ t2 (Nm.ok_mul _ _).1 (by omega) w)
        obtain ⟨q1, hq1⟩ : ∃ t, Nm.dMul P t1 = t := ⟨_, rfl⟩
        rw [hq1] at CM4 CM5
        have CM2 : Hid (∀ w, Calls Tryz.prog 42 #[.int .u64 (k : Nat), .int .u64 4604418534311723008] w (Gives w (.int .u64 (Nm.dMul k 4604418534311723008 : Nat)))) := Lib.hid (fun w => mul_any k 4604418534311723008 hk (by decide) w)
        have CM3 : Hid (∀ w, Calls Tryz.prog 42 #[.int .u64 (k : Nat), .int .u64 4461442080421002358] w (Gives w (.int .u64 (Nm.dMul k 4461442080421002358 : Nat)))) := Lib.hid (fun w => mul_any k 4461442080421002358 hk (by decide) w)
        have l1 := (Nm.ok_mul k 4604418534311723008).1
        have l2 := (Nm.ok_mul k 4461442080421002358).1
        obtain ⟨y1, hy1⟩ : ∃ t, Nm.dMul k 4604418534311723008 = t := ⟨_, rfl⟩
        rw [hy1] at CM2 ER l1
        obtain ⟨y2, hy2⟩ : ∃ t, Nm.dMul k 4461442080421002358 = t := ⟨_, rfl⟩
        rw [hy2] at CM3 ER l2
        have CS1 : Hid (∀ w, Calls Tryz.prog 43 #[.int .u64 (a : Nat), .int .u64 (y1 : Nat)] w (Gives w (.int .u64 (Nm.dSub a y1 : Nat)))) := Lib.hid (fun w => sub_any a y1 ha l1 w)
        have CS2 : Hid (∀ w, Calls Tryz.prog 43 #[.int .u64 (Nm.dSub a y1 : Nat), .int .u64 (y2 : Nat)] w (Gives w (.int .u64 (r : Nat)))) := Lib.hid (by rw [ER]; exact fun w => sub_any _ y2 (sub_ok _ _ ha l1) l2 w)
        obtain ⟨z1, hz1⟩ : ∃ t, Nm.dSub a y1 = t := ⟨_, rfl⟩
        rw [hz1] at CS1 CS2
        have CS : Hid (∀ (w : World) (g : Nat), g < w.heap.size → w.cell? ⟨g, 0, none⟩ = some (.int .u64 (r : Nat)) → Calls Tryz.prog 44 #[.int .u64 4607182418800017408, .int .i64 13, .int .i64 1, .int .i64 1, .func (.func 45) #[] #[.pointer (some ⟨g, 0, none⟩)]] w (Gives w (.int .u64 (P : Nat)))) := Lib.hid (by rw [← hP]; exact fun w g hg hc => serExp_any r 4607182418800017408 g 13 (by decide) hr (by decide) w hg hc 13 (by decide))
        clear hE hna hgt hlt hx1 hx2 ER hn hfk hP hre hke hTD ht1 ht2 hq1 hy1 hy2 hz1 l1 l2 lt1 lt2 hp hk hr ha hh h1 h2 b1
        have hmf : ∀ (fn : Fn) (first cap : Array Value) (w : World), (Instr.makeFunc fn first cap).run Tryz.prog w = .ok (.func fn first cap) w := fun _ _ _ _ => rfl
        have BB := Lib.hid (Below.refl w.heap.size w)
        go_enter Tryz.func5, Tryz.ntmps5
        go_wp2_with fail
        refine (NA.out _).mono ?_
        rintro e' wm1 ⟨rfl, hb⟩
        have BB := Lib.hid (BB.out.trans (hb.mono BB.out.size))
        clear hb
        go_wp2_with fail
        refine (GT.out _).mono ?_
        rintro e' wm2 ⟨rfl, hb⟩
        have BB := Lib.hid (BB.out.trans (hb.mono BB.out.size))
        clear hb
        go_wp2_with fail
        refine (LE.out _).mono ?_
        rintro e' wm3 ⟨rfl, hb⟩
        have BB := Lib.hid (BB.out.trans (hb.mono BB.out.size))
        clear hb
        go_wp2_with fail
        refine (CM1.out _).mono ?_
        rintro e' wm4 ⟨rfl, hb⟩
        have BB := Lib.hid (BB.out.trans (hb.mono BB.out.size))
        clear hb
        go_wp2_with fail
        refine (CA1.out _).mono ?_
        rintro e' wm5 ⟨rfl, hb⟩
        have BB := Lib.hid (BB.out.trans (hb.mono BB.out.size))
        clear hb
        go_wp2_with fail
        refine (CF.out _).mono ?_
        rintro e' wm6 ⟨rfl, hb⟩
        have BB := Lib.hid (BB.out.trans (hb.mono BB.out.size))
        clear hb
        go_wp2_with fail
        refine (CM2.out _).mono ?_
        rintro e' wm7 ⟨rfl, hb⟩
        have BB := Lib.hid (BB.out.trans (hb.mono BB.out.size))
        clear hb
        go_wp2_with fail
        refine (CS1.out _).mono ?_
        rintro e' wm8 ⟨rfl, hb⟩
        have BB := Lib.hid (BB.out.trans (hb.mono BB.out.size))
        clear hb
        go_wp2_with fail
        refine (CM3.out _).mono ?_
        rintro e' wm9 ⟨rfl, hb⟩
        have BB := Lib.hid (BB.out.trans (hb.mono BB.out.size))
        clear hb
        go_wp2_with fail
        refine (CS2.out _).mono ?_
        rintro e' wm10 ⟨rfl, hb⟩
        have BB := Lib.hid (BB.out.trans (hb.mono BB.out.size))
        clear hb
        go_wp2_with fail
        refine (CS.out _ _ (alloc_lt _ _) (World.cell?_alloc_at _ _ _ _ rfl)).mono ?_
        rintro e' wm100 ⟨rfl, hb⟩
        have BB := Lib.hid ((BB.out.alloc BB.out.size _).trans (hb.mono (BB.out.alloc BB.out.size _).size))
        clear hb
        go_wp2_with fail
        refine (CW.out _).mono ?_
        rintro e' wm11 ⟨rfl, hb⟩
        have BB := Lib.hid (BB.out.trans (hb.mono BB.out.size))
        clear hb
        go_wp2_with fail
        refine (CT1.out _).mono ?_
        rintro e' wm12 ⟨rfl, hb⟩
        have BB := Lib.hid (BB.out.trans (hb.mono BB.out.size))
        clear hb
        go_wp2_with fail
        refine (CM4.out _).mono ?_
        rintro e' wm13 ⟨rfl, hb⟩
        have BB := Lib.hid (BB.out.trans (hb.mono BB.out.size))
        clear hb
        go_wp2_with fail
        refine (CT2.out _).mono ?_
        rintro e' wm14 ⟨rfl, hb⟩
        have BB := Lib.hid (BB.out.trans (hb.mono BB.out.size))
        clear hb
        go_wp2_with fail
        refine (CM5.out _).mono ?_
        rintro e' wm15 ⟨rfl, hb⟩
        have BB := Lib.hid (BB.out.trans (hb.mono BB.out.size))
        clear hb
        go_wp2
        go_ret
        exact ⟨rfl, BB.out⟩
      · rw [if_pos rfl] at hE
        subst hE
        clear hna hgt hlt ha
        have BB := Lib.hid (Below.refl w.heap.size w)
        go_enter Tryz.func5, Tryz.ntmps5
        go_wp2_with fail
        refine (NA.out _).mono ?_
        rintro e' wm1 ⟨rfl, hb⟩
        have BB := Lib.hid (BB.out.trans (hb.mono BB.out.size))
        clear hb
        go_wp2_with fail
        refine (GT.out _).mono ?_
        rintro e' wm2 ⟨rfl, hb⟩
        have BB := Lib.hid (BB.out.trans (hb.mono BB.out.size))
        clear hb
        go_wp2_with fail
        refine (LE.out _).mono ?_
        rintro e' wm3 ⟨rfl, hb⟩
        have BB := Lib.hid (BB.out.trans (hb.mono BB.out.size))
        clear hb
        go_wp2
        go_ret
        exact ⟨rfl, BB.out⟩
    · rw [if_pos rfl] at hE
      subst hE
      clear hna hgt hlt ha
      have BB := Lib.hid (Below.refl w.heap.size w)
      go_enter Tryz.func5, Tryz.ntmps5
      go_wp2_with fail
      refine (NA.out _).mono ?_
      rintro e' wm1 ⟨rfl, hb⟩
      have BB := Lib.hid (BB.out.trans (hb.mono BB.out.size))
      clear hb
      go_wp2_with fail
      refine (GT.out _).mono ?_
      rintro e' wm2 ⟨rfl, hb⟩
      have BB := Lib.hid (BB.out.trans (hb.mono BB.out.size))
      clear hb
      go_wp2
      go_ret
      exact ⟨rfl, BB.out⟩
  · rw [if_pos rfl] at hE
    subst hE
    clear hna hgt hlt ha
    have BB := Lib.hid (Below.refl w.heap.size w)
    go_enter Tryz.func5, Tryz.ntmps5
    go_wp2_with fail
    refine (NA.out _).mono ?_
    rintro e' wm1 ⟨rfl, hb⟩
    have BB := Lib.hid (BB.out.trans (hb.mono BB.out.size))
    clear hb
    go_wp2
    go_ret
    exact ⟨rfl, BB.out⟩
set_option maxHeartbeats 4000000 in
theorem rexp_any (a : Nat) (ha : a < 2 ^ 64) (w : World) : Calls Tryz.prog 6 #[.int .u64 (a : Int)] w (Gives w (.int .u64 (dExp a : Nat))) := by
  obtain ⟨E, hE⟩ : ∃ E, dExp a = E := ⟨_, rfl⟩
  obtain ⟨na, hna⟩ : ∃ x, Nm.isNaN a = x := ⟨_, rfl⟩
  obtain ⟨gt, hgt⟩ : ∃ x, dLt 4649454530587146735 a = x := ⟨_, rfl⟩
  obtain ⟨lt, hlt⟩ : ∃ x, dLt a 13873137513782915154 = x := ⟨_, rfl⟩
  have NA : Hid (∀ w, Calls Tryz.prog 50 #[.int .u64 (a : Nat)] w (Gives w (.bool na))) := Lib.hid (by rw [← hna]; exact fun w => (rnan_any a ha w).mono fun _ _ h => gives_of h)
  have GT : Hid (∀ w, Calls Tryz.prog 51 #[.int .u64 (a : Nat), .int .u64 4649454530587146735] w (Gives w (.bool gt))) := Lib.hid (by rw [← hgt]; exact fun w => rabove_any a 4649454530587146735 ha (by decide) w)
  have LE : Hid (∀ w, Calls Tryz.prog 52 #[.int .u64 (a : Nat), .int .u64 13873137513782915154] w (Gives w (.bool lt))) := Lib.hid (by rw [← hlt]; exact fun w => rbelow_any a 13873137513782915154 ha (by decide) w)
  unfold dExp at hE
  rw [hna, hgt, hlt] at hE
  rw [show dExp a = E by unfold dExp; rw [hna, hgt, hlt]; exact hE]
  cases na
  · rw [if_neg (by decide)] at hE
    cases gt
    · rw [if_neg (by decide)] at hE
      cases lt
      · rw [if_neg (by decide)] at hE
        obtain ⟨h1, h2⟩ := exp_range ha hna hgt hlt
        have hk := kExp_ok a
        have hr := rExp_ok a ha
        have hp := pExp_ok a
        have CM1 : Hid (∀ w, Calls Tryz.prog 55 #[.int .u64 (a : Nat), .int .u64 4609176140021203710] w (Gives w (.int .u64 (Nm.dMul a 4609176140021203710 : Nat)))) := Lib.hid (fun w => rmul_any a 4609176140021203710 ha (by decide) w)
        have CA1 : Hid (∀ w, Calls Tryz.prog 54 #[.int .u64 (Nm.dMul a 4609176140021203710 : Nat), .int .u64 4602678819172646912] w (Gives w (.int .u64 (Nm.dAdd (Nm.dMul a 4609176140021203710) 4602678819172646912 : Nat)))) := Lib.hid (fun w => radd_any _ 4602678819172646912 (Nm.ok_mul _ _).1 (by decide) w)
        have CF : Hid (∀ w, Calls Tryz.prog 53 #[.int .u64 (Nm.dAdd (Nm.dMul a 4609176140021203710) 4602678819172646912 : Nat)] w (Gives w (.int .u64 (kExp a : Nat)))) := Lib.hid (fun w => rfloor_any _ (Nm.ok_add _ _ (Nm.ok_mul _ _).1 (by decide)).1 w)
        obtain ⟨x2, hx2⟩ : ∃ x, Nm.dAdd (Nm.dMul a 4609176140021203710) 4602678819172646912 = x := ⟨_, rfl⟩
        rw [hx2] at CA1 CF
        obtain ⟨x1, hx1⟩ : ∃ x, Nm.dMul a 4609176140021203710 = x := ⟨_, rfl⟩
        rw [hx1] at CA1 CM1
        have ER : rExp a = Nm.dSub (Nm.dSub a (Nm.dMul (kExp a) 4604418534311723008)) (Nm.dMul (kExp a) 4461442080421002358) := rfl
        obtain ⟨n, hn⟩ : ∃ n, Nm.dWhole (kExp a) = n := ⟨_, rfl⟩
        have CW : Hid (∀ w, Calls Tryz.prog 59 #[.int .u64 (kExp a : Nat)] w (WholePost w n (Nm.fits (kExp a)))) := Lib.hid (by rw [← hn]; exact fun w => rwhole_any _ hk w)
        obtain ⟨fk, hfk⟩ : ∃ n, Nm.fits (kExp a) = n := ⟨_, rfl⟩
        rw [hfk] at CW
        have h1 : -1502 ≤ n := by rw [← hn]; exact h1
        have h2 : n ≤ 1502 := by rw [← hn]; exact h2
        rw [hn] at hE
        obtain ⟨P, hP⟩ : ∃ p, pExp a = p := ⟨_, rfl⟩
        rw [hP] at hE hp
        unfold pExp at hP
        obtain ⟨r, hre⟩ : ∃ r, rExp a = r := ⟨_, rfl⟩
        rw [hre] at ER hr hP
        obtain ⟨k, hke⟩ : ∃ k, kExp a = k := ⟨_, rfl⟩
        rw [hke] at ER hk CF CW
        have hTD : n.tdiv 2 = n.tdiv 2 := rfl
        obtain ⟨h, hh⟩ : ∃ h, n.tdiv 2 = h := ⟨_, rfl⟩
        rw [hh] at hE
        have b1 : -1000 ≤ h ∧ h ≤ 1000 ∧ -1000 ≤ n - h ∧ n - h ≤ 1000 := by rw [← hh]; exact half_bd n h1 h2
        have e1 : IntKind.i64.wrap (n.tdiv 2) = h := by rw [hh, IntKind.wrap_i64]; omega
        have e2 : IntKind.i64.wrap (n - h) = n - h := by rw [IntKind.wrap_i64]; omega
        have CT1 : Hid (∀ w, Calls Tryz.prog 60 #[.int .i64 h] w (Gives w (.int .u64 (dTwo h : Nat)))) := Lib.hid (fun w => rptwo_any h (by omega) (by omega) w)
        have CT2 : Hid (∀ w, Calls Tryz.prog 60 #[.int .i64 (n - h)] w (Gives w (.int .u64 (dTwo (n - h) : Nat)))) := Lib.hid (fun w => rptwo_any (n - h) (by omega) (by omega) w)
        have lt1 := two_lt h (by omega)
        have lt2 := two_lt (n - h) (by omega)
        obtain ⟨t1, ht1⟩ : ∃ t, dTwo h = t := ⟨_, rfl⟩
        rw [ht1] at CT1 hE lt1
        obtain ⟨t2, ht2⟩ : ∃ t, dTwo (n - h) = t := ⟨_, rfl⟩
        rw [ht2] at CT2 hE lt2
        have CM4 : Hid (∀ w, Calls Tryz.prog 55 #[.int .u64 (P : Nat), .int .u64 (t1 : Nat)] w (Gives w (.int .u64 (Nm.dMul P t1 : Nat)))) := Lib.hid (fun w => rmul_any P t1 hp (by omega) w)
        have CM5 : Hid (∀ w, Calls Tryz.prog 55 #[.int .u64 (Nm.dMul P t1 : Nat), .int .u64 (t2 : Nat)] w (Gives w (.int .u64 (E : Nat)))) := Lib.hid (by rw [← hE]; exact fun w => rmul_any _ t2 (Nm.ok_mul _ _).1 (by omega) w)
        obtain ⟨q1, hq1⟩ : ∃ t, Nm.dMul P t1 = t := ⟨_, rfl⟩
        rw [hq1] at CM4 CM5
        have CM2 : Hid (∀ w, Calls Tryz.prog 55 #[.int .u64 (k : Nat), .int .u64 4604418534311723008] w (Gives w (.int .u64 (Nm.dMul k 4604418534311723008 : Nat)))) := Lib.hid (fun w => rmul_any k 4604418534311723008 hk (by decide) w)
        have CM3 : Hid (∀ w, Calls Tryz.prog 55 #[.int .u64 (k : Nat), .int .u64 4461442080421002358] w (Gives w (.int .u64 (Nm.dMul k 4461442080421002358 : Nat)))) := Lib.hid (fun w => rmul_any k 4461442080421002358 hk (by decide) w)
        have l1 := (Nm.ok_mul k 4604418534311723008).1
        have l2 := (Nm.ok_mul k 4461442080421002358).1
        obtain ⟨y1, hy1⟩ : ∃ t, Nm.dMul k 4604418534311723008 = t := ⟨_, rfl⟩
        rw [hy1] at CM2 ER l1
        obtain ⟨y2, hy2⟩ : ∃ t, Nm.dMul k 4461442080421002358 = t := ⟨_, rfl⟩
        rw [hy2] at CM3 ER l2
        have CS1 : Hid (∀ w, Calls Tryz.prog 56 #[.int .u64 (a : Nat), .int .u64 (y1 : Nat)] w (Gives w (.int .u64 (Nm.dSub a y1 : Nat)))) := Lib.hid (fun w => rsub_any a y1 ha l1 w)
        have CS2 : Hid (∀ w, Calls Tryz.prog 56 #[.int .u64 (Nm.dSub a y1 : Nat), .int .u64 (y2 : Nat)] w (Gives w (.int .u64 (r : Nat)))) := Lib.hid (by rw [ER]; exact fun w => rsub_any _ y2 (sub_ok _ _ ha l1) l2 w)
        obtain ⟨z1, hz1⟩ : ∃ t, Nm.dSub a y1 = t := ⟨_, rfl⟩
        rw [hz1] at CS1 CS2
        have HP := Lib.hid hP
        have HRL := Lib.hid hr
        clear hE hna hgt hlt hx1 hx2 ER hn hfk hP hre hke hTD ht1 ht2 hq1 hy1 hy2 hz1 l1 l2 lt1 lt2 hp hk hr ha hh h1 h2 b1
        have BB := Lib.hid (Below.refl w.heap.size w)
        go_enter Tryz.func6, Tryz.ntmps6
        go_wp2_with fail
        refine (NA.out _).mono ?_
        rintro e' wm1 ⟨rfl, hb⟩
        have BB := Lib.hid (BB.out.trans (hb.mono BB.out.size))
        clear hb
        go_wp2_with fail
        refine (GT.out _).mono ?_
        rintro e' wm2 ⟨rfl, hb⟩
        have BB := Lib.hid (BB.out.trans (hb.mono BB.out.size))
        clear hb
        go_wp2_with fail
        refine (LE.out _).mono ?_
        rintro e' wm3 ⟨rfl, hb⟩
        have BB := Lib.hid (BB.out.trans (hb.mono BB.out.size))
        clear hb
        go_wp2_with fail
        refine (CM1.out _).mono ?_
        rintro e' wm4 ⟨rfl, hb⟩
        have BB := Lib.hid (BB.out.trans (hb.mono BB.out.size))
        clear hb
        go_wp2_with fail
        refine (CA1.out _).mono ?_
        rintro e' wm5 ⟨rfl, hb⟩
        have BB := Lib.hid (BB.out.trans (hb.mono BB.out.size))
        clear hb
        go_wp2_with fail
        refine (CF.out _).mono ?_
        rintro e' wm6 ⟨rfl, hb⟩
        have BB := Lib.hid (BB.out.trans (hb.mono BB.out.size))
        clear hb
        go_wp2_with fail
        refine (CM2.out _).mono ?_
        rintro e' wm7 ⟨rfl, hb⟩
        have BB := Lib.hid (BB.out.trans (hb.mono BB.out.size))
        clear hb
        go_wp2_with fail
        refine (CS1.out _).mono ?_
        rintro e' wm8 ⟨rfl, hb⟩
        have BB := Lib.hid (BB.out.trans (hb.mono BB.out.size))
        clear hb
        go_wp2_with fail
        refine (CM3.out _).mono ?_
        rintro e' wm9 ⟨rfl, hb⟩
        have BB := Lib.hid (BB.out.trans (hb.mono BB.out.size))
        clear hb
        go_wp2_with fail
        refine (CS2.out _).mono ?_
        rintro e' wm10 ⟨rfl, hb⟩
        have BB := Lib.hid (BB.out.trans (hb.mono BB.out.size))
        clear hb
        go_wp2
        go_loopw [5, 6] (fun q i wr => ∃ (m t : Nat) (j : Int), i = .int .i64 j ∧ q = .int .u64 (t : Nat) ∧ -1 ≤ j ∧ j ≤ 100 ∧ Hid (j = (1 * m : Nat) - 0) ∧ Hid (t < 2 ^ 64) ∧ Hid (serN (fExp r) 1 0 m t = P) ∧ Hid (Below w.heap.size w wr)) (fun _ i _ => (intOf i + 2).toNat)
        case atStart => exact ⟨13, 4607182418800017408, 13, rfl, rfl, by omega, by omega, Lib.hid (by decide), Lib.hid (by decide), HP, BB⟩
        case round =>
          obtain ⟨m, t, j, rfl, rfl, hj1, hj2, HJ, HT, HS, BB⟩ := hrel
          cases m with
          | zero =>
            have d1 : decide (j ≥ 1) = false := by have := HJ.out; apply decide_eq_false; omega
            have d2 : decide ((1 : Int) ≤ j) = false := d1
            obtain rfl : t = P := HS.out
            go_wp2_with fail
            refine (CW.out _).mono ?_
            rintro e' wm11 ⟨rfl, hb⟩
            have BB := Lib.hid (BB.out.trans (hb.mono BB.out.size))
            clear hb
            go_wp2_with fail
            refine (CT1.out _).mono ?_
            rintro e' wm12 ⟨rfl, hb⟩
            have BB := Lib.hid (BB.out.trans (hb.mono BB.out.size))
            clear hb
            go_wp2_with fail
            refine (CM4.out _).mono ?_
            rintro e' wm13 ⟨rfl, hb⟩
            have BB := Lib.hid (BB.out.trans (hb.mono BB.out.size))
            clear hb
            go_wp2_with fail
            refine (CT2.out _).mono ?_
            rintro e' wm14 ⟨rfl, hb⟩
            have BB := Lib.hid (BB.out.trans (hb.mono BB.out.size))
            clear hb
            go_wp2_with fail
            refine (CM5.out _).mono ?_
            rintro e' wm15 ⟨rfl, hb⟩
            have BB := Lib.hid (BB.out.trans (hb.mono BB.out.size))
            clear hb
            go_wp2
            go_ret
            exact ⟨rfl, BB.out⟩
          | succ m =>
            have d1 : decide (j ≥ 1) = true := by have := HJ.out; apply decide_eq_true; omega
            have d2 : decide ((1 : Int) ≤ j) = true := d1
            have hj3 : 1 ≤ j := of_decide_eq_true d2
            have e3 : IntKind.i64.wrap (j - 1) = j - 1 := by rw [IntKind.wrap_i64]; omega
            have HS2 : Hid (serN (fExp r) 1 0 m (fExp r t j) = P) := Lib.hid (by
              have h := HS.out
              have ej : ((1 * (m + 1) : Nat) : Int) - ((0 : Nat) : Int) = j := by have := HJ.out; omega
              rw [serN, ej] at h
              exact h)
            have HF := Lib.hid (fExp_ok r t j)
            have CX1 := Lib.hid (fun w => rmul_any r t HRL.out HT.out w)
            have CX2 := Lib.hid (fun w => rint_any j (by omega) (by omega) w)
            have CX3 := Lib.hid (fun w => rdiv_any (Nm.dMul r t) (dInt j) (Nm.ok_mul _ _).1 (ok_int _).1 w)
            have CX4 : Hid (∀ w, Calls Tryz.prog 54 #[.int .u64 4607182418800017408, .int .u64 (Nm.dDiv (Nm.dMul r t) (dInt j) : Nat)] w (Gives w (.int .u64 (fExp r t j : Nat)))) := Lib.hid (fun w => radd_any 4607182418800017408 _ (by decide) (Nm.ok_div _ _).1 w)
            obtain ⟨Q, hQ⟩ : ∃ R, fExp r t j = R := ⟨_, rfl⟩
            rw [hQ] at CX4 HS2 HF
            obtain ⟨D, hD⟩ : ∃ R, Nm.dDiv (Nm.dMul r t) (dInt j) = R := ⟨_, rfl⟩
            rw [hD] at CX3 CX4
            obtain ⟨M, hM⟩ : ∃ R, Nm.dMul r t = R := ⟨_, rfl⟩
            rw [hM] at CX1 CX3
            obtain ⟨I, hI⟩ : ∃ R, dInt j = R := ⟨_, rfl⟩
            rw [hI] at CX2 CX3
            clear hQ hD hM hI
            go_wp2_with fail
            refine (CX1.out _).mono ?_
            rintro e' wm16 ⟨rfl, hb⟩
            have BB := Lib.hid (BB.out.trans (hb.mono BB.out.size))
            clear hb
            go_wp2_with fail
            refine (CX2.out _).mono ?_
            rintro e' wm17 ⟨rfl, hb⟩
            have BB := Lib.hid (BB.out.trans (hb.mono BB.out.size))
            clear hb
            go_wp2_with fail
            refine (CX3.out _).mono ?_
            rintro e' wm18 ⟨rfl, hb⟩
            have BB := Lib.hid (BB.out.trans (hb.mono BB.out.size))
            clear hb
            go_wp2_with fail
            refine (CX4.out _).mono ?_
            rintro e' wm19 ⟨rfl, hb⟩
            have BB := Lib.hid (BB.out.trans (hb.mono BB.out.size))
            clear hb
            go_wp2
            go_roundw
            case rel => exact ⟨m, _, j - 1, by first | rfl | rw [e3], rfl, by omega, by omega, Lib.hid (by have := HJ.out; omega), HF, HS2, BB⟩
            case measure => simp [intOf]; omega
      · rw [if_pos rfl] at hE
        subst hE
        clear hna hgt hlt ha
        have BB := Lib.hid (Below.refl w.heap.size w)
        go_enter Tryz.func6, Tryz.ntmps6
        go_wp2_with fail
        refine (NA.out _).mono ?_
        rintro e' wm1 ⟨rfl, hb⟩
        have BB := Lib.hid (BB.out.trans (hb.mono BB.out.size))
        clear hb
        go_wp2_with fail
        refine (GT.out _).mono ?_
        rintro e' wm2 ⟨rfl, hb⟩
        have BB := Lib.hid (BB.out.trans (hb.mono BB.out.size))
        clear hb
        go_wp2_with fail
        refine (LE.out _).mono ?_
        rintro e' wm3 ⟨rfl, hb⟩
        have BB := Lib.hid (BB.out.trans (hb.mono BB.out.size))
        clear hb
        go_wp2
        go_ret
        exact ⟨rfl, BB.out⟩
    · rw [if_pos rfl] at hE
      subst hE
      clear hna hgt hlt ha
      have BB := Lib.hid (Below.refl w.heap.size w)
      go_enter Tryz.func6, Tryz.ntmps6
      go_wp2_with fail
      refine (NA.out _).mono ?_
      rintro e' wm1 ⟨rfl, hb⟩
      have BB := Lib.hid (BB.out.trans (hb.mono BB.out.size))
      clear hb
      go_wp2_with fail
      refine (GT.out _).mono ?_
      rintro e' wm2 ⟨rfl, hb⟩
      have BB := Lib.hid (BB.out.trans (hb.mono BB.out.size))
      clear hb
      go_wp2
      go_ret
      exact ⟨rfl, BB.out⟩
  · rw [if_pos rfl] at hE
    subst hE
    clear hna hgt hlt ha
    have BB := Lib.hid (Below.refl w.heap.size w)
    go_enter Tryz.func6, Tryz.ntmps6
    go_wp2_with fail
    refine (NA.out _).mono ?_
    rintro e' wm1 ⟨rfl, hb⟩
    have BB := Lib.hid (BB.out.trans (hb.mono BB.out.size))
    clear hb
    go_wp2
    go_ret
    exact ⟨rfl, BB.out⟩
end Go.Proofs.YtffohkpohgkglaaGreat
