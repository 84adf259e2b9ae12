/-
  PaA, PaB, put together (a claim holds at most 60 files).
-/
import Derived.Test.YthhlhiighgnkmaaGreatDoorSwZ
import Derived.Test.YthhlhiighgnkmaaGreatDoorMaX
import Derived.Test.YthhlhiighgnkmaaGreatDoorTnA
import Derived.Test.YthhlhiighgnkmaaGreatDoorMaR
import Derived.Test.YthhlhiighgnkmaaGreatDoorNumZ
/-! ## WALKS: the library's parseFloat64 (without a sign): the nearest double. -/
namespace Go.Proofs.YthhlhiighgnkmaaGreatDoor
set_option linter.unusedVariables false
set_option linter.unusedSimpArgs false
open Go.RowKit Go.PlainAid
theorem unmin_any (w : World) : Calls Tryz.prog 227 #[.int .u64 9007199254740992] w fun e w' => e = .returned (.int .u64 36028797018963966) ∧ w' = w := by
  go_enter Tryz.func227, Tryz.ntmps227
  go_wp2
  go_ret
  exact ⟨rfl, rfl⟩
theorem bool2i_any (b : Bool) (w : World) : Calls Tryz.prog 179 #[.bool b] w fun e w' => e = .returned (.int .i64 ((b.toNat : Nat) : Int)) ∧ w' = w := by
  refine (Tryz.internal_strconv_bool2_int b w).mono ?_
  rintro e w' ⟨h1, h2⟩
  refine ⟨?_, h2⟩
  rw [h1]; cases b <;> rfl
theorem from252 (a : Nat) (w : World) : (callFunc 252 #[.int .u64 (a : Int)]).run Tryz.prog w = .ok (.value (.float .f64 a)) w := by
  rw [run_callFunc_extern (e := Extern.MathFloatBits.float64frombits) Tryz.func252 (by kernel_rfl) (by kernel_rfl) (by kernel_rfl) (by kernel_rfl)]
  rw [show Extern.MathFloatBits.float64frombits #[.int .u64 (a : Int)] = pure (.float .f64 (a : Int).toNat) from rfl, Int.toNat_natCast]
  rfl
/-- an error, or none -/
def IsErr (v : Value) : Prop := v = .nilIface ∨ v = .iface 203 (.int .i64 1)
/-- a number is handed back, with an error or without -/
def Floats (w : World) (r : Nat) (e : Ending) (w' : World) : Prop := ∃ ev, e = .returned (.tuple #[.float .f64 r, ev]) ∧ IsErr ev ∧ Below w.heap.size w w'
theorem or0 (r : Nat) (h : r < 2 ^ 64) : bits .or .u64 0 (r : Int) = (r : Int) := by
  have := u64_or_nat 0 r (by decide) h
  rw [Nat.zero_or] at this
  exact this
theorem andnot52 (X r : Nat) (hX : X < 2 ^ 52) (hr : r = 2 ^ 52 + X) : r &&& (18446744073709551615 - 4503599627370496) = X := by
  have h1 : r = X ||| 2 ^ 52 := by rw [Nat.or_comm, nat_join 52 (2 ^ 52) X (Nat.mod_self _) hX, hr]
  have h2 : 2 ^ 52 &&& (18446744073709551615 - 4503599627370496) = 0 := by decide +kernel
  have h3 : X &&& (2 ^ 52 - 1) = X := by rw [Nat.and_two_pow_sub_one_eq_mod, Nat.mod_eq_of_lt hX]
  have h4 : (2 ^ 52 - 1) &&& (18446744073709551615 - 4503599627370496) = 2 ^ 52 - 1 := by decide +kernel
  rw [h1, Nat.and_or_distrib_right, h2, Nat.or_zero]
  conv => lhs; rw [← h3]
  rw [Nat.and_assoc, h4, h3]
theorem or_pack (X Y R : Nat) (hX : X < 18446744073709551616) (hY : Y < 18446744073709551616) (hX2 : X < 2 ^ 52) (hm : Y % 2 ^ 52 = 0) (e : Y + X = R) : bits .or .u64 (X : Int) (Y : Int) = (R : Int) := by
  rw [u64_or_nat X Y hX hY, Nat.or_comm, nat_join 52 Y X hm hX2, e]
set_option maxRecDepth 100000 in
theorem pack_any (r sh R : Nat) (h53 : r < 2 ^ 53) (hlow : r < 2 ^ 52 → sh = 0) (hsh : sh ≤ 100000) (hR : min (sh * 2 ^ 52 + r) (2047 * 2 ^ 52) = R) (w : World) :
    Calls Tryz.prog 260 #[.int .u64 (r : Int), .int .i64 ((sh : Int) - 1074)] w (Floats w R) := by
  have Y1 : ¬ r < 2 ^ 52 → ¬ 2046 ≤ sh → (sh + 1) * 2 ^ 52 < 18446744073709551616 ∧ (sh + 1) * 2 ^ 52 + (r - 2 ^ 52) = R ∧ r - 2 ^ 52 < 2 ^ 52 ∧ r - 2 ^ 52 < 18446744073709551616 ∧ r = 2 ^ 52 + (r - 2 ^ 52) ∧ r < 18446744073709551616 := by
    intro h1 h2
    refine ⟨by omega, by omega, by omega, by omega, by omega, by omega⟩
  have hb : bits .and .u64 (r : Int) 4503599627370496 = (((r / 2 ^ 52 % 2) * 2 ^ 52 : Nat) : Int) := by
    have := u64_and_nat r 4503599627370496 (by omega) (by decide)
    rw [show ((4503599627370496 : Nat) : Int) = 4503599627370496 from rfl] at this
    rw [this, show (4503599627370496 : Nat) = 2 ^ 52 from rfl, nat_bit 52 r]
  by_cases h52 : r < 2 ^ 52
  · have h0 := hlow h52
    subst h0
    have hRr : R = r := by omega
    subst hRr
    have t1 : ((((R / 2 ^ 52 % 2) * 2 ^ 52 : Nat) : Int) == 0) = true := by rw [beq_iff_eq]; omega
    obtain ⟨m, hm⟩ : ∃ m, (R / 2 ^ 52 % 2) * 2 ^ 52 = m := ⟨_, rfl⟩
    rw [hm] at hb t1
    have h252 := from252 R
    clear hm hR hlow Y1
    go_enter Tryz.func260, Tryz.ntmps260
    go_wp2
    go_ret2
    exact ⟨_, rfl, .inl rfl, Below.refl _ _⟩
  · have t1 : ((((r / 2 ^ 52 % 2) * 2 ^ 52 : Nat) : Int) == 0) = false := by rw [beq_eq_false_iff_ne]; omega
    obtain ⟨m, hm⟩ : ∃ m, (r / 2 ^ 52 % 2) * 2 ^ 52 = m := ⟨_, rfl⟩
    rw [hm] at hb t1
    by_cases hi : 2046 ≤ sh
    · have hRi : R = 9218868437227405312 := by omega
      subst hRi
      have d1 : decide (972 ≤ (sh : Int) - 1074) = true := decide_eq_true (by omega)
      have hb2 : bits .and .u64 (r : Int) 9223372036854775808 = 0 := by
        have := u64_and_nat r 9223372036854775808 (by omega) (by decide)
        rw [show ((9223372036854775808 : Nat) : Int) = 9223372036854775808 from rfl] at this
        rw [this, show (9223372036854775808 : Nat) = 2 ^ 63 from rfl, nat_bit 63 r, show r / 2 ^ 63 % 2 = 0 by omega]
        rfl
      have hb3 : bits .or .u64 0 9218868437227405312 = 9218868437227405312 := by decide +kernel
      have h252 : ∀ w, (callFunc 252 #[.int .u64 9218868437227405312]).run Tryz.prog w = .ok (.value (.float .f64 9218868437227405312)) w := fun w => from252 9218868437227405312 w
      obtain ⟨E, hE⟩ : ∃ E : Int, (sh : Int) - 1074 = E := ⟨_, rfl⟩
      rw [hE] at d1 ⊢
      clear hm hR hlow h53 h52 hE hi hsh Y1
      go_enter Tryz.func260, Tryz.ntmps260
      go_wp2
      go_ret2
      exact ⟨_, rfl, .inr rfl, Below.refl _ _⟩
    · have d1 : decide (972 ≤ (sh : Int) - 1074) = false := decide_eq_false (by omega)
      obtain ⟨y1, y2, hx1, y4, hx2, hr64⟩ := Y1 h52 hi
      have y3 : (sh + 1) * 2 ^ 52 % 2 ^ 52 = 0 := Nat.mul_mod_left _ _
      have hb2 : bits .andNot .u64 (r : Int) 4503599627370496 = ((r - 2 ^ 52 : Nat) : Int) :=
        (u64_andNot_nat r 4503599627370496 hr64 (by decide)).trans (congrArg (fun n : Nat => (n : Int)) (andnot52 (r - 2 ^ 52) r hx1 hx2))
      have w1 : IntKind.i64.wrap (1075 + ((sh : Int) - 1074)) = ((sh + 1 : Nat) : Int) := by rw [IntKind.wrap_i64]; omega
      have w2 : IntKind.u64.wrap ((sh + 1 : Nat) : Int) = ((sh + 1 : Nat) : Int) := by rw [IntKind.wrap_u64]; omega
      have w3 : IntKind.u64.wrap (((sh + 1 : Nat) : Int) * 4503599627370496) = (((sh + 1) * 2 ^ 52 : Nat) : Int) := by rw [IntKind.wrap_u64]; omega
      have hb3 : bits .or .u64 ((r - 2 ^ 52 : Nat) : Int) (((sh + 1) * 2 ^ 52 : Nat) : Int) = (R : Int) := or_pack _ _ R y4 y1 hx1 y3 y2
      have h252 := from252 R
      obtain ⟨X, hX⟩ : ∃ X, r - 2 ^ 52 = X := ⟨_, rfl⟩
      obtain ⟨Y, hY⟩ : ∃ Y, (sh + 1) * 2 ^ 52 = Y := ⟨_, rfl⟩
      obtain ⟨Z, hZ⟩ : ∃ Z, sh + 1 = Z := ⟨_, rfl⟩
      obtain ⟨E, hE⟩ : ∃ E : Int, (sh : Int) - 1074 = E := ⟨_, rfl⟩
      rw [hX] at hb2 hb3
      rw [hY] at w3 hb3
      rw [hZ] at w1 w2 w3
      rw [hE] at w1 d1 ⊢
      clear hm hR hlow h53 h52 hX hY hZ hE hsh hi hx1 hx2 hr64 y1 y2 y3 y4 Y1
      go_enter Tryz.func260, Tryz.ntmps260
      go_wp2
      go_ret2
      exact ⟨_, rfl, .inl rfl, Below.refl _ _⟩
set_option maxRecDepth 100000 in
set_option maxHeartbeats 2000000 in
theorem parse64_any (d i : Nat) (hd : 1 ≤ d) (hd2 : d ≤ 10 ^ 19) (i1 : 3 ≤ i) (i2 : i ≤ 658) (w : World) (T : PTab w) (hS : 18 ≤ w.heap.size) :
    Calls Tryz.prog 254 #[.int .u64 (d : Int), .int .i64 ((i : Int) - 348), .int .u64 0] w (Floats w (Nr.rndN (Nr.decN d ((i : Int) - 348)) (Nr.decD ((i : Int) - 348)))) := by
  obtain ⟨hi, lo, t1, t2, hpm, hlo, hhi⟩ := T i (by omega)
  obtain ⟨b, hb⟩ : ∃ b, b = Nr.nb d := ⟨_, rfl⟩
  obtain ⟨lp, hlp⟩ : ∃ lp, lp = Nr.lpE ((i : Int) - 348) := ⟨_, rfl⟩
  obtain ⟨e, he⟩ : ∃ e, e = min 1074 (53 - (b : Int) - lp) := ⟨_, rfl⟩
  obtain ⟨S, hSS⟩ : ∃ S, S = 61 - e - b - lp := ⟨_, rfl⟩
  have hlpb : -1200 ≤ lp ∧ lp ≤ 1100 := by rw [hlp]; unfold Nr.lpE; omega
  have hnb2 : b ≤ 64 := by rw [hb]; exact (Nr.nb_le_iff d 64).2 (by omega)
  obtain ⟨sh, hsh⟩ : ∃ sh : Nat, (sh : Int) = 1074 - e := ⟨(1074 - e).toNat, by omega⟩
  obtain ⟨q1, q2, q3, q4, q5, q6, q7⟩ := Nr.parse_math (hi := hi) (lo := lo) ⟨hb, hlp, he, hSS, hsh⟩ hd hd2 i1 i2 hpm hlo
  have hle : lo ≤ hi * 2 ^ 64 := by omega
  have C1 := Lib.hid (fun w => Tryz.bits_Len64 (d : Int) w (by omega) (by omega))
  rw [Int.toNat_natCast, Nr.bitLen_nb (by omega), ← hb] at C1
  have C2 := Lib.hid (fun w => log2_any ((i : Int) - 348) (by omega) (by omega) w)
  rw [show ((i : Int) - 348) * 108853 / 32768 = lp by rw [hlp]; rfl] at C2
  have hA : ∀ o : Obj, Below w.heap.size w (w.alloc o) := fun o => (Below.refl _ w).alloc (Nat.le_refl _) o
  obtain ⟨s, hs⟩ : ∃ s : Nat, S = (s : Int) := ⟨S.toNat, by omega⟩
  obtain ⟨E2, hE2⟩ : ∃ E2 : Int, e - (64 - (b : Int)) = E2 := ⟨_, rfl⟩
  have C3 := Lib.hid (prescale_any w.heap.size i hi lo s E2 ((i : Int) - 348) lp (w.alloc (.cells #[.int .u64 0, .int .u64 0, .int .i64 0] 255)) (heap_alloc_new w _) (((hA _).cell (p := ⟨11, i * 2, none⟩) (show 11 < _ by omega)).trans t1) (((hA _).cell (p := ⟨11, i * 2 + 1, none⟩) (show 11 < _ by omega)).trans t2) (by omega) (by omega) rfl (by omega) (by omega) (by omega) (by omega) (by omega))
  have HA := Lib.hid hA
  obtain ⟨R, hR⟩ : ∃ R, Nr.rndN (Nr.decN d ((i : Int) - 348)) (Nr.decD ((i : Int) - 348)) = R := ⟨_, rfl⟩
  rw [hR] at q6 ⊢
  have e1 : IntKind.i64.wrap (53 - (b : Int)) = 53 - (b : Int) := by rw [IntKind.wrap_i64]; omega
  have e2 : IntKind.i64.wrap (53 - (b : Int) - lp) = 53 - (b : Int) - lp := by rw [IntKind.wrap_i64]; omega
  have e3 : min 1074 (53 - (b : Int) - lp) = e := he.symm
  have e3b : (if 53 - (b : Int) - lp < 1074 then 53 - (b : Int) - lp else 1074) = e := by rw [he]; split <;> omega
  obtain ⟨P, hP⟩ : ∃ P : Int, (i : Int) - 348 = P := ⟨_, rfl⟩
  rw [hP] at C2 C3 ⊢
  by_cases h64 : 64 ≤ S
  · have e4 : IntKind.i64.wrap (64 - (b : Int)) = 64 - (b : Int) := by rw [IntKind.wrap_i64]; omega
    have e5 : IntKind.i64.wrap (e - (64 - (b : Int))) = E2 := by rw [IntKind.wrap_i64]; omega
    have hR0 := q6 h64
    subst hR0
    have d1 : decide ((64 : Int) ≤ (s : Int)) = true := decide_eq_true (by omega)
    have d1b : decide (64 ≤ s) = true := decide_eq_true (by omega)
    have hor : bits .or .u64 0 0 = 0 := by decide +kernel
    have h252 : ∀ w, (callFunc 252 #[.int .u64 0]).run Tryz.prog w = .ok (.value (.float .f64 0)) w := fun w => from252 0 w
    clear q1 q2 q3 q4 q5 q6 q7 hR hb hlp he hSS hsh hE2 hP h64 hs hA T hS hlpb hnb2 hd hd2 i1 i2 hpm t1 t2
    go_enter Tryz.func254, Tryz.ntmps254
    go_wp2_with fail
    refine (C1.out _).mono ?_
    rintro e' w1 ⟨rfl, rfl⟩
    go_wp2_with fail
    refine (C2.out _).mono ?_
    rintro e' w1 ⟨rfl, rfl⟩
    go_wp2_with fail
    refine C3.out.mono ?_
    rintro e' w2 ⟨rfl, ho, hp⟩
    have B2 := Lib.hid (Below.trans (HA.out _) (ho.below (B := w1.heap.size) (by simp) (by simp)))
    have c2 := hp.c2
    clear ho hp
    go_wp2
    go_ret2
    exact ⟨_, rfl, .inl rfl, B2.out⟩
  ·
    obtain ⟨U, hU, hU57, hlowU, hhiU⟩ := q7 s hs (by omega)
    obtain ⟨z, hz⟩ : ∃ z, 64 - b = z := ⟨_, rfl⟩
    rw [hz] at q4 q5 hU
    have e4 : IntKind.i64.wrap (64 - (b : Int)) = (z : Int) := by rw [IntKind.wrap_i64]; omega
    have e5 : IntKind.i64.wrap (e - (z : Int)) = E2 := by rw [IntKind.wrap_i64]; omega
    have z3 : (z : Int) < 64 := by omega
    have z4 : z < 64 := by omega
    have d1 : decide ((64 : Int) ≤ (s : Int)) = false := decide_eq_false (by omega)
    have d1b : decide (64 ≤ s) = false := decide_eq_false (by omega)
    obtain ⟨X, hX⟩ : ∃ X, d * 2 ^ z = X := ⟨_, rfl⟩
    have z2 : IntKind.u64.wrap ((d : Int) * 2 ^ z) = (X : Int) := by
      rw [IntKind.wrap_u64]
      rw [show (d : Int) * 2 ^ z = ((d * 2 ^ z : Nat) : Int) by simp]
      rw [hX] at q5 ⊢
      omega
    rw [hX] at q5 hU
    have CUs := Lib.hid (fun w1 H => uscale_any w.heap.size X hi lo s w1 H q5 hhi hlo (by omega) hle)
    rw [hU] at CUs
    have hand : bits .and .u64 (U : Int) 1 = ((U % 2 : Nat) : Int) := by
      have := u64_and_nat U 1 (by omega) (by decide)
      rw [nat_mask1] at this; exact this
    have hor0 : ∀ r : Nat, r < 2 ^ 64 → bits .or .u64 0 (r : Int) = (r : Int) := or0
    by_cases hcmp : U < 2 ^ 55 - 2
    · have hres := hlowU hcmp
      obtain ⟨r, hr⟩ : ∃ r, (U + 1 + U / 4 % 2) / 4 = r := ⟨_, rfl⟩
      rw [hr] at hres
      have hr53 := hres.lt
      have d2 : decide ((36028797018963966 : Int) ≤ (U : Int)) = false := decide_eq_false (by omega)
      have d2b : decide (36028797018963966 ≤ U) = false := decide_eq_false (by omega)
      have hor1 : bits .or .u64 (U : Int) ((U % 2 : Nat) : Int) = (U : Int) := by
        rw [u64_or_nat U (U % 2) (by omega) (by omega)]
        congr 1
        rcases Nat.mod_two_eq_zero_or_one U with h | h
        · rw [h, Nat.or_zero]
        · rw [h, Nr.or_one, if_neg (by omega)]
      have hor2 := hor0 r (by omega)
      have CN := Lib.hid (fun w => near_any U (by omega) w)
      rw [hr] at CN
      have e6 : IntKind.i64.wrap e = e := by rw [IntKind.wrap_i64]; omega
      have e7 : IntKind.i64.wrap (-e) = (sh : Int) - 1074 := by rw [IntKind.wrap_i64]; omega
      have CPk := Lib.hid (fun w => pack_any r sh R hres.lt hres.low (by omega) (by rw [← hR]; exact hres.e.symm) w)
      obtain ⟨F, hF⟩ : ∃ F : Int, (sh : Int) - 1074 = F := ⟨_, rfl⟩
      rw [hF] at e7 CPk
      obtain ⟨u2, hu2⟩ : ∃ u2, U % 2 = u2 := ⟨_, rfl⟩
      rw [hu2] at hand hor1
      have t0 : ((false.toNat : Nat) : Int) = 0 := rfl
      clear q1 q2 q3 q4 q5 q6 q7 hR hb hlp he hSS hsh hE2 hP h64 hs hA T hS hlpb hnb2 hd hd2 i1 i2 hpm t1 t2 hU hU57 hlowU hhiU hX hz hcmp hres hr hr53 hor0 hF hu2 hhi hlo hle
      go_enter Tryz.func254, Tryz.ntmps254
      go_wp2_with fail
      refine (C1.out _).mono ?_
      rintro e' w1 ⟨rfl, rfl⟩
      go_wp2_with fail
      refine (C2.out _).mono ?_
      rintro e' w1 ⟨rfl, rfl⟩
      go_wp2_with fail
      refine C3.out.mono ?_
      rintro e' w2 ⟨rfl, ho, hp⟩
      have B2 := Lib.hid (Below.trans (HA.out _) (ho.below (B := w1.heap.size) (by simp) (by simp)))
      have c2 := hp.c2
      have HP2 := Lib.hid hp
      clear ho hp
      go_wp2_with fail
      refine (CUs.out _ HP2.out).mono ?_
      rintro e' w3 ⟨rfl, n3, rfl⟩
      go_wp2_with fail
      refine (unmin_any _).mono ?_
      rintro e' w4 ⟨rfl, rfl⟩
      go_wp2_with fail
      refine (bool2i_any _ _).mono ?_
      rintro e' w4 ⟨rfl, rfl⟩
      go_wp2_with fail
      refine (CN.out _).mono ?_
      rintro e' w4 ⟨rfl, rfl⟩
      go_wp2_with fail
      refine (CPk.out _).mono ?_
      rintro e' w5 ⟨ev, rfl, hev, hb⟩
      have B5 := Lib.hid ((below_drewN B2.out n3).trans (hb.mono (by have := B2.out.size; exact this)))
      have HEV := Lib.hid hev
      clear hb hev
      go_wp2
      go_ret2
      exact ⟨_, rfl, HEV.out, B5.out⟩
    · have hres := hhiU (by omega)
      obtain ⟨V, hV⟩ : ∃ V, (U / 2 ||| U % 2) = V := ⟨_, rfl⟩
      rw [hV] at hres
      have hVlt : V < 2 ^ 58 := by
        rw [← hV, Nr.or_bit _ _ (by omega)]
        split <;> omega
      obtain ⟨r, hr⟩ : ∃ r, (V + 1 + V / 4 % 2) / 4 = r := ⟨_, rfl⟩
      rw [hr] at hres
      have hr53 := hres.lt
      have d2 : decide ((36028797018963966 : Int) ≤ (U : Int)) = true := decide_eq_true (by omega)
      have d2b : decide (36028797018963966 ≤ U) = true := decide_eq_true (by omega)
      have hor1 : bits .or .u64 ((U / 2 : Nat) : Int) ((U % 2 : Nat) : Int) = (V : Int) := by
        rw [u64_or_nat (U / 2) (U % 2) (by omega) (by omega), hV]
      have hdiv : (U : Int) / 2 = ((U / 2 : Nat) : Int) := by omega
      have hor2 := hor0 r (by omega)
      have CN := Lib.hid (fun w => near_any V (by omega) w)
      rw [hr] at CN
      obtain ⟨em, hem⟩ : ∃ em : Int, e - 1 = em := ⟨_, rfl⟩
      have e6 : IntKind.i64.wrap (e - 1) = em := by rw [IntKind.wrap_i64]; omega
      have e7 : IntKind.i64.wrap (-em) = ((sh + 1 : Nat) : Int) - 1074 := by rw [IntKind.wrap_i64]; omega
      have CPk := Lib.hid (fun w => pack_any r (sh + 1) R hres.lt hres.low (by omega) (by rw [← hR]; exact hres.e.symm) w)
      obtain ⟨F, hF⟩ : ∃ F : Int, ((sh + 1 : Nat) : Int) - 1074 = F := ⟨_, rfl⟩
      rw [hF] at e7 CPk
      obtain ⟨u2, hu2⟩ : ∃ u2, U % 2 = u2 := ⟨_, rfl⟩
      rw [hu2] at hand hor1
      obtain ⟨u3, hu3⟩ : ∃ u3, U / 2 = u3 := ⟨_, rfl⟩
      rw [hu3] at hdiv hor1
      have t0 : ((true.toNat : Nat) : Int) = 1 := rfl
      clear q1 q2 q3 q4 q5 q6 q7 hR hb hlp he hSS hsh hE2 hP h64 hs hA T hS hlpb hnb2 hd hd2 i1 i2 hpm t1 t2 hU hU57 hlowU hhiU hX hz hcmp hres hr hr53 hor0 hF hu2 hhi hlo hle hV hVlt hem hu3
      go_enter Tryz.func254, Tryz.ntmps254
      go_wp2_with fail
      refine (C1.out _).mono ?_
      rintro e' w1 ⟨rfl, rfl⟩
      go_wp2_with fail
      refine (C2.out _).mono ?_
      rintro e' w1 ⟨rfl, rfl⟩
      go_wp2_with fail
      refine C3.out.mono ?_
      rintro e' w2 ⟨rfl, ho, hp⟩
      have B2 := Lib.hid (Below.trans (HA.out _) (ho.below (B := w1.heap.size) (by simp) (by simp)))
      have c2 := hp.c2
      have HP2 := Lib.hid hp
      clear ho hp
      go_wp2_with fail
      refine (CUs.out _ HP2.out).mono ?_
      rintro e' w3 ⟨rfl, n3, rfl⟩
      go_wp2_with fail
      refine (unmin_any _).mono ?_
      rintro e' w4 ⟨rfl, rfl⟩
      go_wp2_with fail
      refine (bool2i_any _ _).mono ?_
      rintro e' w4 ⟨rfl, rfl⟩
      go_wp2_with fail
      refine (CN.out _).mono ?_
      rintro e' w4 ⟨rfl, rfl⟩
      go_wp2_with fail
      refine (CPk.out _).mono ?_
      rintro e' w5 ⟨ev, rfl, hev, hb⟩
      have B5 := Lib.hid ((below_drewN B2.out n3).trans (hb.mono (by have := B2.out.size; exact this)))
      have HEV := Lib.hid hev
      clear hb hev
      go_wp2
      go_ret2
      exact ⟨_, rfl, HEV.out, B5.out⟩
end Go.Proofs.YthhlhiighgnkmaaGreatDoor
/-! ## WALKS: the library's atof64exact (without a sign): if it answers, then the nearest double. -/
namespace Go.Proofs.YthhlhiighgnkmaaGreatDoor
set_option linter.unusedVariables false
set_option linter.unusedSimpArgs false
open Go.RowKit Go.PlainAid
open Ieee
set_option exponentiation.threshold 5000
/-- ten to the i, as a double -/
def P10 (i : Nat) : Nat := Nr.round false (10 ^ i) 0 false
def okT (i : Nat) : Bool := Nat.blt (P10 i) (2047 * 2 ^ 52) && Nat.blt 0 (Nr.mag (P10 i)) && (Nr.mag (P10 i) * 2 ^ (Nr.plc (P10 i) + 1074).toNat == 10 ^ i * 2 ^ 1074)
set_option maxRecDepth 100000 in
theorem okT_all : Nr.allP okT 23 0 = true := by decide +kernel
theorem is_ten {i : Nat} (h : i < 23) : Nr.Is (P10 i) (10 ^ i * 2 ^ 1074) := by
  have := Nr.allP_at okT_all i (by omega) (by omega)
  unfold okT at this
  rw [Bool.and_eq_true, Bool.and_eq_true, Nat.blt_eq, Nat.blt_eq, beq_iff_eq] at this
  exact ⟨this.1.1, this.1.2, this.2⟩
/-- what reading needs of the library's variables -/
structure PowF (w : World) (a o : Nat) (cap : Nat) : Prop where
  info : w.cell? ⟨14, 0, none⟩ = some (.int .u64 52)
  opt : w.cell? ⟨4, 0, none⟩ = some (.bool true)
  pow : w.cell? ⟨17, 0, none⟩ = some (.slice (some ⟨a, o, none⟩) 23 cap)
  ten : ∀ i, i < 23 → w.cell? ⟨a, o + i, none⟩ = some (.float .f64 (P10 i))
  lo : a < w.heap.size
  hi : 18 ≤ w.heap.size
theorem PowF.stay {w w' : World} {a o : Nat} {cap : Nat} (h : PowF w a o cap) (hb : Below w.heap.size w w') : PowF w' a o cap := by
  have hh := h.hi
  exact ⟨(hb.cell (p := ⟨14, 0, none⟩) (show 14 < _ by omega)).trans h.info, (hb.cell (p := ⟨4, 0, none⟩) (show 4 < _ by omega)).trans h.opt, (hb.cell (p := ⟨17, 0, none⟩) (show 17 < _ by omega)).trans h.pow, fun i hi => (hb.cell (p := ⟨a, o + i, none⟩) h.lo).trans (h.ten i hi), Nat.lt_of_lt_of_le h.lo hb.size, Nat.le_trans hh hb.size⟩
theorem rnd_le (N D : Nat) : Nr.rndN N D ≤ 2047 * 2 ^ 52 := Nat.min_le_right _ _
theorem some_of {x : Option Nat} {r : Nat} (h : x.getD Nr.nan = r) (hr : r ≤ 2047 * 2 ^ 52) : x = some r := by
  cases x with
  | none => rw [Option.getD_none] at h; rw [← h] at hr; exact absurd hr (by decide)
  | some y => rw [Option.getD_some] at h; rw [h]
theorem mul_run {x y u v : Nat} (hx : Nr.Is x (u * 2 ^ 1074)) (hy : Nr.Is y (v * 2 ^ 1074)) : ∀ t w, (binOp .mul t (.float .f64 x) (.float .f64 y)).run Tryz.prog w = .ok (.float .f64 (Nr.rndN (u * v * 2 ^ 1074) 1)) w := by
  have h := Nr.dMul_eq x y (Nat.lt_trans hx.lt (by decide)) (Nat.lt_trans hy.lt (by decide))
  rw [Nr.mul_word hx hy] at h
  have h2 : floatBits .mul .f64 x y = some (Nr.rndN (u * v * 2 ^ 1074) 1) := some_of h.symm (rnd_le _ _)
  exact fun t w => run_float_arith w .mul t .f64 _ _ _ h2
theorem div_run {x y u v : Nat} (hx : Nr.Is x (u * 2 ^ 1074)) (hy : Nr.Is y (v * 2 ^ 1074)) (hv : 0 < v) : ∀ t w, (binOp .quo t (.float .f64 x) (.float .f64 y)).run Tryz.prog w = .ok (.float .f64 (Nr.rndN (u * 2 ^ 1074) v)) w := by
  have h := Nr.dDiv_eq x y (Nat.lt_trans hx.lt (by decide)) (Nat.lt_trans hy.lt (by decide))
  rw [Nr.div_word hx hy hv] at h
  have h2 : floatBits .quo .f64 x y = some (Nr.rndN (u * 2 ^ 1074) v) := some_of h.symm (rnd_le _ _)
  exact fun t w => run_float_arith w .quo t .f64 _ _ _ h2
theorem int_word (d : Nat) : floatOfInt .f64 (d : Int) = Nr.round false d 0 false := by
  rw [Nr.round_eq]
  show Format.nearest double (decide ((d : Int) < 0)) (d : Int).natAbs 0 = _
  rw [decide_eq_false (by omega), Int.natAbs_natCast]
/-- what is 2^53 or more is above 10^15 -/
theorem far_big {n : Nat} (h : 2 ^ 53 ≤ n) : (FloatKind.f64.format.order (Nr.rndN (n * 2 ^ 1074) 1) 4831355200913801216 == some .gt) = true := by
  have h1 : 2 ^ (53 + 1074) ≤ n * 2 ^ 1074 := by rw [Nat.pow_add]; exact Nat.mul_le_mul_right _ h
  have h2 := Nr.nb_ge h1
  have h3 : 1075 * 2 ^ 52 ≤ Nr.rndN (n * 2 ^ 1074) 1 := by
    unfold Nr.rndN
    rw [Nat.le_min]
    refine ⟨?_, by decide⟩
    have : 1075 ≤ Nr.shN (n * 2 ^ 1074) 1 := by unfold Nr.shN; rw [Nat.div_one]; omega
    exact Nat.le_trans (Nat.mul_le_mul_right _ this) (Nat.le_add_right _ _)
  have h4 := rnd_le (n * 2 ^ 1074) 1
  generalize Nr.rndN (n * 2 ^ 1074) 1 = R at *
  clear h1 h2 h
  have n1 : Nr.isNaN R = false := by unfold Nr.isNaN Nr.inf; exact decide_eq_false (by omega)
  have n2 : Nr.isNaN 4831355200913801216 = false := by decide
  have ho : FloatKind.f64.format.order R 4831355200913801216 = some (compare (Nr.key R) (Nr.key 4831355200913801216)) := Nr.order_eq (by omega) (by decide) n1 n2
  rw [ho]
  have hk : Nr.key R = (R : Int) := by
    unfold Nr.key Nr.sg Nr.neg
    rw [decide_eq_false (show ¬ 2 ^ 63 ≤ R by omega), if_neg (by decide)]
    omega
  have hk2 : Nr.key 4831355200913801216 = 4831355200913801216 := by decide
  rw [hk, hk2, Int.compare_eq_gt.2 (by omega)]
  rfl
def ExactPost (R : Nat) (w : World) (e : Ending) (w' : World) : Prop := ∃ f ok, e = .returned (.tuple #[.float .f64 f, .bool ok]) ∧ (ok = true → f = R) ∧ w' = w
set_option maxRecDepth 100000 in
set_option maxHeartbeats 2000000 in
theorem exact_big (d : Nat) (p : Int) (R : Nat) (hd : 2 ^ 52 ≤ d) (hd64 : d < 2 ^ 64) (a o cap : Nat) (w : World) (T : PowF w a o cap) :
    Calls Tryz.prog 253 #[.int .u64 (d : Int), .int .i64 p, .bool false] w (ExactPost R w) := by
  have c1 := T.info
  have t1 : ((d : Int) / 4503599627370496 != 0) = true := by rw [bne_iff_ne]; omega
  clear T hd hd64
  go_enter Tryz.func253, Tryz.ntmps253
  go_wp2
  go_returns
  exact ⟨_, _, rfl, (fun h => absurd h (by decide)), rfl⟩
set_option maxRecDepth 100000 in
theorem exact_zero (d : Nat) (hd0 : 1 ≤ d) (hd : d < 2 ^ 52) (a o cap : Nat) (w : World) (T : PowF w a o cap) :
    Calls Tryz.prog 253 #[.int .u64 (d : Int), .int .i64 0, .bool false] w (ExactPost (Nr.rndN (Nr.decN d 0) (Nr.decD 0)) w) := by
  have c1 := T.info
  have c2 := T.pow
  have c3 := T.ten
  have hF := Nr.is_int d hd0 (Nat.lt_of_lt_of_le hd (by decide))
  have hf := int_word d
  have t1 : ((d : Int) / 4503599627370496 != 0) = false := by rw [bne_eq_false_iff_eq]; omega
  have hd1 : d ≠ 0 := by omega
  have hR : Nr.rndN (Nr.decN d 0) (Nr.decD 0) = Nr.round false d 0 false := by
    have := Nr.dec_up d 0 hd1
    rw [Nat.pow_zero, Nat.mul_one] at this; exact this.symm
  rw [hR]
  obtain ⟨F, hFF⟩ : ∃ F, Nr.round false d 0 false = F := ⟨_, rfl⟩
  rw [hFF] at hf ⊢
  clear T hF hFF hR hd hd0 hd1 c2 c3
  go_enter Tryz.func253, Tryz.ntmps253
  go_wp2
  go_returns
  exact ⟨_, _, rfl, fun _ => rfl, rfl⟩
set_option maxRecDepth 100000 in
theorem exact_neg (d k : Nat) (hd0 : 1 ≤ d) (hd : d < 2 ^ 52) (hk1 : 1 ≤ k) (hk : k ≤ 22) (a o cap : Nat) (w : World) (T : PowF w a o cap) :
    Calls Tryz.prog 253 #[.int .u64 (d : Int), .int .i64 (-(k : Int)), .bool false] w (ExactPost (Nr.rndN (Nr.decN d (-(k : Int))) (Nr.decD (-(k : Int)))) w) := by
  have c1 := T.info
  have c2 := T.pow
  have c3 := T.ten
  have hF := Nr.is_int d hd0 (Nat.lt_of_lt_of_le hd (by decide))
  have hf := int_word d
  have t1 : ((d : Int) / 4503599627370496 != 0) = false := by rw [bne_eq_false_iff_eq]; omega
  have hd1 : d ≠ 0 := by omega
  have hq := div_run hF (is_ten (i := k) (by omega)) (Nat.pow_pos (by decide))
  have hR : Nr.rndN (d * 2 ^ 1074) (10 ^ k) = Nr.rndN (Nr.decN d (-(k : Int))) (Nr.decD (-(k : Int))) := by
    unfold Nr.decN Nr.decD
    rw [show (-(k : Int)).toNat = 0 by omega, Nat.pow_zero, Nat.mul_one, show (-(-(k : Int))).toNat = k by omega]
  rw [hR] at hq
  have ck := c3 k (by omega)
  obtain ⟨F, hFF⟩ : ∃ F, Nr.round false d 0 false = F := ⟨_, rfl⟩
  rw [hFF] at hf hq
  obtain ⟨G, hG⟩ : ∃ G, P10 k = G := ⟨_, rfl⟩
  rw [hG] at hq ck
  obtain ⟨R, hRR⟩ : ∃ R, Nr.rndN (Nr.decN d (-(k : Int))) (Nr.decD (-(k : Int))) = R := ⟨_, rfl⟩
  rw [hRR] at hq ⊢
  have d1 : ((-(k : Int)) == 0) = false := by rw [beq_eq_false_iff_ne]; omega
  have d2 : decide ((0 : Int) < -(k : Int)) = false := decide_eq_false (by omega)
  have d3 : decide (-(k : Int) < 0) = true := decide_eq_true (by omega)
  have d4 : decide ((-22 : Int) ≤ -(k : Int)) = true := decide_eq_true (by omega)
  have e1 : IntKind.i64.wrap (-(-(k : Int))) = (k : Int) := by rw [IntKind.wrap_i64]; omega
  have e1b : IntKind.i64.wrap (k : Int) = (k : Int) := by rw [IntKind.wrap_i64]; omega
  have k3 : k < 23 := by omega
  have k3I : (k : Int) < 23 := by omega
  have d5 : decide (0 < k) = true := decide_eq_true (by omega)
  have d6 : decide (k ≤ 22) = true := decide_eq_true (by omega)
  have d7 : decide ((k : Int) = 0) = false := decide_eq_false (by omega)
  have d8 : decide (k = 0) = false := decide_eq_false (by omega)
  have d9 : (k == 0) = false := by rw [beq_eq_false_iff_ne]; omega
  clear T hF hFF hR hRR hG hd hd0 hd1 c3 hk1 hk
  go_enter Tryz.func253, Tryz.ntmps253
  go_wp2
  go_returns
  exact ⟨_, _, rfl, fun _ => rfl, rfl⟩
set_option maxRecDepth 100000 in
set_option maxHeartbeats 1000000 in
theorem exact_pos (d k : Nat) (hd0 : 1 ≤ d) (hd : d < 2 ^ 52) (hk1 : 1 ≤ k) (hk : k ≤ 22) (a o cap : Nat) (w : World) (T : PowF w a o cap) :
    Calls Tryz.prog 253 #[.int .u64 (d : Int), .int .i64 (k : Int), .bool false] w (ExactPost (Nr.rndN (Nr.decN d (k : Int)) (Nr.decD (k : Int))) w) := by
  have c1 := T.info
  have c2 := T.pow
  have c3 := T.ten
  have hF := Nr.is_int d hd0 (Nat.lt_of_lt_of_le hd (by decide))
  have hf := int_word d
  have t1 : ((d : Int) / 4503599627370496 != 0) = false := by rw [bne_eq_false_iff_eq]; omega
  have hd1 : d ≠ 0 := by omega
  have hq := mul_run hF (is_ten (i := k) (by omega))
  have hR : Nr.rndN (d * 10 ^ k * 2 ^ 1074) 1 = Nr.rndN (Nr.decN d (k : Int)) (Nr.decD (k : Int)) := by
    unfold Nr.decN Nr.decD
    rw [Int.toNat_natCast, show (-(k : Int)).toNat = 0 by omega, Nat.pow_zero]
  rw [hR] at hq
  have ck := c3 k (by omega)
  obtain ⟨F, hFF⟩ : ∃ F, Nr.round false d 0 false = F := ⟨_, rfl⟩
  rw [hFF] at hf hq
  obtain ⟨G, hG⟩ : ∃ G, P10 k = G := ⟨_, rfl⟩
  rw [hG] at hq ck
  obtain ⟨R, hRR⟩ : ∃ R, Nr.rndN (Nr.decN d (k : Int)) (Nr.decD (k : Int)) = R := ⟨_, rfl⟩
  rw [hRR] at hq ⊢
  have d1 : ((k : Int) == 0) = false := by rw [beq_eq_false_iff_ne]; omega
  have d2 : decide ((0 : Int) < (k : Int)) = true := decide_eq_true (by omega)
  have d3 : decide ((k : Int) ≤ 37) = true := decide_eq_true (by omega)
  have d4 : decide ((22 : Int) < (k : Int)) = false := decide_eq_false (by omega)
  have k3 : k < 23 := by omega
  have k3I : (k : Int) < 23 := by omega
  have d5 : decide (0 < k) = true := decide_eq_true (by omega)
  have d6 : decide (k ≤ 37) = true := decide_eq_true (by omega)
  have d7 : decide (22 < k) = false := decide_eq_false (by omega)
  have d8 : decide (k = 0) = false := decide_eq_false (by omega)
  have d9 : (k == 0) = false := by rw [beq_eq_false_iff_ne]; omega
  obtain ⟨b, hb⟩ : ∃ b, (FloatKind.f64.format.order F 4831355200913801216 == some .gt) = b := ⟨_, rfl⟩
  obtain ⟨c, hc⟩ : ∃ c, (FloatKind.f64.format.order F 14054727237768577024 == some .lt) = c := ⟨_, rfl⟩
  clear T hF hFF hR hRR hG hd hd0 hd1 c3 hk1 hk
  cases b
  · cases c
    · go_enter Tryz.func253, Tryz.ntmps253
      go_wp2
      go_returns
      exact ⟨_, _, rfl, fun _ => rfl, rfl⟩
    · go_enter Tryz.func253, Tryz.ntmps253
      go_wp2
      go_returns
      exact ⟨_, _, rfl, (fun h => absurd h (by decide)), rfl⟩
  · go_enter Tryz.func253, Tryz.ntmps253
    go_wp2
    go_returns
    exact ⟨_, _, rfl, (fun h => absurd h (by decide)), rfl⟩
set_option maxRecDepth 100000 in
set_option maxHeartbeats 1000000 in
theorem exact_far (d j : Nat) (hd0 : 1 ≤ d) (hd : d < 2 ^ 52) (hj1 : 1 ≤ j) (hj : j ≤ 15) (a o cap : Nat) (w : World) (T : PowF w a o cap) :
    Calls Tryz.prog 253 #[.int .u64 (d : Int), .int .i64 ((j + 22 : Nat) : Int), .bool false] w (ExactPost (Nr.rndN (Nr.decN d ((j + 22 : Nat) : Int)) (Nr.decD ((j + 22 : Nat) : Int))) w) := by
  have c1 := T.info
  have c2 := T.pow
  have c3 := T.ten
  have hF := Nr.is_int d hd0 (Nat.lt_of_lt_of_le hd (by decide))
  have hf := int_word d
  have t1 : ((d : Int) / 4503599627370496 != 0) = false := by rw [bne_eq_false_iff_eq]; omega
  have hd1 : d ≠ 0 := by omega
  have hq := mul_run hF (is_ten (i := j) (by omega))
  have ck := c3 j (by omega)
  have c22 := c3 22 (by decide)
  obtain ⟨F, hFF⟩ : ∃ F, Nr.round false d 0 false = F := ⟨_, rfl⟩
  rw [hFF] at hf hq
  obtain ⟨G, hG⟩ : ∃ G, P10 j = G := ⟨_, rfl⟩
  rw [hG] at hq ck
  have hbig : (FloatKind.f64.format.order (Nr.rndN (d * 10 ^ j * 2 ^ 1074) 1) 4831355200913801216 == some .gt) = false → ∀ t w, (binOp .mul t (.float .f64 (Nr.rndN (d * 10 ^ j * 2 ^ 1074) 1)) (.float .f64 (P10 22))).run Tryz.prog w = .ok (.float .f64 (Nr.rndN (Nr.decN d ((j + 22 : Nat) : Int)) (Nr.decD ((j + 22 : Nat) : Int)))) w := by
    intro hb
    have hlt : d * 10 ^ j < 2 ^ 53 := by
      apply Classical.byContradiction
      intro h
      rw [far_big (by omega)] at hb
      cases hb
    have hpos : 1 ≤ d * 10 ^ j := Nat.mul_pos hd0 (Nat.pow_pos (by decide))
    have hF1 := Nr.is_int (d * 10 ^ j) hpos hlt
    rw [Nr.rung_rnd _ (by omega)] at hF1
    have h2 := mul_run hF1 (is_ten (i := 22) (by decide))
    have hR : Nr.rndN (d * 10 ^ j * 10 ^ 22 * 2 ^ 1074) 1 = Nr.rndN (Nr.decN d ((j + 22 : Nat) : Int)) (Nr.decD ((j + 22 : Nat) : Int)) := by
      unfold Nr.decN Nr.decD
      rw [Int.toNat_natCast, show (-((j + 22 : Nat) : Int)).toNat = 0 by omega, Nat.pow_zero, Nat.pow_add, ← Nat.mul_assoc d]
    rw [hR] at h2
    exact h2
  obtain ⟨F1, hF1⟩ : ∃ F1, Nr.rndN (d * 10 ^ j * 2 ^ 1074) 1 = F1 := ⟨_, rfl⟩
  rw [hF1] at hq hbig
  obtain ⟨G2, hG2⟩ : ∃ G, P10 22 = G := ⟨_, rfl⟩
  rw [hG2] at c22 hbig
  obtain ⟨R, hRR⟩ : ∃ R, Nr.rndN (Nr.decN d ((j + 22 : Nat) : Int)) (Nr.decD ((j + 22 : Nat) : Int)) = R := ⟨_, rfl⟩
  rw [hRR] at hbig ⊢
  obtain ⟨k, hk⟩ : ∃ k, j + 22 = k := ⟨_, rfl⟩
  rw [hk]
  have d1 : ((k : Int) == 0) = false := by rw [beq_eq_false_iff_ne]; omega
  have d2 : decide ((0 : Int) < (k : Int)) = true := decide_eq_true (by omega)
  have d3 : decide ((k : Int) ≤ 37) = true := decide_eq_true (by omega)
  have d4 : decide ((22 : Int) < (k : Int)) = true := decide_eq_true (by omega)
  have e1 : IntKind.i64.wrap ((k : Int) - 22) = (j : Int) := by rw [IntKind.wrap_i64]; omega
  have k3 : j < 23 := by omega
  have k3I : (j : Int) < 23 := by omega
  have d5 : decide (0 < k) = true := decide_eq_true (by omega)
  have d6 : decide (k ≤ 37) = true := decide_eq_true (by omega)
  have d7 : decide (22 < k) = true := decide_eq_true (by omega)
  have d8 : decide (k = 0) = false := decide_eq_false (by omega)
  have d9 : (k == 0) = false := by rw [beq_eq_false_iff_ne]; omega
  obtain ⟨b, hb⟩ : ∃ b, (FloatKind.f64.format.order F1 4831355200913801216 == some .gt) = b := ⟨_, rfl⟩
  obtain ⟨c, hc⟩ : ∃ c, (FloatKind.f64.format.order F1 14054727237768577024 == some .lt) = c := ⟨_, rfl⟩
  clear T hF hFF hG hd hd0 hd1 c3 hj1 hj hF1 hG2 hRR hk
  cases b
  · have hq2 := hbig hb
    clear hbig
    cases c
    · go_enter Tryz.func253, Tryz.ntmps253
      go_wp2
      go_returns
      exact ⟨_, _, rfl, fun _ => rfl, rfl⟩
    · go_enter Tryz.func253, Tryz.ntmps253
      go_wp2
      go_returns
      exact ⟨_, _, rfl, (fun h => absurd h (by decide)), rfl⟩
  · clear hbig
    go_enter Tryz.func253, Tryz.ntmps253
    go_wp2
    go_returns
    exact ⟨_, _, rfl, (fun h => absurd h (by decide)), rfl⟩
set_option maxRecDepth 100000 in
theorem exact_out (d : Nat) (p : Int) (R : Nat) (hd0 : 1 ≤ d) (hd : d < 2 ^ 52) (hp : 37 < p ∨ p < -22) (a o cap : Nat) (w : World) (T : PowF w a o cap) :
    Calls Tryz.prog 253 #[.int .u64 (d : Int), .int .i64 p, .bool false] w (ExactPost R w) := by
  have c1 := T.info
  have c2 := T.pow
  have c3 := T.ten
  have hF := Nr.is_int d hd0 (Nat.lt_of_lt_of_le hd (by decide))
  have hf := int_word d
  have t1 : ((d : Int) / 4503599627370496 != 0) = false := by rw [bne_eq_false_iff_eq]; omega
  have hd1 : d ≠ 0 := by omega
  obtain ⟨F, hFF⟩ : ∃ F, Nr.round false d 0 false = F := ⟨_, rfl⟩
  rw [hFF] at hf
  have d1 : (p == 0) = false := by rw [beq_eq_false_iff_ne]; omega
  clear T hF hFF hd hd0 hd1 c2 c3
  rcases hp with hp | hp
  · have d2 : decide ((0 : Int) < p) = true := decide_eq_true (by omega)
    have d3 : decide (p ≤ 37) = false := decide_eq_false (by omega)
    have d4 : decide (p < 0) = false := decide_eq_false (by omega)
    clear hp
    go_enter Tryz.func253, Tryz.ntmps253
    go_wp2
    go_returns
    exact ⟨_, _, rfl, (fun h => absurd h (by decide)), rfl⟩
  · have d2 : decide ((0 : Int) < p) = false := decide_eq_false (by omega)
    have d3 : decide (p < 0) = true := decide_eq_true (by omega)
    have d4 : decide (-22 ≤ p) = false := decide_eq_false (by omega)
    clear hp
    go_enter Tryz.func253, Tryz.ntmps253
    go_wp2
    go_returns
    exact ⟨_, _, rfl, (fun h => absurd h (by decide)), rfl⟩
theorem exact_any (d : Nat) (p : Int) (hd0 : 1 ≤ d) (hd64 : d < 2 ^ 64) (a o cap : Nat) (w : World) (T : PowF w a o cap) :
    Calls Tryz.prog 253 #[.int .u64 (d : Int), .int .i64 p, .bool false] w (ExactPost (Nr.rndN (Nr.decN d p) (Nr.decD p)) w) := by
  by_cases hd : 2 ^ 52 ≤ d
  · exact exact_big d p _ hd hd64 a o cap w T
  · by_cases h0 : p = 0
    · subst h0; exact exact_zero d hd0 (by omega) a o cap w T
    · by_cases hp : 0 < p
      · by_cases h37 : 37 < p
        · exact exact_out d p _ hd0 (by omega) (.inl h37) a o cap w T
        · obtain ⟨k, rfl⟩ : ∃ k : Nat, p = (k : Int) := ⟨p.toNat, by omega⟩
          by_cases h22 : k ≤ 22
          · exact exact_pos d k hd0 (by omega) (by omega) h22 a o cap w T
          · obtain ⟨j, rfl⟩ : ∃ j, k = j + 22 := ⟨k - 22, by omega⟩
            exact exact_far d j hd0 (by omega) (by omega) (by omega) a o cap w T
      · by_cases h22 : p < -22
        · exact exact_out d p _ hd0 (by omega) (.inr h22) a o cap w T
        · obtain ⟨k, hk⟩ : ∃ k : Nat, p = -(k : Int) := ⟨(-p).toNat, by omega⟩
          subst hk
          exact exact_neg d k hd0 (by omega) (by omega) (by omega) a o cap w T
end Go.Proofs.YthhlhiighgnkmaaGreatDoor
