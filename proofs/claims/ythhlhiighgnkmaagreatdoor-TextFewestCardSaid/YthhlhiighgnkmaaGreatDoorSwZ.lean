/-
  SwA, SwB, SwC, SwD, SwE, MaK, SwF, SwG, put together (a claim holds at most 60 files).
-/
import Derived.Test.YthhlhiighgnkmaaGreatDoorShZ
import Derived.Test.YthhlhiighgnkmaaGreatDoorMaW
import Derived.Laws.BitsLemmas
import Derived.Lib.BitFns
import Derived.Lib.Itoa
/-! ## WALKS: what Go's printing reckons: logarithms, unrounded numbers. -/
namespace Go.Proofs.YthhlhiighgnkmaaGreatDoor
set_option linter.unusedVariables false
set_option linter.unusedSimpArgs false
open Go.RowKit Go.PlainAid
theorem log10_any (x : Int) (h1 : -100000 ≤ x) (h2 : x ≤ 100000) (w : World) : Calls Tryz.prog 177 #[.int .i64 x] w fun e w' => e = .returned (.int .i64 (x * 78913 / 262144)) ∧ w' = w := by
  go_enter Tryz.func177, Tryz.ntmps177
  go_wp2
  go_ret
  exact ⟨rfl, rfl⟩
theorem floor_any (u : Nat) (hu : u < 2 ^ 62) (w : World) : Calls Tryz.prog 225 #[.int .u64 (u : Int)] w fun e w' => e = .returned (.int .u64 ((u / 4 : Nat) : Int)) ∧ w' = w := by
  go_enter Tryz.func225, Tryz.ntmps225
  go_wp2
  go_ret
  exact ⟨rfl, rfl⟩
theorem log2_any (x : Int) (h1 : -100000 ≤ x) (h2 : x ≤ 100000) (w : World) : Calls Tryz.prog 221 #[.int .i64 x] w fun e w' => e = .returned (.int .i64 (x * 108853 / 32768)) ∧ w' = w := by
  go_enter Tryz.func221, Tryz.ntmps221
  go_wp2
  go_ret
  exact ⟨rfl, rfl⟩
theorem skewed_any (x : Int) (h1 : -100000 ≤ x) (h2 : x ≤ 100000) (w : World) : Calls Tryz.prog 219 #[.int .i64 x] w fun e w' => e = .returned (.int .i64 ((x * 631305 - 261663) / 2097152)) ∧ w' = w := by
  go_enter Tryz.func219, Tryz.ntmps219
  go_wp2
  go_ret
  exact ⟨rfl, rfl⟩
theorem ceil_any (u : Nat) (hu : u < 2 ^ 62) (w : World) : Calls Tryz.prog 224 #[.int .u64 (u : Int)] w fun e w' => e = .returned (.int .u64 (((u + 3) / 4 : Nat) : Int)) ∧ w' = w := by
  go_enter Tryz.func224, Tryz.ntmps224
  go_wp2
  go_ret
  exact ⟨rfl, rfl⟩
theorem nudge_up (u : Nat) (hu : u < 2 ^ 62) (w : World) : Calls Tryz.prog 223 #[.int .u64 (u : Int), .int .i64 1] w fun e w' => e = .returned (.int .u64 ((u + 1 : Nat) : Int)) ∧ w' = w := by
  have e0 : IntKind.u64.wrap 1 = 1 := by decide
  go_enter Tryz.func223, Tryz.ntmps223
  go_wp2
  go_ret
  exact ⟨rfl, rfl⟩
theorem nudge_down (u : Nat) (h0 : 1 ≤ u) (hu : u < 2 ^ 62) (w : World) : Calls Tryz.prog 223 #[.int .u64 (u : Int), .int .i64 (-1)] w fun e w' => e = .returned (.int .u64 ((u - 1 : Nat) : Int)) ∧ w' = w := by
  have e0 : IntKind.u64.wrap (-1) = 18446744073709551615 := by decide
  have e2 : IntKind.u64.wrap ((u : Int) + 18446744073709551615) = ((u - 1 : Nat) : Int) := by rw [IntKind.wrap_u64]; omega
  clear hu h0
  go_enter Tryz.func223, Tryz.ntmps223
  go_wp2
  go_ret
  exact ⟨rfl, rfl⟩
theorem near_any (u : Nat) (hu : u < 2 ^ 62) (w : World) : Calls Tryz.prog 226 #[.int .u64 (u : Int)] w fun e w' => e = .returned (.int .u64 (((u + 1 + u / 4 % 2) / 4 : Nat) : Int)) ∧ w' = w := by
  have hb : bits .and .u64 ((u : Int) / 4) 1 = ((u / 4 % 2 : Nat) : Int) := by
    rw [show (u : Int) / 4 = ((u / 4 : Nat) : Int) from rfl, show (1 : Int) = ((1 : Nat) : Int) from rfl, u64_and_nat _ _ (by omega) (by omega), Nat.and_one_is_mod]
  go_enter Tryz.func226, Tryz.ntmps226
  go_wp2
  trace_state
  go_ret
  exact ⟨rfl, rfl⟩
end Go.Proofs.YthhlhiighgnkmaaGreatDoor
/-! ## WALKS: Go's scaling, of any number. -/
namespace Go.Proofs.YthhlhiighgnkmaaGreatDoor
set_option linter.unusedVariables false
set_option linter.unusedSimpArgs false
open Go.RowKit Go.PlainAid
/-- a scaler -/
def Sc (w : World) (P : Nat) (hi lo s : Nat) : Prop := w.heap[P]? = some (.cells #[.int .u64 (hi : Int), .int .u64 (lo : Int), .int .i64 (s : Int)] 255 (0, 0))
theorem Sc.c0 {w : World} {P hi lo s : Nat} (h : Sc w P hi lo s) : w.cell? ⟨P, 0, none⟩ = some (.int .u64 (hi : Int)) := by rw [cell_of_row _ _ _ _ _ _ h]; rfl
theorem Sc.c1 {w : World} {P hi lo s : Nat} (h : Sc w P hi lo s) : w.cell? ⟨P, 1, none⟩ = some (.int .u64 (lo : Int)) := by rw [cell_of_row _ _ _ _ _ _ h]; rfl
theorem Sc.c2 {w : World} {P hi lo s : Nat} (h : Sc w P hi lo s) : w.cell? ⟨P, 2, none⟩ = some (.int .i64 (s : Int)) := by rw [cell_of_row _ _ _ _ _ _ h]; rfl
theorem or_flag (q : Nat) (b : Nat) (hq : q < 2 ^ 64) (hb : b ≤ 1) : bits .or .u64 (q : Int) (b : Int) = ((q ||| b : Nat) : Int) := by
  exact u64_or_nat _ _ hq (by omega)
theorem bool2_any (b : Bool) (w : World) : Calls Tryz.prog 238 #[.bool b] w fun e w' => e = .returned (.int .u64 ((b.toNat : Nat) : Int)) ∧ w' = w := by
  cases b
  · go_enter Tryz.func238, Tryz.ntmps238
    go_wp2
    go_ret
    exact ⟨rfl, rfl⟩
  · go_enter Tryz.func238, Tryz.ntmps238
    go_wp2
    go_ret
    exact ⟨rfl, rfl⟩
theorem bool2u_any (b : Bool) (w : World) : Calls Tryz.prog 237 #[.bool b] w fun e w' => e = .returned (.int .u64 ((b.toNat : Nat) : Int)) ∧ w' = w := by
  cases b
  · go_enter Tryz.func237, Tryz.ntmps237
    go_wp2
    go_ret
    exact ⟨rfl, rfl⟩
  · go_enter Tryz.func237, Tryz.ntmps237
    go_wp2
    go_ret
    exact ⟨rfl, rfl⟩
set_option maxRecDepth 100000 in
set_option maxHeartbeats 1000000 in
theorem uscale_any (P x hi lo s : Nat) (w : World) (H : Sc w P hi lo s) (hx : x < 2 ^ 64) (hhi : hi < 2 ^ 64) (hlo : lo < 2 ^ 64) (hs : s < 64) (hle : lo ≤ hi * 2 ^ 64) :
    Calls Tryz.prog 222 #[.int .u64 (x : Int), .pointer (some ⟨P, 0, none⟩)] w fun e w' => e = .returned (.int .u64 ((Nr.codeU x hi lo s : Nat) : Int)) ∧ ∃ n, w' = w.drewN n := by
  have c0 := H.c0
  have c1 := H.c1
  have c2 := H.c2
  have CM := Lib.hid (fun w => Tryz.bits_Mul64 x hi hx hhi w)
  have CL := Lib.hid (fun w => Tryz.bits_Mul64 x lo hx hlo w)
  have hb8 : bits .and .i64 (s : Int) 63 = (s : Int) := by
    have : ∀ s : Fin 64, bits .and .i64 (s.val : Int) 63 = (s.val : Int) := by decide +kernel
    exact this ⟨s, hs⟩
  have eh := Nat.div_add_mod (x * hi) (2 ^ 64)
  have el := Nat.div_add_mod (x * lo) (2 ^ 64)
  have mh := Nat.mod_lt (x * hi) (show 0 < 2 ^ 64 by decide)
  have ml := Nat.mod_lt (x * lo) (show 0 < 2 ^ 64 by decide)
  have bh : x * hi ≤ (2 ^ 64 - 1) * (2 ^ 64 - 1) := Nat.mul_le_mul (by omega) (by omega)
  have bl : x * lo ≤ (2 ^ 64 - 1) * (2 ^ 64 - 1) := Nat.mul_le_mul (by omega) (by omega)
  have hge : x * lo ≤ x * hi * 2 ^ 64 := by rw [Nat.mul_assoc]; exact Nat.mul_le_mul_left x hle
  obtain ⟨R, hR⟩ : ∃ R, Nr.codeU x hi lo s = R := ⟨_, rfl⟩
  have HR := Lib.hid hR
  rw [hR]
  unfold Nr.codeU at hR
  clear H hR
  simp only [show (2 : Nat) ^ 64 = 18446744073709551616 from rfl] at eh el mh ml
  obtain ⟨h, hh⟩ : ∃ h, x * hi / 18446744073709551616 = h := ⟨_, rfl⟩
  obtain ⟨mid, hmid⟩ : ∃ h, x * hi % 18446744073709551616 = h := ⟨_, rfl⟩
  obtain ⟨mid2, hmid2⟩ : ∃ h, x * lo / 18446744073709551616 = h := ⟨_, rfl⟩
  obtain ⟨low, hlow⟩ : ∃ h, x * lo % 18446744073709551616 = h := ⟨_, rfl⟩
  rw [hh, hmid] at CM eh
  rw [hmid] at mh
  rw [hmid2, hlow] at CL el
  rw [hlow] at ml
  have hU : (if h % 2 ^ s ≠ 0 then h / 2 ^ s ||| 1 else (h - (if mid < mid2 then 1 else 0)) / 2 ^ s ||| (if 1 < (2 ^ 64 + mid - mid2) % 2 ^ 64 then 1 else 0)) = R := by
    have := HR.out
    unfold Nr.codeU at this
    simp only [show (2 : Nat) ^ 64 = 18446744073709551616 from rfl] at this ⊢
    rw [hh, hmid, hmid2] at this
    exact this
  clear HR
  have hp : 0 < 2 ^ s := Nat.two_pow_pos s
  have hsh : (h : Int) / 2 ^ s = ((h / 2 ^ s : Nat) : Int) := by
    rw [Int.natCast_ediv]; congr 1
  have hq : h / 2 ^ s * 2 ^ s ≤ h := Nat.div_mul_le_self h _
  have hsl : IntKind.u64.wrap (((h / 2 ^ s : Nat) : Int) * 2 ^ s) = ((h / 2 ^ s * 2 ^ s : Nat) : Int) := by
    have : (((h / 2 ^ s : Nat) : Int) * 2 ^ s) = ((h / 2 ^ s * 2 ^ s : Nat) : Int) := by
      rw [Int.natCast_mul]; congr 1
    rw [this, IntKind.wrap_u64]; omega
  have hq64 : h / 2 ^ s ≤ h := Nat.div_le_self h _
  have edm := Nat.div_add_mod h (2 ^ s)
  rw [Nat.mul_comm] at edm
  by_cases hz : h % 2 ^ s = 0
  · rw [if_neg (by omega)] at hU
    have ht : (((h / 2 ^ s * 2 ^ s : Nat) : Int) != (h : Int)) = false := by
      have : h / 2 ^ s * 2 ^ s = h := by omega
      rw [this, bne_self_eq_false]
    have CB := Lib.hid bool2u_any
    obtain ⟨b, hbb⟩ : ∃ b, decide (mid < mid2) = b := ⟨_, rfl⟩
    have hb1 : (if mid < mid2 then 1 else 0) = b.toNat := by rw [← hbb]; by_cases h : mid < mid2 <;> simp [h]
    have hble : b.toNat ≤ h := by
      rw [← hb1]
      split
      · omega
      · omega
    rw [hb1] at hU
    obtain ⟨h2, hh2⟩ : ∃ h2, h - b.toNat = h2 := ⟨_, rfl⟩
    have hs1 : IntKind.u64.wrap ((h : Int) - ((b.toNat : Nat) : Int)) = (h2 : Int) := by rw [IntKind.wrap_u64]; omega
    rw [hh2] at hU
    have hsh2 : (h2 : Int) / 2 ^ s = ((h2 / 2 ^ s : Nat) : Int) := by rw [Int.natCast_ediv]; congr 1
    have hq2 : h2 / 2 ^ s ≤ h2 := Nat.div_le_self h2 _
    obtain ⟨d, hd⟩ : ∃ d, (2 ^ 64 + mid - mid2) % 2 ^ 64 = d := ⟨_, rfl⟩
    have hs2 : IntKind.u64.wrap ((mid : Int) - (mid2 : Int)) = (d : Int) := by rw [IntKind.wrap_u64]; omega
    obtain ⟨b2, hbb2⟩ : ∃ b, decide (1 < d) = b := ⟨_, rfl⟩
    have hb2 : (decide ((1 : Int) < (d : Int))) = b2 := by
      rw [← hbb2, decide_eq_decide]; omega
    have hb3 : (if 1 < d then 1 else 0) = b2.toNat := by rw [← hbb2]; by_cases h : 1 < d <;> simp [h]
    rw [hd, hb3] at hU
    have hor := or_flag (h2 / 2 ^ s) b2.toNat (by omega) (by cases b2 <;> decide)
    rw [hU] at hor
    obtain ⟨q2, hqq2⟩ : ∃ q, h2 / 2 ^ s = q := ⟨_, rfl⟩
    rw [hqq2] at hsh2 hor
    obtain ⟨q, hqq⟩ : ∃ q, h / 2 ^ s = q := ⟨_, rfl⟩
    obtain ⟨y, hy⟩ : ∃ y, h / 2 ^ s * 2 ^ s = y := ⟨_, rfl⟩
    rw [hy] at hsl ht
    rw [hqq] at hsl hsh
    obtain ⟨B1, hB1⟩ : ∃ B : Int, ((b.toNat : Nat) : Int) = B := ⟨_, rfl⟩
    obtain ⟨B2, hB2⟩ : ∃ B : Int, ((b2.toNat : Nat) : Int) = B := ⟨_, rfl⟩
    have C1 := Lib.hid (fun w => bool2u_any b w)
    have C2 := Lib.hid (fun w => bool2u_any b2 w)
    rw [hB1] at C1 hs1
    rw [hB2] at C2 hor
    clear hU edm hq64 hq2 hz hq hp eh el mh ml bh bl hge hx hhi hlo hh hmid hmid2 hlow hqq hy hqq2 hb1 hb3 hB1 hB2 hd hh2 hble CB
    go_enter Tryz.func222, Tryz.ntmps222
    go_wp2_with fail
    refine (CM.out _).mono ?_
    rintro e w1 ⟨rfl, rfl⟩
    go_wp2_with fail
    refine (CL.out _).mono ?_
    rintro e w2 ⟨rfl, rfl⟩
    go_wp2_with fail
    refine (C1.out _).mono ?_
    rintro e w3 ⟨rfl, rfl⟩
    go_wp2_with fail
    go_quiet ((go_at_call 237; exact Calls.quiet_of_same (C2.out _)))
    go_wp2
    go_ret
    exact ⟨rfl, _, rfl⟩
  · rw [if_pos hz] at hU
    have hor : bits .or .u64 ((h / 2 ^ s : Nat) : Int) 1 = ((h / 2 ^ s ||| 1 : Nat) : Int) := or_flag (h / 2 ^ s) 1 (by omega) (by omega)
    rw [hU] at hor
    obtain ⟨q, hqq⟩ : ∃ q, h / 2 ^ s = q := ⟨_, rfl⟩
    obtain ⟨y, hy⟩ : ∃ y, h / 2 ^ s * 2 ^ s = y := ⟨_, rfl⟩
    rw [hy] at hsl hq edm
    have ht : (((y : Nat) : Int) != (h : Int)) = true := by
      rw [bne_iff_ne]; omega
    rw [hqq] at hsl hsh hor
    clear hU edm hq64 hz hq hp eh el mh ml bh bl hge hx hhi hlo hh hmid hmid2 hlow hqq hy
    go_enter Tryz.func222, Tryz.ntmps222
    go_wp2_with fail
    refine (CM.out _).mono ?_
    rintro e w1 ⟨rfl, rfl⟩
    go_wp2
    go_ret
    exact ⟨rfl, 0, rfl⟩
end Go.Proofs.YthhlhiighgnkmaaGreatDoor
/-! ## WALKS: Go's scalers, of any power. -/
namespace Go.Proofs.YthhlhiighgnkmaaGreatDoor
set_option linter.unusedVariables false
set_option linter.unusedSimpArgs false
open Go.RowKit Go.PlainAid
theorem prescale_any (P i hi lo s : Nat) (e p lp : Int) (w : World) (hP : w.heap[P]? = some (.cells #[.int .u64 0, .int .u64 0, .int .i64 0] 255 (0, 0)))
    (h1 : w.cell? ⟨11, i * 2, none⟩ = some (.int .u64 (hi : Int))) (h2 : w.cell? ⟨11, i * 2 + 1, none⟩ = some (.int .u64 (lo : Int))) (hne : P ≠ 11) (hi' : i < 696)
    (hp : p = (i : Int) - 348) (he : -10000 ≤ e) (he2 : e ≤ 10000) (hl : -10000 ≤ lp) (hl2 : lp ≤ 10000) (hs : -(e + lp + 3) = (s : Int)) :
    Calls Tryz.prog 220 #[.pointer (some ⟨P, 0, none⟩), .int .i64 e, .int .i64 p, .int .i64 lp] w fun e w' => e = .returned (.tuple #[]) ∧ Only [P] w w' ∧ Sc w' P hi lo s := by
  have f0 : w.frozen? ⟨P, 0, none⟩ = false := frozen_of_row _ _ _ _ _ hP
  have f1 : w.frozen? ⟨P, 1, none⟩ = false := frozen_of_row _ _ _ _ _ hP
  have f2 : w.frozen? ⟨P, 2, none⟩ = false := frozen_of_row _ _ _ _ _ hP
  have c0 : w.cell? ⟨P, 0, none⟩ = some (.int .u64 0) := by rw [cell_of_row _ _ _ _ _ _ hP]; rfl
  have c1 : w.cell? ⟨P, 1, none⟩ = some (.int .u64 0) := by rw [cell_of_row _ _ _ _ _ _ hP]; rfl
  have c2 : w.cell? ⟨P, 2, none⟩ = some (.int .i64 0) := by rw [cell_of_row _ _ _ _ _ _ hP]; rfl
  have hlt : P < w.heap.size := (Array.getElem?_eq_some_iff.1 hP).1
  have e1 : IntKind.i64.wrap (p - -348) = (i : Int) := by rw [IntKind.wrap_i64]; omega
  have e2 : IntKind.i64.wrap (e + lp) = e + lp := by rw [IntKind.wrap_i64]; omega
  have e3 : IntKind.i64.wrap (e + lp + 3) = e + lp + 3 := by rw [IntKind.wrap_i64]; omega
  have e4 : IntKind.i64.wrap (-(e + lp + 3)) = (s : Int) := by rw [hs, IntKind.wrap_i64]; omega
  have hi1 : (i : Int) < 696 := by omega
  have HP := Lib.hid hP
  clear hP
  go_enter Tryz.func220, Tryz.ntmps220
  go_wp2
  go_returns
  have k0 := heap_setCell_same _ _ 0 _ _ (.int .u64 hi) HP.out
  have k1 := heap_setCell_same _ _ 1 _ _ (.int .u64 lo) k0
  have k2 := heap_setCell_same _ _ 2 _ _ (.int .i64 s) k1
  exact ⟨rfl, (((Only.refl [P] w).setCell (.inl (by simp)) _).setCell (.inl (by simp)) _).setCell (.inl (by simp)) _, k2⟩
end Go.Proofs.YthhlhiighgnkmaaGreatDoor
/-! ## WALKS: Go's shortest digits, of any number (what it reckons comes in as numbers). -/
namespace Go.Proofs.YthhlhiighgnkmaaGreatDoor
set_option linter.unusedVariables false
set_option linter.unusedSimpArgs false
open Go.RowKit Go.PlainAid
theorem Sc.drewN {w : World} {P hi lo s : Nat} (h : Sc w P hi lo s) (n : Nat) : Sc (w.drewN n) P hi lo s := h
theorem nudge_no (u : Nat) (hu : u < 2 ^ 62) (w : World) : Calls Tryz.prog 223 #[.int .u64 (u : Int), .int .i64 0] w fun e w' => e = .returned (.int .u64 (u : Int)) ∧ w' = w := by
  have e0 : IntKind.u64.wrap 0 = 0 := by decide
  have e1 : IntKind.u64.wrap (u : Int) = (u : Int) := by rw [IntKind.wrap_u64]; omega
  have e2 : IntKind.u64.wrap ((u : Int) + 0) = (u : Int) := by rw [IntKind.wrap_u64]; omega
  clear hu
  go_enter Tryz.func223, Tryz.ntmps223
  go_wp2
  go_ret
  exact ⟨rfl, rfl⟩
set_option maxRecDepth 100000 in
set_option maxHeartbeats 2000000 in
theorem short_b (m mn mx par z i hi lo s umn umx um vmn vmx dmn dmx dn R1 : Nat) (e p lp q R2 : Int) (w : World)
    (hm : m < 2 ^ 64) (hmn : mn < 2 ^ 64) (hmx : mx < 2 ^ 64) (he : -5000 ≤ e) (he2 : e ≤ 5000)
    (hm2 : m ≠ 2 ^ 63) (he3 : -1085 ≤ e) (hz : z = 11) (hmnE : mn = m - 1024) (hmxE : mx = m + 1024) (hm3 : 1024 ≤ m) (hq : (e + 11) * 78913 / 262144 = q)
    (hpar : bits .and .i64 ((m / 2 ^ z : Nat) : Int) 1 = (par : Int)) (hp1 : par ≤ 1)
    (hpq : -q = p) (hq1 : -100000 ≤ q) (hq2 : q ≤ 100000) (hlp : p * 108853 / 32768 = lp) (hip : p = (i : Int) - 348) (hi' : i < 696) (hl1 : -10000 ≤ lp) (hl2 : lp ≤ 10000) (hs : -(e + lp + 3) = (s : Int)) (hs64 : s < 64)
    (t1 : w.cell? ⟨11, i * 2, none⟩ = some (.int .u64 (hi : Int))) (t2 : w.cell? ⟨11, i * 2 + 1, none⟩ = some (.int .u64 (lo : Int))) (hS : 18 ≤ w.heap.size)
    (hhi : hi < 2 ^ 64) (hlo : lo < 2 ^ 64) (hle : lo ≤ hi * 2 ^ 64)
    (u1 : Nr.codeU mn hi lo s = umn) (u2 : Nr.codeU mx hi lo s = umx) (u3 : Nr.codeU m hi lo s = um)
    (l1 : umn < 2 ^ 60) (l2 : umx < 2 ^ 60) (l3 : um < 2 ^ 60) (g2 : 1 ≤ umx)
    (v1 : umn + par = vmn) (v2 : umx - par = vmx) (d1 : (vmn + 3) / 4 = dmn) (d2 : vmx / 4 = dmx) (d3 : (um + 1 + um / 4 % 2) / 4 = dn)
    (hR : (if dmn ≤ dmx / 10 * 10 then (dmx / 10, -(p - 1)) else if dmn < dmx then (dn, -p) else (dmn, -p)) = (R1, R2)) :
    Calls Tryz.prog 204 #[.int .u64 (m : Int), .int .i64 e] w (Gives w (.tuple #[.int .u64 (R1 : Int), .int .i64 R2])) := by
  have C1 := Lib.hid (fun w => by have := log10_any (e + 11) (by omega) (by omega) w; rw [hq] at this; exact this)
  have C2 := Lib.hid (fun w => log2_any p (by omega) (by omega) w)
  rw [hlp] at C2
  have hA : ∀ o : Obj, Below w.heap.size w (w.alloc o) := fun o => (Below.refl _ w).alloc (Nat.le_refl _) o
  have C3 := Lib.hid (prescale_any w.heap.size i hi lo s e p lp (w.alloc (.cells #[.int .u64 0, .int .u64 0, .int .i64 0] 255)) (heap_alloc_new w _) (((hA _).cell (p := ⟨11, i * 2, none⟩) (show 11 < _ by omega)).trans t1) (((hA _).cell (p := ⟨11, i * 2 + 1, none⟩) (show 11 < _ by omega)).trans t2) (by omega) hi' hip (by omega) (by omega) hl1 hl2 hs)
  have HA := Lib.hid hA
  have C4 := Lib.hid (fun w1 H => uscale_any w.heap.size mn hi lo s w1 H hmn hhi hlo hs64 hle)
  have C5 := Lib.hid (fun w1 H => uscale_any w.heap.size mx hi lo s w1 H hmx hhi hlo hs64 hle)
  have C6 := Lib.hid (fun w1 H => uscale_any w.heap.size m hi lo s w1 H hm hhi hlo hs64 hle)
  rw [u1] at C4
  rw [u2] at C5
  rw [u3] at C6
  have CN1 : Hid (∀ w, Calls Tryz.prog 223 #[.int .u64 (umn : Int), .int .i64 (par : Int)] w fun e w' => e = .returned (.int .u64 (vmn : Int)) ∧ w' = w) := by
    refine Lib.hid fun w => ?_
    have hpp : par = 0 ∨ par = 1 := by omega
    rcases hpp with rfl | rfl
    · rw [← v1]; exact nudge_no umn (by omega) w
    · rw [← v1]; exact nudge_up umn (by omega) w
  have CN2 : Hid (∀ w, Calls Tryz.prog 223 #[.int .u64 (umx : Int), .int .i64 (-(par : Int))] w fun e w' => e = .returned (.int .u64 (vmx : Int)) ∧ w' = w) := by
    refine Lib.hid fun w => ?_
    have hpp : par = 0 ∨ par = 1 := by omega
    rcases hpp with rfl | rfl
    · rw [← v2, show (-((0 : Nat) : Int)) = 0 from rfl]; exact nudge_no umx (by omega) w
    · rw [← v2, show (-((1 : Nat) : Int)) = -1 from rfl]; exact nudge_down umx g2 (by omega) w
  have C7 := Lib.hid (fun w => ceil_any vmn (by omega) w)
  have C8 := Lib.hid (fun w => floor_any vmx (by omega) w)
  have C9 := Lib.hid (fun w => near_any um (by omega) w)
  rw [d1] at C7
  rw [d2] at C8
  rw [d3] at C9
  have hdx : dmx < 2 ^ 60 := by omega
  have hdn : dmn < 2 ^ 60 := by omega
  have w1 : IntKind.i64.wrap (-q) = p := by rw [hpq, IntKind.wrap_i64]; omega
  have w2 : IntKind.u64.wrap (((dmx / 10 : Nat) : Int) * 10) = ((dmx / 10 * 10 : Nat) : Int) := by rw [IntKind.wrap_u64]; omega
  have w3 : ((dmx : Nat) : Int) / 10 = ((dmx / 10 : Nat) : Int) := by omega
  have w4 : IntKind.i64.wrap (p - 1) = p - 1 := by rw [IntKind.wrap_i64]; omega
  have w5 : IntKind.i64.wrap (-(p - 1)) = -(p - 1) := by rw [IntKind.wrap_i64]; omega
  have w6 : IntKind.i64.wrap (-p) = -p := by rw [IntKind.wrap_i64]; omega
  have b0 : ((m : Int) == 9223372036854775808) = false := by rw [beq_eq_false_iff_ne]; omega
  have b1 : IntKind.u64.wrap ((m : Int) - 1024) = (mn : Int) := by rw [IntKind.wrap_u64]; omega
  have b2 : IntKind.u64.wrap ((m : Int) + 1024) = (mx : Int) := by rw [IntKind.wrap_u64]; omega
  have b3 : IntKind.i64.wrap (e + 11) = e + 11 := by rw [IntKind.wrap_i64]; omega
  subst hz
  have b4 : (m : Int) / 2048 = ((m / 2 ^ 11 : Nat) : Int) := by rw [show (2 : Nat) ^ 11 = 2048 from rfl]; omega
  have b5 : IntKind.i64.wrap ((m / 2 ^ 11 : Nat) : Int) = ((m / 2 ^ 11 : Nat) : Int) := by rw [show (2 : Nat) ^ 11 = 2048 from rfl, IntKind.wrap_i64]; omega
  obtain ⟨mz, hmz⟩ : ∃ k, m / 2 ^ 11 = k := ⟨_, rfl⟩
  rw [hmz] at b4 b5 hpar
  clear hmz hm2 hmnE hmxE hm3
  obtain ⟨d10, hd10⟩ : ∃ d, dmx / 10 = d := ⟨_, rfl⟩
  rw [hd10] at w2 w3 hR
  obtain ⟨d100, hd100⟩ : ∃ d, d10 * 10 = d := ⟨_, rfl⟩
  rw [hd100] at w2 hR
  have w7 : IntKind.u64.wrap (d10 : Int) = (d10 : Int) := by rw [IntKind.wrap_u64]; omega
  have w8 : IntKind.u64.wrap (dmn : Int) = (dmn : Int) := by rw [IntKind.wrap_u64]; omega
  have w9 : IntKind.u64.wrap (dmx : Int) = (dmx : Int) := by rw [IntKind.wrap_u64]; omega
  obtain ⟨P, hP⟩ : ∃ P, w.heap.size = P := ⟨_, rfl⟩
  have HPW := Lib.hid hP
  by_cases k1 : dmn ≤ d100
  · rw [if_pos k1] at hR
    have hR1 : d10 = R1 := congrArg Prod.fst hR
    have hR2 : -(p - 1) = R2 := congrArg Prod.snd hR
    subst hR1 hR2
    have k1' : (dmn : Int) ≤ (d100 : Int) := by omega
    clear hA hR u1 u2 u3 v1 v2 d1 d2 d3 l1 l2 l3 g2 hs hip hlp hpq hdx hdn hq1 hq2 hl1 hl2 hs64 hhi hlo hle hd10 hd100 hP t1 t2
    go_enter Tryz.func204, Tryz.ntmps204
    go_wp2_with fail
    refine (C1.out _).mono ?_
    rintro e w1 ⟨rfl, rfl⟩
    go_wp2_with fail
    refine (C2.out _).mono ?_
    rintro e w1 ⟨rfl, rfl⟩
    go_wp2_with fail
    refine C3.out.mono ?_
    rintro e w2 ⟨rfl, ho, hp⟩
    have B2 := Lib.hid (Below.trans (HA.out _) (ho.below (B := w1.heap.size) (by simp) (by simp)))
    have P2 := Lib.hid hp
    clear ho hp
    go_wp2_with fail
    refine (C4.out _ P2.out).mono ?_
    rintro e w3 ⟨rfl, n1, rfl⟩
    go_wp2_with fail
    refine (CN1.out _).mono ?_
    rintro e w4 ⟨rfl, rfl⟩
    go_wp2_with fail
    refine (C7.out _).mono ?_
    rintro e w4 ⟨rfl, rfl⟩
    go_wp2_with fail
    refine (C5.out _ (P2.out.drewN _)).mono ?_
    rintro e w4 ⟨rfl, n2, rfl⟩
    go_wp2_with fail
    refine (CN2.out _).mono ?_
    rintro e w4 ⟨rfl, rfl⟩
    go_wp2_with fail
    refine (C8.out _).mono ?_
    rintro e w4 ⟨rfl, rfl⟩
    go_wp2
    go_returns
    exact ⟨rfl, below_drewN B2.out _⟩
  · rw [if_neg k1] at hR
    have k1' : (d100 : Int) < (dmn : Int) := by omega
    have k1 : d100 < dmn := by omega
    by_cases k2 : dmn < dmx
    · rw [if_pos k2] at hR
      have hR1 : dn = R1 := congrArg Prod.fst hR
      have hR2 : -p = R2 := congrArg Prod.snd hR
      subst hR1 hR2
      have k2' : (dmn : Int) < (dmx : Int) := by omega
      clear hA hR u1 u2 u3 v1 v2 d1 d2 d3 l1 l2 l3 g2 hs hip hlp hpq hdx hdn hq1 hq2 hl1 hl2 hs64 hhi hlo hle hd10 hd100 hP t1 t2
      go_enter Tryz.func204, Tryz.ntmps204
      go_wp2_with fail
      refine (C1.out _).mono ?_
      rintro e w1 ⟨rfl, rfl⟩
      go_wp2_with fail
      refine (C2.out _).mono ?_
      rintro e w1 ⟨rfl, rfl⟩
      go_wp2_with fail
      refine C3.out.mono ?_
      rintro e w2 ⟨rfl, ho, hp⟩
      have B2 := Lib.hid (Below.trans (HA.out _) (ho.below (B := w1.heap.size) (by simp) (by simp)))
      have P2 := Lib.hid hp
      clear ho hp
      go_wp2_with fail
      refine (C4.out _ P2.out).mono ?_
      rintro e w3 ⟨rfl, n1, rfl⟩
      go_wp2_with fail
      refine (CN1.out _).mono ?_
      rintro e w4 ⟨rfl, rfl⟩
      go_wp2_with fail
      refine (C7.out _).mono ?_
      rintro e w4 ⟨rfl, rfl⟩
      go_wp2_with fail
      refine (C5.out _ (P2.out.drewN _)).mono ?_
      rintro e w4 ⟨rfl, n2, rfl⟩
      go_wp2_with fail
      refine (CN2.out _).mono ?_
      rintro e w4 ⟨rfl, rfl⟩
      go_wp2_with fail
      refine (C8.out _).mono ?_
      rintro e w4 ⟨rfl, rfl⟩
      go_wp2_with fail
      refine (C6.out _ (P2.out.drewN _)).mono ?_
      rintro e w6 ⟨rfl, n3, rfl⟩
      go_wp2_with fail
      refine (C9.out _).mono ?_
      rintro e w7 ⟨rfl, rfl⟩
      go_wp2
      go_returns
      exact ⟨rfl, below_drewN B2.out _⟩
    · rw [if_neg k2] at hR
      have hR1 : dmn = R1 := congrArg Prod.fst hR
      have hR2 : -p = R2 := congrArg Prod.snd hR
      subst hR1 hR2
      have k2' : (dmx : Int) ≤ (dmn : Int) := by omega
      have k2 : dmx ≤ dmn := by omega
      clear hA hR u1 u2 u3 v1 v2 d1 d2 d3 l1 l2 l3 g2 hs hip hlp hpq hdx hdn hq1 hq2 hl1 hl2 hs64 hhi hlo hle hd10 hd100 hP t1 t2
      go_enter Tryz.func204, Tryz.ntmps204
      go_wp2_with fail
      refine (C1.out _).mono ?_
      rintro e w1 ⟨rfl, rfl⟩
      go_wp2_with fail
      refine (C2.out _).mono ?_
      rintro e w1 ⟨rfl, rfl⟩
      go_wp2_with fail
      refine C3.out.mono ?_
      rintro e w2 ⟨rfl, ho, hp⟩
      have B2 := Lib.hid (Below.trans (HA.out _) (ho.below (B := w1.heap.size) (by simp) (by simp)))
      have P2 := Lib.hid hp
      clear ho hp
      go_wp2_with fail
      refine (C4.out _ P2.out).mono ?_
      rintro e w3 ⟨rfl, n1, rfl⟩
      go_wp2_with fail
      refine (CN1.out _).mono ?_
      rintro e w4 ⟨rfl, rfl⟩
      go_wp2_with fail
      refine (C7.out _).mono ?_
      rintro e w4 ⟨rfl, rfl⟩
      go_wp2_with fail
      refine (C5.out _ (P2.out.drewN _)).mono ?_
      rintro e w4 ⟨rfl, n2, rfl⟩
      go_wp2_with fail
      refine (CN2.out _).mono ?_
      rintro e w4 ⟨rfl, rfl⟩
      go_wp2_with fail
      refine (C8.out _).mono ?_
      rintro e w4 ⟨rfl, rfl⟩
      go_wp2
      go_returns
      exact ⟨rfl, below_drewN B2.out _⟩
set_option maxRecDepth 100000 in
set_option maxHeartbeats 2000000 in
theorem short_a (m mn mx par z i hi lo s umn umx um vmn vmx dmn dmx dn R1 : Nat) (e p lp q R2 : Int) (w : World)
    (hm : m < 2 ^ 64) (hmn : mn < 2 ^ 64) (hmx : mx < 2 ^ 64) (he : -5000 ≤ e) (he2 : e ≤ 5000)
    (hm2 : m = 2 ^ 63) (he3 : -1085 < e) (hz : z = 11) (hmnE : mn = m - 512) (hmxE : mx = m + 1024) (hq : ((e + 11) * 631305 - 261663) / 2097152 = q)
    (hpar : bits .and .i64 ((m / 2 ^ z : Nat) : Int) 1 = (par : Int)) (hp1 : par ≤ 1)
    (hpq : -q = p) (hq1 : -100000 ≤ q) (hq2 : q ≤ 100000) (hlp : p * 108853 / 32768 = lp) (hip : p = (i : Int) - 348) (hi' : i < 696) (hl1 : -10000 ≤ lp) (hl2 : lp ≤ 10000) (hs : -(e + lp + 3) = (s : Int)) (hs64 : s < 64)
    (t1 : w.cell? ⟨11, i * 2, none⟩ = some (.int .u64 (hi : Int))) (t2 : w.cell? ⟨11, i * 2 + 1, none⟩ = some (.int .u64 (lo : Int))) (hS : 18 ≤ w.heap.size)
    (hhi : hi < 2 ^ 64) (hlo : lo < 2 ^ 64) (hle : lo ≤ hi * 2 ^ 64)
    (u1 : Nr.codeU mn hi lo s = umn) (u2 : Nr.codeU mx hi lo s = umx) (u3 : Nr.codeU m hi lo s = um)
    (l1 : umn < 2 ^ 60) (l2 : umx < 2 ^ 60) (l3 : um < 2 ^ 60) (g2 : 1 ≤ umx)
    (v1 : umn + par = vmn) (v2 : umx - par = vmx) (d1 : (vmn + 3) / 4 = dmn) (d2 : vmx / 4 = dmx) (d3 : (um + 1 + um / 4 % 2) / 4 = dn)
    (hR : (if dmn ≤ dmx / 10 * 10 then (dmx / 10, -(p - 1)) else if dmn < dmx then (dn, -p) else (dmn, -p)) = (R1, R2)) :
    Calls Tryz.prog 204 #[.int .u64 (m : Int), .int .i64 e] w (Gives w (.tuple #[.int .u64 (R1 : Int), .int .i64 R2])) := by
  have C1 := Lib.hid (fun w => by have := skewed_any (e + 11) (by omega) (by omega) w; rw [hq] at this; exact this)
  have C2 := Lib.hid (fun w => log2_any p (by omega) (by omega) w)
  rw [hlp] at C2
  have hA : ∀ o : Obj, Below w.heap.size w (w.alloc o) := fun o => (Below.refl _ w).alloc (Nat.le_refl _) o
  have C3 := Lib.hid (prescale_any w.heap.size i hi lo s e p lp (w.alloc (.cells #[.int .u64 0, .int .u64 0, .int .i64 0] 255)) (heap_alloc_new w _) (((hA _).cell (p := ⟨11, i * 2, none⟩) (show 11 < _ by omega)).trans t1) (((hA _).cell (p := ⟨11, i * 2 + 1, none⟩) (show 11 < _ by omega)).trans t2) (by omega) hi' hip (by omega) (by omega) hl1 hl2 hs)
  have HA := Lib.hid hA
  have C4 := Lib.hid (fun w1 H => uscale_any w.heap.size mn hi lo s w1 H hmn hhi hlo hs64 hle)
  have C5 := Lib.hid (fun w1 H => uscale_any w.heap.size mx hi lo s w1 H hmx hhi hlo hs64 hle)
  have C6 := Lib.hid (fun w1 H => uscale_any w.heap.size m hi lo s w1 H hm hhi hlo hs64 hle)
  rw [u1] at C4
  rw [u2] at C5
  rw [u3] at C6
  have CN1 : Hid (∀ w, Calls Tryz.prog 223 #[.int .u64 (umn : Int), .int .i64 (par : Int)] w fun e w' => e = .returned (.int .u64 (vmn : Int)) ∧ w' = w) := by
    refine Lib.hid fun w => ?_
    have hpp : par = 0 ∨ par = 1 := by omega
    rcases hpp with rfl | rfl
    · rw [← v1]; exact nudge_no umn (by omega) w
    · rw [← v1]; exact nudge_up umn (by omega) w
  have CN2 : Hid (∀ w, Calls Tryz.prog 223 #[.int .u64 (umx : Int), .int .i64 (-(par : Int))] w fun e w' => e = .returned (.int .u64 (vmx : Int)) ∧ w' = w) := by
    refine Lib.hid fun w => ?_
    have hpp : par = 0 ∨ par = 1 := by omega
    rcases hpp with rfl | rfl
    · rw [← v2, show (-((0 : Nat) : Int)) = 0 from rfl]; exact nudge_no umx (by omega) w
    · rw [← v2, show (-((1 : Nat) : Int)) = -1 from rfl]; exact nudge_down umx g2 (by omega) w
  have C7 := Lib.hid (fun w => ceil_any vmn (by omega) w)
  have C8 := Lib.hid (fun w => floor_any vmx (by omega) w)
  have C9 := Lib.hid (fun w => near_any um (by omega) w)
  rw [d1] at C7
  rw [d2] at C8
  rw [d3] at C9
  have hdx : dmx < 2 ^ 60 := by omega
  have hdn : dmn < 2 ^ 60 := by omega
  have w1 : IntKind.i64.wrap (-q) = p := by rw [hpq, IntKind.wrap_i64]; omega
  have w2 : IntKind.u64.wrap (((dmx / 10 : Nat) : Int) * 10) = ((dmx / 10 * 10 : Nat) : Int) := by rw [IntKind.wrap_u64]; omega
  have w3 : ((dmx : Nat) : Int) / 10 = ((dmx / 10 : Nat) : Int) := by omega
  have w4 : IntKind.i64.wrap (p - 1) = p - 1 := by rw [IntKind.wrap_i64]; omega
  have w5 : IntKind.i64.wrap (-(p - 1)) = -(p - 1) := by rw [IntKind.wrap_i64]; omega
  have w6 : IntKind.i64.wrap (-p) = -p := by rw [IntKind.wrap_i64]; omega
  have b0 : ((m : Int) == 9223372036854775808) = true := by rw [beq_iff_eq]; omega
  have b1 : IntKind.u64.wrap ((m : Int) - 512) = (mn : Int) := by rw [IntKind.wrap_u64]; omega
  have b2 : IntKind.u64.wrap ((m : Int) + 1024) = (mx : Int) := by rw [IntKind.wrap_u64]; omega
  have b3 : IntKind.i64.wrap (e + 11) = e + 11 := by rw [IntKind.wrap_i64]; omega
  subst hz
  have b4 : (m : Int) / 2048 = ((m / 2 ^ 11 : Nat) : Int) := by rw [show (2 : Nat) ^ 11 = 2048 from rfl]; omega
  have b5 : IntKind.i64.wrap ((m / 2 ^ 11 : Nat) : Int) = ((m / 2 ^ 11 : Nat) : Int) := by rw [show (2 : Nat) ^ 11 = 2048 from rfl, IntKind.wrap_i64]; omega
  obtain ⟨mz, hmz⟩ : ∃ k, m / 2 ^ 11 = k := ⟨_, rfl⟩
  rw [hmz] at b4 b5 hpar
  clear hmz hm2 hmnE hmxE
  obtain ⟨d10, hd10⟩ : ∃ d, dmx / 10 = d := ⟨_, rfl⟩
  rw [hd10] at w2 w3 hR
  obtain ⟨d100, hd100⟩ : ∃ d, d10 * 10 = d := ⟨_, rfl⟩
  rw [hd100] at w2 hR
  have w7 : IntKind.u64.wrap (d10 : Int) = (d10 : Int) := by rw [IntKind.wrap_u64]; omega
  have w8 : IntKind.u64.wrap (dmn : Int) = (dmn : Int) := by rw [IntKind.wrap_u64]; omega
  have w9 : IntKind.u64.wrap (dmx : Int) = (dmx : Int) := by rw [IntKind.wrap_u64]; omega
  obtain ⟨P, hP⟩ : ∃ P, w.heap.size = P := ⟨_, rfl⟩
  have HPW := Lib.hid hP
  by_cases k1 : dmn ≤ d100
  · rw [if_pos k1] at hR
    have hR1 : d10 = R1 := congrArg Prod.fst hR
    have hR2 : -(p - 1) = R2 := congrArg Prod.snd hR
    subst hR1 hR2
    have k1' : (dmn : Int) ≤ (d100 : Int) := by omega
    clear hA hR u1 u2 u3 v1 v2 d1 d2 d3 l1 l2 l3 g2 hs hip hlp hpq hdx hdn hq1 hq2 hl1 hl2 hs64 hhi hlo hle hd10 hd100 hP t1 t2
    go_enter Tryz.func204, Tryz.ntmps204
    go_wp2_with fail
    refine (C1.out _).mono ?_
    rintro e w1 ⟨rfl, rfl⟩
    go_wp2_with fail
    refine (C2.out _).mono ?_
    rintro e w1 ⟨rfl, rfl⟩
    go_wp2_with fail
    refine C3.out.mono ?_
    rintro e w2 ⟨rfl, ho, hp⟩
    have B2 := Lib.hid (Below.trans (HA.out _) (ho.below (B := w1.heap.size) (by simp) (by simp)))
    have P2 := Lib.hid hp
    clear ho hp
    go_wp2_with fail
    refine (C4.out _ P2.out).mono ?_
    rintro e w3 ⟨rfl, n1, rfl⟩
    go_wp2_with fail
    refine (CN1.out _).mono ?_
    rintro e w4 ⟨rfl, rfl⟩
    go_wp2_with fail
    refine (C7.out _).mono ?_
    rintro e w4 ⟨rfl, rfl⟩
    go_wp2_with fail
    refine (C5.out _ (P2.out.drewN _)).mono ?_
    rintro e w4 ⟨rfl, n2, rfl⟩
    go_wp2_with fail
    refine (CN2.out _).mono ?_
    rintro e w4 ⟨rfl, rfl⟩
    go_wp2_with fail
    refine (C8.out _).mono ?_
    rintro e w4 ⟨rfl, rfl⟩
    go_wp2
    go_returns
    exact ⟨rfl, below_drewN B2.out _⟩
  · rw [if_neg k1] at hR
    have k1' : (d100 : Int) < (dmn : Int) := by omega
    have k1 : d100 < dmn := by omega
    by_cases k2 : dmn < dmx
    · rw [if_pos k2] at hR
      have hR1 : dn = R1 := congrArg Prod.fst hR
      have hR2 : -p = R2 := congrArg Prod.snd hR
      subst hR1 hR2
      have k2' : (dmn : Int) < (dmx : Int) := by omega
      clear hA hR u1 u2 u3 v1 v2 d1 d2 d3 l1 l2 l3 g2 hs hip hlp hpq hdx hdn hq1 hq2 hl1 hl2 hs64 hhi hlo hle hd10 hd100 hP t1 t2
      go_enter Tryz.func204, Tryz.ntmps204
      go_wp2_with fail
      refine (C1.out _).mono ?_
      rintro e w1 ⟨rfl, rfl⟩
      go_wp2_with fail
      refine (C2.out _).mono ?_
      rintro e w1 ⟨rfl, rfl⟩
      go_wp2_with fail
      refine C3.out.mono ?_
      rintro e w2 ⟨rfl, ho, hp⟩
      have B2 := Lib.hid (Below.trans (HA.out _) (ho.below (B := w1.heap.size) (by simp) (by simp)))
      have P2 := Lib.hid hp
      clear ho hp
      go_wp2_with fail
      refine (C4.out _ P2.out).mono ?_
      rintro e w3 ⟨rfl, n1, rfl⟩
      go_wp2_with fail
      refine (CN1.out _).mono ?_
      rintro e w4 ⟨rfl, rfl⟩
      go_wp2_with fail
      refine (C7.out _).mono ?_
      rintro e w4 ⟨rfl, rfl⟩
      go_wp2_with fail
      refine (C5.out _ (P2.out.drewN _)).mono ?_
      rintro e w4 ⟨rfl, n2, rfl⟩
      go_wp2_with fail
      refine (CN2.out _).mono ?_
      rintro e w4 ⟨rfl, rfl⟩
      go_wp2_with fail
      refine (C8.out _).mono ?_
      rintro e w4 ⟨rfl, rfl⟩
      go_wp2_with fail
      refine (C6.out _ (P2.out.drewN _)).mono ?_
      rintro e w6 ⟨rfl, n3, rfl⟩
      go_wp2_with fail
      refine (C9.out _).mono ?_
      rintro e w7 ⟨rfl, rfl⟩
      go_wp2
      go_returns
      exact ⟨rfl, below_drewN B2.out _⟩
    · rw [if_neg k2] at hR
      have hR1 : dmn = R1 := congrArg Prod.fst hR
      have hR2 : -p = R2 := congrArg Prod.snd hR
      subst hR1 hR2
      have k2' : (dmx : Int) ≤ (dmn : Int) := by omega
      have k2 : dmx ≤ dmn := by omega
      clear hA hR u1 u2 u3 v1 v2 d1 d2 d3 l1 l2 l3 g2 hs hip hlp hpq hdx hdn hq1 hq2 hl1 hl2 hs64 hhi hlo hle hd10 hd100 hP t1 t2
      go_enter Tryz.func204, Tryz.ntmps204
      go_wp2_with fail
      refine (C1.out _).mono ?_
      rintro e w1 ⟨rfl, rfl⟩
      go_wp2_with fail
      refine (C2.out _).mono ?_
      rintro e w1 ⟨rfl, rfl⟩
      go_wp2_with fail
      refine C3.out.mono ?_
      rintro e w2 ⟨rfl, ho, hp⟩
      have B2 := Lib.hid (Below.trans (HA.out _) (ho.below (B := w1.heap.size) (by simp) (by simp)))
      have P2 := Lib.hid hp
      clear ho hp
      go_wp2_with fail
      refine (C4.out _ P2.out).mono ?_
      rintro e w3 ⟨rfl, n1, rfl⟩
      go_wp2_with fail
      refine (CN1.out _).mono ?_
      rintro e w4 ⟨rfl, rfl⟩
      go_wp2_with fail
      refine (C7.out _).mono ?_
      rintro e w4 ⟨rfl, rfl⟩
      go_wp2_with fail
      refine (C5.out _ (P2.out.drewN _)).mono ?_
      rintro e w4 ⟨rfl, n2, rfl⟩
      go_wp2_with fail
      refine (CN2.out _).mono ?_
      rintro e w4 ⟨rfl, rfl⟩
      go_wp2_with fail
      refine (C8.out _).mono ?_
      rintro e w4 ⟨rfl, rfl⟩
      go_wp2
      go_returns
      exact ⟨rfl, below_drewN B2.out _⟩
set_option maxRecDepth 100000 in
set_option maxHeartbeats 2000000 in
theorem short_d (m mn mx par z i hi lo s umn umx um vmn vmx dmn dmx dn R1 : Nat) (e p lp q R2 : Int) (w : World)
    (hm : m < 2 ^ 64) (hmn : mn < 2 ^ 64) (hmx : mx < 2 ^ 64) (he : -5000 ≤ e) (he2 : e ≤ 5000)
    (hm2 : m = 2 ^ 63) (he3 : e = -1085) (hz : z = 11) (hmnE : mn = m - 1024) (hmxE : mx = m + 1024) (hq : -1074 * 78913 / 262144 = q)
    (hpar : bits .and .i64 ((m / 2 ^ z : Nat) : Int) 1 = (par : Int)) (hp1 : par ≤ 1)
    (hpq : -q = p) (hq1 : -100000 ≤ q) (hq2 : q ≤ 100000) (hlp : p * 108853 / 32768 = lp) (hip : p = (i : Int) - 348) (hi' : i < 696) (hl1 : -10000 ≤ lp) (hl2 : lp ≤ 10000) (hs : -(e + lp + 3) = (s : Int)) (hs64 : s < 64)
    (t1 : w.cell? ⟨11, i * 2, none⟩ = some (.int .u64 (hi : Int))) (t2 : w.cell? ⟨11, i * 2 + 1, none⟩ = some (.int .u64 (lo : Int))) (hS : 18 ≤ w.heap.size)
    (hhi : hi < 2 ^ 64) (hlo : lo < 2 ^ 64) (hle : lo ≤ hi * 2 ^ 64)
    (u1 : Nr.codeU mn hi lo s = umn) (u2 : Nr.codeU mx hi lo s = umx) (u3 : Nr.codeU m hi lo s = um)
    (l1 : umn < 2 ^ 60) (l2 : umx < 2 ^ 60) (l3 : um < 2 ^ 60) (g2 : 1 ≤ umx)
    (v1 : umn + par = vmn) (v2 : umx - par = vmx) (d1 : (vmn + 3) / 4 = dmn) (d2 : vmx / 4 = dmx) (d3 : (um + 1 + um / 4 % 2) / 4 = dn)
    (hR : (if dmn ≤ dmx / 10 * 10 then (dmx / 10, -(p - 1)) else if dmn < dmx then (dn, -p) else (dmn, -p)) = (R1, R2)) :
    Calls Tryz.prog 204 #[.int .u64 (m : Int), .int .i64 e] w (Gives w (.tuple #[.int .u64 (R1 : Int), .int .i64 R2])) := by
  have C1 := Lib.hid (fun w => by have := log10_any (-1074) (by omega) (by omega) w; rw [hq] at this; exact this)
  have C2 := Lib.hid (fun w => log2_any p (by omega) (by omega) w)
  rw [hlp] at C2
  have hA : ∀ o : Obj, Below w.heap.size w (w.alloc o) := fun o => (Below.refl _ w).alloc (Nat.le_refl _) o
  have C3 := Lib.hid (prescale_any w.heap.size i hi lo s e p lp (w.alloc (.cells #[.int .u64 0, .int .u64 0, .int .i64 0] 255)) (heap_alloc_new w _) (((hA _).cell (p := ⟨11, i * 2, none⟩) (show 11 < _ by omega)).trans t1) (((hA _).cell (p := ⟨11, i * 2 + 1, none⟩) (show 11 < _ by omega)).trans t2) (by omega) hi' hip (by omega) (by omega) hl1 hl2 hs)
  have HA := Lib.hid hA
  have C4 := Lib.hid (fun w1 H => uscale_any w.heap.size mn hi lo s w1 H hmn hhi hlo hs64 hle)
  have C5 := Lib.hid (fun w1 H => uscale_any w.heap.size mx hi lo s w1 H hmx hhi hlo hs64 hle)
  have C6 := Lib.hid (fun w1 H => uscale_any w.heap.size m hi lo s w1 H hm hhi hlo hs64 hle)
  rw [u1] at C4
  rw [u2] at C5
  rw [u3] at C6
  have CN1 : Hid (∀ w, Calls Tryz.prog 223 #[.int .u64 (umn : Int), .int .i64 (par : Int)] w fun e w' => e = .returned (.int .u64 (vmn : Int)) ∧ w' = w) := by
    refine Lib.hid fun w => ?_
    have hpp : par = 0 ∨ par = 1 := by omega
    rcases hpp with rfl | rfl
    · rw [← v1]; exact nudge_no umn (by omega) w
    · rw [← v1]; exact nudge_up umn (by omega) w
  have CN2 : Hid (∀ w, Calls Tryz.prog 223 #[.int .u64 (umx : Int), .int .i64 (-(par : Int))] w fun e w' => e = .returned (.int .u64 (vmx : Int)) ∧ w' = w) := by
    refine Lib.hid fun w => ?_
    have hpp : par = 0 ∨ par = 1 := by omega
    rcases hpp with rfl | rfl
    · rw [← v2, show (-((0 : Nat) : Int)) = 0 from rfl]; exact nudge_no umx (by omega) w
    · rw [← v2, show (-((1 : Nat) : Int)) = -1 from rfl]; exact nudge_down umx g2 (by omega) w
  have C7 := Lib.hid (fun w => ceil_any vmn (by omega) w)
  have C8 := Lib.hid (fun w => floor_any vmx (by omega) w)
  have C9 := Lib.hid (fun w => near_any um (by omega) w)
  rw [d1] at C7
  rw [d2] at C8
  rw [d3] at C9
  have hdx : dmx < 2 ^ 60 := by omega
  have hdn : dmn < 2 ^ 60 := by omega
  have w1 : IntKind.i64.wrap (-q) = p := by rw [hpq, IntKind.wrap_i64]; omega
  have w2 : IntKind.u64.wrap (((dmx / 10 : Nat) : Int) * 10) = ((dmx / 10 * 10 : Nat) : Int) := by rw [IntKind.wrap_u64]; omega
  have w3 : ((dmx : Nat) : Int) / 10 = ((dmx / 10 : Nat) : Int) := by omega
  have w4 : IntKind.i64.wrap (p - 1) = p - 1 := by rw [IntKind.wrap_i64]; omega
  have w5 : IntKind.i64.wrap (-(p - 1)) = -(p - 1) := by rw [IntKind.wrap_i64]; omega
  have w6 : IntKind.i64.wrap (-p) = -p := by rw [IntKind.wrap_i64]; omega
  have b0 : ((m : Int) == 9223372036854775808) = true := by rw [beq_iff_eq]; omega
  have b1 : IntKind.u64.wrap ((m : Int) - 1024) = (mn : Int) := by rw [IntKind.wrap_u64]; omega
  have b2 : IntKind.u64.wrap ((m : Int) + 1024) = (mx : Int) := by rw [IntKind.wrap_u64]; omega
  subst he3
  subst hz
  have b4 : (m : Int) / 2048 = ((m / 2 ^ 11 : Nat) : Int) := by rw [show (2 : Nat) ^ 11 = 2048 from rfl]; omega
  have b5 : IntKind.i64.wrap ((m / 2 ^ 11 : Nat) : Int) = ((m / 2 ^ 11 : Nat) : Int) := by rw [show (2 : Nat) ^ 11 = 2048 from rfl, IntKind.wrap_i64]; omega
  obtain ⟨mz, hmz⟩ : ∃ k, m / 2 ^ 11 = k := ⟨_, rfl⟩
  rw [hmz] at b4 b5 hpar
  clear hmz hm2 hmnE hmxE
  obtain ⟨d10, hd10⟩ : ∃ d, dmx / 10 = d := ⟨_, rfl⟩
  rw [hd10] at w2 w3 hR
  obtain ⟨d100, hd100⟩ : ∃ d, d10 * 10 = d := ⟨_, rfl⟩
  rw [hd100] at w2 hR
  have w7 : IntKind.u64.wrap (d10 : Int) = (d10 : Int) := by rw [IntKind.wrap_u64]; omega
  have w8 : IntKind.u64.wrap (dmn : Int) = (dmn : Int) := by rw [IntKind.wrap_u64]; omega
  have w9 : IntKind.u64.wrap (dmx : Int) = (dmx : Int) := by rw [IntKind.wrap_u64]; omega
  obtain ⟨P, hP⟩ : ∃ P, w.heap.size = P := ⟨_, rfl⟩
  have HPW := Lib.hid hP
  by_cases k1 : dmn ≤ d100
  · rw [if_pos k1] at hR
    have hR1 : d10 = R1 := congrArg Prod.fst hR
    have hR2 : -(p - 1) = R2 := congrArg Prod.snd hR
    subst hR1 hR2
    have k1' : (dmn : Int) ≤ (d100 : Int) := by omega
    clear hA hR u1 u2 u3 v1 v2 d1 d2 d3 l1 l2 l3 g2 hs hip hlp hpq hdx hdn hq1 hq2 hl1 hl2 hs64 hhi hlo hle hd10 hd100 hP t1 t2
    go_enter Tryz.func204, Tryz.ntmps204
    go_wp2_with fail
    refine (C1.out _).mono ?_
    rintro e w1 ⟨rfl, rfl⟩
    go_wp2_with fail
    refine (C2.out _).mono ?_
    rintro e w1 ⟨rfl, rfl⟩
    go_wp2_with fail
    refine C3.out.mono ?_
    rintro e w2 ⟨rfl, ho, hp⟩
    have B2 := Lib.hid (Below.trans (HA.out _) (ho.below (B := w1.heap.size) (by simp) (by simp)))
    have P2 := Lib.hid hp
    clear ho hp
    go_wp2_with fail
    refine (C4.out _ P2.out).mono ?_
    rintro e w3 ⟨rfl, n1, rfl⟩
    go_wp2_with fail
    refine (CN1.out _).mono ?_
    rintro e w4 ⟨rfl, rfl⟩
    go_wp2_with fail
    refine (C7.out _).mono ?_
    rintro e w4 ⟨rfl, rfl⟩
    go_wp2_with fail
    refine (C5.out _ (P2.out.drewN _)).mono ?_
    rintro e w4 ⟨rfl, n2, rfl⟩
    go_wp2_with fail
    refine (CN2.out _).mono ?_
    rintro e w4 ⟨rfl, rfl⟩
    go_wp2_with fail
    refine (C8.out _).mono ?_
    rintro e w4 ⟨rfl, rfl⟩
    go_wp2
    go_returns
    exact ⟨rfl, below_drewN B2.out _⟩
  · rw [if_neg k1] at hR
    have k1' : (d100 : Int) < (dmn : Int) := by omega
    have k1 : d100 < dmn := by omega
    by_cases k2 : dmn < dmx
    · rw [if_pos k2] at hR
      have hR1 : dn = R1 := congrArg Prod.fst hR
      have hR2 : -p = R2 := congrArg Prod.snd hR
      subst hR1 hR2
      have k2' : (dmn : Int) < (dmx : Int) := by omega
      clear hA hR u1 u2 u3 v1 v2 d1 d2 d3 l1 l2 l3 g2 hs hip hlp hpq hdx hdn hq1 hq2 hl1 hl2 hs64 hhi hlo hle hd10 hd100 hP t1 t2
      go_enter Tryz.func204, Tryz.ntmps204
      go_wp2_with fail
      refine (C1.out _).mono ?_
      rintro e w1 ⟨rfl, rfl⟩
      go_wp2_with fail
      refine (C2.out _).mono ?_
      rintro e w1 ⟨rfl, rfl⟩
      go_wp2_with fail
      refine C3.out.mono ?_
      rintro e w2 ⟨rfl, ho, hp⟩
      have B2 := Lib.hid (Below.trans (HA.out _) (ho.below (B := w1.heap.size) (by simp) (by simp)))
      have P2 := Lib.hid hp
      clear ho hp
      go_wp2_with fail
      refine (C4.out _ P2.out).mono ?_
      rintro e w3 ⟨rfl, n1, rfl⟩
      go_wp2_with fail
      refine (CN1.out _).mono ?_
      rintro e w4 ⟨rfl, rfl⟩
      go_wp2_with fail
      refine (C7.out _).mono ?_
      rintro e w4 ⟨rfl, rfl⟩
      go_wp2_with fail
      refine (C5.out _ (P2.out.drewN _)).mono ?_
      rintro e w4 ⟨rfl, n2, rfl⟩
      go_wp2_with fail
      refine (CN2.out _).mono ?_
      rintro e w4 ⟨rfl, rfl⟩
      go_wp2_with fail
      refine (C8.out _).mono ?_
      rintro e w4 ⟨rfl, rfl⟩
      go_wp2_with fail
      refine (C6.out _ (P2.out.drewN _)).mono ?_
      rintro e w6 ⟨rfl, n3, rfl⟩
      go_wp2_with fail
      refine (C9.out _).mono ?_
      rintro e w7 ⟨rfl, rfl⟩
      go_wp2
      go_returns
      exact ⟨rfl, below_drewN B2.out _⟩
    · rw [if_neg k2] at hR
      have hR1 : dmn = R1 := congrArg Prod.fst hR
      have hR2 : -p = R2 := congrArg Prod.snd hR
      subst hR1 hR2
      have k2' : (dmx : Int) ≤ (dmn : Int) := by omega
      have k2 : dmx ≤ dmn := by omega
      clear hA hR u1 u2 u3 v1 v2 d1 d2 d3 l1 l2 l3 g2 hs hip hlp hpq hdx hdn hq1 hq2 hl1 hl2 hs64 hhi hlo hle hd10 hd100 hP t1 t2
      go_enter Tryz.func204, Tryz.ntmps204
      go_wp2_with fail
      refine (C1.out _).mono ?_
      rintro e w1 ⟨rfl, rfl⟩
      go_wp2_with fail
      refine (C2.out _).mono ?_
      rintro e w1 ⟨rfl, rfl⟩
      go_wp2_with fail
      refine C3.out.mono ?_
      rintro e w2 ⟨rfl, ho, hp⟩
      have B2 := Lib.hid (Below.trans (HA.out _) (ho.below (B := w1.heap.size) (by simp) (by simp)))
      have P2 := Lib.hid hp
      clear ho hp
      go_wp2_with fail
      refine (C4.out _ P2.out).mono ?_
      rintro e w3 ⟨rfl, n1, rfl⟩
      go_wp2_with fail
      refine (CN1.out _).mono ?_
      rintro e w4 ⟨rfl, rfl⟩
      go_wp2_with fail
      refine (C7.out _).mono ?_
      rintro e w4 ⟨rfl, rfl⟩
      go_wp2_with fail
      refine (C5.out _ (P2.out.drewN _)).mono ?_
      rintro e w4 ⟨rfl, n2, rfl⟩
      go_wp2_with fail
      refine (CN2.out _).mono ?_
      rintro e w4 ⟨rfl, rfl⟩
      go_wp2_with fail
      refine (C8.out _).mono ?_
      rintro e w4 ⟨rfl, rfl⟩
      go_wp2
      go_returns
      exact ⟨rfl, below_drewN B2.out _⟩
set_option maxRecDepth 100000 in
set_option maxHeartbeats 2000000 in
theorem short_c (m mn mx par z i hi lo s umn umx um vmn vmx dmn dmx dn R1 : Nat) (e p lp q R2 : Int) (w : World)
    (hm : m < 2 ^ 64) (hmn : mn < 2 ^ 64) (hmx : mx < 2 ^ 64) (he : -5000 ≤ e) (he2 : e ≤ 5000)
    (b : Bool) (hbb : ((m : Int) == 9223372036854775808) = b) (he3 : e < -1085) (hz : -1074 - e = (z : Int)) (hz2 : z ≤ 63) (hmnE : mn + 2 ^ (z - 1) = m) (hmxE : mx = m + 2 ^ (z - 1)) (hq : -1074 * 78913 / 262144 = q)
    (hpar : bits .and .i64 ((m / 2 ^ z : Nat) : Int) 1 = (par : Int)) (hp1 : par ≤ 1)
    (hpq : -q = p) (hq1 : -100000 ≤ q) (hq2 : q ≤ 100000) (hlp : p * 108853 / 32768 = lp) (hip : p = (i : Int) - 348) (hi' : i < 696) (hl1 : -10000 ≤ lp) (hl2 : lp ≤ 10000) (hs : -(e + lp + 3) = (s : Int)) (hs64 : s < 64)
    (t1 : w.cell? ⟨11, i * 2, none⟩ = some (.int .u64 (hi : Int))) (t2 : w.cell? ⟨11, i * 2 + 1, none⟩ = some (.int .u64 (lo : Int))) (hS : 18 ≤ w.heap.size)
    (hhi : hi < 2 ^ 64) (hlo : lo < 2 ^ 64) (hle : lo ≤ hi * 2 ^ 64)
    (u1 : Nr.codeU mn hi lo s = umn) (u2 : Nr.codeU mx hi lo s = umx) (u3 : Nr.codeU m hi lo s = um)
    (l1 : umn < 2 ^ 60) (l2 : umx < 2 ^ 60) (l3 : um < 2 ^ 60) (g2 : 1 ≤ umx)
    (v1 : umn + par = vmn) (v2 : umx - par = vmx) (d1 : (vmn + 3) / 4 = dmn) (d2 : vmx / 4 = dmx) (d3 : (um + 1 + um / 4 % 2) / 4 = dn)
    (hR : (if dmn ≤ dmx / 10 * 10 then (dmx / 10, -(p - 1)) else if dmn < dmx then (dn, -p) else (dmn, -p)) = (R1, R2)) :
    Calls Tryz.prog 204 #[.int .u64 (m : Int), .int .i64 e] w (Gives w (.tuple #[.int .u64 (R1 : Int), .int .i64 R2])) := by
  have C1 := Lib.hid (fun w => by have := log10_any (-1074) (by omega) (by omega) w; rw [hq] at this; exact this)
  have C2 := Lib.hid (fun w => log2_any p (by omega) (by omega) w)
  rw [hlp] at C2
  have hA : ∀ o : Obj, Below w.heap.size w (w.alloc o) := fun o => (Below.refl _ w).alloc (Nat.le_refl _) o
  have C3 := Lib.hid (prescale_any w.heap.size i hi lo s e p lp (w.alloc (.cells #[.int .u64 0, .int .u64 0, .int .i64 0] 255)) (heap_alloc_new w _) (((hA _).cell (p := ⟨11, i * 2, none⟩) (show 11 < _ by omega)).trans t1) (((hA _).cell (p := ⟨11, i * 2 + 1, none⟩) (show 11 < _ by omega)).trans t2) (by omega) hi' hip (by omega) (by omega) hl1 hl2 hs)
  have HA := Lib.hid hA
  have C4 := Lib.hid (fun w1 H => uscale_any w.heap.size mn hi lo s w1 H hmn hhi hlo hs64 hle)
  have C5 := Lib.hid (fun w1 H => uscale_any w.heap.size mx hi lo s w1 H hmx hhi hlo hs64 hle)
  have C6 := Lib.hid (fun w1 H => uscale_any w.heap.size m hi lo s w1 H hm hhi hlo hs64 hle)
  rw [u1] at C4
  rw [u2] at C5
  rw [u3] at C6
  have CN1 : Hid (∀ w, Calls Tryz.prog 223 #[.int .u64 (umn : Int), .int .i64 (par : Int)] w fun e w' => e = .returned (.int .u64 (vmn : Int)) ∧ w' = w) := by
    refine Lib.hid fun w => ?_
    have hpp : par = 0 ∨ par = 1 := by omega
    rcases hpp with rfl | rfl
    · rw [← v1]; exact nudge_no umn (by omega) w
    · rw [← v1]; exact nudge_up umn (by omega) w
  have CN2 : Hid (∀ w, Calls Tryz.prog 223 #[.int .u64 (umx : Int), .int .i64 (-(par : Int))] w fun e w' => e = .returned (.int .u64 (vmx : Int)) ∧ w' = w) := by
    refine Lib.hid fun w => ?_
    have hpp : par = 0 ∨ par = 1 := by omega
    rcases hpp with rfl | rfl
    · rw [← v2, show (-((0 : Nat) : Int)) = 0 from rfl]; exact nudge_no umx (by omega) w
    · rw [← v2, show (-((1 : Nat) : Int)) = -1 from rfl]; exact nudge_down umx g2 (by omega) w
  have C7 := Lib.hid (fun w => ceil_any vmn (by omega) w)
  have C8 := Lib.hid (fun w => floor_any vmx (by omega) w)
  have C9 := Lib.hid (fun w => near_any um (by omega) w)
  rw [d1] at C7
  rw [d2] at C8
  rw [d3] at C9
  have hdx : dmx < 2 ^ 60 := by omega
  have hdn : dmn < 2 ^ 60 := by omega
  have w1 : IntKind.i64.wrap (-q) = p := by rw [hpq, IntKind.wrap_i64]; omega
  have w2 : IntKind.u64.wrap (((dmx / 10 : Nat) : Int) * 10) = ((dmx / 10 * 10 : Nat) : Int) := by rw [IntKind.wrap_u64]; omega
  have w3 : ((dmx : Nat) : Int) / 10 = ((dmx / 10 : Nat) : Int) := by omega
  have w4 : IntKind.i64.wrap (p - 1) = p - 1 := by rw [IntKind.wrap_i64]; omega
  have w5 : IntKind.i64.wrap (-(p - 1)) = -(p - 1) := by rw [IntKind.wrap_i64]; omega
  have w6 : IntKind.i64.wrap (-p) = -p := by rw [IntKind.wrap_i64]; omega
  have hz3 : 12 ≤ z := by omega
  have hp2 : 2 ^ (z - 1) ≤ 2 ^ 62 := Nat.pow_le_pow_right (by decide) (by omega)
  have a0 : IntKind.i64.wrap (-1085 - e) = -1085 - e := by rw [IntKind.wrap_i64]; omega
  have a1 : IntKind.i64.wrap (11 + (-1085 - e)) = (z : Int) := by rw [IntKind.wrap_i64]; omega
  have a2 : IntKind.i64.wrap (e + (z : Int)) = -1074 := by rw [IntKind.wrap_i64]; omega
  have a3 : IntKind.i64.wrap ((z : Int) - 1) = ((z - 1 : Nat) : Int) := by rw [IntKind.wrap_i64]; omega
  have xw : ∀ T : Nat, T ≤ 2 ^ 62 → IntKind.u64.wrap (T : Int) = (T : Int) := fun T h => by rw [IntKind.wrap_u64]; omega
  have xi : ∀ T : Nat, T ≤ 2 ^ 62 → IntKind.i64.wrap (T : Int) = (T : Int) := fun T h => by rw [IntKind.wrap_i64]; omega
  have a4 : IntKind.u64.wrap (2 ^ (z - 1)) = ((2 ^ (z - 1) : Nat) : Int) := by
    rw [show (2 : Int) ^ (z - 1) = ((2 ^ (z - 1) : Nat) : Int) from (Int.natCast_pow 2 _).symm]; exact xw _ hp2
  have b4 : (m : Int) / 2 ^ z = ((m / 2 ^ z : Nat) : Int) := by rw [Int.natCast_ediv]; congr 1
  have hmd : m / 2 ^ z ≤ m / 2 ^ 11 := Nat.div_le_div_left (Nat.pow_le_pow_right (by decide) (by omega)) (by decide)
  have b5 : IntKind.i64.wrap ((m / 2 ^ z : Nat) : Int) = ((m / 2 ^ z : Nat) : Int) := xi _ (Nat.le_trans hmd (by omega))
  obtain ⟨mz, hmz⟩ : ∃ k, m / 2 ^ z = k := ⟨_, rfl⟩
  rw [hmz] at b4 b5 hpar
  obtain ⟨T, hT⟩ : ∃ k, 2 ^ (z - 1) = k := ⟨_, rfl⟩
  obtain ⟨y, hy⟩ : ∃ k, z - 1 = k := ⟨_, rfl⟩
  rw [hT] at a4 hp2 hmnE hmxE
  rw [hy] at a3 a4
  have b1 : IntKind.u64.wrap ((m : Int) - (T : Int)) = (mn : Int) := by rw [IntKind.wrap_u64]; omega
  have b2 : IntKind.u64.wrap ((m : Int) + (T : Int)) = (mx : Int) := by rw [IntKind.wrap_u64]; omega
  have hy1 : y < 64 := by omega
  clear hmz hmd hmnE hmxE hT hy hp2 hz xw xi
  cases b
  all_goals
    obtain ⟨d10, hd10⟩ : ∃ d, dmx / 10 = d := ⟨_, rfl⟩
    rw [hd10] at w2 w3 hR
    obtain ⟨d100, hd100⟩ : ∃ d, d10 * 10 = d := ⟨_, rfl⟩
    rw [hd100] at w2 hR
    have w7 : IntKind.u64.wrap (d10 : Int) = (d10 : Int) := by rw [IntKind.wrap_u64]; omega
    have w8 : IntKind.u64.wrap (dmn : Int) = (dmn : Int) := by rw [IntKind.wrap_u64]; omega
    have w9 : IntKind.u64.wrap (dmx : Int) = (dmx : Int) := by rw [IntKind.wrap_u64]; omega
    obtain ⟨P, hP⟩ : ∃ P, w.heap.size = P := ⟨_, rfl⟩
    have HPW := Lib.hid hP
    by_cases k1 : dmn ≤ d100
    · rw [if_pos k1] at hR
      have hR1 : d10 = R1 := congrArg Prod.fst hR
      have hR2 : -(p - 1) = R2 := congrArg Prod.snd hR
      subst hR1 hR2
      have k1' : (dmn : Int) ≤ (d100 : Int) := by omega
      clear hA hR u1 u2 u3 v1 v2 d1 d2 d3 l1 l2 l3 g2 hs hip hlp hpq hdx hdn hq1 hq2 hl1 hl2 hs64 hhi hlo hle hd10 hd100 hP t1 t2
      go_enter Tryz.func204, Tryz.ntmps204
      go_wp2_with fail
      refine (C1.out _).mono ?_
      rintro e w1 ⟨rfl, rfl⟩
      go_wp2_with fail
      refine (C2.out _).mono ?_
      rintro e w1 ⟨rfl, rfl⟩
      go_wp2_with fail
      refine C3.out.mono ?_
      rintro e w2 ⟨rfl, ho, hp⟩
      have B2 := Lib.hid (Below.trans (HA.out _) (ho.below (B := w1.heap.size) (by simp) (by simp)))
      have P2 := Lib.hid hp
      clear ho hp
      go_wp2_with fail
      refine (C4.out _ P2.out).mono ?_
      rintro e w3 ⟨rfl, n1, rfl⟩
      go_wp2_with fail
      refine (CN1.out _).mono ?_
      rintro e w4 ⟨rfl, rfl⟩
      go_wp2_with fail
      refine (C7.out _).mono ?_
      rintro e w4 ⟨rfl, rfl⟩
      go_wp2_with fail
      refine (C5.out _ (P2.out.drewN _)).mono ?_
      rintro e w4 ⟨rfl, n2, rfl⟩
      go_wp2_with fail
      refine (CN2.out _).mono ?_
      rintro e w4 ⟨rfl, rfl⟩
      go_wp2_with fail
      refine (C8.out _).mono ?_
      rintro e w4 ⟨rfl, rfl⟩
      go_wp2
      go_returns
      exact ⟨rfl, below_drewN B2.out _⟩
    · rw [if_neg k1] at hR
      have k1' : (d100 : Int) < (dmn : Int) := by omega
      have k1 : d100 < dmn := by omega
      by_cases k2 : dmn < dmx
      · rw [if_pos k2] at hR
        have hR1 : dn = R1 := congrArg Prod.fst hR
        have hR2 : -p = R2 := congrArg Prod.snd hR
        subst hR1 hR2
        have k2' : (dmn : Int) < (dmx : Int) := by omega
        clear hA hR u1 u2 u3 v1 v2 d1 d2 d3 l1 l2 l3 g2 hs hip hlp hpq hdx hdn hq1 hq2 hl1 hl2 hs64 hhi hlo hle hd10 hd100 hP t1 t2
        go_enter Tryz.func204, Tryz.ntmps204
        go_wp2_with fail
        refine (C1.out _).mono ?_
        rintro e w1 ⟨rfl, rfl⟩
        go_wp2_with fail
        refine (C2.out _).mono ?_
        rintro e w1 ⟨rfl, rfl⟩
        go_wp2_with fail
        refine C3.out.mono ?_
        rintro e w2 ⟨rfl, ho, hp⟩
        have B2 := Lib.hid (Below.trans (HA.out _) (ho.below (B := w1.heap.size) (by simp) (by simp)))
        have P2 := Lib.hid hp
        clear ho hp
        go_wp2_with fail
        refine (C4.out _ P2.out).mono ?_
        rintro e w3 ⟨rfl, n1, rfl⟩
        go_wp2_with fail
        refine (CN1.out _).mono ?_
        rintro e w4 ⟨rfl, rfl⟩
        go_wp2_with fail
        refine (C7.out _).mono ?_
        rintro e w4 ⟨rfl, rfl⟩
        go_wp2_with fail
        refine (C5.out _ (P2.out.drewN _)).mono ?_
        rintro e w4 ⟨rfl, n2, rfl⟩
        go_wp2_with fail
        refine (CN2.out _).mono ?_
        rintro e w4 ⟨rfl, rfl⟩
        go_wp2_with fail
        refine (C8.out _).mono ?_
        rintro e w4 ⟨rfl, rfl⟩
        go_wp2_with fail
        refine (C6.out _ (P2.out.drewN _)).mono ?_
        rintro e w6 ⟨rfl, n3, rfl⟩
        go_wp2_with fail
        refine (C9.out _).mono ?_
        rintro e w7 ⟨rfl, rfl⟩
        go_wp2
        go_returns
        exact ⟨rfl, below_drewN B2.out _⟩
      · rw [if_neg k2] at hR
        have hR1 : dmn = R1 := congrArg Prod.fst hR
        have hR2 : -p = R2 := congrArg Prod.snd hR
        subst hR1 hR2
        have k2' : (dmx : Int) ≤ (dmn : Int) := by omega
        have k2 : dmx ≤ dmn := by omega
        clear hA hR u1 u2 u3 v1 v2 d1 d2 d3 l1 l2 l3 g2 hs hip hlp hpq hdx hdn hq1 hq2 hl1 hl2 hs64 hhi hlo hle hd10 hd100 hP t1 t2
        go_enter Tryz.func204, Tryz.ntmps204
        go_wp2_with fail
        refine (C1.out _).mono ?_
        rintro e w1 ⟨rfl, rfl⟩
        go_wp2_with fail
        refine (C2.out _).mono ?_
        rintro e w1 ⟨rfl, rfl⟩
        go_wp2_with fail
        refine C3.out.mono ?_
        rintro e w2 ⟨rfl, ho, hp⟩
        have B2 := Lib.hid (Below.trans (HA.out _) (ho.below (B := w1.heap.size) (by simp) (by simp)))
        have P2 := Lib.hid hp
        clear ho hp
        go_wp2_with fail
        refine (C4.out _ P2.out).mono ?_
        rintro e w3 ⟨rfl, n1, rfl⟩
        go_wp2_with fail
        refine (CN1.out _).mono ?_
        rintro e w4 ⟨rfl, rfl⟩
        go_wp2_with fail
        refine (C7.out _).mono ?_
        rintro e w4 ⟨rfl, rfl⟩
        go_wp2_with fail
        refine (C5.out _ (P2.out.drewN _)).mono ?_
        rintro e w4 ⟨rfl, n2, rfl⟩
        go_wp2_with fail
        refine (CN2.out _).mono ?_
        rintro e w4 ⟨rfl, rfl⟩
        go_wp2_with fail
        refine (C8.out _).mono ?_
        rintro e w4 ⟨rfl, rfl⟩
        go_wp2
        go_returns
        exact ⟨rfl, below_drewN B2.out _⟩
end Go.Proofs.YthhlhiighgnkmaaGreatDoor
/-! ## WALKS: Go's shortest digits of any double. -/
namespace Go.Proofs.YthhlhiighgnkmaaGreatDoor
set_option linter.unusedVariables false
set_option linter.unusedSimpArgs false
open Go.RowKit Go.PlainAid
theorem i64_and1 (n : Int) : bits .and .i64 n 1 = n % 2 := by
  have h1 : (BitVec.ofInt 64 1).toNat = 2 ^ 1 - 1 := by decide
  have key : (BitVec.ofInt 64 n &&& BitVec.ofInt 64 1).toNat = (n % ((2 ^ 64 : Nat) : Int)).toNat % 2 ^ 1 := by
    rw [BitVec.toNat_and, BitVec.toNat_ofInt, h1, Nat.and_two_pow_sub_one_eq_mod]
  show IntKind.i64.wrap ((BitVec.ofInt 64 n &&& BitVec.ofInt 64 1).toNat : Nat) = n % 2
  rw [key, IntKind.wrap_i64]
  omega
/-- the table of powers of ten -/
def PTab (w : World) : Prop := ∀ i, i < 696 → ∃ hi lo : Nat, w.cell? ⟨11, i * 2, none⟩ = some (.int .u64 (hi : Int)) ∧ w.cell? ⟨11, i * 2 + 1, none⟩ = some (.int .u64 (lo : Int)) ∧ hi * 2 ^ 64 = Nr.pm i + lo ∧ lo < 2 ^ 64 ∧ hi < 2 ^ 64
theorem PTab.below {w w' : World} {B : Nat} (h : PTab w) (hb : Below B w w') (hB : 12 ≤ B) : PTab w' := fun i hi => by
  obtain ⟨a, b, h1, h2, h3⟩ := h i hi
  exact ⟨a, b, (hb.cell (p := ⟨11, i * 2, none⟩) (show 11 < B by omega)).trans h1, (hb.cell (p := ⟨11, i * 2 + 1, none⟩) (show 11 < B by omega)).trans h2, h3⟩
/-- what Go's shortFloat hands back -/
def shortR (sk : Bool) (M A B : Nat) (p : Int) : Nat × Int :=
  if Nr.dmin sk M A B ≤ Nr.dmax M A B / 10 * 10 then (Nr.dmax M A B / 10, -(p - 1)) else if Nr.dmin sk M A B < Nr.dmax M A B then (Nr.near (M * A) B, -p) else (Nr.dmin sk M A B, -p)
theorem short_any (M sh z : Nat) (w : World) (hn : Nr.Norm M sh) (hM : 1 ≤ M) (hsh : sh ≤ 2045) (hz1 : 11 ≤ z) (hz2 : z ≤ 63) (hMz : M < 2 ^ (64 - z)) (hMz2 : 2 ^ 63 ≤ M * 2 ^ z) (hz3 : 1 ≤ sh → z = 11) (T : PTab w) (hS : 18 ≤ w.heap.size) :
    Calls Tryz.prog 204 #[.int .u64 ((M * 2 ^ z : Nat) : Int), .int .i64 ((sh : Int) - 1074 - z)] w
      (Gives w (.tuple #[.int .u64 ((shortR (Nr.skew M sh) M (Nr.aE (Nr.skew M sh) sh) (Nr.bE (Nr.skew M sh) sh) (Nr.pE (Nr.skew M sh) ((sh : Int) - 1074))).1 : Int), .int .i64 (shortR (Nr.skew M sh) M (Nr.aE (Nr.skew M sh) sh) (Nr.bE (Nr.skew M sh) sh) (Nr.pE (Nr.skew M sh) ((sh : Int) - 1074))).2])) := by
  have F := Nr.fits (Nr.skew M sh) sh hsh
  have hi' : Nr.iE (Nr.skew M sh) sh < 696 := by have := F.i2; omega
  obtain ⟨hi, lo, t1, t2, hpm, hlo, hhi⟩ := T _ hi'
  obtain ⟨s, hs⟩ : ∃ s, 128 + s = Nr.wE (Nr.skew M sh) sh - 2 + z := ⟨Nr.wE (Nr.skew M sh) sh + z - 130, by have := F.w1; omega⟩
  have ei := F.ei
  have ew := F.ew
  have w1 := F.w1
  have w2 := F.w2
  have i1 := F.i1
  have hle : lo ≤ hi * 2 ^ 64 := by omega
  have hm : M * 2 ^ z < 2 ^ 64 := by
    have h1 : M * 2 ^ z < 2 ^ (64 - z) * 2 ^ z := Nat.mul_lt_mul_of_pos_right hMz (Nat.two_pow_pos z)
    rw [← Nat.pow_add, show 64 - z + z = 64 by omega] at h1; exact h1
  have hdiv : M * 2 ^ z / 2 ^ z = M := Nat.mul_div_cancel M (Nat.two_pow_pos z)
  have hpar : bits .and .i64 ((M * 2 ^ z / 2 ^ z : Nat) : Int) 1 = ((M % 2 : Nat) : Int) := by rw [hdiv, i64_and1]; omega
  have hz12 : 2 ^ (z - 1) = 2 * 2 ^ (z - 2) := by rw [← Nat.pow_succ']; congr 1; omega
  have hz01 : 2 ^ z = 2 * 2 ^ (z - 1) := by rw [← Nat.pow_succ']; congr 1; omega
  have ehm : M * 2 ^ z = 2 * M * 2 ^ (z - 1) := by rw [hz01, Nat.mul_left_comm, Nat.mul_assoc]
  have emx : M * 2 ^ z + 2 ^ (z - 1) = (2 * M + 1) * 2 ^ (z - 1) := by rw [ehm, Nat.add_mul, Nat.one_mul]
  have emn : (2 * M - 1) * 2 ^ (z - 1) + 2 ^ (z - 1) = M * 2 ^ z := by
    rw [Nat.sub_mul, Nat.one_mul, ehm]
    have : 2 ^ (z - 1) ≤ 2 * M * 2 ^ (z - 1) := Nat.le_mul_of_pos_left _ (by omega)
    omega
  have hlp : Nr.pE (Nr.skew M sh) ((sh : Int) - 1074) * 108853 / 32768 = Nr.lpE (Nr.pE (Nr.skew M sh) ((sh : Int) - 1074)) := rfl
  have hip : Nr.pE (Nr.skew M sh) ((sh : Int) - 1074) = (Nr.iE (Nr.skew M sh) sh : Int) - 348 := by omega
  have hsI : -(((sh : Int) - 1074 - z) + Nr.lpE (Nr.pE (Nr.skew M sh) ((sh : Int) - 1074)) + 3) = (s : Int) := by omega
  have hl1 : -10000 ≤ Nr.lpE (Nr.pE (Nr.skew M sh) ((sh : Int) - 1074)) := by omega
  have hl2 : Nr.lpE (Nr.pE (Nr.skew M sh) ((sh : Int) - 1074)) ≤ 10000 := by omega
  have hp1 : M % 2 ≤ 1 := by omega
  by_cases hk : Nr.skew M sh = true
  · have hM52 := of_decide_eq_true hk
    have hz11 := hz3 hM52.2
    obtain ⟨umn, umx, um, D⟩ := Nr.short_math (mn := (4 * M - 1) * 2 ^ (z - 2)) (mx := (2 * M + 1) * 2 ^ (z - 1)) hn hM hsh hz1 hz2 hMz hs hpm hlo (by rw [if_pos hk]) rfl
    have hq1 : ((((sh : Int) - 1074 - z) + 11) * 631305 - 261663) / 2097152 = -(Nr.pE (Nr.skew M sh) ((sh : Int) - 1074)) := by
      unfold Nr.pE; rw [if_pos hk, hz11]
      rw [show ((sh : Int) - 1074 - ((11 : Nat) : Int) + 11) = (sh : Int) - 1074 by omega]; omega
    refine short_a (M * 2 ^ z) _ _ (M % 2) z (Nr.iE (Nr.skew M sh) sh) hi lo s umn umx um _ _ _ _ _ _ _ _ _ _ _ w hm D.hmn D.hmx (by omega) (by omega) (by rw [hM52.1, hz11]) (by omega) hz11 ?_ ?_ hq1 hpar hp1 (by omega) (by omega) (by omega) hlp hip hi' hl1 hl2 hsI (by omega) t1 t2 hS hhi hlo hle D.u1 D.u2 D.u3 D.l1 D.l2 D.l3 D.g2 rfl rfl D.d1 D.d2 D.d3 rfl
    · rw [hM52.1, hz11]
    · rw [hM52.1, hz11]
  · obtain ⟨umn, umx, um, D⟩ := Nr.short_math (mn := (2 * M - 1) * 2 ^ (z - 1)) (mx := (2 * M + 1) * 2 ^ (z - 1)) hn hM hsh hz1 hz2 hMz hs hpm hlo (by rw [if_neg hk]) rfl
    have hpEq : Nr.pE (Nr.skew M sh) ((sh : Int) - 1074) = -(((sh : Int) - 1074) * 78913 / 262144) := by unfold Nr.pE; rw [if_neg hk]
    by_cases hz11 : z = 11
    · by_cases hM0 : M * 2 ^ z = 2 ^ 63
      · have hM52 : M = 2 ^ 52 := by rw [hz11] at hM0; omega
        have hs0 : sh = 0 := by
          apply Classical.byContradiction
          intro h0
          apply hk
          unfold Nr.skew
          rw [decide_eq_true_eq]
          exact ⟨hM52, by omega⟩
        refine short_d (M * 2 ^ z) _ _ (M % 2) z (Nr.iE (Nr.skew M sh) sh) hi lo s umn umx um _ _ _ _ _ _ _ _ _ (-(Nr.pE (Nr.skew M sh) ((sh : Int) - 1074))) _ w hm D.hmn D.hmx (by omega) (by omega) hM0 (by omega) hz11 ?_ ?_ ?_ hpar hp1 (by omega) (by omega) (by omega) hlp hip hi' hl1 hl2 hsI (by omega) t1 t2 hS hhi hlo hle D.u1 D.u2 D.u3 D.l1 D.l2 D.l3 D.g2 rfl rfl D.d1 D.d2 D.d3 rfl
        · have hp : 2 ^ (z - 1) = 1024 := by rw [hz11]
          omega
        · have hp : 2 ^ (z - 1) = 1024 := by rw [hz11]
          omega
        · rw [hpEq, hs0]; decide
      · refine short_b (M * 2 ^ z) _ _ (M % 2) z (Nr.iE (Nr.skew M sh) sh) hi lo s umn umx um _ _ _ _ _ _ _ _ _ (-(Nr.pE (Nr.skew M sh) ((sh : Int) - 1074))) _ w hm D.hmn D.hmx (by omega) (by omega) hM0 (by omega) hz11 ?_ ?_ (by omega) ?_ hpar hp1 (by omega) (by omega) (by omega) hlp hip hi' hl1 hl2 hsI (by omega) t1 t2 hS hhi hlo hle D.u1 D.u2 D.u3 D.l1 D.l2 D.l3 D.g2 rfl rfl D.d1 D.d2 D.d3 rfl
        · have hp : 2 ^ (z - 1) = 1024 := by rw [hz11]
          omega
        · have hp : 2 ^ (z - 1) = 1024 := by rw [hz11]
          omega
        · rw [hpEq, hz11, show ((sh : Int) - 1074 - ((11 : Nat) : Int) + 11) = (sh : Int) - 1074 by omega]; omega
    · have hs0 : sh = 0 := by
        apply Classical.byContradiction
        intro h0
        exact hz11 (hz3 (by omega))
      refine short_c (M * 2 ^ z) _ _ (M % 2) z (Nr.iE (Nr.skew M sh) sh) hi lo s umn umx um _ _ _ _ _ _ _ _ _ (-(Nr.pE (Nr.skew M sh) ((sh : Int) - 1074))) _ w hm D.hmn D.hmx (by omega) (by omega) _ rfl (by omega) (by omega) hz2 ?_ ?_ ?_ hpar hp1 (by omega) (by omega) (by omega) hlp hip hi' hl1 hl2 hsI (by omega) t1 t2 hS hhi hlo hle D.u1 D.u2 D.u3 D.l1 D.l2 D.l3 D.g2 rfl rfl D.d1 D.d2 D.d3 rfl
      · exact emn
      · exact emx.symm
      · rw [hpEq, hs0]; decide
end Go.Proofs.YthhlhiighgnkmaaGreatDoor
/-! ## MATHEMATICS: how many bits, how many digits; the digits one by one. -/
namespace Go.Proofs.YthhlhiighgnkmaaGreatDoor.Nr
theorem nb_half {x : Nat} (h : x ≠ 0) : nb x = 1 + nb (x / 2) := by
  unfold nb
  rw [if_neg h]
  by_cases h2 : x / 2 = 0
  · rw [if_pos h2]
    have : x = 1 := by omega
    subst this; rfl
  · rw [if_neg h2]
    have : x.log2 = (x / 2).log2 + 1 := by
      rw [Nat.log2_def, if_pos (by omega)]
    omega
theorem bitLenAux_nb : ∀ (f x : Nat), x < 2 ^ f → Lib.bitLenAux f x = nb x := by
  intro f
  induction f with
  | zero => intro x h; have : x = 0 := by omega
            subst this; rfl
  | succ f ih =>
    intro x h
    unfold Lib.bitLenAux
    by_cases h0 : x = 0
    · subst h0; rfl
    · rw [if_neg h0, ih (x / 2) (by rw [Nat.pow_succ] at h; omega), nb_half h0]
theorem bitLen_nb {x : Nat} (h : x < 2 ^ 64) : Lib.bitLen x = nb x := bitLenAux_nb 64 x h
theorem l10_all : ∀ b : Fin 65, 1 ≤ b.val → 10 ^ (b.val * 78913 / 262144) ≤ 2 ^ (b.val - 1) * 10 ∧ 2 ^ b.val ≤ 10 ^ (b.val * 78913 / 262144 + 1) := by decide +kernel
theorem digits_of {u : Nat} (h0 : 0 < u) (h : u < 2 ^ 64) : (dd u).length = nb u * 78913 / 262144 + (if 10 ^ (nb u * 78913 / 262144) ≤ u then 1 else 0) := by
  have h64 : nb u ≤ 64 := (nb_le_iff u 64).2 h
  have hb1 : 1 ≤ nb u := by unfold nb; rw [if_neg (by omega)]; omega
  obtain ⟨a1, a2⟩ := l10_all ⟨nb u, by omega⟩ hb1
  simp only at a1 a2
  have b1 := nb_le (show u ≠ 0 by omega)
  have b2 := nb_lt u
  generalize nb u * 78913 / 262144 = k at *
  split
  · rename_i hk
    exact dd_len_of hk (by omega)
  · rename_i hk
    have hk0 : k ≠ 0 := by intro hk0; rw [hk0, Nat.pow_zero] at hk; omega
    obtain ⟨j, rfl⟩ : ∃ j, k = j + 1 := ⟨k - 1, by omega⟩
    rw [Nat.pow_succ] at a1
    exact dd_len_of (by omega) (by omega)
theorem dd_get : ∀ (n u : Nat), u ≤ n → ∀ k, k < (dd u).length → (dd u)[k]? = some (48 + u / 10 ^ ((dd u).length - 1 - k) % 10) := by
  intro n
  induction n with
  | zero =>
    intro u h k hk
    obtain rfl : u = 0 := by omega
    rw [dd_small (by omega)] at hk ⊢
    simp at hk; subst hk; rfl
  | succ n ih =>
    intro u h k hk
    by_cases hu : u < 10
    · rw [dd_small hu] at hk ⊢
      simp at hk; subst hk
      simp; omega
    · rw [dd_big hu] at hk ⊢
      rw [List.length_append, List.length_singleton] at hk ⊢
      by_cases hl : k < (dd (u / 10)).length
      · rw [List.getElem?_append_left hl, ih (u / 10) (by omega) k hl, Nat.div_div_eq_div_mul, show (dd (u / 10)).length + 1 - 1 - k = ((dd (u / 10)).length - 1 - k) + 1 by omega, Nat.pow_succ, Nat.mul_comm 10]
      · have : k = (dd (u / 10)).length := by omega
        subst this
        rw [List.getElem?_append_right (Nat.le_refl _)]
        simp
theorem dg_get {u k : Nat} (h : k < (dd u).length) : (dd u)[k]? = some (Lib.dg u ((dd u).length - 1 - k)).toNat := by
  rw [dd_get u u (Nat.le_refl _) k h]
  congr 1
  unfold Lib.dg
  have : 48 + u / 10 ^ ((dd u).length - 1 - k) % 10 < 256 := by omega
  simp [UInt8.toNat_ofNat']
  omega
/-- what is stripped: noughts all -/
theorem strip_len_le (l : List Nat) : (strip l).length ≤ l.length := by
  unfold strip
  rw [List.length_reverse]
  have := (List.dropWhile_sublist (· == 48) (l := l.reverse)).length_le
  rw [List.length_reverse] at this
  exact this
theorem strip_take : ∀ (n : Nat) (l : List Nat), l.length = n → strip l = l.take (strip l).length := by
  intro n
  induction n with
  | zero => intro l h; have := List.length_eq_zero_iff.1 h; subst this; rfl
  | succ n ih =>
    intro l h
    have hne : l ≠ [] := by intro h0; subst h0; simp at h
    obtain ⟨m, c, rfl⟩ : ∃ m c, l = m ++ [c] := ⟨l.dropLast, l.getLast hne, (List.dropLast_concat_getLast hne).symm⟩
    by_cases hc : c = 48
    · subst hc
      rw [strip_nought]
      have hm := ih m (by simpa using h)
      conv => lhs; rw [hm]
      rw [List.take_append_of_le_length (strip_len_le m)]
    · rw [strip_other m hc, List.take_length]
/-- one step of Go's loop that strips: a nought at the end falls -/
theorem strip_step (l : List Nat) (k : Nat) (hc : l[k]? = some 48) : strip (l.take (k + 1)) = strip (l.take k) := by
  rw [List.take_add_one, hc]
  exact strip_nought _
theorem strip_stop (l : List Nat) (k : Nat) (c : Nat) (hc : l[k]? = some c) (hne : c ≠ 48) : strip (l.take (k + 1)) = l.take (k + 1) := by
  rw [List.take_add_one, hc]
  exact strip_other _ hne
end Go.Proofs.YthhlhiighgnkmaaGreatDoor.Nr
/-! ## WALKS: how many digits, and the digits as bytes. -/
namespace Go.Proofs.YthhlhiighgnkmaaGreatDoor
set_option linter.unusedVariables false
set_option linter.unusedSimpArgs false
open Go.RowKit Go.PlainAid
open Go.Sort (Holds putRow holds_putRow size_putRow)
/-- what printing needs of the library's variables -/
structure Tabs (w : World) (m : Int) : Prop where
  pw : PTab w
  ten : ∀ i, i < 20 → w.cell? ⟨2, i, none⟩ = some (.int .u64 ((10 ^ i : Nat) : Int))
  max : w.cell? ⟨3, 0, none⟩ = some (.int .i64 m)
  size : 18 ≤ w.heap.size
theorem Tabs.below {w w' : World} {m : Int} {B : Nat} (h : Tabs w m) (hb : Below B w w') (hB : 12 ≤ B) : Tabs w' m :=
  ⟨h.pw.below hb hB, fun i hi => (hb.cell (p := ⟨2, i, none⟩) (show 2 < B by omega)).trans (h.ten i hi), (hb.cell (p := ⟨3, 0, none⟩) (show 3 < B by omega)).trans h.max, Nat.le_trans h.size hb.size⟩
theorem ndigits_any (u : Nat) (h0 : 0 < u) (hu : u < 2 ^ 62) (w : World) (h : ∀ i, i < 20 → w.cell? ⟨2, i, none⟩ = some (.int .u64 ((10 ^ i : Nat) : Int))) : Calls Tryz.prog 139 #[.int .u64 (u : Int)] w fun e w' => e = .returned (.int .i64 (((Nr.dd u).length : Nat) : Int)) ∧ w' = w := by
  have C1 := Lib.hid (fun w => Tryz.bits_Len64 (u : Int) w (by omega) (by omega))
  rw [Int.toNat_natCast, Nr.bitLen_nb (by omega)] at C1
  have hb : Nr.nb u ≤ 62 := (Nr.nb_le_iff u 62).2 hu
  have C2 := Lib.hid (fun w => log10_any (Nr.nb u : Int) (by omega) (by omega) w)
  have hd := Nr.digits_of h0 (by omega)
  obtain ⟨k, hk⟩ : ∃ k, Nr.nb u * 78913 / 262144 = k := ⟨_, rfl⟩
  rw [show (Nr.nb u : Int) * 78913 / 262144 = (k : Int) by omega] at C2
  rw [hk] at hd
  have hk20 : k < 20 := by omega
  have hc := h k hk20
  have hp : 10 ^ k ≤ 10 ^ 19 := Nat.pow_le_pow_right (by decide) (by omega)
  obtain ⟨T, hT⟩ : ∃ T, 10 ^ k = T := ⟨_, rfl⟩
  rw [hT] at hc hd hp
  obtain ⟨b, hbb⟩ : ∃ b, decide (T ≤ u) = b := ⟨_, rfl⟩
  have hb2 : decide ((T : Int) ≤ (u : Int)) = b := by rw [← hbb, decide_eq_decide]; omega
  have C3 := Lib.hid (fun w => Tryz.internal_strconv_bool2_int b w)
  have hd2 : (Nr.dd u).length = k + (if b then 1 else 0) := by rw [hd, ← hbb]; by_cases h : T ≤ u <;> simp [h]
  have e1 : IntKind.i64.wrap ((k : Int) + (if b then 1 else 0)) = (((Nr.dd u).length : Nat) : Int) := by rw [hd2, IntKind.wrap_i64]; cases b <;> simp <;> omega
  have hk1 : (k : Int) < 20 := by omega
  obtain ⟨L, hL⟩ : ∃ L, (Nr.dd u).length = L := ⟨_, rfl⟩
  rw [hL] at e1 hd2 ⊢
  clear hd h hL hp hT hk
  cases b
  all_goals
    simp only [Bool.false_eq_true, if_false, if_true, Nat.add_zero, Int.add_zero] at e1 hd2
    subst hd2
    go_enter Tryz.func139, Tryz.ntmps139
    go_wp2_with fail
    refine (C1.out _).mono ?_
    rintro e w1 ⟨rfl, rfl⟩
    go_wp2_with fail
    refine (C2.out _).mono ?_
    rintro e w1 ⟨rfl, rfl⟩
    go_wp2_with fail
    refine (C3.out _).mono ?_
    rintro e w1 ⟨rfl, rfl⟩
    go_wp2
    go_ret
    exact ⟨rfl, rfl⟩
end Go.Proofs.YthhlhiighgnkmaaGreatDoor
/-! ## WALKS: the digits as bytes, noughts stripped. -/
namespace Go.Proofs.YthhlhiighgnkmaaGreatDoor
set_option linter.unusedVariables false
set_option linter.unusedSimpArgs false
open Go.RowKit Go.PlainAid
open Go.Sort (Holds putRow holds_putRow size_putRow)
set_option maxRecDepth 100000 in
set_option maxHeartbeats 1000000 in
theorem setdigits_any (b u : Nat) (p : Int) (h0 : 0 < u) (hu : u < 2 ^ 62) (hp1 : -1000 ≤ p) (hp2 : p ≤ 1000) (w : World) (H : Holds encB w b 0 (Array.replicate (Nr.dd u).length (0 : UInt8))) (hb : b < w.heap.size) :
    Calls Tryz.prog 199 #[.slice (some ⟨b, 0, none⟩) 32 32, .int .u64 (u : Int), .int .i64 p, .int .i64 (((Nr.dd u).length : Nat) : Int)] w fun e w' => e = .returned (.tuple #[.int .i64 (((Nr.dd u).length : Nat) + p), .int .i64 (((Nr.strip (Nr.dd u)).length : Nat) : Int)]) ∧ Only [b] w w' ∧ ∀ j c, (Nr.dd u)[j]? = some c → w'.cell? ⟨b, j, none⟩ = some (.int .u8 ((c : Nat) : Int)) := by
  have hlt := Nr.dd_lt u u (Nat.le_refl _)
  have hlp := Nr.dd_len_pos u
  have hl20 : (Nr.dd u).length ≤ 20 := by
    have := Nr.dd_ge u u (Nat.le_refl _) h0
    apply Classical.byContradiction
    intro h
    have : 10 ^ 20 ≤ 10 ^ ((Nr.dd u).length - 1) := Nat.pow_le_pow_right (by decide) (by omega)
    omega
  obtain ⟨n, hn⟩ : ∃ n, (Nr.dd u).length = n := ⟨_, rfl⟩
  have CF : Hid (Calls Tryz.prog 140 #[.slice (some ⟨b, 0, none⟩) n 32, .int .u64 (u : Int)] w fun e w' => e = .returned (.tuple #[]) ∧ Only [b] w w' ∧ ∀ j c, (Nr.dd u)[j]? = some c → w'.cell? ⟨b, j, none⟩ = some (.int .u8 ((c : Nat) : Int))) := by
    refine Lib.hid ?_
    have h := Tryz.internal_strconv_formatBase10 b 0 32 u (Array.replicate (Nr.dd u).length (0 : UInt8)) w H (by rw [Array.size_replicate]; exact hlt) (by omega) (by rw [Array.size_replicate]; omega)
    rw [Array.size_replicate, hn] at h
    refine h.mono ?_
    rintro e w' ⟨rfl, k, v', dk, rfl, hF⟩
    have hP := holds_putRow encB w b 0 (Array.replicate (Nr.dd u).length (0 : UInt8)) dk H (by rw [hF.size, Array.size_replicate, hn])
    refine ⟨rfl, only_putRow w b 0 dk k, fun j c hc => ?_⟩
    have hj : j < (Nr.dd u).length := (List.getElem?_eq_some_iff.1 hc).1
    have h0 := (hP j (by rw [hF.size, ← hn]; exact hj)).1
    rw [hF.done j (Nat.zero_le _) (by omega)] at h0
    rw [Nr.dg_get hj, hn] at hc
    rw [Nat.zero_add] at h0
    rw [← Option.some.inj hc]
    exact h0
  rw [hn] at hl20
  have HL := Lib.hid hn
  obtain ⟨l, hl⟩ : ∃ l, Nr.dd u = l := ⟨_, rfl⟩
  rw [hl] at CF HL hn ⊢
  rw [hn]
  have HS := Lib.hid (Nr.strip_len_le l)
  have hbyte : Hid (∀ j (c : Nat), l[j]? = some c → c < 256) := Lib.hid (fun j c hc => by
    have hj : j < (Nr.dd u).length := by rw [hl]; exact (List.getElem?_eq_some_iff.1 hc).1
    have := Nr.dg_get hj
    rw [hl, hc] at this
    rw [Option.some.inj this]
    exact UInt8.toNat_lt _)
  have e1 : IntKind.i64.wrap ((n : Int) + p) = (n : Int) + p := by rw [IntKind.wrap_i64]; omega
  have hn32 : (n : Int) ≤ 32 := by omega
  have hn32' : n ≤ 32 := by omega
  rw [hl] at hlp
  clear H hlt hl hu h0 hp1 hp2 hl20
  go_enter Tryz.func199, Tryz.ntmps199
  go_wp2_with fail
  refine CF.out.mono ?_
  rintro e w2 ⟨rfl, ho, hj⟩
  have O2 := Lib.hid ho
  have HJ := Lib.hid hj
  clear ho hj CF
  go_wp2_with fail
  go_loopw [3] (fun i wr => ∃ k : Nat, k ≤ n ∧ i = .int .i64 (k : Int) ∧ Hid (Nr.strip (l.take k) = Nr.strip l) ∧ wr = w2) (fun i _ => (intOf i).toNat)
  case atStart => exact ⟨n, Nat.le_refl _, rfl, Lib.hid (by rw [← HL.out, List.take_length]), rfl⟩
  case round =>
    obtain ⟨k, hk, rfl, HT, rfl⟩ := hrel
    by_cases hk0 : k = 0
    · subst hk0
      have HZ := Lib.hid (show (Nr.strip l).length = 0 by rw [← HT.out]; rfl)
      go_wp2
      go_returns
      rw [HZ.out]
      exact ⟨rfl, O2.out, HJ.out⟩
    · obtain ⟨j, rfl⟩ : ∃ j, k = j + 1 := ⟨k - 1, by omega⟩
      have hjl : j < l.length := by rw [HL.out]; omega
      obtain ⟨c, hc⟩ : ∃ c, l[j]? = some c := ⟨_, List.getElem?_eq_getElem hjl⟩
      have hcell := HJ.out j c hc
      have hc256 := hbyte.out j c hc
      have hkp : (0 : Int) < ((j + 1 : Nat) : Int) := by omega
      have e2 : IntKind.i64.wrap (((j + 1 : Nat) : Int) - 1) = (j : Int) := by rw [IntKind.wrap_i64]; omega
      have hj1 : (j : Int) < 32 := by omega
      have HC := Lib.hid hc
      by_cases h48 : c = 48
      · subst h48
        have HT2 := Lib.hid ((Nr.strip_step l j HC.out).symm.trans HT.out)
        have t1 : (((48 : Nat) : Int) == 48) = true := rfl
        clear hc
        go_wp2
        go_roundw
        case rel => exact ⟨j, by omega, rfl, HT2, trivial⟩
        case measure => simp only [intOf]; omega
      · have t1 : (((c : Nat) : Int) == 48) = false := by rw [beq_eq_false_iff_ne]; omega
        have HZ := Lib.hid (show (Nr.strip l).length = j + 1 by
          rw [← HT.out, Nr.strip_stop l j c HC.out h48, List.length_take]; omega)
        clear hc
        go_wp2
        go_returns
        rw [HZ.out]
        exact ⟨rfl, O2.out, HJ.out⟩
end Go.Proofs.YthhlhiighgnkmaaGreatDoor
