/-
  NumA, NumB, NumC, NumD, put together (a claim holds at most 60 files).
-/
import Derived.Test.YthhlhiighgnkmaaGreatDoorDurZ
import Derived.WalkMore
import Derived.Laws.Cover2
import Derived.Laws.FloatArith
import Derived.Laws.Externs
/-! ## WALKS: ".1" is read: what Go's library does with ".1e0". -/
namespace Go.Proofs.YthhlhiighgnkmaaGreatDoor
set_option linter.unusedVariables false
set_option linter.unusedSimpArgs false
open Go.RowKit Go.PlainAid
theorem special_dot (S : ByteArray) (hs : S.size = 4) (h0 : bt S 0 = 46) (w : World) : Calls Tryz.prog 243 #[.string S] w fun e w' => e = .returned (.tuple #[.float .f64 0, .int .i64 0, .bool false]) ∧ w' = w := by
  have hbt := get_bt S
  go_enter Tryz.func243, Tryz.ntmps243
  go_wp2
  go_returns
  exact ⟨rfl, rfl⟩
theorem lower_e (w : World) : Calls Tryz.prog 218 #[.int .u8 101] w fun e w' => e = .returned (.int .u8 101) ∧ w' = w := by
  go_enter Tryz.func218, Tryz.ntmps218
  go_wp2
  go_ret
  exact ⟨rfl, rfl⟩
set_option maxRecDepth 100000 in
set_option maxHeartbeats 2000000 in
theorem readfloat_dot (S : ByteArray) (hs : S.size = 4) (h0 : bt S 0 = 46) (h1 : bt S 1 = 49) (h2 : bt S 2 = 101) (h3 : bt S 3 = 48) (w : World) : Calls Tryz.prog 244 #[.string S] w fun e w' => e = .returned (.tuple #[.int .u64 1, .int .i64 (-1), .bool false, .bool false, .bool false, .int .i64 4, .bool true]) ∧ w' = w := by
  have hbt := get_bt S
  have CE := Lib.hid lower_e
  go_enter Tryz.func244, Tryz.ntmps244
  go_wp2
  go_step3
  go_wp2
  go_step3
  go_wp2
  refine wp_loop_rounds 4 ?_
  rw [rounds_succ]
  go_wp2
  rw [rounds_succ]
  go_wp2
  rw [rounds_succ]
  go_wp2_with fail
  refine (CE.out _).mono ?_
  rintro e w1 ⟨rfl, rfl⟩
  go_wp2
  refine wp_loop_rounds 3 ?_
  rw [rounds_succ]
  go_wp2
  rw [rounds_succ]
  go_wp2
  rw [Exit.noGoto_ret]
  show bodyPost Tryz.prog Tryz.f244 _ _ _ _
  go_returns
  exact ⟨rfl, rfl⟩
end Go.Proofs.YthhlhiighgnkmaaGreatDoor
/-! ## WALKS: ".1" is read: one tenth; the library's door. -/
namespace Go.Proofs.YthhlhiighgnkmaaGreatDoor
set_option linter.unusedVariables false
set_option linter.unusedSimpArgs false
open Go.RowKit Go.PlainAid
/-- what reading one tenth needs of the library's variables -/
structure TenTab (w : World) (a o : Nat) (cap : Nat) : Prop where
  info : w.cell? ⟨14, 0, none⟩ = some (.int .u64 52)
  opt : w.cell? ⟨4, 0, none⟩ = some (.bool true)
  pow : w.cell? ⟨17, 0, none⟩ = some (.slice (some ⟨a, o, none⟩) 23 cap)
  ten : w.cell? ⟨a, o + 1, none⟩ = some (.float .f64 4621819117588971520)
  lo : a < w.heap.size
  hi : 18 ≤ w.heap.size
theorem TenTab.stay {w w' : World} {a o : Nat} {cap : Nat} (h : TenTab w a o cap) (hb : Below w.heap.size w w') : TenTab w' a o cap := by
  have hh := h.hi
  exact ⟨(hb.cell (p := ⟨14, 0, none⟩) (show 14 < _ by omega)).trans h.info, (hb.cell (p := ⟨4, 0, none⟩) (show 4 < _ by omega)).trans h.opt, (hb.cell (p := ⟨17, 0, none⟩) (show 17 < _ by omega)).trans h.pow, (hb.cell (p := ⟨a, o + 1, none⟩) h.lo).trans h.ten, Nat.lt_of_lt_of_le h.lo hb.size, Nat.le_trans hh hb.size⟩
theorem bits210 (a : Nat) (w : World) : (callFunc 210 #[.float .f64 a]).run Tryz.prog w = .ok (.value (.int .u64 (a : Int))) w := by
  rw [run_callFunc_extern (e := Extern.MathFloatBits.float64bits) Tryz.func210 (by kernel_rfl) (by kernel_rfl) (by kernel_rfl) (by kernel_rfl)]
  rw [show Extern.MathFloatBits.float64bits #[.float .f64 a] = pure (.int .u64 (a : Int)) from rfl]
  rfl
theorem one_float : floatOfInt .f64 1 = 4607182418800017408 := by decide +kernel
theorem tenth_quo : floatBits .quo .f64 4607182418800017408 4621819117588971520 = some 4591870180066957722 := by decide +kernel
set_option maxRecDepth 100000 in
set_option maxHeartbeats 1000000 in
theorem exact_tenth (a o : Nat) (cap : Nat) (w : World) (H : TenTab w a o cap) : Calls Tryz.prog 253 #[.int .u64 1, .int .i64 (-1), .bool false] w fun e w' => e = .returned (.tuple #[.float .f64 4591870180066957722, .bool true]) ∧ w' = w := by
  have c1 := H.info
  have c2 := H.pow
  have c3 := H.ten
  have hf := one_float
  have hq : ∀ t w, (binOp .quo t (.float .f64 4607182418800017408) (.float .f64 4621819117588971520)).run Tryz.prog w = .ok (.float .f64 4591870180066957722) w := fun t w => run_float_arith w .quo t .f64 _ _ _ tenth_quo
  clear H
  go_enter Tryz.func253, Tryz.ntmps253
  go_wp2
  go_returns
  exact ⟨rfl, rfl⟩
theorem bool2_false (w : World) : Calls Tryz.prog 237 #[.bool false] w fun e w' => e = .returned (.int .u64 0) ∧ w' = w := by
  go_enter Tryz.func237, Tryz.ntmps237
  go_wp2
  go_returns
  exact ⟨rfl, rfl⟩
set_option maxRecDepth 100000 in
set_option maxHeartbeats 2000000 in
theorem atof_tenth (S : ByteArray) (hs : S.size = 4) (h0 : bt S 0 = 46) (h1 : bt S 1 = 49) (h2 : bt S 2 = 101) (h3 : bt S 3 = 48) (a o : Nat) (cap : Nat) (w : World) (H : TenTab w a o cap) : Calls Tryz.prog 242 #[.string S] w fun e w' => e = .returned (.tuple #[.float .f64 4591870180066957722, .int .i64 4, .nilIface]) ∧ w' = w := by
  have CA := Lib.hid (fun w => special_dot S hs h0 w)
  have CB := Lib.hid (fun w => readfloat_dot S hs h0 h1 h2 h3 w)
  have CC := Lib.hid (exact_tenth a o cap w H)
  have CD := Lib.hid bool2_false
  have c1 := H.opt
  clear h0 h1 h2 h3 hs H
  go_enter Tryz.func242, Tryz.ntmps242
  go_wp2_with fail
  refine (CA.out _).mono ?_
  rintro e w1 ⟨rfl, rfl⟩
  go_wp2_with fail
  refine (CB.out _).mono ?_
  rintro e w1 ⟨rfl, rfl⟩
  go_wp2_with fail
  refine (CD.out _).mono ?_
  rintro e w1 ⟨rfl, rfl⟩
  go_wp2_with fail
  refine CC.out.mono ?_
  rintro e w1 ⟨rfl, rfl⟩
  go_wp2
  go_returns
  exact ⟨rfl, rfl⟩
set_option maxRecDepth 100000 in
theorem parse_tenth (S : ByteArray) (hs : S.size = 4) (h0 : bt S 0 = 46) (h1 : bt S 1 = 49) (h2 : bt S 2 = 101) (h3 : bt S 3 = 48) (a o : Nat) (cap : Nat) (w : World) (H : TenTab w a o cap) : Calls Tryz.prog 175 #[.string S] w fun e w' => e = .returned (.int .u64 4591870180066957722) ∧ w' = w := by
  have C1 := Lib.hid (atof_tenth S hs h0 h1 h2 h3 a o cap w H)
  clear h0 h1 h2 h3 H
  have C2 : Hid (Calls Tryz.prog 240 #[.string S, .int .i64 64] w fun e w' => e = .returned (.tuple #[.float .f64 4591870180066957722, .int .i64 4, .nilIface]) ∧ w' = w) := by
    refine Lib.hid ?_
    go_enter Tryz.func240, Tryz.ntmps240
    go_wp2_with fail
    refine C1.out.mono ?_
    rintro e w1 ⟨rfl, rfl⟩
    go_wp2
    go_returns
    exact ⟨rfl, rfl⟩
  clear C1
  have C3 : Hid (Calls Tryz.prog 236 #[.string S, .int .i64 64] w fun e w' => e = .returned (.tuple #[.float .f64 4591870180066957722, .nilIface]) ∧ w' = w) := by
    refine Lib.hid ?_
    go_enter Tryz.func236, Tryz.ntmps236
    go_wp2_with fail
    refine C2.out.mono ?_
    rintro e w1 ⟨rfl, rfl⟩
    go_wp2
    go_returns
    exact ⟨rfl, rfl⟩
  clear C2
  have C4 : Hid (Calls Tryz.prog 209 #[.string S, .int .i64 64] w fun e w' => e = .returned (.tuple #[.float .f64 4591870180066957722, .nilIface]) ∧ w' = w) := by
    refine Lib.hid ?_
    go_enter Tryz.func209, Tryz.ntmps209
    go_wp2_with fail
    refine C3.out.mono ?_
    rintro e w1 ⟨rfl, rfl⟩
    go_wp2
    go_returns
    exact ⟨rfl, rfl⟩
  clear C3
  have hbits := bits210 4591870180066957722
  go_enter Tryz.func175, Tryz.ntmps175
  go_wp2_with fail
  refine C4.out.mono ?_
  rintro e w1 ⟨rfl, rfl⟩
  go_wp2
  go_returns
  exact ⟨rfl, rfl⟩
end Go.Proofs.YthhlhiighgnkmaaGreatDoor
/-! ## WALKS: ".1" is read: the reader's skip, word, sign; the number. -/
namespace Go.Proofs.YthhlhiighgnkmaaGreatDoor
set_option linter.unusedVariables false
set_option linter.unusedSimpArgs false
open Go.RowKit Go.PlainAid
/-- nothing is skipped at the end -/
theorem skip_end (R : Nat) (bs : List Nat) (p : Nat) (W : ByteArray) (hp : p = bs.length) (w : World) (H : Rd w R bs p) :
    Calls Tryz.prog 103 #[.pointer (some ⟨R, 0, none⟩), .string W] w fun e w' => e = .returned (.bool false) ∧ ∃ m, w' = w.drewN m := by
  have CQ := Lib.hid (fun m => isdone_q R bs p (w.drewN m) H)
  rw [decide_eq_true hp] at CQ
  clear hp H
  go_enter Tryz.func103, Tryz.ntmps103
  go_wp2_with fail
  go_quiet ((go_at_call 83; exact Calls.quiet_of (CQ.out _)))
  go_wp2
  go_ret
  exact ⟨rfl, _, rfl⟩
/-- another byte is not skipped -/
theorem skip_no (R : Nat) (bs : List Nat) (p c : Nat) (W : ByteArray) (hB : IsB bs) (hl : bs.length ≤ 200000) (hc : bs[p]? = some c) (hW : Lib.indexByte W.data.toList c.toUInt8 = -1) (w : World) (H : Rd w R bs p) :
    Calls Tryz.prog 103 #[.pointer (some ⟨R, 0, none⟩), .string W] w fun e w' => e = .returned (.bool false) ∧ ∃ m, w' = w.drewN m := by
  obtain ⟨hp, hpc⟩ := List.getElem?_eq_some_iff.1 hc
  have CQ := Lib.hid (fun m => isdone_q R bs p (w.drewN m) H)
  rw [decide_eq_false (by omega)] at CQ
  have CI := Lib.hid (fun w => Tryz.strings_IndexByte W ((c : Nat) : Int) w)
  rw [Int.toNat_natCast, hW] at CI
  have h0 := H.c0
  have h1 := H.c1
  have hsz := strOf_size bs
  have hbt := get_bt (strOf bs)
  have hb0 : bt (strOf bs) p = ((c : Nat) : Int) := by rw [strOf_bt bs hB p hp, hpc]
  obtain ⟨L, hL⟩ : ∃ L, bs.length = L := ⟨_, rfl⟩
  rw [hL] at hsz hl hp
  have hpi : (p : Int) < (L : Int) := by omega
  clear hL H hpc hc hW hB
  go_enter Tryz.func103, Tryz.ntmps103
  go_wp2_with fail
  go_quiet ((first
    | (go_at_call 83; exact Calls.quiet_of (CQ.out _))
    | (go_at_call 152; exact Calls.quiet_of_same ((CI.out _).mono fun _ _ h => ⟨h.1, h.2⟩))))
  go_wp2
  go_ret
  exact ⟨rfl, _, rfl⟩
/-- one of these bytes is skipped -/
theorem skip_yes (R : Nat) (bs : List Nat) (p c : Nat) (W : ByteArray) (i : Nat) (hB : IsB bs) (hl : bs.length ≤ 200000) (hc : bs[p]? = some c) (hW : Lib.indexByte W.data.toList c.toUInt8 = (i : Int)) (w : World) (H : Rd w R bs p) :
    Calls Tryz.prog 103 #[.pointer (some ⟨R, 0, none⟩), .string W] w fun e w' => e = .returned (.bool true) ∧ Only [R] w w' ∧ Rd w' R bs (p + 1) := by
  obtain ⟨hp, hpc⟩ := List.getElem?_eq_some_iff.1 hc
  have CQ := Lib.hid (fun m => isdone_q R bs p (w.drewN m) H)
  rw [decide_eq_false (by omega)] at CQ
  have CI := Lib.hid (fun w => Tryz.strings_IndexByte W ((c : Nat) : Int) w)
  rw [Int.toNat_natCast, hW] at CI
  have HR := Lib.hid H
  have h0 := H.c0
  have h1 := H.c1
  have f1 := H.fz 1
  have hsz := strOf_size bs
  have hbt := get_bt (strOf bs)
  have hb0 : bt (strOf bs) p = ((c : Nat) : Int) := by rw [strOf_bt bs hB p hp, hpc]
  obtain ⟨L, hL⟩ : ∃ L, bs.length = L := ⟨_, rfl⟩
  rw [hL] at hsz hl hp
  have hpi : (p : Int) < (L : Int) := by omega
  have hin : decide ((i : Int) < 0) = false := decide_eq_false (by omega)
  have e1 : IntKind.i64.wrap ((p : Int) + 1) = ((p + 1 : Nat) : Int) := by rw [IntKind.wrap_i64]; omega
  clear hL H hpc hc hW hB
  go_enter Tryz.func103, Tryz.ntmps103
  go_wp2_with fail
  go_quiet ((first
    | (go_at_call 83; exact Calls.quiet_of (CQ.out _))
    | (go_at_call 152; exact Calls.quiet_of_same ((CI.out _).mono fun _ _ h => ⟨h.1, h.2⟩))))
  go_wp2
  go_ret
  exact ⟨rfl, ((Only.refl [R] w).drewN _).setCell (.inl (by simp)) _, Rd.set (w := w.drewN nq) HR.out (p + 1)⟩
/-- a word that has more bytes than are left is not there -/
theorem word_short (R : Nat) (bs : List Nat) (p : Nat) (W : ByteArray) (hp : p ≤ bs.length) (hl : bs.length ≤ 200000) (hW : bs.length - p < W.size) (w : World) (H : Rd w R bs p) :
    Calls Tryz.prog 130 #[.pointer (some ⟨R, 0, none⟩), .string W] w fun e w' => e = .returned (.bool false) ∧ ∃ m, w' = w.drewN m := by
  have h0 := H.c0
  have h1 := H.c1
  have hsz := strOf_size bs
  obtain ⟨L, hL⟩ : ∃ L, bs.length = L := ⟨_, rfl⟩
  rw [hL] at hsz hl hp hW
  obtain ⟨Z, hZ⟩ : ∃ Z, W.size = Z := ⟨_, rfl⟩
  rw [hZ] at hW
  have e1 : IntKind.i64.wrap ((L : Int) - (p : Int)) = ((L - p : Nat) : Int) := by rw [IntKind.wrap_i64]; omega
  have e2 : decide (((L - p : Nat) : Int) < (Z : Int)) = true := decide_eq_true (by omega)
  obtain ⟨D, hD⟩ : ∃ D, L - p = D := ⟨_, rfl⟩
  rw [hD] at e1 e2
  have hDZ : D < Z := by omega
  clear hL H hD hW
  go_enter Tryz.func130, Tryz.ntmps130
  go_wp2_with fail
  go_quiet (fail)
  go_wp2
  go_ret
  exact ⟨rfl, _, rfl⟩
/-- a word that begins with another byte is not there -/
theorem word_other (R : Nat) (bs : List Nat) (p c d : Nat) (W : ByteArray) (hB : IsB bs) (hp : bs[p]? = some c) (hc : c < 65) (hl : bs.length ≤ 200000) (hW : W.size ≤ bs.length - p) (hZ0 : 1 ≤ W.size) (hd : bt W 0 = ((d : Nat) : Int)) (hcd : c ≠ d) (w : World) (H : Rd w R bs p) :
    Calls Tryz.prog 130 #[.pointer (some ⟨R, 0, none⟩), .string W] w fun e w' => e = .returned (.bool false) ∧ ∃ m, w' = w.drewN m := by
  have h0 := H.c0
  have h1 := H.c1
  obtain ⟨hp, hpc⟩ := List.getElem?_eq_some_iff.1 hp
  have hsz := strOf_size bs
  have hbt := get_bt (strOf bs)
  have hbw := get_bt W
  have hb0 : bt (strOf bs) p = ((c : Nat) : Int) := by rw [strOf_bt bs hB p hp, hpc]
  obtain ⟨L, hL⟩ : ∃ L, bs.length = L := ⟨_, rfl⟩
  rw [hL] at hsz hl hp hW
  obtain ⟨Z, hZ⟩ : ∃ Z, W.size = Z := ⟨_, rfl⟩
  rw [hZ] at hW hZ0
  have e1 : IntKind.i64.wrap ((L : Int) - (p : Int)) = ((L - p : Nat) : Int) := by rw [IntKind.wrap_i64]; omega
  have e2 : decide (((L - p : Nat) : Int) < (Z : Int)) = false := decide_eq_false (by omega)
  have e3 : decide ((0 : Int) < (Z : Int)) = true := decide_eq_true (by omega)
  have hz : (0 : Int) < (Z : Int) := by omega
  have e4 : decide ((65 : Int) ≤ (c : Int)) = false := decide_eq_false (by omega)
  have e5 : (((c : Nat) : Int) == ((d : Nat) : Int)) = false := by simp; omega
  have e6 : IntKind.i64.wrap ((p : Int) + 0) = (p : Int) := by rw [IntKind.wrap_i64]; omega
  have hpi : (p : Int) < (L : Int) := by omega
  obtain ⟨D, hD⟩ : ∃ D, L - p = D := ⟨_, rfl⟩
  rw [hD] at e1 e2
  have hDZ : ¬ D < Z := by omega
  have hZp : 0 < Z := by omega
  have hcn : ¬ 65 ≤ c := by omega
  clear hL H hD hW hpc hB
  go_enter Tryz.func130, Tryz.ntmps130
  go_wp2_with fail
  go_quiet (fail)
  go_wp2_with fail
  refine wp_loop_rounds 1 ?_
  rw [rounds_succ]
  go_wp2_with fail
  go_quiet (fail)
  go_wp2
  go_ret
  exact ⟨rfl, _, rfl⟩
end Go.Proofs.YthhlhiighgnkmaaGreatDoor
/-! ## WALKS: ".1" is read: the whole of it. -/
namespace Go.Proofs.YthhlhiighgnkmaaGreatDoor
set_option linter.unusedVariables false
set_option linter.unusedSimpArgs false
open Go.RowKit Go.PlainAid
def bTen : List Nat := [46, 49]
theorem bTen_isB : IsB bTen := by unfold IsB bTen; decide
theorem TenTab.only {w w' : World} {a o cap R : Nat} (h : TenTab w a o cap) (hb : Only [R] w w') (h1 : 18 ≤ R) (h2 : a ≠ R) : TenTab w' a o cap := by
  have hh := h.hi
  exact ⟨(hb.cell (p := ⟨14, 0, none⟩) (show 14 < _ by omega) (show 14 ∉ [R] by simp; omega)).trans h.info, (hb.cell (p := ⟨4, 0, none⟩) (show 4 < _ by omega) (show 4 ∉ [R] by simp; omega)).trans h.opt, (hb.cell (p := ⟨17, 0, none⟩) (show 17 < _ by omega) (show 17 ∉ [R] by simp; omega)).trans h.pow, (hb.cell (p := ⟨a, o + 1, none⟩) h.lo (show a ∉ [R] by simpa using h2)).trans h.ten, Nat.lt_of_lt_of_le h.lo hb.size, Nat.le_trans hh hb.size⟩
theorem TenTab.drewN {w : World} {a o cap : Nat} (h : TenTab w a o cap) (n : Nat) : TenTab (w.drewN n) a o cap := h.stay (below_drewN (Below.refl _ _) n)
set_option maxRecDepth 100000 in
theorem sign_ten (R : Nat) (w : World) (H : Rd w R bTen 0) : Calls Tryz.prog 81 #[.pointer (some ⟨R, 0, none⟩)] w fun e w' => e = .returned (.bool false) ∧ ∃ m, w' = w.drewN m := by
  have C1 := Lib.hid (fun w (H : Rd w R bTen 0) => skip_no R bTen 0 46 { data := #[45] } bTen_isB (by decide) rfl (by decide +kernel) w H)
  have C2 := Lib.hid (fun w (H : Rd w R bTen 0) => skip_no R bTen 0 46 { data := #[43] } bTen_isB (by decide) rfl (by decide +kernel) w H)
  have HR := Lib.hid H
  clear H
  go_enter Tryz.func81, Tryz.ntmps81
  go_wp2_with fail
  refine (C1.out _ HR.out).mono ?_
  rintro e w1 ⟨rfl, m1, rfl⟩
  go_wp2_with fail
  refine (C2.out (w.drewN m1) HR.out).mono ?_
  rintro e w1 ⟨rfl, m2, rfl⟩
  go_wp2
  go_ret
  exact ⟨rfl, m1 + m2, rfl⟩
theorem dec_zero : Lib.decDigits 0 = [48] := by first | decide +kernel | (unfold Lib.decDigits; rfl) | simp [Lib.decDigits]
set_option maxRecDepth 100000 in
set_option maxHeartbeats 1000000 in
theorem decimal_ten (R a o cap : Nat) (w : World) (H : Rd w R bTen 0) (T : TenTab w a o cap) (hR : 18 ≤ R) (hRa : a ≠ R) : Calls Tryz.prog 134 #[.pointer (some ⟨R, 0, none⟩)] w fun e w' => e = .returned (.tuple #[.int .u64 4591870180066957722, .nilIface]) ∧ Only [R] w w' ∧ Rd w' R bTen 2 := by
  have CR0 := Lib.hid (fun w H => run_dig R bTen 0 0 [] bTen_isB (by decide) rfl (by decide) (fun k c hk => by cases hk) (fun c hc => by cases hc; rfl) w H)
  have CS1 := Lib.hid (fun w H => skip_yes R bTen 0 46 { data := #[46] } 0 bTen_isB (by decide) rfl (by decide +kernel) w H)
  have CR1 := Lib.hid (fun w H => run_dig R bTen 1 1 [49] bTen_isB (by decide) rfl (by decide) (fun k c hk => by
    match k, hk with
    | 0, hk => cases hk; exact ⟨rfl, rfl⟩
    | k + 1, hk => simp at hk) (fun c hc => by cases hc) w H)
  have CS2 := Lib.hid (fun w H => skip_end R bTen 2 { data := #[101, 69] } rfl w H)
  have CI := Lib.hid (fun w => Tryz.strconv_Itoa_small 0 (by decide) w)
  rw [show (ByteArray.mk (Lib.decDigits 0).toArray) = { data := #[48] } from by rw [dec_zero]] at CI
  have CP := Lib.hid (fun S hs h0 h1 h2 h3 w H => parse_tenth S hs h0 h1 h2 h3 a o cap w H)
  have he : (strOf [] ++ strOf [49]).toList.isEmpty = false := by rw [Lib.toList_data]; decide +kernel
  have HH := Lib.hid H
  have TT := Lib.hid T
  clear H T
  go_enter Tryz.func134, Tryz.ntmps134
  go_wp2_with fail
  refine (CR0.out _ HH.out).mono ?_
  rintro e w1 ⟨rfl, ho, hr⟩
  have O1 := Lib.hid ho
  have R1 := Lib.hid hr
  clear ho hr
  go_wp2_with fail
  refine (CS1.out _ R1.out).mono ?_
  rintro e w2 ⟨rfl, ho, hr⟩
  have O2 := Lib.hid (O1.out.trans ho (fun x hx => .inl hx))
  have R2 := Lib.hid hr
  clear ho hr
  go_wp2_with fail
  refine (CR1.out _ R2.out).mono ?_
  rintro e w3 ⟨rfl, ho, hr⟩
  have O3 := Lib.hid (O2.out.trans ho (fun x hx => .inl hx))
  have R3 := Lib.hid hr
  clear ho hr
  go_wp2_with fail
  refine (CS2.out w3 R3.out).mono ?_
  rintro e w4 ⟨rfl, m, rfl⟩
  have T3 := Lib.hid (TT.out.only O3.out hR hRa)
  go_wp2_with fail
  refine (CI.out _).mono ?_
  rintro e w5 ⟨rfl, rfl⟩
  go_wp2_with fail
  refine (CP.out _ ?_ ?_ ?_ ?_ ?_ (w3.drewN m) (T3.out.drewN m)).mono ?_
  · decide +kernel
  · decide +kernel
  · decide +kernel
  · decide +kernel
  · decide +kernel
  rintro e w5 ⟨rfl, rfl⟩
  go_wp2
  go_ret2
  exact ⟨rfl, O3.out.drewN _, R3.out⟩
set_option maxRecDepth 100000 in
theorem unsigned_ten (R a o cap : Nat) (w : World) (H : Rd w R bTen 0) (T : TenTab w a o cap) (hR : 18 ≤ R) (hRa : a ≠ R) : Calls Tryz.prog 82 #[.pointer (some ⟨R, 0, none⟩)] w fun e w' => e = .returned (.tuple #[.int .u64 4591870180066957722, .nilIface]) ∧ Only [R] w w' ∧ Rd w' R bTen 2 := by
  have C1 := Lib.hid (fun w (H : Rd w R bTen 0) => word_short R bTen 0 { data := #[105, 110, 102, 105, 110, 105, 116, 121] } (by decide) (by decide) (by decide) w H)
  have C2 := Lib.hid (fun w (H : Rd w R bTen 0) => word_short R bTen 0 { data := #[105, 110, 102] } (by decide) (by decide) (by decide) w H)
  have C3 := Lib.hid (fun w (H : Rd w R bTen 0) => word_short R bTen 0 { data := #[110, 97, 110] } (by decide) (by decide) (by decide) w H)
  have C4 := Lib.hid (fun w (H : Rd w R bTen 0) => word_other R bTen 0 46 48 { data := #[48, 120] } bTen_isB rfl (by decide) (by decide) (by decide) (by decide) (by decide +kernel) (by decide) w H)
  have CD := Lib.hid (fun w H T => decimal_ten R a o cap w H T hR hRa)
  have HH := Lib.hid H
  have TT := Lib.hid T
  clear H T
  go_enter Tryz.func82, Tryz.ntmps82
  go_wp2_with fail
  refine (C1.out w HH.out).mono ?_
  rintro e w1 ⟨rfl, m1, rfl⟩
  go_wp2_with fail
  refine (C2.out (w.drewN m1) HH.out).mono ?_
  rintro e w1 ⟨rfl, m2, rfl⟩
  go_wp2_with fail
  refine (C3.out (w.drewN (m1 + m2)) HH.out).mono ?_
  rintro e w1 ⟨rfl, m3, rfl⟩
  go_wp2_with fail
  refine (C4.out (w.drewN (m1 + m2 + m3)) HH.out).mono ?_
  rintro e w1 ⟨rfl, m4, rfl⟩
  go_wp2_with fail
  refine (CD.out (w.drewN (m1 + m2 + m3 + m4)) HH.out (TT.out.drewN _)).mono ?_
  rintro e w1 ⟨rfl, ho, hr⟩
  have O1 := Lib.hid (show Only [R] w w1 from ((Only.refl [R] w).drewN _).trans ho (fun x hx => .inl hx))
  have R1 := Lib.hid hr
  clear ho hr
  go_wp2
  go_ret2
  exact ⟨rfl, O1.out, R1.out⟩
set_option maxRecDepth 100000 in
theorem number_ten (R a o cap : Nat) (w : World) (H : Rd w R bTen 0) (T : TenTab w a o cap) (hR : 18 ≤ R) (hRa : a ≠ R) : Calls Tryz.prog 43 #[.pointer (some ⟨R, 0, none⟩)] w fun e w' => e = .returned (.tuple #[.int .u64 4591870180066957722, .nilIface]) ∧ Only [R] w w' := by
  have CS := Lib.hid (fun w H => sign_ten R w H)
  have CU := Lib.hid (fun w H T => unsigned_ten R a o cap w H T hR hRa)
  have CD := Lib.hid (fun w H => isdone_any R bTen 2 w H)
  rw [show decide (2 = bTen.length) = true by decide] at CD
  have h0 := H.c0
  have hsz : (strOf bTen).size = 2 := rfl
  have HH := Lib.hid H
  have TT := Lib.hid T
  obtain ⟨S, hS⟩ : ∃ S, strOf bTen = S := ⟨_, rfl⟩
  rw [hS] at h0 hsz
  clear hS H T
  go_enter Tryz.func43, Tryz.ntmps43
  go_wp2_with fail
  refine (CS.out w HH.out).mono ?_
  rintro e w1 ⟨rfl, m1, rfl⟩
  go_wp2_with fail
  refine (CU.out (w.drewN m1) HH.out (TT.out.drewN _)).mono ?_
  rintro e w1 ⟨rfl, ho, hr⟩
  have O1 := Lib.hid (show Only [R] w w1 from ((Only.refl [R] w).drewN _).trans ho (fun x hx => .inl hx))
  have R1 := Lib.hid hr
  clear ho hr h0
  go_wp2_with fail
  refine (CD.out w1 R1.out).mono ?_
  rintro e w2 ⟨rfl, hb⟩
  have O2 := Lib.hid (O1.out.trans (Only.of_below hb [R]) (fun x hx => .inl hx))
  clear hb
  go_wp2
  go_ret2
  exact ⟨rfl, O2.out⟩
set_option maxRecDepth 100000 in
theorem number_tenth (a o cap : Nat) (w : World) (T : TenTab w a o cap) : Calls Tryz.prog 14 #[.string (strOf bTen)] w (Gives w (.tuple #[.int .u64 4591870180066957722, .int .u16 0])) := by
  have hT := T.hi
  have hlo := T.lo
  have CQ := Lib.hid (fun w1 (H : Rd w1 w.heap.size bTen 0) (T : TenTab w1 a o cap) => number_ten w.heap.size a o cap w1 H T hT (by omega))
  have CA := Lib.hid as_nil
  have T1 := Lib.hid (show TenTab (w.alloc (.cells #[.string (strOf bTen), .int .i64 0] 58)) a o cap from T.stay ((Below.refl _ w).alloc (Nat.le_refl _) _))
  have HRL := Lib.hid (Rd.laid w bTen)
  obtain ⟨S, hS⟩ : ∃ S, strOf bTen = S := ⟨_, rfl⟩
  rw [hS] at HRL T1 ⊢
  clear hS hT hlo T
  go_enter Tryz.func14, Tryz.ntmps14
  go_wp2_with fail
  refine (CQ.out _ HRL.out T1.out).mono ?_
  rintro e w1 ⟨rfl, ho⟩
  have BB := Lib.hid (Below.trans ((Below.refl w.heap.size w).alloc (Nat.le_refl _) _) (ho.below (B := w.heap.size) (by simp) (by simp)))
  clear ho
  go_wp2_with fail
  refine (CA.out _ _).mono ?_
  rintro e w2 ⟨rfl, rfl⟩
  go_wp2
  go_ret2
  exact ⟨rfl, BB.out.alloc BB.out.size _⟩
end Go.Proofs.YthhlhiighgnkmaaGreatDoor
