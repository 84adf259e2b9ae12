/-
  WALKS: ".1" is read: one tenth; the library's door.
-/
import Derived.Test.YthhlhiighgnkmaaGreatDoorNumA
import Derived.Laws.Cover2
import Derived.Laws.FloatArith
import Derived.Laws.Externs
namespace Go.Proofs.YthhlhiighgnkmaaGreatDoor
set_option linter.unusedVariables false
set_option linter.unusedSimpArgs false
open Go.RowKit Go.PlainAid
/-- what reading one tenth needs of the library's variables -/
structure TenTab (w : World) (a o : Nat) (cap : Nat) : Prop where
  info : w.cell? ⟨14, 0, none⟩ = some (.int .u64 52)
  opt : w.cell? ⟨4, 0, none⟩ = some (.bool true)
  pow : w.cell? ⟨17, 0, none⟩ = some (.slice (some ⟨a, o, none⟩) 23 cap)
  ten : w.cell? ⟨a, o + 1, none⟩ = some (.float .f64 4621819117588971520)
  lo : a < w.heap.size
  hi : 18 ≤ w.heap.size
theorem TenTab.stay {w w' : World} {a o : Nat} {cap : Nat} (h : TenTab w a o cap) (hb : Below w.heap.size w w') : TenTab w' a o cap := by
  have hh := h.hi
  exact ⟨(hb.cell (p := ⟨14, 0, none⟩) (show 14 < _ by omega)).trans h.info, (hb.cell (p := ⟨4, 0, none⟩) (show 4 < _ by omega)).trans h.opt, (hb.cell (p := ⟨17, 0, none⟩) (show 17 < _ by omega)).trans h.pow, (hb.cell (p := ⟨a, o + 1, none⟩) h.lo).trans h.ten, Nat.lt_of_lt_of_le h.lo hb.size, Nat.le_trans hh hb.size⟩
theorem bits210 (a : Nat) (w : World) : (callFunc 210 #[.float .f64 a]).run Tryz.prog w = .ok (.value (.int .u64 (a : Int))) w := by
  rw [run_callFunc_extern (e := Extern.MathFloatBits.float64bits) Tryz.func210 (by kernel_rfl) (by kernel_rfl) (by kernel_rfl) (by kernel_rfl)]
  rw [show Extern.MathFloatBits.float64bits #[.float .f64 a] = pure (.int .u64 (a : Int)) from rfl]
  rfl
theorem one_float : floatOfInt .f64 1 = 4607182418800017408 := by decide +kernel
theorem tenth_quo : floatBits .quo .f64 4607182418800017408 4621819117588971520 = some 4591870180066957722 := by decide +kernel
set_option maxRecDepth 100000 in
set_option maxHeartbeats 1000000 in
theorem exact_tenth (a o : Nat) (cap : Nat) (w : World) (H : TenTab w a o cap) : Calls Tryz.prog 253 #[.int .u64 1, .int .i64 (-1), .bool false] w fun e w' => e = .returned (.tuple #[.float .f64 4591870180066957722, .bool true]) ∧ w' = w := by
  have c1 := H.info
  have c2 := H.pow
  have c3 := H.ten
  have hf := one_float
  have hq : ∀ t w, (binOp .quo t (.float .f64 4607182418800017408) (.float .f64 4621819117588971520)).run Tryz.prog w = .ok (.float .f64 4591870180066957722) w := fun t w => run_float_arith w .quo t .f64 _ _ _ tenth_quo
  clear H
  go_enter Tryz.func253, Tryz.ntmps253
  go_wp2
  go_returns
  exact ⟨rfl, rfl⟩
theorem bool2_false (w : World) : Calls Tryz.prog 237 #[.bool false] w fun e w' => e = .returned (.int .u64 0) ∧ w' = w := by
  go_enter Tryz.func237, Tryz.ntmps237
  go_wp2
  go_returns
  exact ⟨rfl, rfl⟩
set_option maxRecDepth 100000 in
set_option maxHeartbeats 2000000 in
theorem atof_tenth (S : ByteArray) (hs : S.size = 4) (h0 : bt S 0 = 46) (h1 : bt S 1 = 49) (h2 : bt S 2 = 101) (h3 : bt S 3 = 48) (a o : Nat) (cap : Nat) (w : World) (H : TenTab w a o cap) : Calls Tryz.prog 242 #[.string S] w fun e w' => e = .returned (.tuple #[.float .f64 4591870180066957722, .int .i64 4, .nilIface]) ∧ w' = w := by
  have CA := Lib.hid (fun w => special_dot S hs h0 w)
  have CB := Lib.hid (fun w => readfloat_dot S hs h0 h1 h2 h3 w)
  have CC := Lib.hid (exact_tenth a o cap w H)
  have CD := Lib.hid bool2_false
  have c1 := H.opt
  clear h0 h1 h2 h3 hs H
  go_enter Tryz.func242, Tryz.ntmps242
  go_wp2_with fail
  refine (CA.out _).mono ?_
  rintro e w1 ⟨rfl, rfl⟩
  go_wp2_with fail
  refine (CB.out _).mono ?_
  rintro e w1 ⟨rfl, rfl⟩
  go_wp2_with fail
  refine (CD.out _).mono ?_
  rintro e w1 ⟨rfl, rfl⟩
  go_wp2_with fail
  refine CC.out.mono ?_
  rintro e w1 ⟨rfl, rfl⟩
  go_wp2
  go_returns
  exact ⟨rfl, rfl⟩
set_option maxRecDepth 100000 in
theorem parse_tenth (S : ByteArray) (hs : S.size = 4) (h0 : bt S 0 = 46) (h1 : bt S 1 = 49) (h2 : bt S 2 = 101) (h3 : bt S 3 = 48) (a o : Nat) (cap : Nat) (w : World) (H : TenTab w a o cap) : Calls Tryz.prog 175 #[.string S] w fun e w' => e = .returned (.int .u64 4591870180066957722) ∧ w' = w := by
  have C1 := Lib.hid (atof_tenth S hs h0 h1 h2 h3 a o cap w H)
  clear h0 h1 h2 h3 H
  have C2 : Hid (Calls Tryz.prog 240 #[.string S, .int .i64 64] w fun e w' => e = .returned (.tuple #[.float .f64 4591870180066957722, .int .i64 4, .nilIface]) ∧ w' = w) := by
    refine Lib.hid ?_
    go_enter Tryz.func240, Tryz.ntmps240
    go_wp2_with fail
    refine C1.out.mono ?_
    rintro e w1 ⟨rfl, rfl⟩
    go_wp2
    go_returns
    exact ⟨rfl, rfl⟩
  clear C1
  have C3 : Hid (Calls Tryz.prog 236 #[.string S, .int .i64 64] w fun e w' => e = .returned (.tuple #[.float .f64 4591870180066957722, .nilIface]) ∧ w' = w) := by
    refine Lib.hid ?_
    go_enter Tryz.func236, Tryz.ntmps236
    go_wp2_with fail
    refine C2.out.mono ?_
    rintro e w1 ⟨rfl, rfl⟩
    go_wp2
    go_returns
    exact ⟨rfl, rfl⟩
  clear C2
  have C4 : Hid (Calls Tryz.prog 209 #[.string S, .int .i64 64] w fun e w' => e = .returned (.tuple #[.float .f64 4591870180066957722, .nilIface]) ∧ w' = w) := by
    refine Lib.hid ?_
    go_enter Tryz.func209, Tryz.ntmps209
    go_wp2_with fail
    refine C3.out.mono ?_
    rintro e w1 ⟨rfl, rfl⟩
    go_wp2
    go_returns
    exact ⟨rfl, rfl⟩
  clear C3
  have hbits := bits210 4591870180066957722
  go_enter Tryz.func175, Tryz.ntmps175
  go_wp2_with fail
  refine C4.out.mono ?_
  rintro e w1 ⟨rfl, rfl⟩
  go_wp2
  go_returns
  exact ⟨rfl, rfl⟩
end Go.Proofs.YthhlhiighgnkmaaGreatDoor
