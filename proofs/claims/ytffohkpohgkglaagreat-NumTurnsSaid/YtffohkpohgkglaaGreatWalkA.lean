/-
  WALKS: a number as a float and back; what is made of one sign or test.
-/
import Derived.Test.YtffohkpohgkglaaGreatProg
import Derived.Test.YtffohkpohgkglaaGreatNumK
import Derived.WalkKit
import Derived.WalkSpells
import Derived.WalkLawsBesides
import Derived.Lib.Hide
import Derived.Laws.BitsAllLaws
import Derived.Laws.Externs
import Derived.Laws.FloatArith
import Derived.Below
namespace Go.Proofs.YtffohkpohgkglaaGreat
set_option linter.unusedVariables false
set_option linter.unusedSimpArgs false
open Go.RowKit
/-- the call gives this and turns nothing that was there -/
def Gives (w : World) (v : Value) (e : Ending) (w' : World) : Prop := e = .returned v ∧ Below w.heap.size w w'
/-- a number's value -/
def nv (a : Nat) : Value := .int .u64 (a : Int)
theorem ext118 (a : Nat) (w : World) : (callFunc 104 #[.int .u64 (a : Int)]).run Tryz.prog w = .ok (.value (.float .f64 a)) w := by
  rw [run_callFunc_extern (e := Extern.MathFloatBits.float64frombits) Tryz.func104 (by kernel_rfl) (by kernel_rfl) (by kernel_rfl) (by kernel_rfl)]
  rw [show Extern.MathFloatBits.float64frombits #[.int .u64 (a : Int)] = pure (.float .f64 (a : Int).toNat) from rfl, Int.toNat_natCast]
  rfl
theorem ext117 (a : Nat) (w : World) : (callFunc 106 #[.float .f64 a]).run Tryz.prog w = .ok (.value (.int .u64 (a : Int))) w := by
  rw [run_callFunc_extern (e := Extern.MathFloatBits.float64bits) Tryz.func106 (by kernel_rfl) (by kernel_rfl) (by kernel_rfl) (by kernel_rfl)]
  rw [show Extern.MathFloatBits.float64bits #[.float .f64 a] = pure (.int .u64 (a : Int)) from rfl]
  rfl
/-- the bits of a float -/
theorem float_any (a : Nat) (w : World) : Calls Tryz.prog 66 #[.int .u64 (a : Int)] w fun e w' => e = .returned (.float .f64 a) ∧ w' = w := by
  have h := ext118 a
  go_enter Tryz.func66, Tryz.ntmps66
  go_wp2
  go_ret
  exact ⟨rfl, rfl⟩
theorem order_nan (x : Nat) (h : x < 2 ^ 64) : (FloatKind.f64.format.order x x != some .eq) = Nm.isNaN x := by
  show (Ieee.Format.order Ieee.double x x != some .eq) = Nm.isNaN x
  unfold Ieee.Format.order
  rw [Nm.read_eq x h]
  cases h1 : Nm.isNaN x
  · simp only [Bool.false_eq_true, if_false]
    split <;> simp [Ieee.Datum.order]
  · simp [Ieee.Datum.order]
theorem isnan_any (x : Nat) (hx : x < 2 ^ 64) (w : World) : Calls Tryz.prog 105 #[.float .f64 x] w fun e w' => e = .returned (.bool (Nm.isNaN x)) ∧ w' = w := by
  have h := order_nan x hx
  go_enter Tryz.func105, Tryz.ntmps105
  go_wp2
  go_ret
  exact ⟨rfl, rfl⟩
theorem number_any (x : Nat) (hx : x < 2 ^ 64) (w : World) : Calls Tryz.prog 67 #[.float .f64 x] w fun e w' => e = .returned (.int .u64 (Nm.tidy x : Nat)) ∧ w' = w := by
  have h := ext117 x
  have HX := Lib.hid hx
  clear hx
  cases hn : Nm.isNaN x
  · go_enter Tryz.func67, Tryz.ntmps67
    go_wp2_with fail
    refine (isnan_any x HX.out _).mono ?_
    rintro e w1 ⟨rfl, rfl⟩
    rw [hn]
    go_wp2
    go_ret
    unfold Nm.tidy
    rw [hn]
    exact ⟨rfl, rfl⟩
  · go_enter Tryz.func67, Tryz.ntmps67
    go_wp2_with fail
    refine (isnan_any x HX.out _).mono ?_
    rintro e w1 ⟨rfl, rfl⟩
    rw [hn]
    go_wp2
    go_ret
    unfold Nm.tidy
    rw [hn]
    exact ⟨rfl, rfl⟩
end Go.Proofs.YtffohkpohgkglaaGreat
