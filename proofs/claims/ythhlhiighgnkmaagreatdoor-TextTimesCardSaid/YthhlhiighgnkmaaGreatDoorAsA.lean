/-
  WALKS: errors.As at this package's two kinds of errors: closed facts.
-/
import Derived.Test.YthhlhiighgnkmaaGreatDoorKno
import Derived.LaidEql
import Derived.Stop.Asserts
import Derived.RowKitTokens
import Derived.Lib.ReflectliteSlice
namespace Go.Proofs.YthhlhiighgnkmaaGreatDoor
set_option linter.unusedVariables false
set_option linter.unusedSimpArgs false
open Go.RowKit Go.PlainAid Go.Extern.Stop Go.Stop Go.Extern
theorem set_two {m : Array Value → Sort _} (v x : Value) (h1 : (v x : Value) → m #[v, x]) (h2 : (x : Array Value) → m x) : ReflectliteValue.set.match_3 m #[v, x] h1 h2 = h1 v x := rfl
/-- a type's handle; a reflected value -/
abbrev hd (t : Nat) : Value := .pointer (some ⟨18, t, none⟩)
abbrev rv (t : Nat) (a : Addr) (fl : Int) : Value := .agg #[hd t, .pointer (some a), .int .u64 fl]
abbrev rt (t : Nat) : Value := .iface 168 (.agg #[hd t])
theorem valueOf65 (t : Addr) (w : World) : (ReflectliteValue.unpack (.iface 65 (.pointer (some t)))).run Tryz.prog w = .ok (rv 65 ⟨w.heap.size, 0, none⟩ 150) (w.alloc (.cells #[.pointer (some t)] 65)) := by kernel_rfl
theorem type65 (a : Addr) (w : World) : (ReflectliteValue.methodAny (ReflectliteValue.valueError "reflectlite.Value.Type" 0) (fun t _ _ _ => ReflectliteType.toType t) #[rv 65 a 150]).run Tryz.prog w = .ok (rt 65) w := by kernel_rfl
theorem valueOf92 (t : Addr) (w : World) : (ReflectliteValue.unpack (.iface 92 (.pointer (some t)))).run Tryz.prog w = .ok (rv 92 ⟨w.heap.size, 0, none⟩ 150) (w.alloc (.cells #[.pointer (some t)] 92)) := by kernel_rfl
theorem type92 (a : Addr) (w : World) : (ReflectliteValue.methodAny (ReflectliteValue.valueError "reflectlite.Value.Type" 0) (fun t _ _ _ => ReflectliteType.toType t) #[rv 92 a 150]).run Tryz.prog w = .ok (rt 92) w := by kernel_rfl
theorem kind65 (w : World) : ((ReflectliteType.abiMethod fun t => (fun a : Nat => Value.int IntKind.u8 (a : Int)) <$> Rtype.kind t) #[hd 65]).run Tryz.prog w = .ok (.int .u8 22) w := by kernel_rfl
theorem kind63 (w : World) : ((ReflectliteType.abiMethod fun t => (fun a : Nat => Value.int IntKind.u8 (a : Int)) <$> Rtype.kind t) #[hd 63]).run Tryz.prog w = .ok (.int .u8 22) w := by kernel_rfl
theorem parts65 (a : Addr) (w : World) : (ReflectliteValue.parts (rv 65 a 150)).run Tryz.prog w = .ok (some (65, a, 150)) w := by kernel_rfl
theorem parts63 (a : Addr) (w : World) : (ReflectliteValue.parts (rv 63 a 150)).run Tryz.prog w = .ok (some (63, a, 150)) w := by kernel_rfl
theorem parts63a (a : Addr) (w : World) : (ReflectliteValue.parts (rv 63 a 406)).run Tryz.prog w = .ok (some (63, a, 406)) w := by kernel_rfl
theorem isnil65 (a p : Addr) (W : World) (ha : W.cell? a = some (.pointer (some p))) : (ReflectliteValue.method (ReflectliteValue.valueError "reflectlite.Value.IsNil" 0) ReflectliteValue.isNil #[rv 65 a 150]).run Tryz.prog W = .ok (.bool false) W := by
  rw [Go.Lib.rl_method]
  simp only [Sem.run_bind, parts65, Result.andThen]
  simp [ReflectliteValue.isNil, loadVar, isAgg, underlying, Tryz.underlying65, ha, Result.andThen]
theorem elem65 (w : World) : (ReflectliteType.method ReflectliteType.elem #[.agg #[hd 65]]).run Tryz.prog w = .ok (rt 63) w := by kernel_rfl
theorem implements63 (w : World) : (ReflectliteType.relation "Implements" ReflectliteType.implements_ #[.agg #[hd 63], rt 60]).run Tryz.prog w = .ok (.bool true) w := by kernel_rfl
theorem typeOf63 (v : Value) (w : World) : (ReflectliteType.typeOf #[.iface 63 v]).run Tryz.prog w = .ok (rt 63) w := by kernel_rfl
theorem valueOf63 (e : Addr) (w : World) : (ReflectliteValue.unpack (.iface 63 (.pointer (some e)))).run Tryz.prog w = .ok (rv 63 ⟨w.heap.size, 0, none⟩ 150) (w.alloc (.cells #[.pointer (some e)] 63)) := by kernel_rfl
theorem elemOf65 (w : World) : (Rtype.elem? 65).run Tryz.prog w = .ok (some 63) w := by kernel_rfl
theorem mk63 (p : Addr) (w : World) : (ReflectliteValue.mk 63 p ReflectliteValue.flagAddr).run Tryz.prog w = .ok (rv 63 p 406) w := by kernel_rfl
theorem elemV65 (a p : Addr) (W : World) (ha : W.cell? a = some (.pointer (some p))) : (ReflectliteValue.method (ReflectliteValue.valueError "reflectlite.Value.Elem" 0) ReflectliteValue.elem #[rv 65 a 150]).run Tryz.prog W = .ok (rv 63 p 406) W := by
  rw [Go.Lib.rl_method]
  simp only [Sem.run_bind, parts65, Result.andThen]
  simp [ReflectliteValue.elem, loadVar, isAgg, underlying, Tryz.underlying65, ha, Result.andThen, elemOf65, mk63]
theorem direct63 (w : World) : (Rtype.directlyAssignable 63 63).run Tryz.prog w = .ok true w := by kernel_rfl
theorem size63 (w : World) : (sizeOf 63).run Tryz.prog w = .ok 1 w := by kernel_rfl
theorem set63 (ta b e : Addr) (old : Value) (W : World) (hb : W.cell? b = some (.pointer (some e))) (ht : W.cell? ta = some old) (hf : W.frozen? ta = false) :
    (ReflectliteValue.set #[rv 63 ta 406, rv 63 b 150]).run Tryz.prog W = .ok (.tuple #[]) (W.setCell ta (.pointer (some e))) := by
  delta ReflectliteValue.set
  rw [set_two]
  simp only [Sem.run_bind, parts63a, parts63, Result.andThen]
  simp [ReflectliteValue.flagAddr, loadVar, isAgg, underlying, Tryz.underlying63, hb, Result.andThen, direct63, storeVar, Value.cells, storeCells, Addr.add]
  rw [run_store Tryz.prog W ta _ _ (by rfl)]
  simp [ht, hf]
theorem kind92 (w : World) : ((ReflectliteType.abiMethod fun t => (fun a : Nat => Value.int IntKind.u8 (a : Int)) <$> Rtype.kind t) #[hd 92]).run Tryz.prog w = .ok (.int .u8 22) w := by kernel_rfl
theorem kind91 (w : World) : ((ReflectliteType.abiMethod fun t => (fun a : Nat => Value.int IntKind.u8 (a : Int)) <$> Rtype.kind t) #[hd 91]).run Tryz.prog w = .ok (.int .u8 22) w := by kernel_rfl
theorem parts92 (a : Addr) (w : World) : (ReflectliteValue.parts (rv 92 a 150)).run Tryz.prog w = .ok (some (92, a, 150)) w := by kernel_rfl
theorem parts91 (a : Addr) (w : World) : (ReflectliteValue.parts (rv 91 a 150)).run Tryz.prog w = .ok (some (91, a, 150)) w := by kernel_rfl
theorem parts91a (a : Addr) (w : World) : (ReflectliteValue.parts (rv 91 a 406)).run Tryz.prog w = .ok (some (91, a, 406)) w := by kernel_rfl
theorem isnil92 (a p : Addr) (W : World) (ha : W.cell? a = some (.pointer (some p))) : (ReflectliteValue.method (ReflectliteValue.valueError "reflectlite.Value.IsNil" 0) ReflectliteValue.isNil #[rv 92 a 150]).run Tryz.prog W = .ok (.bool false) W := by
  rw [Go.Lib.rl_method]
  simp only [Sem.run_bind, parts92, Result.andThen]
  simp [ReflectliteValue.isNil, loadVar, isAgg, underlying, Tryz.underlying92, ha, Result.andThen]
theorem elem92 (w : World) : (ReflectliteType.method ReflectliteType.elem #[.agg #[hd 92]]).run Tryz.prog w = .ok (rt 91) w := by kernel_rfl
theorem implements91 (w : World) : (ReflectliteType.relation "Implements" ReflectliteType.implements_ #[.agg #[hd 91], rt 60]).run Tryz.prog w = .ok (.bool true) w := by kernel_rfl
theorem typeOf91 (v : Value) (w : World) : (ReflectliteType.typeOf #[.iface 91 v]).run Tryz.prog w = .ok (rt 91) w := by kernel_rfl
theorem valueOf91 (e : Addr) (w : World) : (ReflectliteValue.unpack (.iface 91 (.pointer (some e)))).run Tryz.prog w = .ok (rv 91 ⟨w.heap.size, 0, none⟩ 150) (w.alloc (.cells #[.pointer (some e)] 91)) := by kernel_rfl
theorem elemOf92 (w : World) : (Rtype.elem? 92).run Tryz.prog w = .ok (some 91) w := by kernel_rfl
theorem mk91 (p : Addr) (w : World) : (ReflectliteValue.mk 91 p ReflectliteValue.flagAddr).run Tryz.prog w = .ok (rv 91 p 406) w := by kernel_rfl
theorem elemV92 (a p : Addr) (W : World) (ha : W.cell? a = some (.pointer (some p))) : (ReflectliteValue.method (ReflectliteValue.valueError "reflectlite.Value.Elem" 0) ReflectliteValue.elem #[rv 92 a 150]).run Tryz.prog W = .ok (rv 91 p 406) W := by
  rw [Go.Lib.rl_method]
  simp only [Sem.run_bind, parts92, Result.andThen]
  simp [ReflectliteValue.elem, loadVar, isAgg, underlying, Tryz.underlying92, ha, Result.andThen, elemOf92, mk91]
theorem direct91 (w : World) : (Rtype.directlyAssignable 91 91).run Tryz.prog w = .ok true w := by kernel_rfl
theorem size91 (w : World) : (sizeOf 91).run Tryz.prog w = .ok 1 w := by kernel_rfl
theorem set91 (ta b e : Addr) (old : Value) (W : World) (hb : W.cell? b = some (.pointer (some e))) (ht : W.cell? ta = some old) (hf : W.frozen? ta = false) :
    (ReflectliteValue.set #[rv 91 ta 406, rv 91 b 150]).run Tryz.prog W = .ok (.tuple #[]) (W.setCell ta (.pointer (some e))) := by
  delta ReflectliteValue.set
  rw [set_two]
  simp only [Sem.run_bind, parts91a, parts91, Result.andThen]
  simp [ReflectliteValue.flagAddr, loadVar, isAgg, underlying, Tryz.underlying91, hb, Result.andThen, direct91, storeVar, Value.cells, storeCells, Addr.add]
  rw [run_store Tryz.prog W ta _ _ (by rfl)]
  simp [ht, hf]
theorem assign63to63 (w : World) : (ReflectliteType.relation "AssignableTo" ReflectliteType.assignableTo #[.agg #[hd 63], rt 63]).run Tryz.prog w = .ok (.bool true) w := by kernel_rfl
theorem assign63to91 (w : World) : (ReflectliteType.relation "AssignableTo" ReflectliteType.assignableTo #[.agg #[hd 63], rt 91]).run Tryz.prog w = .ok (.bool false) w := by kernel_rfl
theorem assign91to91 (w : World) : (ReflectliteType.relation "AssignableTo" ReflectliteType.assignableTo #[.agg #[hd 91], rt 91]).run Tryz.prog w = .ok (.bool true) w := by kernel_rfl
theorem assign91to63 (w : World) : (ReflectliteType.relation "AssignableTo" ReflectliteType.assignableTo #[.agg #[hd 91], rt 63]).run Tryz.prog w = .ok (.bool false) w := by kernel_rfl
theorem assign28to91 (w : World) : (ReflectliteType.relation "AssignableTo" ReflectliteType.assignableTo #[.agg #[hd 28], rt 91]).run Tryz.prog w = .ok (.bool false) w := by kernel_rfl
theorem typeOf28 (v : Value) (w : World) : (ReflectliteType.typeOf #[.iface 28 v]).run Tryz.prog w = .ok (rt 28) w := by kernel_rfl
end Go.Proofs.YthhlhiighgnkmaaGreatDoor
