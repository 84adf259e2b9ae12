/-
  WALKS: errors.As at this package's two kinds of errors: closed facts.
-/
import Derived.Test.YtiolghcjndoigaaGreatDoorUnC
import Derived.LaidEql
import Derived.Stop.Asserts
import Derived.RowKitTokens
import Derived.Lib.ReflectliteSlice
namespace Go.Proofs.YtiolghcjndoigaaGreatDoor
set_option linter.unusedVariables false
set_option linter.unusedSimpArgs false
open Go.RowKit Go.PlainAid Go.Extern.Stop Go.Stop Go.Extern
theorem set_two {m : Array Value → Sort _} (v x : Value) (h1 : (v x : Value) → m #[v, x]) (h2 : (x : Array Value) → m x) : ReflectliteValue.set.match_3 m #[v, x] h1 h2 = h1 v x := rfl
/-- a type's handle; a reflected value -/
abbrev hd (t : Nat) : Value := .pointer (some ⟨4, t, none⟩)
abbrev rv (t : Nat) (a : Addr) (fl : Int) : Value := .agg #[hd t, .pointer (some a), .int .u64 fl]
abbrev rt (t : Nat) : Value := .iface 334 (.agg #[hd t])
theorem valueOf65 (t : Addr) (w : World) : (ReflectliteValue.unpack (.iface 295 (.pointer (some t)))).run Tryz.prog w = .ok (rv 295 ⟨w.heap.size, 0, none⟩ 150) (w.alloc (.cells #[.pointer (some t)] 295)) := by kernel_rfl
theorem type65 (a : Addr) (w : World) : (ReflectliteValue.methodAny (ReflectliteValue.valueError "reflectlite.Value.Type" 0) (fun t _ _ _ => ReflectliteType.toType t) #[rv 295 a 150]).run Tryz.prog w = .ok (rt 295) w := by kernel_rfl
theorem valueOf92 (t : Addr) (w : World) : (ReflectliteValue.unpack (.iface 291 (.pointer (some t)))).run Tryz.prog w = .ok (rv 291 ⟨w.heap.size, 0, none⟩ 150) (w.alloc (.cells #[.pointer (some t)] 291)) := by kernel_rfl
theorem type92 (a : Addr) (w : World) : (ReflectliteValue.methodAny (ReflectliteValue.valueError "reflectlite.Value.Type" 0) (fun t _ _ _ => ReflectliteType.toType t) #[rv 291 a 150]).run Tryz.prog w = .ok (rt 291) w := by kernel_rfl
theorem kind65 (w : World) : ((ReflectliteType.abiMethod fun t => (fun a : Nat => Value.int IntKind.u8 (a : Int)) <$> Rtype.kind t) #[hd 295]).run Tryz.prog w = .ok (.int .u8 22) w := by kernel_rfl
theorem kind63 (w : World) : ((ReflectliteType.abiMethod fun t => (fun a : Nat => Value.int IntKind.u8 (a : Int)) <$> Rtype.kind t) #[hd 294]).run Tryz.prog w = .ok (.int .u8 22) w := by kernel_rfl
theorem parts65 (a : Addr) (w : World) : (ReflectliteValue.parts (rv 295 a 150)).run Tryz.prog w = .ok (some (295, a, 150)) w := by kernel_rfl
theorem parts63 (a : Addr) (w : World) : (ReflectliteValue.parts (rv 294 a 150)).run Tryz.prog w = .ok (some (294, a, 150)) w := by kernel_rfl
theorem parts63a (a : Addr) (w : World) : (ReflectliteValue.parts (rv 294 a 406)).run Tryz.prog w = .ok (some (294, a, 406)) w := by kernel_rfl
theorem isnil65 (a p : Addr) (W : World) (ha : W.cell? a = some (.pointer (some p))) : (ReflectliteValue.method (ReflectliteValue.valueError "reflectlite.Value.IsNil" 0) ReflectliteValue.isNil #[rv 295 a 150]).run Tryz.prog W = .ok (.bool false) W := by
  rw [Go.Lib.rl_method]
  simp only [Sem.run_bind, parts65, Result.andThen]
  simp [ReflectliteValue.isNil, loadVar, isAgg, underlying, Tryz.underlying295, ha, Result.andThen]
theorem elem65 (w : World) : (ReflectliteType.method ReflectliteType.elem #[.agg #[hd 295]]).run Tryz.prog w = .ok (rt 294) w := by kernel_rfl
theorem implements63 (w : World) : (ReflectliteType.relation "Implements" ReflectliteType.implements_ #[.agg #[hd 294], rt 244]).run Tryz.prog w = .ok (.bool true) w := by kernel_rfl
theorem typeOf63 (v : Value) (w : World) : (ReflectliteType.typeOf #[.iface 294 v]).run Tryz.prog w = .ok (rt 294) w := by kernel_rfl
theorem valueOf63 (e : Addr) (w : World) : (ReflectliteValue.unpack (.iface 294 (.pointer (some e)))).run Tryz.prog w = .ok (rv 294 ⟨w.heap.size, 0, none⟩ 150) (w.alloc (.cells #[.pointer (some e)] 294)) := by kernel_rfl
theorem elemOf65 (w : World) : (Rtype.elem? 295).run Tryz.prog w = .ok (some 294) w := by kernel_rfl
theorem mk63 (p : Addr) (w : World) : (ReflectliteValue.mk 294 p ReflectliteValue.flagAddr).run Tryz.prog w = .ok (rv 294 p 406) w := by kernel_rfl
theorem elemV65 (a p : Addr) (W : World) (ha : W.cell? a = some (.pointer (some p))) : (ReflectliteValue.method (ReflectliteValue.valueError "reflectlite.Value.Elem" 0) ReflectliteValue.elem #[rv 295 a 150]).run Tryz.prog W = .ok (rv 294 p 406) W := by
  rw [Go.Lib.rl_method]
  simp only [Sem.run_bind, parts65, Result.andThen]
  simp [ReflectliteValue.elem, loadVar, isAgg, underlying, Tryz.underlying295, ha, Result.andThen, elemOf65, mk63]
theorem direct63 (w : World) : (Rtype.directlyAssignable 294 294).run Tryz.prog w = .ok true w := by kernel_rfl
theorem size63 (w : World) : (sizeOf 294).run Tryz.prog w = .ok 1 w := by kernel_rfl
theorem set63 (ta b e : Addr) (old : Value) (W : World) (hb : W.cell? b = some (.pointer (some e))) (ht : W.cell? ta = some old) (hf : W.frozen? ta = false) :
    (ReflectliteValue.set #[rv 294 ta 406, rv 294 b 150]).run Tryz.prog W = .ok (.tuple #[]) (W.setCell ta (.pointer (some e))) := by
  delta ReflectliteValue.set
  rw [set_two]
  simp only [Sem.run_bind, parts63a, parts63, Result.andThen]
  simp [ReflectliteValue.flagAddr, loadVar, isAgg, underlying, Tryz.underlying294, hb, Result.andThen, direct63, storeVar, Value.cells, storeCells, Addr.add]
  rw [run_store Tryz.prog W ta _ _ (by rfl)]
  simp [ht, hf]
theorem kind92 (w : World) : ((ReflectliteType.abiMethod fun t => (fun a : Nat => Value.int IntKind.u8 (a : Int)) <$> Rtype.kind t) #[hd 291]).run Tryz.prog w = .ok (.int .u8 22) w := by kernel_rfl
theorem kind91 (w : World) : ((ReflectliteType.abiMethod fun t => (fun a : Nat => Value.int IntKind.u8 (a : Int)) <$> Rtype.kind t) #[hd 289]).run Tryz.prog w = .ok (.int .u8 22) w := by kernel_rfl
theorem parts92 (a : Addr) (w : World) : (ReflectliteValue.parts (rv 291 a 150)).run Tryz.prog w = .ok (some (291, a, 150)) w := by kernel_rfl
theorem parts91 (a : Addr) (w : World) : (ReflectliteValue.parts (rv 289 a 150)).run Tryz.prog w = .ok (some (289, a, 150)) w := by kernel_rfl
theorem parts91a (a : Addr) (w : World) : (ReflectliteValue.parts (rv 289 a 406)).run Tryz.prog w = .ok (some (289, a, 406)) w := by kernel_rfl
theorem isnil92 (a p : Addr) (W : World) (ha : W.cell? a = some (.pointer (some p))) : (ReflectliteValue.method (ReflectliteValue.valueError "reflectlite.Value.IsNil" 0) ReflectliteValue.isNil #[rv 291 a 150]).run Tryz.prog W = .ok (.bool false) W := by
  rw [Go.Lib.rl_method]
  simp only [Sem.run_bind, parts92, Result.andThen]
  simp [ReflectliteValue.isNil, loadVar, isAgg, underlying, Tryz.underlying291, ha, Result.andThen]
theorem elem92 (w : World) : (ReflectliteType.method ReflectliteType.elem #[.agg #[hd 291]]).run Tryz.prog w = .ok (rt 289) w := by kernel_rfl
theorem implements91 (w : World) : (ReflectliteType.relation "Implements" ReflectliteType.implements_ #[.agg #[hd 289], rt 244]).run Tryz.prog w = .ok (.bool true) w := by kernel_rfl
theorem typeOf91 (v : Value) (w : World) : (ReflectliteType.typeOf #[.iface 289 v]).run Tryz.prog w = .ok (rt 289) w := by kernel_rfl
theorem valueOf91 (e : Addr) (w : World) : (ReflectliteValue.unpack (.iface 289 (.pointer (some e)))).run Tryz.prog w = .ok (rv 289 ⟨w.heap.size, 0, none⟩ 150) (w.alloc (.cells #[.pointer (some e)] 289)) := by kernel_rfl
theorem elemOf92 (w : World) : (Rtype.elem? 291).run Tryz.prog w = .ok (some 289) w := by kernel_rfl
theorem mk91 (p : Addr) (w : World) : (ReflectliteValue.mk 289 p ReflectliteValue.flagAddr).run Tryz.prog w = .ok (rv 289 p 406) w := by kernel_rfl
theorem elemV92 (a p : Addr) (W : World) (ha : W.cell? a = some (.pointer (some p))) : (ReflectliteValue.method (ReflectliteValue.valueError "reflectlite.Value.Elem" 0) ReflectliteValue.elem #[rv 291 a 150]).run Tryz.prog W = .ok (rv 289 p 406) W := by
  rw [Go.Lib.rl_method]
  simp only [Sem.run_bind, parts92, Result.andThen]
  simp [ReflectliteValue.elem, loadVar, isAgg, underlying, Tryz.underlying291, ha, Result.andThen, elemOf92, mk91]
theorem direct91 (w : World) : (Rtype.directlyAssignable 289 289).run Tryz.prog w = .ok true w := by kernel_rfl
theorem size91 (w : World) : (sizeOf 289).run Tryz.prog w = .ok 1 w := by kernel_rfl
theorem set91 (ta b e : Addr) (old : Value) (W : World) (hb : W.cell? b = some (.pointer (some e))) (ht : W.cell? ta = some old) (hf : W.frozen? ta = false) :
    (ReflectliteValue.set #[rv 289 ta 406, rv 289 b 150]).run Tryz.prog W = .ok (.tuple #[]) (W.setCell ta (.pointer (some e))) := by
  delta ReflectliteValue.set
  rw [set_two]
  simp only [Sem.run_bind, parts91a, parts91, Result.andThen]
  simp [ReflectliteValue.flagAddr, loadVar, isAgg, underlying, Tryz.underlying289, hb, Result.andThen, direct91, storeVar, Value.cells, storeCells, Addr.add]
  rw [run_store Tryz.prog W ta _ _ (by rfl)]
  simp [ht, hf]
theorem assign63to63 (w : World) : (ReflectliteType.relation "AssignableTo" ReflectliteType.assignableTo #[.agg #[hd 294], rt 294]).run Tryz.prog w = .ok (.bool true) w := by kernel_rfl
theorem assign63to91 (w : World) : (ReflectliteType.relation "AssignableTo" ReflectliteType.assignableTo #[.agg #[hd 294], rt 289]).run Tryz.prog w = .ok (.bool false) w := by kernel_rfl
theorem assign91to91 (w : World) : (ReflectliteType.relation "AssignableTo" ReflectliteType.assignableTo #[.agg #[hd 289], rt 289]).run Tryz.prog w = .ok (.bool true) w := by kernel_rfl
theorem assign91to63 (w : World) : (ReflectliteType.relation "AssignableTo" ReflectliteType.assignableTo #[.agg #[hd 289], rt 294]).run Tryz.prog w = .ok (.bool false) w := by kernel_rfl
theorem assign28to91 (w : World) : (ReflectliteType.relation "AssignableTo" ReflectliteType.assignableTo #[.agg #[hd 26], rt 289]).run Tryz.prog w = .ok (.bool false) w := by kernel_rfl
theorem typeOf28 (v : Value) (w : World) : (ReflectliteType.typeOf #[.iface 26 v]).run Tryz.prog w = .ok (rt 26) w := by kernel_rfl
end Go.Proofs.YtiolghcjndoigaaGreatDoor
