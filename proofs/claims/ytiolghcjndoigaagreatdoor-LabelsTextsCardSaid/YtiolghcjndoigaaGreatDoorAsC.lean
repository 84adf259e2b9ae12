/-
  WALKS: errors.As goes through what an error wraps.
-/
import Derived.Test.YtiolghcjndoigaaGreatDoorAsA
import Derived.Handy
namespace Go.Proofs.YtiolghcjndoigaaGreatDoor
set_option linter.unusedVariables false
set_option linter.unusedSimpArgs false
open Go.RowKit Go.PlainAid Go.Extern.Stop Go.Stop Go.Extern
theorem noAs63 (v : Value) (xT : TypeId) (w : World) : (Instr.typeAssert (.iface 294 v) xT 339 true).run Tryz.prog w = .ok (.tuple #[.nilIface, .bool false]) w := Go.run_typeAssert_lacksB Tryz.underlying339 (by kernel_rfl) (by kernel_rfl) v xT w
theorem hasUn63 (v : Value) (xT : TypeId) (w : World) : (Instr.typeAssert (.iface 294 v) xT 342 true).run Tryz.prog w = .ok (.tuple #[.iface 294 v, .bool true]) w := Go.run_typeAssert_hasB Tryz.underlying342 (by kernel_rfl) v xT w
theorem unwrap_any (p : Nat) (x : Value) (w : World) (h : w.cell? ⟨p, 2, none⟩ = some x) : Calls Tryz.prog 225 #[.pointer (some ⟨p, 0, none⟩)] w fun e w' => e = .returned x ∧ w' = w := by
  go_enter Tryz.func225, Tryz.ntmps225
  go_wp2
  go_ret
  exact ⟨rfl, rfl⟩
set_option maxRecDepth 100000 in
set_option maxHeartbeats 4000000 in
theorem as_round63 (t : Addr) (p : Nat) (w : World) (hg : w.cell? ⟨1, 0, none⟩ = some (rt 244)) (hp : w.cell? ⟨p, 2, none⟩ = some .nilIface) (ht0 : w.cell? t = some (.pointer none)) :
    Calls Tryz.prog 168 #[.iface 294 (.pointer (some ⟨p, 0, none⟩)), .iface 291 (.pointer (some t))] w fun ev w' => ev = .returned (.bool false) ∧ Below w.heap.size w w' := by
  have h86 := @run_callFunc_extern Tryz.prog 181 _ (fun args => ReflectliteValue.unpack (args.getD 0 (.tuple #[]))) Tryz.func181 (by kernel_rfl) (by kernel_rfl) (by kernel_rfl) (by kernel_rfl)
  have h87 := @run_callFunc_extern Tryz.prog 182 _ (ReflectliteValue.methodAny (ReflectliteValue.valueError "reflectlite.Value.Type" 0) (fun t _ _ _ => ReflectliteType.toType t)) Tryz.func182 (by kernel_rfl) (by kernel_rfl) (by kernel_rfl) (by kernel_rfl)
  have h88 := @run_callFunc_extern Tryz.prog 183 _ (ReflectliteValue.method (ReflectliteValue.valueError "reflectlite.Value.IsNil" 0) ReflectliteValue.isNil) Tryz.func183 (by kernel_rfl) (by kernel_rfl) (by kernel_rfl) (by kernel_rfl)
  have h275 := @run_callFunc_extern Tryz.prog 218 _ (ReflectliteType.abiMethod fun t => do pure (.int .u8 (← Rtype.kind t))) Tryz.func218 (by kernel_rfl) (by kernel_rfl) (by kernel_rfl) (by kernel_rfl)
  have h289 := @run_callFunc_extern Tryz.prog 232 _ (ReflectliteType.method ReflectliteType.elem) Tryz.func232 (by kernel_rfl) (by kernel_rfl) (by kernel_rfl) (by kernel_rfl)
  have h290 := @run_callFunc_extern Tryz.prog 233 _ (ReflectliteType.relation "Implements" ReflectliteType.implements_) Tryz.func233 (by kernel_rfl) (by kernel_rfl) (by kernel_rfl) (by kernel_rfl)
  have h135 := @run_callFunc_extern Tryz.prog 194 _ ReflectliteType.typeOf Tryz.func194 (by kernel_rfl) (by kernel_rfl) (by kernel_rfl) (by kernel_rfl)
  have h287 := @run_callFunc_extern Tryz.prog 230 _ (ReflectliteType.relation "AssignableTo" ReflectliteType.assignableTo) Tryz.func230 (by kernel_rfl) (by kernel_rfl) (by kernel_rfl) (by kernel_rfl)
  have h136 := @run_callFunc_extern Tryz.prog 195 _ (ReflectliteValue.method (ReflectliteValue.valueError "reflectlite.Value.Elem" 0) ReflectliteValue.elem) Tryz.func195 (by kernel_rfl) (by kernel_rfl) (by kernel_rfl) (by kernel_rfl)
  have h137 := @run_callFunc_extern Tryz.prog 196 _ ReflectliteValue.set Tryz.func196 (by kernel_rfl) (by kernel_rfl) (by kernel_rfl) (by kernel_rfl)
  have f1 := valueOf92
  have f2 := type92
  have f3 := kind92
  have f4 := kind91
  have f5 := elem92
  have f6 := implements91
  have f7 := typeOf63
  have f8 := valueOf63
  have f9 := assign63to91
  have g1 := noAs63
  have g2 := hasUn63
  have hw1 : ∀ o1 : Obj, Below w.heap.size w (w.alloc o1) := fun o1 => (Below.refl _ w).alloc (Nat.le_refl _) o1
  have hw2 : ∀ o1 o2 : Obj, Below w.heap.size w ((w.alloc o1).alloc o2) := fun o1 o2 => (hw1 o1).alloc (by simp) o2
  have hw3 : ∀ o1 o2 o3 : Obj, Below w.heap.size w (((w.alloc o1).alloc o2).alloc o3) := fun o1 o2 o3 => (hw2 o1 o2).alloc (by simp; omega) o3
  have hgl : 1 < w.heap.size := by
    rcases Nat.lt_or_ge 1 w.heap.size with h | h
    · exact h
    · simp [World.cell?, Array.getElem?_eq_none h] at hg
  have hpl : p < w.heap.size := by
    rcases Nat.lt_or_ge p w.heap.size with h | h
    · exact h
    · simp [World.cell?, Array.getElem?_eq_none h] at hp
  have hg2 := (hw2 (.cells #[.pointer (some t)] 291) (.cells #[hd 291, .pointer (some ⟨w.heap.size, 0, none⟩), .int .u64 150] 312)).cell (p := ⟨1, 0, none⟩) hgl |>.trans hg
  have hn := isnil92 ⟨w.heap.size, 0, none⟩ t ((w.alloc (.cells #[.pointer (some t)] 291)).alloc (.cells #[hd 291, .pointer (some ⟨w.heap.size, 0, none⟩), .int .u64 150] 312)) (by simp)
  have HF := Lib.hid (hw3 (.cells #[.pointer (some t)] 291) (.cells #[hd 291, .pointer (some ⟨w.heap.size, 0, none⟩), .int .u64 150] 312) (.cells #[hd 291, .pointer (some ⟨w.heap.size, 0, none⟩), .int .u64 150] 312))
  have hp3 := (HF.out.cell (p := ⟨p, 2, none⟩) hpl).trans hp
  have CU := Lib.hid (fun w1 (h : w1.cell? ⟨p, 2, none⟩ = some .nilIface) => unwrap_any p .nilIface w1 h)
  clear hw1 hw2 hw3 hgl hpl hg hp ht0
  go_enter Tryz.func168, Tryz.ntmps168
  go_wp2
  refine wp_loop_rounds 1 ?_
  rw [rounds_succ]
  go_wp2
  go_ret
  exact ⟨rfl, HF.out⟩
end Go.Proofs.YtiolghcjndoigaaGreatDoor
