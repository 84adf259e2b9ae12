/-
  WALKS: errors.As goes through two errors.
-/
import Derived.Test.YthhlhiighgnkmaaGreatDoorAsB
import Derived.Test.YthhlhiighgnkmaaGreatDoorAsC
import Derived.Handy
namespace Go.Proofs.YthhlhiighgnkmaaGreatDoor
set_option linter.unusedVariables false
set_option linter.unusedSimpArgs false
open Go.RowKit Go.PlainAid Go.Extern.Stop Go.Stop Go.Extern
theorem noAs28 (v : Value) (xT : TypeId) (w : World) : (Instr.typeAssert (.iface 28 v) xT 173 true).run Tryz.prog w = .ok (.tuple #[.nilIface, .bool false]) w := Go.run_typeAssert_lacksB Tryz.underlying173 (by kernel_rfl) (by kernel_rfl) v xT w
theorem noUn28 (v : Value) (xT : TypeId) (w : World) : (Instr.typeAssert (.iface 28 v) xT 176 true).run Tryz.prog w = .ok (.tuple #[.nilIface, .bool false]) w := Go.run_typeAssert_lacksB Tryz.underlying176 (by kernel_rfl) (by kernel_rfl) v xT w
theorem noUns28 (v : Value) (xT : TypeId) (w : World) : (Instr.typeAssert (.iface 28 v) xT 178 true).run Tryz.prog w = .ok (.tuple #[.nilIface, .bool false]) w := Go.run_typeAssert_lacksB Tryz.underlying178 (by kernel_rfl) (by kernel_rfl) v xT w
set_option maxRecDepth 100000 in
set_option maxHeartbeats 4000000 in
theorem as_round28 (t : Addr) (p : Nat) (w : World) (hg : w.cell? ⟨0, 0, none⟩ = some (rt 60)) (n : Int) (hp : w.cell? ⟨p, 2, none⟩ = some (.iface 28 (.int .u16 n))) (ht0 : w.cell? t = some (.pointer none)) :
    Calls Tryz.prog 44 #[.iface 63 (.pointer (some ⟨p, 0, none⟩)), .iface 92 (.pointer (some t))] w fun ev w' => ev = .returned (.bool false) ∧ Below w.heap.size w w' := by
  have h86 := @run_callFunc_extern Tryz.prog 86 _ (fun args => ReflectliteValue.unpack (args.getD 0 (.tuple #[]))) Tryz.func86 (by kernel_rfl) (by kernel_rfl) (by kernel_rfl) (by kernel_rfl)
  have h87 := @run_callFunc_extern Tryz.prog 87 _ (ReflectliteValue.methodAny (ReflectliteValue.valueError "reflectlite.Value.Type" 0) (fun t _ _ _ => ReflectliteType.toType t)) Tryz.func87 (by kernel_rfl) (by kernel_rfl) (by kernel_rfl) (by kernel_rfl)
  have h88 := @run_callFunc_extern Tryz.prog 88 _ (ReflectliteValue.method (ReflectliteValue.valueError "reflectlite.Value.IsNil" 0) ReflectliteValue.isNil) Tryz.func88 (by kernel_rfl) (by kernel_rfl) (by kernel_rfl) (by kernel_rfl)
  have h275 := @run_callFunc_extern Tryz.prog 275 _ (ReflectliteType.abiMethod fun t => do pure (.int .u8 (← Rtype.kind t))) Tryz.func275 (by kernel_rfl) (by kernel_rfl) (by kernel_rfl) (by kernel_rfl)
  have h289 := @run_callFunc_extern Tryz.prog 289 _ (ReflectliteType.method ReflectliteType.elem) Tryz.func289 (by kernel_rfl) (by kernel_rfl) (by kernel_rfl) (by kernel_rfl)
  have h290 := @run_callFunc_extern Tryz.prog 290 _ (ReflectliteType.relation "Implements" ReflectliteType.implements_) Tryz.func290 (by kernel_rfl) (by kernel_rfl) (by kernel_rfl) (by kernel_rfl)
  have h135 := @run_callFunc_extern Tryz.prog 135 _ ReflectliteType.typeOf Tryz.func135 (by kernel_rfl) (by kernel_rfl) (by kernel_rfl) (by kernel_rfl)
  have h287 := @run_callFunc_extern Tryz.prog 287 _ (ReflectliteType.relation "AssignableTo" ReflectliteType.assignableTo) Tryz.func287 (by kernel_rfl) (by kernel_rfl) (by kernel_rfl) (by kernel_rfl)
  have h136 := @run_callFunc_extern Tryz.prog 136 _ (ReflectliteValue.method (ReflectliteValue.valueError "reflectlite.Value.Elem" 0) ReflectliteValue.elem) Tryz.func136 (by kernel_rfl) (by kernel_rfl) (by kernel_rfl) (by kernel_rfl)
  have h137 := @run_callFunc_extern Tryz.prog 137 _ ReflectliteValue.set Tryz.func137 (by kernel_rfl) (by kernel_rfl) (by kernel_rfl) (by kernel_rfl)
  have f1 := valueOf92
  have f2 := type92
  have f3 := kind92
  have f4 := kind91
  have f5 := elem92
  have f6 := implements91
  have f7 := typeOf63
  have f8 := valueOf63
  have f9 := assign63to91
  have g1 := noAs63
  have g2 := hasUn63
  have g3 := noAs28
  have g4 := noUn28
  have g5 := noUns28
  have g6 := typeOf28
  have g7 := assign28to91
  have hw1 : ∀ o1 : Obj, Below w.heap.size w (w.alloc o1) := fun o1 => (Below.refl _ w).alloc (Nat.le_refl _) o1
  have hw2 : ∀ o1 o2 : Obj, Below w.heap.size w ((w.alloc o1).alloc o2) := fun o1 o2 => (hw1 o1).alloc (by simp) o2
  have hw3 : ∀ o1 o2 o3 : Obj, Below w.heap.size w (((w.alloc o1).alloc o2).alloc o3) := fun o1 o2 o3 => (hw2 o1 o2).alloc (by simp; omega) o3
  have hgl : 0 < w.heap.size := by
    rcases Nat.eq_zero_or_pos w.heap.size with h0 | h
    · simp [World.cell?, h0] at hg
    · exact h
  have hpl : p < w.heap.size := by
    rcases Nat.lt_or_ge p w.heap.size with h | h
    · exact h
    · simp [World.cell?, Array.getElem?_eq_none h] at hp
  have hg2 := (hw2 (.cells #[.pointer (some t)] 92) (.cells #[hd 92, .pointer (some ⟨w.heap.size, 0, none⟩), .int .u64 150] 121)).cell (p := ⟨0, 0, none⟩) hgl |>.trans hg
  have hn := isnil92 ⟨w.heap.size, 0, none⟩ t ((w.alloc (.cells #[.pointer (some t)] 92)).alloc (.cells #[hd 92, .pointer (some ⟨w.heap.size, 0, none⟩), .int .u64 150] 121)) (by simp)
  have HF := Lib.hid (hw3 (.cells #[.pointer (some t)] 92) (.cells #[hd 92, .pointer (some ⟨w.heap.size, 0, none⟩), .int .u64 150] 121) (.cells #[hd 92, .pointer (some ⟨w.heap.size, 0, none⟩), .int .u64 150] 121))
  have hp3 := (HF.out.cell (p := ⟨p, 2, none⟩) hpl).trans hp
  have CU := Lib.hid (fun w1 (h : w1.cell? ⟨p, 2, none⟩ = some (.iface 28 (.int .u16 n))) => unwrap_any p (.iface 28 (.int .u16 n)) w1 h)
  clear hw1 hw2 hw3 hgl hpl hg hp ht0
  go_enter Tryz.func44, Tryz.ntmps44
  go_wp2
  refine wp_loop_rounds 2 ?_
  rw [rounds_succ]
  go_wp2
  rw [rounds_succ]
  go_wp2
  go_ret
  exact ⟨rfl, HF.out⟩
set_option maxRecDepth 100000 in
set_option maxHeartbeats 4000000 in
theorem as_round6363 (t : Addr) (p q : Nat) (w : World) (hg : w.cell? ⟨0, 0, none⟩ = some (rt 60)) (hp : w.cell? ⟨p, 2, none⟩ = some (.iface 63 (.pointer (some ⟨q, 0, none⟩)))) (hq : w.cell? ⟨q, 2, none⟩ = some .nilIface) (ht0 : w.cell? t = some (.pointer none)) :
    Calls Tryz.prog 44 #[.iface 63 (.pointer (some ⟨p, 0, none⟩)), .iface 92 (.pointer (some t))] w fun ev w' => ev = .returned (.bool false) ∧ Below w.heap.size w w' := by
  have h86 := @run_callFunc_extern Tryz.prog 86 _ (fun args => ReflectliteValue.unpack (args.getD 0 (.tuple #[]))) Tryz.func86 (by kernel_rfl) (by kernel_rfl) (by kernel_rfl) (by kernel_rfl)
  have h87 := @run_callFunc_extern Tryz.prog 87 _ (ReflectliteValue.methodAny (ReflectliteValue.valueError "reflectlite.Value.Type" 0) (fun t _ _ _ => ReflectliteType.toType t)) Tryz.func87 (by kernel_rfl) (by kernel_rfl) (by kernel_rfl) (by kernel_rfl)
  have h88 := @run_callFunc_extern Tryz.prog 88 _ (ReflectliteValue.method (ReflectliteValue.valueError "reflectlite.Value.IsNil" 0) ReflectliteValue.isNil) Tryz.func88 (by kernel_rfl) (by kernel_rfl) (by kernel_rfl) (by kernel_rfl)
  have h275 := @run_callFunc_extern Tryz.prog 275 _ (ReflectliteType.abiMethod fun t => do pure (.int .u8 (← Rtype.kind t))) Tryz.func275 (by kernel_rfl) (by kernel_rfl) (by kernel_rfl) (by kernel_rfl)
  have h289 := @run_callFunc_extern Tryz.prog 289 _ (ReflectliteType.method ReflectliteType.elem) Tryz.func289 (by kernel_rfl) (by kernel_rfl) (by kernel_rfl) (by kernel_rfl)
  have h290 := @run_callFunc_extern Tryz.prog 290 _ (ReflectliteType.relation "Implements" ReflectliteType.implements_) Tryz.func290 (by kernel_rfl) (by kernel_rfl) (by kernel_rfl) (by kernel_rfl)
  have h135 := @run_callFunc_extern Tryz.prog 135 _ ReflectliteType.typeOf Tryz.func135 (by kernel_rfl) (by kernel_rfl) (by kernel_rfl) (by kernel_rfl)
  have h287 := @run_callFunc_extern Tryz.prog 287 _ (ReflectliteType.relation "AssignableTo" ReflectliteType.assignableTo) Tryz.func287 (by kernel_rfl) (by kernel_rfl) (by kernel_rfl) (by kernel_rfl)
  have h136 := @run_callFunc_extern Tryz.prog 136 _ (ReflectliteValue.method (ReflectliteValue.valueError "reflectlite.Value.Elem" 0) ReflectliteValue.elem) Tryz.func136 (by kernel_rfl) (by kernel_rfl) (by kernel_rfl) (by kernel_rfl)
  have h137 := @run_callFunc_extern Tryz.prog 137 _ ReflectliteValue.set Tryz.func137 (by kernel_rfl) (by kernel_rfl) (by kernel_rfl) (by kernel_rfl)
  have f1 := valueOf92
  have f2 := type92
  have f3 := kind92
  have f4 := kind91
  have f5 := elem92
  have f6 := implements91
  have f7 := typeOf63
  have f8 := valueOf63
  have f9 := assign63to91
  have g1 := noAs63
  have g2 := hasUn63
  have hw1 : ∀ o1 : Obj, Below w.heap.size w (w.alloc o1) := fun o1 => (Below.refl _ w).alloc (Nat.le_refl _) o1
  have hw2 : ∀ o1 o2 : Obj, Below w.heap.size w ((w.alloc o1).alloc o2) := fun o1 o2 => (hw1 o1).alloc (by simp) o2
  have hw3 : ∀ o1 o2 o3 : Obj, Below w.heap.size w (((w.alloc o1).alloc o2).alloc o3) := fun o1 o2 o3 => (hw2 o1 o2).alloc (by simp; omega) o3
  have hgl : 0 < w.heap.size := by
    rcases Nat.eq_zero_or_pos w.heap.size with h0 | h
    · simp [World.cell?, h0] at hg
    · exact h
  have hpl : p < w.heap.size := by
    rcases Nat.lt_or_ge p w.heap.size with h | h
    · exact h
    · simp [World.cell?, Array.getElem?_eq_none h] at hp
  have hg2 := (hw2 (.cells #[.pointer (some t)] 92) (.cells #[hd 92, .pointer (some ⟨w.heap.size, 0, none⟩), .int .u64 150] 121)).cell (p := ⟨0, 0, none⟩) hgl |>.trans hg
  have hn := isnil92 ⟨w.heap.size, 0, none⟩ t ((w.alloc (.cells #[.pointer (some t)] 92)).alloc (.cells #[hd 92, .pointer (some ⟨w.heap.size, 0, none⟩), .int .u64 150] 121)) (by simp)
  have HF := Lib.hid (hw3 (.cells #[.pointer (some t)] 92) (.cells #[hd 92, .pointer (some ⟨w.heap.size, 0, none⟩), .int .u64 150] 121) (.cells #[hd 92, .pointer (some ⟨w.heap.size, 0, none⟩), .int .u64 150] 121))
  have hp3 := (HF.out.cell (p := ⟨p, 2, none⟩) hpl).trans hp
  have CU := Lib.hid (fun w1 (h : w1.cell? ⟨p, 2, none⟩ = some (.iface 63 (.pointer (some ⟨q, 0, none⟩)))) => unwrap_any p (.iface 63 (.pointer (some ⟨q, 0, none⟩))) w1 h)
  have hql : q < w.heap.size := by
    rcases Nat.lt_or_ge q w.heap.size with h | h
    · exact h
    · simp [World.cell?, Array.getElem?_eq_none h] at hq
  have hq3 := (HF.out.cell (p := ⟨q, 2, none⟩) hql).trans hq
  have CU2 := Lib.hid (fun w1 (h : w1.cell? ⟨q, 2, none⟩ = some .nilIface) => unwrap_any q .nilIface w1 h)
  clear hql hq
  clear hw1 hw2 hw3 hgl hpl hg hp ht0
  go_enter Tryz.func44, Tryz.ntmps44
  go_wp2
  refine wp_loop_rounds 2 ?_
  rw [rounds_succ]
  go_wp2
  rw [rounds_succ]
  go_wp2
  go_ret
  exact ⟨rfl, HF.out⟩
end Go.Proofs.YthhlhiighgnkmaaGreatDoor
