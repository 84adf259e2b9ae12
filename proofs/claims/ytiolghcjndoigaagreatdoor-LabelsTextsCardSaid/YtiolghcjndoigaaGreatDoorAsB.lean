/-
  WALKS: errors.As finds an error at once.
-/
import Derived.Test.YtiolghcjndoigaaGreatDoorAsA
import Derived.Handy
namespace Go.Proofs.YtiolghcjndoigaaGreatDoor
set_option linter.unusedVariables false
set_option linter.unusedSimpArgs false
open Go.RowKit Go.PlainAid Go.Extern.Stop Go.Stop Go.Extern
set_option maxRecDepth 100000 in
set_option maxHeartbeats 4000000 in
theorem as_hit63 (e t : Addr) (old : Value) (w : World) (hg : w.cell? ⟨1, 0, none⟩ = some (rt 244)) (ht0 : w.cell? t = some old) (hf0 : w.frozen? t = false) :
    Calls Tryz.prog 168 #[.iface 294 (.pointer (some e)), .iface 295 (.pointer (some t))] w fun ev w' => ev = .returned (.bool true) ∧ Only [t.block] w w' ∧ w'.cell? t = some (.pointer (some e)) := by
  have h86 := @run_callFunc_extern Tryz.prog 181 _ (fun args => ReflectliteValue.unpack (args.getD 0 (.tuple #[]))) Tryz.func181 (by kernel_rfl) (by kernel_rfl) (by kernel_rfl) (by kernel_rfl)
  have h87 := @run_callFunc_extern Tryz.prog 182 _ (ReflectliteValue.methodAny (ReflectliteValue.valueError "reflectlite.Value.Type" 0) (fun t _ _ _ => ReflectliteType.toType t)) Tryz.func182 (by kernel_rfl) (by kernel_rfl) (by kernel_rfl) (by kernel_rfl)
  have h88 := @run_callFunc_extern Tryz.prog 183 _ (ReflectliteValue.method (ReflectliteValue.valueError "reflectlite.Value.IsNil" 0) ReflectliteValue.isNil) Tryz.func183 (by kernel_rfl) (by kernel_rfl) (by kernel_rfl) (by kernel_rfl)
  have h275 := @run_callFunc_extern Tryz.prog 218 _ (ReflectliteType.abiMethod fun t => do pure (.int .u8 (← Rtype.kind t))) Tryz.func218 (by kernel_rfl) (by kernel_rfl) (by kernel_rfl) (by kernel_rfl)
  have h289 := @run_callFunc_extern Tryz.prog 232 _ (ReflectliteType.method ReflectliteType.elem) Tryz.func232 (by kernel_rfl) (by kernel_rfl) (by kernel_rfl) (by kernel_rfl)
  have h290 := @run_callFunc_extern Tryz.prog 233 _ (ReflectliteType.relation "Implements" ReflectliteType.implements_) Tryz.func233 (by kernel_rfl) (by kernel_rfl) (by kernel_rfl) (by kernel_rfl)
  have h135 := @run_callFunc_extern Tryz.prog 194 _ ReflectliteType.typeOf Tryz.func194 (by kernel_rfl) (by kernel_rfl) (by kernel_rfl) (by kernel_rfl)
  have h287 := @run_callFunc_extern Tryz.prog 230 _ (ReflectliteType.relation "AssignableTo" ReflectliteType.assignableTo) Tryz.func230 (by kernel_rfl) (by kernel_rfl) (by kernel_rfl) (by kernel_rfl)
  have h136 := @run_callFunc_extern Tryz.prog 195 _ (ReflectliteValue.method (ReflectliteValue.valueError "reflectlite.Value.Elem" 0) ReflectliteValue.elem) Tryz.func195 (by kernel_rfl) (by kernel_rfl) (by kernel_rfl) (by kernel_rfl)
  have h137 := @run_callFunc_extern Tryz.prog 196 _ ReflectliteValue.set Tryz.func196 (by kernel_rfl) (by kernel_rfl) (by kernel_rfl) (by kernel_rfl)
  have f1 := valueOf65
  have f2 := type65
  have f3 := kind65
  have f4 := kind63
  have f5 := elem65
  have f6 := implements63
  have f7 := typeOf63
  have f8 := valueOf63
  have f9 := assign63to63
  have hw1 : ∀ o1 : Obj, Below w.heap.size w (w.alloc o1) := fun o1 => (Below.refl _ w).alloc (Nat.le_refl _) o1
  have hw2 : ∀ o1 o2 : Obj, Below w.heap.size w ((w.alloc o1).alloc o2) := fun o1 o2 => (hw1 o1).alloc (by simp) o2
  have hw3 : ∀ o1 o2 o3 : Obj, Below w.heap.size w (((w.alloc o1).alloc o2).alloc o3) := fun o1 o2 o3 => (hw2 o1 o2).alloc (by simp; omega) o3
  have hw4 : ∀ o1 o2 o3 o4 : Obj, Below w.heap.size w ((((w.alloc o1).alloc o2).alloc o3).alloc o4) := fun o1 o2 o3 o4 => (hw3 o1 o2 o3).alloc (by simp; omega) o4
  have htl : t.block < w.heap.size := by
    rcases Nat.lt_or_ge t.block w.heap.size with h | h
    · exact h
    · simp [World.cell?, Array.getElem?_eq_none h] at ht0
  have hgl : 1 < w.heap.size := by
    rcases Nat.lt_or_ge 1 w.heap.size with h | h
    · exact h
    · simp [World.cell?, Array.getElem?_eq_none h] at hg
  have hg2 := fun o1 o2 : Obj => ((hw2 o1 o2).cell (p := ⟨1, 0, none⟩) hgl).trans hg
  have hn := isnil65 ⟨w.heap.size, 0, none⟩ t ((w.alloc (.cells #[.pointer (some t)] 295)).alloc (.cells #[hd 295, .pointer (some ⟨w.heap.size, 0, none⟩), .int .u64 150] 312)) (by simp)
  have hel := elemV65 ⟨w.heap.size, 0, none⟩ t (((w.alloc (.cells #[.pointer (some t)] 295)).alloc (.cells #[hd 295, .pointer (some ⟨w.heap.size, 0, none⟩), .int .u64 150] 312)).alloc (.cells #[hd 295, .pointer (some ⟨w.heap.size, 0, none⟩), .int .u64 150] 312)) (by rw [World.cell?_alloc_lt _ _ ⟨w.heap.size, 0, none⟩ (by simp; omega)]; simp)
  have hst := set63 t ⟨w.heap.size + 1 + 1 + 1, 0, none⟩ e old ((((w.alloc (.cells #[.pointer (some t)] 295)).alloc (.cells #[hd 295, .pointer (some ⟨w.heap.size, 0, none⟩), .int .u64 150] 312)).alloc (.cells #[hd 295, .pointer (some ⟨w.heap.size, 0, none⟩), .int .u64 150] 312)).alloc (.cells #[.pointer (some e)] 294))
    (by rw [World.cell?_alloc_at _ _ _ _ (by simp)]; rfl)
    (((hw4 _ _ _ _).cell htl).trans ht0)
    (((hw4 _ _ _ _).frozen htl).trans hf0)
  have HF := Lib.hid (hw4 (.cells #[.pointer (some t)] 295) (.cells #[hd 295, .pointer (some ⟨w.heap.size, 0, none⟩), .int .u64 150] 312) (.cells #[hd 295, .pointer (some ⟨w.heap.size, 0, none⟩), .int .u64 150] 312) (.cells #[.pointer (some e)] 294))
  have HT := Lib.hid htl
  have H0 := Lib.hid ht0
  have HZ := Lib.hid hf0
  have hg3 := hg2 (.cells #[.pointer (some t)] 295) (.cells #[hd 295, .pointer (some ⟨w.heap.size, 0, none⟩), .int .u64 150] 312)
  clear hw1 hw2 hw3 hw4 htl hgl hg2 hg ht0 hf0
  go_enter Tryz.func168, Tryz.ntmps168
  go_wp2
  refine wp_loop_rounds 1 ?_
  rw [rounds_succ]
  go_wp2
  go_ret
  exact ⟨rfl, (Only.of_below HF.out [t.block]).setCell (.inl (by simp)) _, by apply World.cell?_setCell_same; exact (HF.out.cell HT.out).trans H0.out⟩
set_option maxRecDepth 100000 in
set_option maxHeartbeats 4000000 in
theorem as_hit91 (e t : Addr) (old : Value) (w : World) (hg : w.cell? ⟨1, 0, none⟩ = some (rt 244)) (ht0 : w.cell? t = some old) (hf0 : w.frozen? t = false) :
    Calls Tryz.prog 168 #[.iface 289 (.pointer (some e)), .iface 291 (.pointer (some t))] w fun ev w' => ev = .returned (.bool true) ∧ Only [t.block] w w' ∧ w'.cell? t = some (.pointer (some e)) := by
  have h86 := @run_callFunc_extern Tryz.prog 181 _ (fun args => ReflectliteValue.unpack (args.getD 0 (.tuple #[]))) Tryz.func181 (by kernel_rfl) (by kernel_rfl) (by kernel_rfl) (by kernel_rfl)
  have h87 := @run_callFunc_extern Tryz.prog 182 _ (ReflectliteValue.methodAny (ReflectliteValue.valueError "reflectlite.Value.Type" 0) (fun t _ _ _ => ReflectliteType.toType t)) Tryz.func182 (by kernel_rfl) (by kernel_rfl) (by kernel_rfl) (by kernel_rfl)
  have h88 := @run_callFunc_extern Tryz.prog 183 _ (ReflectliteValue.method (ReflectliteValue.valueError "reflectlite.Value.IsNil" 0) ReflectliteValue.isNil) Tryz.func183 (by kernel_rfl) (by kernel_rfl) (by kernel_rfl) (by kernel_rfl)
  have h275 := @run_callFunc_extern Tryz.prog 218 _ (ReflectliteType.abiMethod fun t => do pure (.int .u8 (← Rtype.kind t))) Tryz.func218 (by kernel_rfl) (by kernel_rfl) (by kernel_rfl) (by kernel_rfl)
  have h289 := @run_callFunc_extern Tryz.prog 232 _ (ReflectliteType.method ReflectliteType.elem) Tryz.func232 (by kernel_rfl) (by kernel_rfl) (by kernel_rfl) (by kernel_rfl)
  have h290 := @run_callFunc_extern Tryz.prog 233 _ (ReflectliteType.relation "Implements" ReflectliteType.implements_) Tryz.func233 (by kernel_rfl) (by kernel_rfl) (by kernel_rfl) (by kernel_rfl)
  have h135 := @run_callFunc_extern Tryz.prog 194 _ ReflectliteType.typeOf Tryz.func194 (by kernel_rfl) (by kernel_rfl) (by kernel_rfl) (by kernel_rfl)
  have h287 := @run_callFunc_extern Tryz.prog 230 _ (ReflectliteType.relation "AssignableTo" ReflectliteType.assignableTo) Tryz.func230 (by kernel_rfl) (by kernel_rfl) (by kernel_rfl) (by kernel_rfl)
  have h136 := @run_callFunc_extern Tryz.prog 195 _ (ReflectliteValue.method (ReflectliteValue.valueError "reflectlite.Value.Elem" 0) ReflectliteValue.elem) Tryz.func195 (by kernel_rfl) (by kernel_rfl) (by kernel_rfl) (by kernel_rfl)
  have h137 := @run_callFunc_extern Tryz.prog 196 _ ReflectliteValue.set Tryz.func196 (by kernel_rfl) (by kernel_rfl) (by kernel_rfl) (by kernel_rfl)
  have f1 := valueOf92
  have f2 := type92
  have f3 := kind92
  have f4 := kind91
  have f5 := elem92
  have f6 := implements91
  have f7 := typeOf91
  have f8 := valueOf91
  have f9 := assign91to91
  have hw1 : ∀ o1 : Obj, Below w.heap.size w (w.alloc o1) := fun o1 => (Below.refl _ w).alloc (Nat.le_refl _) o1
  have hw2 : ∀ o1 o2 : Obj, Below w.heap.size w ((w.alloc o1).alloc o2) := fun o1 o2 => (hw1 o1).alloc (by simp) o2
  have hw3 : ∀ o1 o2 o3 : Obj, Below w.heap.size w (((w.alloc o1).alloc o2).alloc o3) := fun o1 o2 o3 => (hw2 o1 o2).alloc (by simp; omega) o3
  have hw4 : ∀ o1 o2 o3 o4 : Obj, Below w.heap.size w ((((w.alloc o1).alloc o2).alloc o3).alloc o4) := fun o1 o2 o3 o4 => (hw3 o1 o2 o3).alloc (by simp; omega) o4
  have htl : t.block < w.heap.size := by
    rcases Nat.lt_or_ge t.block w.heap.size with h | h
    · exact h
    · simp [World.cell?, Array.getElem?_eq_none h] at ht0
  have hgl : 1 < w.heap.size := by
    rcases Nat.lt_or_ge 1 w.heap.size with h | h
    · exact h
    · simp [World.cell?, Array.getElem?_eq_none h] at hg
  have hg2 := fun o1 o2 : Obj => ((hw2 o1 o2).cell (p := ⟨1, 0, none⟩) hgl).trans hg
  have hn := isnil92 ⟨w.heap.size, 0, none⟩ t ((w.alloc (.cells #[.pointer (some t)] 291)).alloc (.cells #[hd 291, .pointer (some ⟨w.heap.size, 0, none⟩), .int .u64 150] 312)) (by simp)
  have hel := elemV92 ⟨w.heap.size, 0, none⟩ t (((w.alloc (.cells #[.pointer (some t)] 291)).alloc (.cells #[hd 291, .pointer (some ⟨w.heap.size, 0, none⟩), .int .u64 150] 312)).alloc (.cells #[hd 291, .pointer (some ⟨w.heap.size, 0, none⟩), .int .u64 150] 312)) (by rw [World.cell?_alloc_lt _ _ ⟨w.heap.size, 0, none⟩ (by simp; omega)]; simp)
  have hst := set91 t ⟨w.heap.size + 1 + 1 + 1, 0, none⟩ e old ((((w.alloc (.cells #[.pointer (some t)] 291)).alloc (.cells #[hd 291, .pointer (some ⟨w.heap.size, 0, none⟩), .int .u64 150] 312)).alloc (.cells #[hd 291, .pointer (some ⟨w.heap.size, 0, none⟩), .int .u64 150] 312)).alloc (.cells #[.pointer (some e)] 289))
    (by rw [World.cell?_alloc_at _ _ _ _ (by simp)]; rfl)
    (((hw4 _ _ _ _).cell htl).trans ht0)
    (((hw4 _ _ _ _).frozen htl).trans hf0)
  have HF := Lib.hid (hw4 (.cells #[.pointer (some t)] 291) (.cells #[hd 291, .pointer (some ⟨w.heap.size, 0, none⟩), .int .u64 150] 312) (.cells #[hd 291, .pointer (some ⟨w.heap.size, 0, none⟩), .int .u64 150] 312) (.cells #[.pointer (some e)] 289))
  have HT := Lib.hid htl
  have H0 := Lib.hid ht0
  have HZ := Lib.hid hf0
  have hg3 := hg2 (.cells #[.pointer (some t)] 291) (.cells #[hd 291, .pointer (some ⟨w.heap.size, 0, none⟩), .int .u64 150] 312)
  clear hw1 hw2 hw3 hw4 htl hgl hg2 hg ht0 hf0
  go_enter Tryz.func168, Tryz.ntmps168
  go_wp2
  refine wp_loop_rounds 1 ?_
  rw [rounds_succ]
  go_wp2
  go_ret
  exact ⟨rfl, (Only.of_below HF.out [t.block]).setCell (.inl (by simp)) _, by apply World.cell?_setCell_same; exact (HF.out.cell HT.out).trans H0.out⟩
end Go.Proofs.YtiolghcjndoigaaGreatDoor
