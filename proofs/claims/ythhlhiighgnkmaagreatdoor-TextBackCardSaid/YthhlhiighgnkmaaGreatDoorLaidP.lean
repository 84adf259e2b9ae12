/-
  WHAT THE LISTED VARIABLES GIVE PRINTING AND READING OF NUMBERS: the tables of powers.
-/
import Derived.Test.YthhlhiighgnkmaaGreatDoorLaid
import Derived.Test.YthhlhiighgnkmaaGreatDoorSwZ
namespace Go.Proofs.YthhlhiighgnkmaaGreatDoor
set_option linter.unusedVariables false
set_option linter.unusedSimpArgs false
open Go.RowKit Go.ChangeShapes Go.WideShapes Go.ChangeAt Go.WideMaps Go.WideElems
def okRow (i : Nat) : Bool := match Go.Pinned.pow10Rows[i]? with
  | some (hi, lo) => (hi * 2 ^ 64 == Nr.pm i + lo) && Nat.blt lo (2 ^ 64) && Nat.blt hi (2 ^ 64)
  | none => false
set_option maxRecDepth 100000 in
theorem okRow_all : Nr.allP okRow 696 0 = true := by decide +kernel
theorem row_at (i : Nat) (h : i < 696) : ∃ hi lo, Go.Pinned.pow10Rows[i]? = some (hi, lo) ∧ hi * 2 ^ 64 = Nr.pm i + lo ∧ lo < 2 ^ 64 ∧ hi < 2 ^ 64 := by
  have hk := Nr.allP_at okRow_all i (by omega) (by omega)
  unfold okRow at hk
  split at hk
  · rename_i hi lo he
    rw [Bool.and_eq_true, Bool.and_eq_true, beq_iff_eq, Nat.blt_eq, Nat.blt_eq] at hk
    exact ⟨hi, lo, he, hk.1.1, hk.1.2, hk.2⟩
  · cases hk
set_option maxRecDepth 100000 in
theorem laid_ptab {W : World} (h : laidMetH Tryz.prog laid16 W) : PTab W := by
  intro i hi696
  obtain ⟨hi, lo, hrow, hpm, hlo, hhi⟩ := row_at i hi696
  obtain ⟨cs, fuel, p, hc, hd⟩ := one_cells h "internal/strconv.pow10Tab" Rows.laid_internal_strconv_pow10Tab 11 272 (by kernel_rfl) (by kernel_rfl) (by kernel_rfl) (by kernel_rfl)
  obtain ⟨xs, m, _, hx, hl, hn, hel⟩ := DataW.trod_array Tryz.underlying272 hd
  have c271 : Tryz.prog.cellsOf 271 = 2 := by kernel_rfl
  have c22 : Tryz.prog.cellsOf 22 = 1 := by kernel_rfl
  have e1 := congrArg Prod.fst hx
  unfold Rows.laid_internal_strconv_pow10Tab Go.Pinned.pow10Tab at e1
  simp only [DataW.agg.injEq] at e1
  have e2 := congrArg (fun l => l[i]?) e1
  simp only [List.getElem?_map, hrow, Option.map_some] at e2
  have h1 := hel i (by omega)
  cases hxs : xs[i]? with
  | none => rw [hxs] at e2; cases e2
  | some y =>
    rw [hxs] at e2 h1
    simp only [Option.map_some, Option.some.injEq] at e2
    rw [c271] at h1
    obtain ⟨y0, y1, n, hy, _, g0, g1⟩ := trod_struct2 Tryz.underlying271 h1
    obtain ⟨z0, hz0, hy0, _⟩ := DataW.trod_int (k := .u64) Tryz.underlying22 g0
    obtain ⟨z1, hz1, hy1, _⟩ := DataW.trod_int (k := .u64) Tryz.underlying22 g1
    have e3 := congrArg Prod.fst hy
    rw [← e2] at e3
    simp only [DataW.agg.injEq, List.cons.injEq, and_true] at e3
    rw [hy0, hy1] at e3
    have a0 : z0 = (hi : Int) := by simpa using e3.1.symm
    have a1 : z1 = (lo : Int) := by simpa using e3.2.symm
    rw [a0] at hz0
    rw [a1] at hz1
    rw [c22] at hz0 hz1
    have := cells_two (W := W) (w0 := p) cs.toList i _ _ hz0 hz1
    refine ⟨hi, lo, ?_, ?_, hpm, hlo, hhi⟩
    · rw [hc (i * 2), ← Array.getElem?_toList]; exact this.1
    · rw [hc (i * 2 + 1), ← Array.getElem?_toList]; exact this.2
theorem laid_tens {W : World} (h : laidMetH Tryz.prog laid16 W) : ∀ i, i < 20 → W.cell? ⟨2, i, none⟩ = some (.int .u64 ((10 ^ i : Nat) : Int)) := by
  intro i hi
  obtain ⟨cs, fuel, p, hc, hd⟩ := one_cells h "internal/strconv.uint64pow10" Rows.laid_internal_strconv_uint64pow10 2 212 (by kernel_rfl) (by kernel_rfl) (by kernel_rfl) (by kernel_rfl)
  have e := Lib.cells_of_tab (t := 212) (e := 22) (n := 20) (k := .u64) (zs := Lib.pow10Tab) (by kernel_rfl) (by kernel_rfl) (by kernel_rfl) (by kernel_rfl) (show DataW.trod (fun _ => ()) Tryz.prog W 0 (fun _ => true) false fuel 212 cs.toList = some (Lib.tabData .u64 Lib.pow10Tab, p) from hd)
  rw [hc i, ← Array.getElem?_toList, e]
  have : ∀ i : Fin 20, (Lib.pow10Tab.map fun z => Value.int .u64 z)[i.val]? = some (.int .u64 ((10 ^ i.val : Nat) : Int)) := by
    intro i
    unfold Lib.pow10Tab
    rw [List.getElem?_map, List.getElem?_map, List.getElem?_range i.isLt]
    rfl
  exact this ⟨i, hi⟩
theorem laid_tabs {W : World} (h : laidMetH Tryz.prog laid16 W) {m : Int} (hm : W.cell? ⟨3, 0, none⟩ = some (.int .i64 m)) (hs : 18 ≤ W.heap.size) : Tabs W m :=
  ⟨laid_ptab h, laid_tens h, hm, hs⟩
end Go.Proofs.YthhlhiighgnkmaaGreatDoor
