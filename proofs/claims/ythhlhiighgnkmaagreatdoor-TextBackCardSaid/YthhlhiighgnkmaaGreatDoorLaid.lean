/-
  WHAT THE LISTED VARIABLES GIVE THE WALKS: their cells.
-/
import Derived.Test.YthhlhiighgnkmaaGreatDoorDoor
import Derived.Test.YthhlhiighgnkmaaGreatDoorShZ
import Derived.LaidSub
import Derived.LaidMore
import Derived.MakeChecks
import Derived.Lib.LaidTab
import Derived.OpenShut
import Derived.Deep.Strs
import Derived.ChangeSame
import Derived.Shelf.Vars
namespace Go.Proofs.YthhlhiighgnkmaaGreatDoor
set_option linter.unusedVariables false
set_option linter.unusedSimpArgs false
open Go.RowKit Go.ChangeShapes Go.WideShapes Go.ChangeAt Go.WideMaps Go.WideElems
theorem one_laid {W : World} (h : laidMetH Tryz.prog laid16 W) (n : String) (d : DataW Unit) (he : laid16.filter (fun x => x.1 == n) = [(n, d)]) (hp : ([(n, d)].all fun x => x.2.handleName?.isNone) = true) : laidMet Tryz.prog [(n, d)] W := by
  have h1 := h.filter (fun x => x.1 == n)
  rw [he, MakeChecks.laidMetH_plain _ _ _ hp] at h1
  exact h1
theorem one_cells {W : World} (h : laidMetH Tryz.prog laid16 W) (n : String) (d : DataW Unit) (g t : Nat) (he : laid16.filter (fun x => x.1 == n) = [(n, d)]) (hp : ([(n, d)].all fun x => x.2.handleName?.isNone) = true) (hg : Tryz.prog.globalNamed n = some g) (ht : (Tryz.prog.globals[g]?).map (·.type) = some t) :
    ∃ (cs : Array Value) (fuel : Nat) (p : List MemPlace), (∀ i, W.cell? ⟨g, i, none⟩ = cs[i]?) ∧ DataW.trod (fun _ => ()) Tryz.prog W 0 (fun _ => true) false fuel t cs.toList = some (d, p) := by
  obtain ⟨ps, ⟨g', t', cs, fuel, p, q, hg', ht', hv, hd, _, _⟩, _⟩ := one_laid h n d he hp
  obtain rfl := Option.some.inj (hg.symm.trans hg')
  obtain rfl := Option.some.inj (ht.symm.trans ht')
  exact ⟨cs, fuel, p, World.var?_cell hg hv, hd⟩
theorem laid_opt {W : World} (h : laidMetH Tryz.prog laid16 W) : W.cell? ⟨4, 0, none⟩ = some (.bool true) := by
  obtain ⟨cs, fuel, p, hc, hd⟩ := one_cells h "internal/strconv.optimize" Rows.laid_internal_strconv_optimize 4 4 (by kernel_rfl) (by kernel_rfl) (by kernel_rfl) (by kernel_rfl)
  obtain ⟨b, hcs, hx⟩ := DataW.trod_bool Tryz.underlying4 hd
  rw [hc 0, Array.eq_one_of_toList hcs]
  have : b = true := by
    have := congrArg Prod.fst hx
    simpa [Rows.laid_internal_strconv_optimize] using this.symm
  rw [this]
  rfl
theorem laid_ten {W : World} (h : laidMetH Tryz.prog laid16 W) : W.cell? ⟨2, 15, none⟩ = some (.int .u64 1000000000000000) := by
  obtain ⟨cs, fuel, p, hc, hd⟩ := one_cells h "internal/strconv.uint64pow10" Rows.laid_internal_strconv_uint64pow10 2 212 (by kernel_rfl) (by kernel_rfl) (by kernel_rfl) (by kernel_rfl)
  have e := Lib.cells_of_tab (t := 212) (e := 22) (n := 20) (k := .u64) (zs := Lib.pow10Tab) (by kernel_rfl) (by kernel_rfl) (by kernel_rfl) (by kernel_rfl) (show DataW.trod (fun _ => ()) Tryz.prog W 0 (fun _ => true) false fuel 212 cs.toList = some (Lib.tabData .u64 Lib.pow10Tab, p) from hd)
  rw [hc 15, ← Array.getElem?_toList, e]
  rfl
theorem laid_info {W : World} (h : laidMetH Tryz.prog laid16 W) : W.cell? ⟨14, 0, none⟩ = some (.int .u64 52) := by
  obtain ⟨cs, fuel, p, hc, hd⟩ := one_cells h "internal/strconv.float64info" Rows.laid_internal_strconv_float64info 14 291 (by kernel_rfl) (by kernel_rfl) (by kernel_rfl) (by kernel_rfl)
  obtain ⟨y0, y1, y2, n, hx, hl, h0, _, _⟩ := Go.Deep.trod_struct3 Tryz.underlying291 hd
  obtain ⟨z, hz, hy, _⟩ := DataW.trod_int (k := .u64) Tryz.underlying88 h0
  have c88 : Tryz.prog.cellsOf 88 = 1 := by kernel_rfl
  have e1 : y0.1 = .lit (.int .u64 52) := by
    have := congrArg Prod.fst hx
    simp only [Rows.laid_internal_strconv_float64info, DataW.agg.injEq, List.cons.injEq] at this
    exact this.1.symm
  rw [hy] at e1
  have e2 : z = 52 := by simpa using e1
  rw [e2] at hz
  simp only [c88, List.drop_zero] at hz
  rw [hc 0, ← Array.getElem?_toList]
  cases hcs : cs.toList with
  | nil => rw [hcs] at hz; simp at hz
  | cons c r => rw [hcs] at hz; simp at hz; rw [hz]; rfl
theorem trod_f64 {w : World} {t : TypeId} {fuel : Nat} {v : Value} {b : Nat} {q : List MemPlace} (ht : Tryz.prog.underlying t = some (.float .f64)) (h : DataW.trod (fun _ => ()) Tryz.prog w 0 (fun _ => true) false fuel t [v] = some (.lit (.float .f64 b), q)) : v = .float .f64 b := by
  cases fuel with
  | zero => simp [DataW.trod] at h
  | succ n =>
    simp only [DataW.trod, ht] at h
    cases v <;> simp at h
    all_goals first | (obtain ⟨⟨rfl, _⟩, rfl, _⟩ := h; rfl) | (split at h <;> simp_all)
theorem laid_pow {W : World} (h : laidMetH Tryz.prog laid16 W) : ∃ b off cap, W.cell? ⟨17, 0, none⟩ = some (.slice (some ⟨b, off, none⟩) 23 cap) ∧ W.cell? ⟨b, off + 1, none⟩ = some (.float .f64 4621819117588971520) := by
  obtain ⟨cs, fuel, p, hc, hd⟩ := one_cells h "internal/strconv.float64pow10" Rows.laid_internal_strconv_float64pow10 17 308 (by kernel_rfl) (by kernel_rfl) (by kernel_rfl) (by kernel_rfl)
  obtain ⟨a, cap, hcs, _, hel⟩ := open_row Tryz.underlying308 (by kernel_rfl) hd
  obtain ⟨v1, n1, q1, hc1, hr1⟩ := hel 1 _ rfl
  have hv := trod_f64 Tryz.underlying97 hr1
  obtain ⟨b, off, spot⟩ := a
  obtain ⟨v0, n0, q0, hc0, _⟩ := hel 0 _ rfl
  have hspot : spot = none := by simpa [Addr.add] using World.cell?_spot hc0
  subst hspot
  refine ⟨b, off, cap, ?_, ?_⟩
  · rw [hc 0, Array.eq_one_of_toList hcs]
    rfl
  · rw [add_at] at hc1
    rw [hc1, hv]
theorem row365 : Go.Pinned.pow10Rows[365]? = some (12800000000000000000, 0) := by kernel_rfl
theorem cells_two {W : World} {w0 : List MemPlace} (cs : List Value) (k : Nat) (x y : Value) (h0 : ((cs.drop (k * 2)).take 2).take 1 = [x]) (h1 : (((cs.drop (k * 2)).take 2).drop 1).take 1 = [y]) : cs[k * 2]? = some x ∧ cs[k * 2 + 1]? = some y := by
  have e0 := congrArg (fun l => l[0]?) h0
  have e1 := congrArg (fun l => l[0]?) h1
  simp only [List.getElem?_take, List.getElem?_drop] at e0 e1
  constructor
  · simpa using e0
  · simpa using e1
set_option maxRecDepth 100000 in
theorem laid_tab {W : World} (h : laidMetH Tryz.prog laid16 W) : W.cell? ⟨11, 730, none⟩ = some (.int .u64 12800000000000000000) ∧ W.cell? ⟨11, 731, none⟩ = some (.int .u64 0) := by
  obtain ⟨cs, fuel, p, hc, hd⟩ := one_cells h "internal/strconv.pow10Tab" Rows.laid_internal_strconv_pow10Tab 11 272 (by kernel_rfl) (by kernel_rfl) (by kernel_rfl) (by kernel_rfl)
  obtain ⟨xs, m, _, hx, hl, hn, hel⟩ := DataW.trod_array Tryz.underlying272 hd
  have c271 : Tryz.prog.cellsOf 271 = 2 := by kernel_rfl
  have c22 : Tryz.prog.cellsOf 22 = 1 := by kernel_rfl
  have e1 := congrArg Prod.fst hx
  unfold Rows.laid_internal_strconv_pow10Tab Go.Pinned.pow10Tab at e1
  simp only [DataW.agg.injEq] at e1
  have e2 := congrArg (fun l => l[365]?) e1
  simp only [List.getElem?_map, row365, Option.map_some] at e2
  have h1 := hel 365 (by decide)
  cases hxs : xs[365]? with
  | none => rw [hxs] at e2; cases e2
  | some y =>
    rw [hxs] at e2 h1
    simp only [Option.map_some, Option.some.injEq] at e2
    rw [c271] at h1
    obtain ⟨y0, y1, n, hy, _, g0, g1⟩ := trod_struct2 Tryz.underlying271 h1
    obtain ⟨z0, hz0, hy0, _⟩ := DataW.trod_int (k := .u64) Tryz.underlying22 g0
    obtain ⟨z1, hz1, hy1, _⟩ := DataW.trod_int (k := .u64) Tryz.underlying22 g1
    have e3 := congrArg Prod.fst hy
    rw [← e2] at e3
    simp only [DataW.agg.injEq, List.cons.injEq, and_true] at e3
    rw [hy0, hy1] at e3
    have a0 : z0 = 12800000000000000000 := by simpa using e3.1.symm
    have a1 : z1 = 0 := by simpa using e3.2.symm
    rw [a0] at hz0
    rw [a1] at hz1
    rw [c22] at hz0 hz1
    have := cells_two (W := W) (w0 := p) cs.toList 365 _ _ hz0 hz1
    rw [hc 730, hc 731, ← Array.getElem?_toList, ← Array.getElem?_toList]
    exact this
theorem laid_max {W : World} (h : W.ShapedOpen Tryz.prog) : ∃ m, W.cell? ⟨3, 0, none⟩ = some (.int .i64 m) :=
  Go.Proofs.cell_of_shapedOpen_int (zero := #[.int .i64 0]) (t := 3) h (of_decide_eq_true (by kernel_rfl)) (by kernel_rfl) rfl (by kernel_rfl) (by kernel_rfl) Tryz.underlying3
theorem cell_lt {W : World} {b k : Nat} {v : Value} (h : W.cell? ⟨b, k, none⟩ = some v) : b < W.heap.size := by
  obtain ⟨c, e, fr, hb, _⟩ := Go.Sort.cells_of_cell? h
  exact (Array.getElem?_eq_some_iff.1 hb).1
/-- all of it -/
theorem laid_all {W : World} (h : laidMetH Tryz.prog laid16 W) (hs : W.ShapedOpen Tryz.prog) : ∃ m a o cap, TenTab W a o cap ∧ ShTab W m := by
  obtain ⟨m, hm⟩ := laid_max hs
  obtain ⟨b, off, cap, h1, h2⟩ := laid_pow h
  obtain ⟨h3, h4⟩ := laid_tab h
  have hsz : 18 ≤ W.heap.size := cell_lt h1
  exact ⟨m, b, off, cap, ⟨laid_info h, laid_opt h, h1, h2, cell_lt h2, hsz⟩, ⟨h3, h4, laid_ten h, hm, hsz⟩⟩
end Go.Proofs.YthhlhiighgnkmaaGreatDoor
