/-
  WALKS: units; a duration that is well formed.
-/
import Derived.Test.YthhlhiighgnkmaaGreatDoorDurA
namespace Go.Proofs.YthhlhiighgnkmaaGreatDoor
set_option linter.unusedVariables false
set_option linter.unusedSimpArgs false
open Go.RowKit Go.PlainAid
theorem unitname_any (a t : ByteArray) (m : Int) (N : Nat) (w : World) (hN : N < w.heap.size) (hc : w.cell? ⟨N, 0, none⟩ = some (.string t)) :
    Calls Tryz.prog 150 #[.agg #[.string a, .int .i64 m], .pointer (some ⟨N, 0, none⟩)] w (Gives w (.bool (a.toList == t.toList))) := by
  have hc2 : ∀ o, (w.alloc o).cell? ⟨N, 0, none⟩ = some (.string t) := fun o => (((Below.refl w.heap.size w).alloc (Nat.le_refl _) o).cell hN).trans hc
  clear hc
  go_enter Tryz.func150, Tryz.ntmps150
  go_wp2
  go_ret
  exact ⟨rfl, (Below.refl _ _).alloc (Nat.le_refl _) _⟩
theorem add_any (sum n ms : Int) (h0 : 0 ≤ sum) (h1 : sum ≤ 9007199254740992) (h2 : 0 ≤ n) (h3 : 1 ≤ ms) (h4 : n ≤ (9007199254740992 - sum) / ms) (h5 : ms ≤ 31536000000) (hv : sum + n * ms ≤ 9007199254740992) (h6 : 0 ≤ n * ms) (w : World) :
    Calls Tryz.prog 151 #[.int .i64 sum, .int .i64 n, .int .i64 ms] w fun e w' => e = .returned (.tuple #[.int .i64 (sum + n * ms), .nilIface]) ∧ w' = w := by
  have e1 : IntKind.i64.wrap (9007199254740992 - sum) = 9007199254740992 - sum := by rw [IntKind.wrap_i64]; omega
  have e2 : (9007199254740992 - sum).tdiv ms = (9007199254740992 - sum) / ms := Int.tdiv_eq_ediv_of_nonneg (by omega)
  have e3 : (ms == 0) = false := by simp; omega
  have d1 : decide (n > (9007199254740992 - sum) / ms) = false := decide_eq_false (by omega)
  have d2 : decide ((9007199254740992 - sum) / ms < n) = false := d1
  obtain ⟨q, hq⟩ : ∃ q, (9007199254740992 - sum) / ms = q := ⟨_, rfl⟩
  rw [hq] at e2 d1 d2 h4
  obtain ⟨r, hr⟩ : ∃ r, n * ms = r := ⟨_, rfl⟩
  have e4 : IntKind.i64.wrap r = r := by rw [IntKind.wrap_i64]; omega
  have e5 : IntKind.i64.wrap (sum + r) = sum + r := by rw [IntKind.wrap_i64]; omega
  have q1 : 0 ≤ q := by rw [← hq]; exact Int.ediv_nonneg (by omega) (by omega)
  have q2 : q ≤ 9007199254740992 - sum := by rw [← hq]; exact Int.ediv_le_self _ (by omega)
  have e6 : IntKind.i64.wrap q = q := by rw [IntKind.wrap_i64]; omega
  go_enter Tryz.func151, Tryz.ntmps151
  go_wp2
  go_ret2
  refine ⟨?_, rfl⟩
  rw [hr]
  rfl
theorem info77 : (Tryz.prog.info? 77).map (fun i => (i.zero, i.size, i.bytes)) = some (some (.agg #[.string { data := #[] }, .int .i64 0]), 2, 24) := by kernel_rfl
def unitsA : List Value := [.string { data := #[121] }, .int .i64 31536000000, .string { data := #[119] }, .int .i64 604800000]
def unitsB : List Value := [.string { data := #[100] }, .int .i64 86400000, .string { data := #[104] }, .int .i64 3600000, .string { data := #[109] }, .int .i64 60000, .string { data := #[115] }, .int .i64 1000, .string { data := #[109, 115] }, .int .i64 1]
def unitCells : List Value := unitsA ++ unitsB
theorem row_of {w : World} {g : Nat} {cs : List Value} {t : TypeId} (h : w.heap[g]? = some (.cells cs.toArray t (0, 0))) (j : Nat) (u : Value) (hu : cs[j]? = some u) : w.cell? ((⟨g, 0, none⟩ : Addr).add j) = some u := by
  rw [add_here, cell_of_row _ _ _ _ _ _ h, List.getElem?_toArray]
  exact hu
theorem two_blocks (w : World) (o1 o2 : Obj) : ((w.alloc o1).alloc o2).heap[w.heap.size]? = some o1 ∧ ((w.alloc o1).alloc o2).heap[w.heap.size + 1]? = some o2 := by
  refine ⟨(Below.heap_alloc _ _ _ (by simp)).trans (heap_alloc_new w o1), ?_⟩
  have := heap_alloc_new (w.alloc o1) o2
  simpa using this
theorem unitsOwn (w : World) : ((w.alloc (.cells unitsA.toArray 77)).alloc (.cells unitsB.toArray 77)).ownsRow w.heap.size 77 2 (.slice (some ⟨w.heap.size, 0, none⟩) 2 2) 2 unitsA :=
  ⟨rfl, .inr ⟨w.heap.size, 2, unitsA.toArray, rfl, Nat.le_refl _, (two_blocks w _ _).1, Nat.le_refl _, by decide, rfl, rfl⟩⟩
theorem own_row {w : World} {B n : Nat} {v : Value} {cs : List Value} (h : w.ownsRow B 77 2 v n cs) (hn : 0 < n) : ∃ g cap, v = .slice (some ⟨g, 0, none⟩) n cap ∧ n ≤ cap ∧ B ≤ g ∧ g < w.heap.size ∧ ∀ i u, cs[i]? = some u → w.cell? ⟨g, i, none⟩ = some u := by
  obtain ⟨h1, h2⟩ := h
  rcases h2 with ⟨rfl, h0⟩ | ⟨g, cap, cur, rfl, hg, hc, h3, h4, h5, h6⟩
  · omega
  · refine ⟨g, cap, rfl, h3, hg, (Array.getElem?_eq_some_iff.1 hc).1, fun i u hu => ?_⟩
    rw [cell_of_row _ _ _ _ _ _ hc, ← Array.getElem?_toList]
    have := congrArg (fun l => l[i]?) h6
    have hi : i < n * 2 := by have := (List.getElem?_eq_some_iff.1 hu).1; omega
    simp only [List.getElem?_take, if_pos hi, hu] at this
    exact this
set_option maxRecDepth 100000 in
theorem allunits_any (w : World) : Calls Tryz.prog 100 #[] w fun e w' => ∃ g cap, e = .returned (.slice (some ⟨g, 0, none⟩) 7 cap) ∧ 7 ≤ cap ∧ w.heap.size ≤ g ∧ g < w'.heap.size ∧ (∀ i v, unitCells[i]? = some v → w'.cell? ⟨g, i, none⟩ = some v) ∧ Below w.heap.size w w' := by
  obtain ⟨i0, hi, hz0, hz1, hz2⟩ := info_parts info77
  go_enter Tryz.func100, Tryz.ntmps100
  go_wp2_with (first | (at_builtin; refine wpList_append_own _ rfl (.tmp 3) (.tmp 4) 74 rfl w.heap.size 77 i0 (.agg #[.string { data := #[] }, .int .i64 0]) 2 24 Tryz.underlying74 hi hz0 hz1 hz2 rfl (by decide) (.slice (some ⟨w.heap.size, 0, none⟩) 2 2) 2 unitsA rfl (unitsOwn w) ⟨w.heap.size + 1, 0, none⟩ 5 5 unitsB rfl rfl (row_of (two_blocks w _ _).2) (by intro u hu; simp [unitsB] at hu; rcases hu with rfl | rfl | rfl | rfl | rfl | rfl | rfl | rfl | rfl | rfl <;> rfl) (by decide) (by decide) (by simp; omega) ?_; intro v2 w2 hown2 hgr2 hne2) | go_in)
  obtain ⟨g, cap, rfl, h1, h2, h3, h4⟩ := own_row hown2 (by decide)
  have hb := (((Below.refl w.heap.size w).alloc (Nat.le_refl _) (.cells unitsA.toArray 77)).alloc (by simp) (.cells unitsB.toArray 77)).grown hgr2 (by simp; omega) (fun k hk => by simp [Value.ownBlock] at hk; omega)
  have HB := Lib.hid hb
  have H4 := Lib.hid h4
  clear hown2 hgr2 hne2 hb h4
  go_wp2
  go_ret
  exact ⟨g, cap, rfl, h1, h2, h3, H4.out, HB.out⟩
end Go.Proofs.YthhlhiighgnkmaaGreatDoor
