/-
  A LIST OF LABELS THAT CAME IN: what it reads as.
-/
import Derived.Test.YtiolghcjndoigaaGreatDoorCmp
import Derived.Deep.Slices
import Derived.Deep.Strs
namespace Go.Proofs.YtiolghcjndoigaaGreatDoor
set_option linter.unusedVariables false
set_option linter.unusedSimpArgs false
open Go.RowKit Go.ChangeShapes Go.WideShapes
theorem two_list {cs : List Value} (h : cs.length = 2) : ∃ c0 c1, cs = [c0, c1] := by
  rcases cs with _ | ⟨c0, _ | ⟨c1, _ | ⟨c2, t⟩⟩⟩
  · cases h
  · cases h
  · exact ⟨c0, c1, rfl⟩
  · simp at h
theorem one9 : Tryz.prog.cellsOf 9 = 1 := by kernel_rfl
theorem two94 : Tryz.prog.cellsOf 94 = 2 := by kernel_rfl
theorem lab_cells {H : Type} {enc : TypeId × Value → H} {w : World} {base fuel : Nat} {spare : Nat → Bool} {held : Bool} {cs : List Value} {a : Addr} {d : DataW H} {pl : List MemPlace}
    (hc : w.cells? base a 2 = some cs) (ht : DataW.trod enc Tryz.prog w base spare held fuel 94 cs = some (d, pl)) :
    ∃ x : Lm.Lb, w.cell? (a.add 0) = some (.string x.1) ∧ w.cell? (a.add 1) = some (.string x.2) := by
  obtain ⟨ys, n, _, _, _, hyl, hf⟩ := DataW.trod_struct Tryz.underlying94 ht
  obtain ⟨_, hcl, hat⟩ := World.cells?_some hc
  obtain ⟨c0, c1, rfl⟩ := two_list hcl
  have t0 : DataW.trod enc Tryz.prog w base spare held n 9 (([c0, c1].drop 0).take (Tryz.prog.cellsOf 9)) = ys[0]? := hf 0 _ rfl
  have t1 : DataW.trod enc Tryz.prog w base spare held n 9 (([c0, c1].drop 1).take (Tryz.prog.cellsOf 9)) = ys[1]? := hf 1 _ rfl
  have y0 : ys[0]? = some (ys[0]'(by rw [hyl]; decide)) := List.getElem?_eq_getElem _
  have y1 : ys[1]? = some (ys[1]'(by rw [hyl]; decide)) := List.getElem?_eq_getElem _
  rw [y0, one9] at t0
  rw [y1, one9] at t1
  obtain ⟨s0, e0, _⟩ := DataW.trod_string Tryz.underlying9 t0
  obtain ⟨s1, e1, _⟩ := DataW.trod_string Tryz.underlying9 t1
  have a0 : c0 = .string s0 := by simpa using e0
  have a1 : c1 = .string s1 := by simpa using e1
  subst a0 a1
  exact ⟨(s0, s1), hat 0 (by decide), hat 1 (by decide)⟩
theorem labs_of_trod {H : Type} {enc : TypeId × Value → H} {w : World} {base fuel : Nat} {spare : Nat → Bool} {held : Bool} {a : Option Addr} {len cap : Nat} {x : DataW H × List MemPlace}
    (h : DataW.trod enc Tryz.prog w base spare held fuel 22 [.slice a len cap] = some x) : ∃ l : List Lm.Lb, l.length = len ∧ len ≤ maxLen ∧ Labs w a l := by
  rcases Go.Deep.open_slice Tryz.underlying22 h with ⟨hcs, _⟩ | ⟨ad, l, c, m, n, D, Pl, hcs, _, hl, hm, hmm, _, hi⟩
  · simp at hcs
    obtain ⟨rfl, rfl, rfl⟩ := hcs
    exact ⟨[], rfl, Nat.zero_le _, fun h => absurd rfl h⟩
  · simp at hcs
    obtain ⟨rfl, rfl, rfl⟩ := hcs
    have hlm : len ≤ m := by rw [hmm]; split <;> omega
    have hone : ∀ i, i < len → ∃ o : Lm.Lb, w.cell? ((ad.add (i * 2)).add 0) = some (.string o.1) ∧ w.cell? ((ad.add (i * 2)).add 1) = some (.string o.2) := by
      intro i hil
      obtain ⟨cs', hc, ht⟩ := hi i (by omega)
      rw [two94] at hc
      exact lab_cells hc ht
    have hall : ∀ k, k ≤ len → ∃ os : List Lm.Lb, os.length = k ∧ ∀ i (hi : i < os.length), w.cell? ((ad.add (i * 2)).add 0) = some (.string os[i].1) ∧ w.cell? ((ad.add (i * 2)).add 1) = some (.string os[i].2) := by
      intro k hk
      induction k with
      | zero => exact ⟨[], rfl, fun i hi => absurd hi (by simp)⟩
      | succ k ih =>
        obtain ⟨os, hl, ho⟩ := ih (by omega)
        obtain ⟨o, h1⟩ := hone k (by omega)
        refine ⟨os ++ [o], by simp [hl], fun i hi => ?_⟩
        by_cases hik : i < os.length
        · rw [List.getElem_append_left hik]; exact ho i hik
        · have : i = k := by simp [hl] at hi; omega
          subst this
          have e : (os ++ [o])[i] = o := by rw [List.getElem_append_right (by omega)]; simp [hl]
          rw [e]; exact h1
    obtain ⟨os, hl2, ho⟩ := hall len (Nat.le_refl _)
    refine ⟨os, hl2, Nat.le_trans hl hm, fun hn => ?_⟩
    have h0 : 0 < os.length := List.length_pos_iff.2 hn
    obtain ⟨b, off, spot⟩ := ad
    have hc0 := (ho 0 h0).1
    have hspot : spot = none := by simpa [Addr.add] using World.cell?_spot hc0
    subst hspot
    refine ⟨b, off, rfl, ?_, fun i hi => ?_⟩
    · have := World.block_lt_of_cell? _ _ hc0
      simpa [Addr.add] using this
    · obtain ⟨k1, k2⟩ := ho i hi
      rw [add_at, add_at] at k1 k2
      exact ⟨k1, k2⟩
end Go.Proofs.YtiolghcjndoigaaGreatDoor
