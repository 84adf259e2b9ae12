/-
  A SLICE OF BYTES THAT CAME IN: what it reads as.
-/
import Derived.Test.YtiolghcjndoigaaGreatDoorLawB
import Derived.Test.YtiolghcjndoigaaGreatDoorOpn
import Derived.OpenShut
import Derived.Deep.RegionHeld3
namespace Go.Proofs.YtiolghcjndoigaaGreatDoor
set_option linter.unusedVariables false
set_option linter.unusedSimpArgs false
open Go.RowKit Go.ChangeShapes Go.WideShapes
theorem byte_nat {n : Int} (h : (Lit.int .u8 n).wf = true) : ∃ m : Nat, n = (m : Int) ∧ m < 256 := by
  have hb := bounds_u8 h
  obtain ⟨m, rfl⟩ := Int.eq_ofNat_of_zero_le hb.1
  exact ⟨m, rfl, by omega⟩
theorem one5 : Tryz.prog.cellsOf 5 = 1 := by kernel_rfl
theorem bin_of_trod {H : Type} {enc : TypeId × Value → H} {w : World} {base fuel : Nat} {spare : Nat → Bool} {held : Bool} {a : Option Addr} {len cap : Nat} {x : DataW H × List MemPlace}
    (h : DataW.trod enc Tryz.prog w base spare held fuel 83 [.slice a len cap] = some x) : ∃ bs : List Nat, bs.length = len ∧ len ≤ maxLen ∧ IsB bs ∧ Bin w a cap bs := by
  rcases Go.Deep.open_slice Tryz.underlying83 h with ⟨hcs, _⟩ | ⟨ad, l, c, m, n, D, Pl, hcs, _, hl, hm, hmm, _, hi⟩
  · simp at hcs
    obtain ⟨rfl, rfl, rfl⟩ := hcs
    exact ⟨[], rfl, Nat.zero_le _, IsB.nil, .inl ⟨rfl, rfl, rfl⟩⟩
  · simp at hcs
    obtain ⟨rfl, rfl, rfl⟩ := hcs
    have hlm : len ≤ m := by rw [hmm]; split <;> omega
    have hone : ∀ i, i < len → ∃ o : Nat, o < 256 ∧ w.cell? (ad.add i) = some (.int .u8 ((o : Nat) : Int)) := by
      intro i hil
      obtain ⟨cs', hc, ht⟩ := hi i (by omega)
      rw [one5, Nat.mul_one] at hc
      obtain ⟨_, hcl, hat⟩ := World.cells?_some hc
      obtain ⟨n0, e0, _, f0⟩ := DataW.trod_int Tryz.underlying5 ht
      obtain ⟨m0, rfl, hm0⟩ := byte_nat f0
      have h0 := hat 0 (by decide)
      rw [show (ad.add i).add 0 = ad.add i by simp [Addr.add]] at h0
      subst e0
      exact ⟨m0, hm0, h0⟩
    have hall : ∀ k, k ≤ len → ∃ os : List Nat, os.length = k ∧ ∀ i (hi : i < os.length), os[i] < 256 ∧ w.cell? (ad.add i) = some (.int .u8 ((os[i] : Nat) : Int)) := by
      intro k hk
      induction k with
      | zero => exact ⟨[], rfl, fun i hi => absurd hi (by simp)⟩
      | succ k ih =>
        obtain ⟨os, hl, ho⟩ := ih (by omega)
        obtain ⟨o, h1⟩ := hone k (by omega)
        refine ⟨os ++ [o], by simp [hl], fun i hi => ?_⟩
        by_cases hik : i < os.length
        · rw [List.getElem_append_left hik]; exact ho i hik
        · have : i = k := by simp [hl] at hi; omega
          subst this
          have e : (os ++ [o])[i] = o := by rw [List.getElem_append_right (by omega)]; simp [hl]
          rw [e]; exact h1
    obtain ⟨os, hl2, ho⟩ := hall len (Nat.le_refl _)
    refine ⟨os, hl2, Nat.le_trans hl hm, fun o ho2 => ?_, .inr ⟨ad, rfl, fun i hi => (ho i hi).2⟩⟩
    obtain ⟨i, hi, rfl⟩ := List.getElem_of_mem ho2
    exact (ho i hi).1
end Go.Proofs.YtiolghcjndoigaaGreatDoor
