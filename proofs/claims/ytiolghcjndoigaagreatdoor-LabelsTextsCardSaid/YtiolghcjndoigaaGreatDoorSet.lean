/-
  WALKS: the first label that .., whether there is one; do the names rise.
-/
import Derived.Test.YtiolghcjndoigaaGreatDoorNmb
import Derived.Test.YtiolghcjndoigaaGreatDoorSrs
namespace Go.Proofs.YtiolghcjndoigaaGreatDoor
set_option linter.unusedVariables false
set_option linter.unusedSimpArgs false
open Go.RowKit Go.PlainAid Go.Shelf
/-- the place of the first one for which it holds; -1: there is none -/
def firstL (p : Lm.Lb → Bool) (l : List Lm.Lb) : Int := Lib.idxBy (fun _ y => p y) l default
theorem index_none (p : Lm.Lb → Bool) (g : Nat) (a : Option Addr) (c : Nat) (w : World) : Calls Tryz.prog 90 #[.slice a 0 c, .func (.func g) #[] #[]] w (Gives w (.int .i64 (-1))) := by
  go_enter Tryz.func90, Tryz.ntmps90
  go_wp2
  go_loopw [8] (fun i wr => i = .int .i64 0 ∧ wr = w) (fun _ _ => 0)
  case atStart => exact ⟨rfl, rfl⟩
  case round =>
    obtain ⟨rfl, rfl⟩ := hrel
    go_wp2
    go_ret
    exact ⟨rfl, Below.refl _ _⟩
theorem labs_cells {w : World} {b off : Nat} {l : List Lm.Lb} (hc : ∀ i (h : i < l.length), w.cell? ⟨b, off + i * 2, none⟩ = some (.string l[i].1) ∧ w.cell? ⟨b, off + i * 2 + 1, none⟩ = some (.string l[i].2)) :
    ∀ j, j < l.length → ∀ i v, (enc2 l[j]!)[i]? = some v → w.cell? ⟨b, off + j * 2 + i, none⟩ = some v := by
  intro j hj i v hi
  have e : l[j]! = l[j] := getElem!_pos l j hj
  rw [e] at hi
  obtain ⟨h1, h2⟩ := hc j hj
  match i, hi with
  | 0, hi => simp [enc2] at hi; rw [← hi]; exact h1
  | 1, hi => simp [enc2] at hi; rw [← hi]; exact h2
  | i + 2, hi => simp [enc2] at hi
theorem index_any (p : Lm.Lb → Bool) (g : Nat) (eg : ∀ args w, (callFunc g args).run Tryz.prog w = .ok (.enter g args) w) (hp : ∀ (x : Lm.Lb) (W : World), Calls Tryz.prog g #[.agg #[.string x.1, .string x.2]] W (Gives W (.bool (p x)))) (a : Option Addr) (c : Nat) (l : List Lm.Lb) (w : World) (H : Labs w a l) (hz : l.length ≤ maxLen) :
    Calls Tryz.prog 90 #[.slice a l.length c, .func (.func g) #[] #[]] w (Gives w (.int .i64 (firstL p l))) := by
  by_cases h0 : l = []
  · subst h0
    exact index_none p g a c w
  · obtain ⟨b, off, rfl, hb, hc⟩ := H h0
    have h := AnyQ.slices_IndexFunc Tryz.indexF 2 Tryz.isAgg94 Tryz.sizeOf94 enc2 enc2_len p g #[] eg b off l.length c l w (fun W x hB => (hp x W).mono fun e w' h => ⟨h.1, hB.trans (h.2.mono hB.size)⟩) (Nat.le_refl _) hz hb (labs_cells hc)
    rw [List.take_length] at h
    exact h
theorem contains_any (p : Lm.Lb → Bool) (g : Nat) (eg : ∀ args w, (callFunc g args).run Tryz.prog w = .ok (.enter g args) w) (hp : ∀ (x : Lm.Lb) (W : World), Calls Tryz.prog g #[.agg #[.string x.1, .string x.2]] W (Gives W (.bool (p x)))) (a : Option Addr) (c : Nat) (l : List Lm.Lb) (w : World) (H : Labs w a l) (hz : l.length ≤ maxLen) :
    Calls Tryz.prog 48 #[.slice a l.length c, .func (.func g) #[] #[]] w (Gives w (.bool (l.any p))) := by
  by_cases h0 : l = []
  · subst h0
    have C := Lib.hid (fun w => index_none p g a c w)
    show Calls Tryz.prog 48 #[.slice a 0 c, .func (.func g) #[] #[]] w (Gives w (.bool false))
    clear H hp eg
    go_enter Tryz.func48, Tryz.ntmps48
    go_wp2_with (go_at_call 90; refine (C.out _).mono ?_; rintro e w' ⟨rfl, hb⟩)
    go_ret
    exact ⟨rfl, hb⟩
  · obtain ⟨b, off, rfl, hb, hc⟩ := H h0
    have h := AnyQ.slices_ContainsFunc Tryz.containsF 2 Tryz.isAgg94 Tryz.sizeOf94 enc2 enc2_len p g #[] eg b off l.length c l w (fun W x hB => (hp x W).mono fun e w' h => ⟨h.1, hB.trans (h.2.mono hB.size)⟩) (Nat.le_refl _) hz hb (labs_cells hc)
    rw [List.take_length] at h
    exact h
theorem eg49 : ∀ args w, (callFunc 49 args).run Tryz.prog w = .ok (.enter 49 args) w := enters_of Tryz.func49 (by kernel_rfl) rfl
theorem eg53 : ∀ args w, (callFunc 53 args).run Tryz.prog w = .ok (.enter 53 args) w := enters_of Tryz.func53 (by kernel_rfl) rfl
/-- the names rise strictly -/
def risesB : List Lm.Lb → Bool
  | [] => true
  | [_] => true
  | x :: y :: l => decide (Lm.strC x.1 y.1 < 0) && risesB (y :: l)
theorem risesB_iff (l : List Lm.Lb) : risesB l = true ↔ ∀ i (h : i + 1 < l.length), Lm.strC l[i].1 l[i + 1].1 < 0 := by
  induction l with
  | nil => simp [risesB]
  | cons x l ih =>
    cases l with
    | nil => simp [risesB]
    | cons y l =>
      rw [risesB, Bool.and_eq_true, ih, decide_eq_true_iff]
      constructor
      · rintro ⟨h1, h2⟩ i hi
        cases i with
        | zero => exact h1
        | succ i => exact h2 i (by simpa using hi)
      · intro h
        exact ⟨h 0 (by simp), fun i hi => h (i + 1) (by simpa using hi)⟩
end Go.Proofs.YtiolghcjndoigaaGreatDoor
