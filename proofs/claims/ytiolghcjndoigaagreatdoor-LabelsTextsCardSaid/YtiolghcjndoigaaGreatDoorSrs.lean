/-
  WALKS: the code's own sorted list.
-/
import Derived.Test.YtiolghcjndoigaaGreatDoorSrt
namespace Go.Proofs.YtiolghcjndoigaaGreatDoor
set_option linter.unusedVariables false
set_option linter.unusedSimpArgs false
open Go.RowKit Go.PlainAid Go.Shelf
/-- a sorted list of the call's own -/
def Sorted (w : World) (zs : List Lm.Lb) (e : Ending) (w' : World) : Prop := ∃ v l', e = .returned v ∧ l'.Perm zs ∧ Rises l' ∧ OwnL w' w.heap.size v l' ∧ Below w.heap.size w w'
theorem sortedfunc_any (Bs cap : Nat) (a : Option Addr) (zs : List Lm.Lb) (w : World) (hBs : Bs < w.heap.size) (hz : zs.length ≤ 4398046511104) (hc : w.cell? ⟨Bs, 0, none⟩ = some (.slice a zs.length cap)) (hI : Labs w a zs) :
    Calls Tryz.prog 108 #[.func (.func 129) #[] #[.pointer (some ⟨Bs, 0, none⟩)], .func (.func 110) #[] #[]] w (Sorted w zs) := by
  have C1 := Lib.hid ((callsIn_wide (n := 6)).1 (collect_in Fence.wide 6 trivial trivial trivial rfl (by omega) Bs cap a zs w hBs (by omega) hc hI.at))
  clear hc hI hBs
  go_enter Tryz.func108, Tryz.ntmps108
  go_wp2_with fail
  refine C1.out.mono ?_
  rintro e w1 ⟨v, rfl, hv, hn, hb⟩
  by_cases h0 : zs = []
  · have e0 := hn.2 h0
    subst e0
    subst h0
    have B1 := Lib.hid hb
    have O1 := Lib.hid hv
    clear hb hv hn C1
    go_wp2_with (go_at_call 128; refine (sortnone_any none 0 _ _).mono ?_; rintro e w2 ⟨rfl, rfl⟩)
    go_ret
    exact ⟨_, [], rfl, List.Perm.refl _, List.Pairwise.nil, O1.out, B1.out⟩
  · obtain ⟨ad, cp, rfl, _, hg⟩ := hv.labs
    obtain ⟨g, rfl, hbg⟩ := hg h0
    have C2 := Lib.hid (sortfunc_any w.heap.size g cp zs w1 hv hz)
    obtain ⟨n, hn2⟩ : ∃ n, zs.length = n := ⟨_, rfl⟩
    have HN := Lib.hid hn2
    rw [hn2] at C2 ⊢
    have B1 := Lib.hid hb
    clear hb hv hn C1 hg hn2
    go_wp2_with fail
    refine C2.out.mono ?_
    rintro e w2 ⟨rfl, l', hp, hr, ho, hb⟩
    have hl := hp.length_eq
    rw [HN.out] at hl
    rw [hl] at ho
    have O2 := Lib.hid ho
    have P2 := Lib.hid hp
    have R2 := Lib.hid hr
    have B2 := Lib.hid (B1.out.trans hb)
    clear ho hp hr hb hl
    go_wp2
    go_ret
    exact ⟨_, l', rfl, P2.out, R2.out, O2.out, B2.out⟩
theorem sorted_any (cap : Nat) (a : Option Addr) (zs : List Lm.Lb) (w : World) (hz : zs.length ≤ 4398046511104) (hI : Labs w a zs) : Calls Tryz.prog 50 #[.slice a zs.length cap] w (Sorted w zs) := by
  have C1 := Lib.hid (fun w => (callsIn_wide (n := 6)).1 (values_in Fence.wide 6 trivial rfl a zs.length cap w))
  have hB : Below w.heap.size w (w.alloc (.cells #[.slice a zs.length cap] 22)) := (Below.refl _ w).alloc (Nat.le_refl _) _
  have hc : (w.alloc (.cells #[.slice a zs.length cap] 22)).cell? ⟨w.heap.size, 0, none⟩ = some (.slice a zs.length cap) := by rw [cell_of_row _ _ _ _ _ _ (heap_alloc_new w _)]; rfl
  have C2 := Lib.hid (sortedfunc_any w.heap.size cap a zs _ (by simp) hz hc (hI.below hB))
  have B1 := Lib.hid hB
  obtain ⟨n, hn2⟩ : ∃ n, zs.length = n := ⟨_, rfl⟩
  rw [hn2] at C1 C2 B1 ⊢
  clear hI hB hc hn2
  go_enter Tryz.func50, Tryz.ntmps50
  go_wp2_with fail
  refine (C1.out _).mono ?_
  rintro e w1 ⟨rfl, rfl⟩
  go_wp2_with fail
  refine C2.out.mono ?_
  rintro e w2 ⟨v, l', rfl, hp, hr, ho, hb⟩
  have O2 := Lib.hid (ho.lower (b2 := w.heap.size) (by simp))
  have P2 := Lib.hid hp
  have R2 := Lib.hid hr
  have B2 := Lib.hid (B1.out.trans (hb.mono (by simp)))
  clear ho hp hr hb
  go_wp2
  go_ret
  exact ⟨_, l', rfl, P2.out, R2.out, O2.out, B2.out⟩
end Go.Proofs.YtiolghcjndoigaaGreatDoor
