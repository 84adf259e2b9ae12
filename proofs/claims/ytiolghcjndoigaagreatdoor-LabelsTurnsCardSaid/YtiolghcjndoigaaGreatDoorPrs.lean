/-
  WALKS: Parse of a text that has the form.
-/
import Derived.Test.YtiolghcjndoigaaGreatDoorRda
import Derived.Test.YtiolghcjndoigaaGreatDoorStt
namespace Go.Proofs.YtiolghcjndoigaaGreatDoor
set_option linter.unusedVariables false
set_option linter.unusedSimpArgs false
open Go.RowKit Go.PlainAid Go.Shelf
theorem run_len {bs : List Nat} {p : Nat} {go : Bool} {l : List Lm.Lb} (h : Run bs p go l) : l.length + p ≤ bs.length := by
  induction h with
  | close p go h he =>
    have := (List.getElem?_eq_some_iff.1 h).1
    simp only [List.length_nil]
    omega
  | more p e x l hp h hx hc hl ih =>
    have h1 := labOk_lt hx
    have h2 := skipB_ge bs (e + 1) (by have := (List.getElem?_eq_some_iff.1 hc).1; omega)
    simp only [List.length_cons]
    omega
  | last p e x l hp h hx hc hl ih =>
    have h1 := labOk_lt hx
    simp only [List.length_cons]
    omega
/-- a text that has the form, and its labels -/
def Form (bs : List Nat) (L : List Lm.Lb) : Prop := bs[skipB bs 0]? = some 123 ∧ Run bs (skipB bs (skipB bs 0 + 1)) true L
def ParsePost (w : World) (bs : List Nat) (L : List Lm.Lb) (e : Ending) (w' : World) : Prop := ∃ v c out, e = .returned (.tuple #[v, .int .u16 ((c : Nat) : Int), .int .i64 (((if c = 0 then 0 else bs.length) : Nat) : Int)]) ∧ SetIs L c out ∧ OwnL w' w.heap.size v out ∧ Below w.heap.size w w'
theorem setis_none {l out : List Lm.Lb} {c : Nat} (h : SetIs l c out) (hc : c ≠ 0) : out = [] := by
  rcases h with ⟨_, _, h⟩ | ⟨_, l', _, _, ⟨_, _, h⟩ | ⟨_, ⟨_, _, h⟩ | ⟨_, h, _⟩⟩⟩
  · exact h
  · exact h
  · exact h
  · exact absurd h hc
set_option maxHeartbeats 1000000 in
theorem parse_ok (bs : List Nat) (L : List Lm.Lb) (hB : IsB bs) (hl : bs.length ≤ 200000) (hF : Form bs L) (w : World) : Calls Tryz.prog 34 #[.string (strOf bs)] w (ParsePost w bs L) := by
  have CA := Lib.hid (fun R w H => all_ok R bs L hB hl hF.1 hF.2 w H)
  have hln := run_len hF.2
  have CS := Lib.hid (fun a c w H => set_any a c L w H (by omega))
  have hA : Below w.heap.size w (w.alloc (.cells #[.string (strOf bs), .int .i64 0] 139)) := (Below.refl _ w).alloc (Nat.le_refl _) _
  have HR := Lib.hid (show Rr (w.alloc (.cells #[.string (strOf bs), .int .i64 0] 139)) w.heap.size bs 0 from heap_alloc_new w _)
  have HA := Lib.hid hA
  have hsz := strOf_size bs
  obtain ⟨S, hS⟩ : ∃ S, strOf bs = S := ⟨_, rfl⟩
  rw [hS] at HR HA hsz ⊢
  obtain ⟨N, hN⟩ : ∃ N, bs.length = N := ⟨_, rfl⟩
  have HNN := Lib.hid hN
  rw [hN] at hsz
  clear hB hl hF hln hA hS hN
  go_enter Tryz.func34, Tryz.ntmps34
  go_wp2_with fail
  refine (CA.out _ _ HR.out).mono ?_
  rintro e w1 ⟨v, rfl, ho, hb⟩
  have B1 := Lib.hid (show Below w.heap.size w w1 from HA.out.trans (hb.below (B := w.heap.size) (by simp) (by simp)))
  obtain ⟨a, c, rfl, hla, _⟩ := ho.labs
  have C2 := Lib.hid (CS.out a c w1 hla)
  obtain ⟨n, hn⟩ : ∃ n, L.length = n := ⟨_, rfl⟩
  rw [hn] at C2 ⊢
  clear ho hb hla hn CA
  go_wp2_with fail
  refine C2.out.mono ?_
  rintro e w2 ⟨v2, c2, out, rfl, hs, ho, hb⟩
  have S2 := Lib.hid hs
  have O2 := Lib.hid (ho.lower B1.out.size)
  have B2 := Lib.hid (B1.out.trans (hb.mono B1.out.size))
  clear hs ho hb
  by_cases h0 : c2 = 0
  · subst h0
    go_wp2
    go_returns
    exact ⟨_, 0, out, rfl, S2.out, O2.out, B2.out⟩
  · have d1 : ((c2 : Int) == 0) = false := by simp; omega
    have d2 : ¬ ((c2 : Int) = 0) := by omega
    have HE := Lib.hid (setis_none S2.out h0)
    have HI := Lib.hid (show ((if c2 = 0 then 0 else bs.length : Nat) : Int) = (N : Int) by rw [if_neg h0, HNN.out])
    go_wp2
    go_returns
    refine ⟨.slice none 0 0, c2, out, ?_, S2.out, ?_, B2.out⟩
    · rw [HI.out]; rfl
    · rw [HE.out]; exact OwnL.nil _ _
end Go.Proofs.YtiolghcjndoigaaGreatDoor
