/-
  WALKS: the document's own reading of a time.
-/
import Derived.Test.YthhlhiighgnkmaaGreatDoorTiJ
import Derived.LoopN
namespace Go.Proofs.YthhlhiighgnkmaaGreatDoor
set_option linter.unusedVariables false
set_option linter.unusedSimpArgs false
open Go.RowKit Go.PlainAid
theorem digs_drop (bs : List Nat) (p q : Nat) : digs (bs.drop p) q = digs bs (p + q) := by
  unfold digs tw
  rw [List.drop_drop]
theorem thouR_eq (bs : List Nat) (p : Nat) : thouR bs p = if (digs bs p).length = 1 then some (decV 0 (digs bs p) * 100, p + 1) else if (digs bs p).length = 2 then some (decV 0 (digs bs p) * 10, p + 2) else if (digs bs p).length = 3 then some (decV 0 (digs bs p), p + 3) else none := rfl
def shiftR (p : Nat) (x : Option (Nat × Nat)) : Option (Nat × Nat) := x.map fun y => (y.1, p + y.2)
theorem thouR_drop (bs : List Nat) (p q : Nat) : thouR bs (p + q) = shiftR p (thouR (bs.drop p) q) := by
  unfold thouR
  rw [digs_drop]
  by_cases h1 : (digs bs (p + q)).length = 1
  · rw [if_pos h1, if_pos h1]; simp [shiftR, Nat.add_assoc]
  rw [if_neg h1, if_neg h1]
  by_cases h2 : (digs bs (p + q)).length = 2
  · rw [if_pos h2, if_pos h2]; simp [shiftR, Nat.add_assoc]
  rw [if_neg h2, if_neg h2]
  by_cases h3 : (digs bs (p + q)).length = 3
  · rw [if_pos h3, if_pos h3]; simp [shiftR, Nat.add_assoc]
  rw [if_neg h3, if_neg h3]; rfl
theorem fracR_drop (bs : List Nat) (p q : Nat) : fracR bs (p + q) = shiftR p (fracR (bs.drop p) q) := by
  unfold fracR
  rw [List.getElem?_drop]
  by_cases h1 : bs[p + q]? = some 46
  · rw [if_pos h1, if_pos h1, Nat.add_assoc, thouR_drop]
  · rw [if_neg h1, if_neg h1]; rfl
theorem sumR_shift (V p : Nat) (x : Option (Nat × Nat)) : sumR V (shiftR p x) = shiftR p (sumR V x) := by
  cases x with
  | none => rfl
  | some y =>
    obtain ⟨f, e⟩ := y
    show (if f + V * 1000 ≤ 9007199254740992 then some (f + V * 1000, p + e) else none) = shiftR p (if f + V * 1000 ≤ 9007199254740992 then some (f + V * 1000, e) else none)
    by_cases h : f + V * 1000 ≤ 9007199254740992
    · rw [if_pos h, if_pos h]; rfl
    · rw [if_neg h, if_neg h]; rfl
theorem secR_drop (bs : List Nat) (p : Nat) : secR bs p = shiftR p (secR (bs.drop p) 0) := by
  unfold secR
  rw [digs_drop, Nat.add_zero, Nat.zero_add]
  by_cases h : digs bs p = []
  · rw [if_pos h, if_pos h]; rfl
  · rw [if_neg h, if_neg h, fracR_drop, sumR_shift]
theorem endR_drop (bs : List Nat) (neg : Bool) (p : Nat) (hp : p ≤ bs.length) : endR bs neg (secR bs p) = endR (bs.drop p) neg (secR (bs.drop p) 0) := by
  rw [secR_drop]
  cases secR (bs.drop p) 0 with
  | none => rfl
  | some y =>
    obtain ⟨v, e⟩ := y
    have hiff : (p + e = bs.length) = (e = (bs.drop p).length) := by rw [List.length_drop]; exact propext (by omega)
    show (if p + e = bs.length then some (if neg then -(v : Int) else (v : Int)) else none) = (if e = (bs.drop p).length then some (if neg then -(v : Int) else (v : Int)) else none)
    simp only [hiff]
theorem drop_isB {bs : List Nat} (hB : IsB bs) (p : Nat) : IsB (bs.drop p) := fun c hc => hB c (List.mem_of_mem_drop hc)
/-- the document's answer, by the text behind the sign -/
def refT (ts : List Nat) (neg : Bool) (L : Nat) : Option Int := if 100 < L then none else endR ts neg (secR ts 0)
theorem refT_bad {ts : List Nat} {neg : Bool} {L : Nat} (h : (digs ts 0).length = 0 ∨ 9007199254740 < decV 0 (digs ts 0) ∨ 100 < L) : refT ts neg L = none := by
  unfold refT
  by_cases hL : 100 < L
  · exact if_pos hL
  rw [if_neg hL]
  have hs : secR ts 0 = none := by
    unfold secR
    rcases h with h | h | h
    · exact if_pos (List.length_eq_zero_iff.1 h)
    · by_cases h0 : digs ts 0 = []
      · exact if_pos h0
      · rw [if_neg h0]
        cases fracR ts (0 + (digs ts 0).length) with
        | none => rfl
        | some y => obtain ⟨f, e⟩ := y; exact if_neg (by omega)
    · exact absurd h hL
  rw [hs]
  rfl
theorem refT_good {ts : List Nat} {neg : Bool} {L : Nat} (h1 : (digs ts 0).length ≠ 0) (h3 : ¬ 100 < L) : refT ts neg L = endR ts neg (sumR (decV 0 (digs ts 0)) (fracR ts (digs ts 0).length)) := by
  unfold refT secR
  rw [if_neg h3, if_neg (fun h => h1 (by rw [h]; rfl)), Nat.zero_add]
set_option maxHeartbeats 1000000 in
theorem rtime_empty (w : World) : Calls Tryz.prog 25 #[.string (strOf [])] w (Gives w (tvalR (refT [] false 0))) := by
  have CR0 := Lib.hid (fun w => rrun_any [] 0 IsB.nil (by decide) (Nat.zero_le _) w)
  have CB0 := Lib.hid (fun w => rbounded_any [] (fun c hc => by cases hc) (by decide) w)
  rw [show (digs [] 0).length = 0 from rfl] at CR0
  rw [show bndV (decV 0 []) = .tuple #[.int .i64 0, .bool true] from rfl] at CB0
  have e0 : strOf [] = { data := #[] } := rfl
  rw [e0] at CR0 CB0 ⊢
  have HV := Lib.hid (show refT [] false 0 = none from refT_bad (.inl rfl))
  clear e0
  go_enter Tryz.func25, Tryz.ntmps25
  go_wp2_with fail
  refine (CR0.out _).mono ?_
  rintro e w1 ⟨rfl, hb⟩
  have B1 := Lib.hid hb
  clear hb
  go_wp2_with fail
  refine (CB0.out _).mono ?_
  rintro e w2 ⟨rfl, hb⟩
  have B2 := Lib.hid (B1.out.trans (hb.mono B1.out.size))
  clear hb
  go_wp2
  go_ret2
  rw [HV.out]
  exact ⟨rfl, B2.out⟩
end Go.Proofs.YthhlhiighgnkmaaGreatDoor
