/-
  WALKS: Check.
-/
import Derived.Test.YtiolghcjndoigaaGreatDoorStt
namespace Go.Proofs.YtiolghcjndoigaaGreatDoor
set_option linter.unusedVariables false
set_option linter.unusedSimpArgs false
open Go.RowKit Go.PlainAid Go.Shelf
/-- what Check says of a list -/
def CheckIs (l : List Lm.Lb) (c : Nat) : Prop :=
  (64 < l.length ∧ c = 72) ∨ (l.length ≤ 64 ∧ (l.any badB || l.any emptyB) = true ∧ c = 70) ∨
  (l.length ≤ 64 ∧ (l.any badB || l.any emptyB) = false ∧ ((risesB l = true ∧ c = 0) ∨ (risesB l = false ∧ ∃ l', l'.Perm l ∧ Rises l' ∧ ((risesB l' = true ∧ c = 70) ∨ (risesB l' = false ∧ c = 71)))))
def CheckPost (w : World) (l : List Lm.Lb) (e : Ending) (w' : World) : Prop := ∃ c, e = .returned (.int .u16 ((c : Nat) : Int)) ∧ CheckIs l c ∧ Below w.heap.size w w'
set_option maxHeartbeats 1000000 in
theorem check_any (a : Option Addr) (c : Nat) (l : List Lm.Lb) (w : World) (H : Labs w a l) (hz : l.length ≤ 4398046511104) : Calls Tryz.prog 12 #[.slice a l.length c] w (CheckPost w l) := by
  have hmx : maxLen = 9223372036854775807 := rfl
  have C1 := Lib.hid (fun w H => contains_any badB 49 eg49 malformed_any a c l w H (by omega))
  have C1b := Lib.hid (fun w H => contains_any emptyB 53 eg53 empty_any a c l w H (by omega))
  have C2 := Lib.hid (fun w H => sorted_any c a l w hz H)
  have C3 := Lib.hid (fun w H => rising_any a c l w H (by omega))
  have HZ := Lib.hid hz
  have HL := Lib.hid H
  obtain ⟨n, hn⟩ : ∃ n, l.length = n := ⟨_, rfl⟩
  have HN := Lib.hid hn
  rw [hn] at C1 C1b C2 C3 ⊢
  clear H hz hn
  by_cases h64 : 64 < n
  · have d1 : decide ((n : Int) > 64) = true := decide_eq_true (by omega)
    have d2 : decide (64 < (n : Int)) = true := decide_eq_true (by omega)
    have d3 : decide (64 < n) = true := decide_eq_true h64
    go_enter Tryz.func12, Tryz.ntmps12
    go_wp2
    go_ret
    exact ⟨72, rfl, .inl ⟨by rw [HN.out]; exact h64, rfl⟩, Below.refl _ _⟩
  have d1 : decide ((n : Int) > 64) = false := decide_eq_false (by omega)
  have d2 : decide (64 < (n : Int)) = false := decide_eq_false (by omega)
  have d3 : decide (64 < n) = false := decide_eq_false h64
  have H64 := Lib.hid (show l.length ≤ 64 by rw [HN.out]; omega)
  obtain ⟨q, hq⟩ : ∃ q, l.any badB = q := ⟨_, rfl⟩
  rw [hq] at C1
  have HQ := Lib.hid hq
  obtain ⟨q2, hq2⟩ : ∃ q, l.any emptyB = q := ⟨_, rfl⟩
  rw [hq2] at C1b
  have HQ2 := Lib.hid hq2
  obtain ⟨r, hr⟩ : ∃ q, risesB l = q := ⟨_, rfl⟩
  rw [hr] at C3
  have HR := Lib.hid hr
  clear hq hq2 hr
  cases q with
  | true =>
    go_enter Tryz.func12, Tryz.ntmps12
    go_wp2_with (go_at_call 48; refine (C1.out _ HL.out).mono ?_; rintro e w1 ⟨rfl, hb⟩)
    go_ret
    exact ⟨70, rfl, .inr (.inl ⟨H64.out, by rw [HQ.out]; rfl, rfl⟩), hb⟩
  | false =>
    cases q2 with
    | true =>
      go_enter Tryz.func12, Tryz.ntmps12
      go_wp2_with fail
      refine (C1.out _ HL.out).mono ?_
      rintro e w1 ⟨rfl, hb⟩
      have B1 := Lib.hid hb
      clear hb
      go_wp2_with fail
      refine (C1b.out _ (HL.out.below B1.out)).mono ?_
      rintro e w2 ⟨rfl, hb⟩
      have B2 := Lib.hid (B1.out.trans (hb.mono B1.out.size))
      clear hb
      go_wp2
      go_ret
      exact ⟨70, rfl, .inr (.inl ⟨H64.out, by rw [HQ2.out, Bool.or_true], rfl⟩), B2.out⟩
    | false =>
      cases r with
      | true =>
        go_enter Tryz.func12, Tryz.ntmps12
        go_wp2_with fail
        refine (C1.out _ HL.out).mono ?_
        rintro e w1 ⟨rfl, hb⟩
        have B1 := Lib.hid hb
        clear hb
        go_wp2_with fail
        refine (C1b.out _ (HL.out.below B1.out)).mono ?_
        rintro e w2 ⟨rfl, hb⟩
        have B2 := Lib.hid (B1.out.trans (hb.mono B1.out.size))
        clear hb
        go_wp2_with fail
        refine (C3.out _ (HL.out.below B2.out)).mono ?_
        rintro e w3 ⟨rfl, hb⟩
        have B3 := Lib.hid (B2.out.trans (hb.mono B2.out.size))
        clear hb
        go_wp2
        go_ret
        exact ⟨0, rfl, .inr (.inr ⟨H64.out, by rw [HQ.out, HQ2.out]; rfl, .inl ⟨HR.out, rfl⟩⟩), B3.out⟩
      | false =>
        go_enter Tryz.func12, Tryz.ntmps12
        go_wp2_with fail
        refine (C1.out _ HL.out).mono ?_
        rintro e w1 ⟨rfl, hb⟩
        have B1 := Lib.hid hb
        clear hb
        go_wp2_with fail
        refine (C1b.out _ (HL.out.below B1.out)).mono ?_
        rintro e w2 ⟨rfl, hb⟩
        have B2 := Lib.hid (B1.out.trans (hb.mono B1.out.size))
        clear hb
        go_wp2_with fail
        refine (C3.out _ (HL.out.below B2.out)).mono ?_
        rintro e w3 ⟨rfl, hb⟩
        have B3 := Lib.hid (B2.out.trans (hb.mono B2.out.size))
        clear hb
        go_wp2_with fail
        refine (C2.out _ (HL.out.below B3.out)).mono ?_
        rintro e w4 ⟨v, l', rfl, hp, hr, ho, hb⟩
        have P2 := Lib.hid hp
        have R2 := Lib.hid hr
        have B4 := Lib.hid (B3.out.trans (hb.mono B3.out.size))
        have hlen := hp.length_eq
        obtain ⟨ad, cp, rfl, hla, _⟩ := ho.labs
        have C5 := Lib.hid (rising_any ad cp l' w4 hla (by have := HZ.out; omega))
        obtain ⟨m, hm⟩ : ∃ m, l'.length = m := ⟨_, rfl⟩
        rw [hm] at C5 ⊢
        obtain ⟨r, hrr⟩ : ∃ r, risesB l' = r := ⟨_, rfl⟩
        rw [hrr] at C5
        have HR5 := Lib.hid hrr
        clear hp hr ho hb hlen hla hm hrr
        go_wp2_with fail
        refine C5.out.mono ?_
        rintro e w5 ⟨rfl, hb⟩
        have B5 := Lib.hid (B4.out.trans (hb.mono B4.out.size))
        clear hb
        cases r with
        | true =>
          go_wp2
          go_ret
          exact ⟨70, rfl, .inr (.inr ⟨H64.out, by rw [HQ.out, HQ2.out]; rfl, .inr ⟨HR.out, l', P2.out, R2.out, .inl ⟨HR5.out, rfl⟩⟩⟩), B5.out⟩
        | false =>
          go_wp2
          go_ret
          exact ⟨71, rfl, .inr (.inr ⟨H64.out, by rw [HQ.out, HQ2.out]; rfl, .inr ⟨HR.out, l', P2.out, R2.out, .inr ⟨HR5.out, rfl⟩⟩⟩), B5.out⟩
end Go.Proofs.YtiolghcjndoigaaGreatDoor
