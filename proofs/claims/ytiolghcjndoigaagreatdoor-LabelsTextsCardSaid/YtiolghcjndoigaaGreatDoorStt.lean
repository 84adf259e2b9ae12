/-
  WALKS: Set.
-/
import Derived.Test.YtiolghcjndoigaaGreatDoorDlu
namespace Go.Proofs.YtiolghcjndoigaaGreatDoor
set_option linter.unusedVariables false
set_option linter.unusedSimpArgs false
open Go.RowKit Go.PlainAid Go.Shelf
def fullL (l : List Lm.Lb) : List Lm.Lb := l.filter fun x => !emptyB x
/-- what Set says of a list, and the set -/
def SetIs (l : List Lm.Lb) (c : Nat) (out : List Lm.Lb) : Prop :=
  (l.any badB = true ∧ c = 70 ∧ out = []) ∨ (l.any badB = false ∧ ∃ l', l'.Perm l ∧ Rises l' ∧
    ((risesB l' = false ∧ c = 71 ∧ out = []) ∨ (risesB l' = true ∧ ((64 < (fullL l').length ∧ c = 72 ∧ out = []) ∨ ((fullL l').length ≤ 64 ∧ c = 0 ∧ out = fullL l')))))
def SetPost (w : World) (l : List Lm.Lb) (e : Ending) (w' : World) : Prop := ∃ v c out, e = .returned (.tuple #[v, .int .u16 ((c : Nat) : Int)]) ∧ SetIs l c out ∧ OwnL w' w.heap.size v out ∧ Below w.heap.size w w'
theorem OwnL.nil (w : World) (base : Nat) : OwnL w base (.slice none 0 0) [] := World.ownsRow_nil w base 94 2
set_option maxHeartbeats 1000000 in
theorem set_any (a : Option Addr) (c : Nat) (l : List Lm.Lb) (w : World) (H : Labs w a l) (hz : l.length ≤ 4398046511104) : Calls Tryz.prog 11 #[.slice a l.length c] w (SetPost w l) := by
  have hmx : maxLen = 9223372036854775807 := rfl
  have C1 := Lib.hid (fun w H => contains_any badB 49 eg49 malformed_any a c l w H (by omega))
  have C2 := Lib.hid (fun w H => sorted_any c a l w hz H)
  have HZ := Lib.hid hz
  have HL := Lib.hid H
  obtain ⟨n, hn⟩ : ∃ n, l.length = n := ⟨_, rfl⟩
  have HN := Lib.hid hn
  rw [hn] at C1 C2 ⊢
  clear H hz hn
  obtain ⟨q, hq⟩ : ∃ q, l.any badB = q := ⟨_, rfl⟩
  rw [hq] at C1
  have HQ := Lib.hid hq
  clear hq
  cases q with
  | true =>
    go_enter Tryz.func11, Tryz.ntmps11
    go_wp2_with (go_at_call 48; refine (C1.out _ HL.out).mono ?_; rintro e w1 ⟨rfl, hb⟩)
    go_ret2
    exact ⟨_, 70, [], rfl, .inl ⟨HQ.out, rfl, rfl⟩, OwnL.nil _ _, hb⟩
  | false =>
    go_enter Tryz.func11, Tryz.ntmps11
    go_wp2_with fail
    refine (C1.out _ HL.out).mono ?_
    rintro e w1 ⟨rfl, hb⟩
    have B1 := Lib.hid hb
    clear hb
    go_wp2_with fail
    refine (C2.out _ (HL.out.below B1.out)).mono ?_
    rintro e w2 ⟨v, l', rfl, hp, hr, ho, hb⟩
    have P2 := Lib.hid hp
    have R2 := Lib.hid hr
    have O2 := Lib.hid ho
    have B2 := Lib.hid (B1.out.trans (hb.mono B1.out.size))
    have W2 := Lib.hid (Nat.le_trans B1.out.size hb.size)
    have hlen := hp.length_eq
    obtain ⟨ad, cp, rfl, hla, _⟩ := ho.labs
    have C3 := Lib.hid (rising_any ad cp l' w2 hla (by have := HZ.out; omega))
    have C4 := Lib.hid (fun w (h : OwnL w w1.heap.size _ l') hb => delete_any emptyB 53 eg53 empty_any w1.heap.size (.slice ad l'.length cp) l' w h (by have := HZ.out; omega) hb)
    obtain ⟨m, hm⟩ : ∃ m, l'.length = m := ⟨_, rfl⟩
    rw [hm] at C3 C4 O2 ⊢
    obtain ⟨r, hrr⟩ : ∃ r, risesB l' = r := ⟨_, rfl⟩
    rw [hrr] at C3
    have HR := Lib.hid hrr
    have S2 := Lib.hid hb.size
    clear hp hr ho hb hlen hla hm hrr
    cases r with
    | false =>
      go_wp2_with (go_at_call 51; refine C3.out.mono ?_; rintro e w3 ⟨rfl, hb⟩)
      go_ret2
      exact ⟨_, 71, [], rfl, .inr ⟨HQ.out, l', P2.out, R2.out, .inl ⟨HR.out, rfl, rfl⟩⟩, OwnL.nil _ _, B2.out.trans (hb.mono W2.out)⟩
    | true =>
      go_wp2_with fail
      refine C3.out.mono ?_
      rintro e w3 ⟨rfl, hb⟩
      have O3 := Lib.hid (O2.out.below hb)
      have B3 := Lib.hid (B2.out.trans (hb.mono W2.out))
      have W3 := Lib.hid (Nat.le_trans W2.out hb.size)
      have S3 := Lib.hid (Nat.le_trans S2.out hb.size)
      clear hb
      go_wp2_with fail
      refine (C4.out _ O3.out S3.out).mono ?_
      rintro e w4 ⟨v, rfl, ho, hb⟩
      have O4 := Lib.hid (ho.lower B1.out.size)
      have B4 := Lib.hid (B3.out.trans (hb.mono B1.out.size))
      obtain ⟨ad4, cp4, rfl, _, _⟩ := ho.labs
      have HF := Lib.hid (show (l'.filter fun x => !emptyB x) = fullL l' from rfl)
      rw [HF.out] at O4 ⊢
      obtain ⟨f, hf⟩ : ∃ f, fullL l' = f := ⟨_, rfl⟩
      have HFF := Lib.hid hf
      rw [hf] at O4 ⊢
      obtain ⟨k, hk⟩ : ∃ k, f.length = k := ⟨_, rfl⟩
      have HK := Lib.hid hk
      rw [hk] at O4 ⊢
      clear ho hb hf hk
      by_cases h64 : 64 < k
      · have d1 : decide ((k : Int) > 64) = true := decide_eq_true (by omega)
        have d2 : decide (64 < (k : Int)) = true := decide_eq_true (by omega)
        have d3 : decide (64 < k) = true := decide_eq_true h64
        go_wp2
        go_ret2
        exact ⟨_, 72, [], rfl, .inr ⟨HQ.out, l', P2.out, R2.out, .inr ⟨HR.out, .inl ⟨by rw [HFF.out, HK.out]; exact h64, rfl, rfl⟩⟩⟩, OwnL.nil _ _, B4.out⟩
      · have d1 : decide ((k : Int) > 64) = false := decide_eq_false (by omega)
        have d2 : decide (64 < (k : Int)) = false := decide_eq_false (by omega)
        have d3 : decide (64 < k) = false := decide_eq_false h64
        go_wp2
        go_ret2
        exact ⟨_, 0, f, rfl, .inr ⟨HQ.out, l', P2.out, R2.out, .inr ⟨HR.out, .inr ⟨by rw [HFF.out, HK.out]; omega, rfl, HFF.out.symm⟩⟩⟩, O4.out, B4.out⟩
end Go.Proofs.YtiolghcjndoigaaGreatDoor
