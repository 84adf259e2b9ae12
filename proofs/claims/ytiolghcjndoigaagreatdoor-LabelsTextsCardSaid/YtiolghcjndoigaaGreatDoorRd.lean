/-
  WALKS: the reader: what it is; whether it is done; the next byte; digits.
-/
import Derived.Test.YtiolghcjndoigaaGreatDoorQuoA
namespace Go.Proofs.YtiolghcjndoigaaGreatDoor
set_option linter.unusedVariables false
set_option linter.unusedSimpArgs false
open Go.RowKit Go.PlainAid
theorem below_drewN {B : Nat} {a b : World} (h : Below B a b) (n : Nat) : Below B a (b.drewN n) := ⟨h.os, h.tape, h.output, h.size, h.block⟩
/-- a reader of these bytes that stands here -/
def Rd (w : World) (R : Nat) (bs : List Nat) (p : Nat) : Prop := w.heap[R]? = some (.cells #[.string (strOf bs), .int .i64 ((p : Nat) : Int)] 286 (0, 0))
theorem Rd.lt {w : World} {R : Nat} {bs : List Nat} {p : Nat} (h : Rd w R bs p) : R < w.heap.size := (Array.getElem?_eq_some_iff.1 h).1
theorem Rd.only {w w' : World} {R : Nat} {bs : List Nat} {p : Nat} (h : Rd w R bs p) {S : List Nat} (ho : Only S w w') (hS : R ∉ S) : Rd w' R bs p := (ho.block R h.lt hS).trans h
theorem Rd.below {w w' : World} {R : Nat} {bs : List Nat} {p : Nat} (h : Rd w R bs p) {B : Nat} (ho : Below B w w') (hB : R < B) : Rd w' R bs p := (ho.block R hB).trans h
theorem Rd.stay {w w' : World} {R : Nat} {bs : List Nat} {p : Nat} (h : Rd w R bs p) (ho : Below w.heap.size w w') : Rd w' R bs p := h.below ho h.lt
theorem Rd.c0 {w : World} {R : Nat} {bs : List Nat} {p : Nat} (h : Rd w R bs p) : w.cell? ⟨R, 0, none⟩ = some (.string (strOf bs)) := by
  rw [cell_of_row _ _ _ _ _ _ h]; rfl
theorem Rd.c1 {w : World} {R : Nat} {bs : List Nat} {p : Nat} (h : Rd w R bs p) : w.cell? ⟨R, 1, none⟩ = some (.int .i64 ((p : Nat) : Int)) := by
  rw [cell_of_row _ _ _ _ _ _ h]; rfl
theorem Rd.fz {w : World} {R : Nat} {bs : List Nat} {p : Nat} (h : Rd w R bs p) (k : Nat) : w.frozen? ⟨R, k, none⟩ = false := frozen_of_row _ _ _ _ _ h
theorem Rd.set {w : World} {R : Nat} {bs : List Nat} {p : Nat} (h : Rd w R bs p) (q : Nat) : Rd (w.setCell ⟨R, 1, none⟩ (.int .i64 ((q : Nat) : Int))) R bs q := heap_setCell_same _ _ _ _ _ _ h
theorem Rd.laid (w : World) (bs : List Nat) : Rd (w.alloc (.cells #[.string (strOf bs), .int .i64 0] 286)) w.heap.size bs 0 := heap_alloc_new w _
theorem isdone_any (R : Nat) (bs : List Nat) (p : Nat) (w : World) (H : Rd w R bs p) : Calls Tryz.prog 191 #[.pointer (some ⟨R, 0, none⟩)] w (Gives w (.bool (decide (p = bs.length)))) := by
  have h0 := H.c0
  have h1 := H.c1
  have hsz := strOf_size bs
  obtain ⟨L, hL⟩ : ∃ L, bs.length = L := ⟨_, rfl⟩
  rw [hL] at hsz ⊢
  have he : (((p : Nat) : Int) == ((L : Nat) : Int)) = decide (p = L) := by
    by_cases h : p = L
    · subst h; simp
    · rw [decide_eq_false h]; simp; omega
  clear H hL
  go_enter Tryz.func191, Tryz.ntmps191
  go_wp2_with fail
  go_quiet (fail)
  go_wp2
  go_ret
  exact ⟨rfl, below_drewN (Below.refl _ _) _⟩
/-- the next byte -/
theorem next_ok (R : Nat) (bs : List Nat) (p : Nat) (hB : IsB bs) (hp : p < bs.length) (hl : bs.length ≤ 200000) (w : World) (H : Rd w R bs p) :
    Calls Tryz.prog 179 #[.pointer (some ⟨R, 0, none⟩)] w fun e w' => e = .returned (.tuple #[.int .u8 ((bs[p] : Nat) : Int), .nilIface]) ∧ Only [R] w w' ∧ Rd w' R bs (p + 1) := by
  have CD := Lib.hid (isdone_any R bs p w H)
  rw [decide_eq_false (by omega)] at CD
  have hsz := strOf_size bs
  have hbt := get_bt (strOf bs)
  have hb0 := strOf_bt bs hB p hp
  have HH := Lib.hid H
  obtain ⟨c, hc⟩ : ∃ c, bs[p] = c := ⟨_, rfl⟩
  rw [hc] at hb0 ⊢
  obtain ⟨L, hL⟩ : ∃ L, bs.length = L := ⟨_, rfl⟩
  rw [hL] at hsz hl hp
  have e1 : IntKind.i64.wrap ((p : Int) + 1) = ((p + 1 : Nat) : Int) := by rw [IntKind.wrap_i64]; omega
  have hpi : (p : Int) < (L : Int) := by omega
  clear hc hL H
  go_enter Tryz.func179, Tryz.ntmps179
  go_wp2_with fail
  refine CD.out.mono ?_
  rintro e w1 ⟨rfl, hb⟩
  have H1 := HH.out.stay hb
  have BB := Lib.hid hb
  have HR := Lib.hid H1
  have h0 := H1.c0
  have h1 := H1.c1
  have f1 := H1.fz 1
  clear H1 hb
  go_wp2_with fail
  go_quiet (fail)
  go_wp2
  go_ret2
  exact ⟨rfl, ((Only.of_below BB.out [R]).drewN nq).setCell (.inl (by simp)) _, Rd.set (w := w1.drewN nq) HR.out (p + 1)⟩
/-- only what lies under B, but for the reader, is as it was -/
structure Kept (B R : Nat) (w w' : World) : Prop where
  os : w'.os = w.os
  tape : w'.tape = w.tape
  output : w'.output = w.output
  size : w.heap.size ≤ w'.heap.size
  block : ∀ k, k < B → k ≠ R → w'.heap[k]? = w.heap[k]?
theorem Kept.refl (B R : Nat) (w : World) : Kept B R w w := ⟨rfl, rfl, rfl, Nat.le_refl _, fun _ _ _ => rfl⟩
theorem Kept.trans {B R : Nat} {a b c : World} (h : Kept B R a b) (k : Kept B R b c) : Kept B R a c := ⟨k.os.trans h.os, k.tape.trans h.tape, k.output.trans h.output, Nat.le_trans h.size k.size, fun i hi hn => (k.block i hi hn).trans (h.block i hi hn)⟩
theorem Kept.of_only {B R : Nat} {a b : World} (h : Only [R] a b) (hB : B ≤ a.heap.size) : Kept B R a b := ⟨h.os, h.tape, h.output, h.size, fun i hi hn => h.block i (by omega) (by simpa using hn)⟩
theorem Kept.of_below {B R : Nat} {a b : World} (h : Below B a b) : Kept B R a b := ⟨h.os, h.tape, h.output, h.size, fun i hi hn => h.block i hi⟩
theorem Kept.below {B R B0 : Nat} {a b : World} (h : Kept B R a b) (h1 : B0 ≤ B) (h2 : B0 ≤ R) : Below B0 a b := ⟨h.os, h.tape, h.output, h.size, fun i hi => h.block i (by omega) (by omega)⟩
/-- what a hex digit stands for -/
def hexV (c : Nat) : Nat := if 48 ≤ c ∧ c ≤ 57 then c - 48 else if 97 ≤ c ∧ c ≤ 102 then c - 87 else if 65 ≤ c ∧ c ≤ 70 then c - 55 else 16
theorem isdigit_any (c : Nat) (hc : c < 256) (w : World) : Calls Tryz.prog 203 #[.int .u8 (c : Int)] w fun e w' => e = .returned (.bool (decide (48 ≤ c) && decide (c ≤ 57))) ∧ w' = w := by
  have d1 : decide ((48 : Int) ≤ (c : Int)) = decide (48 ≤ c) := by congr 1; exact propext (by omega)
  have d2 : decide ((c : Int) ≤ 57) = decide (c ≤ 57) := by congr 1; exact propext (by omega)
  obtain ⟨x, hx⟩ : ∃ x, decide (48 ≤ c) = x := ⟨_, rfl⟩
  obtain ⟨y, hy⟩ : ∃ y, decide (c ≤ 57) = y := ⟨_, rfl⟩
  rw [hx] at d1 ⊢
  rw [hy] at d2 ⊢
  clear hx hy
  cases x
  · go_enter Tryz.func203, Tryz.ntmps203
    go_wp2
    go_ret
    exact ⟨rfl, rfl⟩
  · cases y
    · go_enter Tryz.func203, Tryz.ntmps203
      go_wp2
      go_ret
      exact ⟨rfl, rfl⟩
    · go_enter Tryz.func203, Tryz.ntmps203
      go_wp2
      go_ret
      exact ⟨rfl, rfl⟩
set_option maxHeartbeats 1000000 in
theorem digitof_any (c : Nat) (hc : c < 256) (w : World) : Calls Tryz.prog 201 #[.int .u8 (c : Int)] w fun e w' => e = .returned (.int .u32 ((hexV c : Nat) : Int)) ∧ w' = w := by
  have CD := Lib.hid (fun w => isdigit_any c hc w)
  unfold hexV
  by_cases h1 : 48 ≤ c ∧ c ≤ 57
  · rw [if_pos h1]
    rw [decide_eq_true h1.1, decide_eq_true h1.2] at CD
    have e1 : IntKind.u8.wrap ((c : Int) - 48) = ((c - 48 : Nat) : Int) := by rw [IntKind.wrap_u8]; omega
    have e2 : IntKind.u32.wrap ((c - 48 : Nat) : Int) = ((c - 48 : Nat) : Int) := by rw [IntKind.wrap_u32]; omega
    obtain ⟨d, hd⟩ : ∃ d, c - 48 = d := ⟨_, rfl⟩
    rw [hd] at e1 e2 ⊢
    clear h1 hd
    go_enter Tryz.func201, Tryz.ntmps201
    go_wp2_with fail
    refine (CD.out _).mono ?_
    rintro e w1 ⟨rfl, rfl⟩
    go_wp2
    go_ret
    exact ⟨rfl, rfl⟩
  · rw [if_neg h1]
    have hf : (decide (48 ≤ c) && decide (c ≤ 57)) = false := by simp; omega
    rw [hf] at CD
    by_cases h2 : 97 ≤ c ∧ c ≤ 102
    · rw [if_pos h2]
      have d1 : decide ((97 : Int) ≤ (c : Int)) = true := decide_eq_true (by omega)
      have d2 : decide ((c : Int) ≤ 102) = true := decide_eq_true (by omega)
      have d3 : decide (97 ≤ c) = true := decide_eq_true h2.1
      have d4 : decide (c ≤ 102) = true := decide_eq_true h2.2
      have e1 : IntKind.u8.wrap ((c : Int) - 97) = ((c - 97 : Nat) : Int) := by rw [IntKind.wrap_u8]; omega
      have e2 : IntKind.u32.wrap ((c - 97 : Nat) : Int) = ((c - 97 : Nat) : Int) := by rw [IntKind.wrap_u32]; omega
      have e3 : IntKind.u32.wrap (((c - 97 : Nat) : Int) + 10) = ((c - 87 : Nat) : Int) := by rw [IntKind.wrap_u32]; omega
      obtain ⟨d, hd⟩ : ∃ d, c - 97 = d := ⟨_, rfl⟩
      obtain ⟨f, hf⟩ : ∃ d, c - 87 = d := ⟨_, rfl⟩
      rw [hd] at e1 e2 e3
      rw [hf] at e3 ⊢
      clear h1 hd hf h2
      go_enter Tryz.func201, Tryz.ntmps201
      go_wp2_with fail
      refine (CD.out _).mono ?_
      rintro e w1 ⟨rfl, rfl⟩
      go_wp2
      go_ret
      exact ⟨rfl, rfl⟩
    · rw [if_neg h2]
      by_cases h3 : 65 ≤ c ∧ c ≤ 70
      · rw [if_pos h3]
        have d1 : decide ((97 : Int) ≤ (c : Int)) = false := decide_eq_false (by omega)
        have d3 : decide (97 ≤ c) = false := decide_eq_false (by omega)
        have d5 : decide ((65 : Int) ≤ (c : Int)) = true := decide_eq_true (by omega)
        have d6 : decide ((c : Int) ≤ 70) = true := decide_eq_true (by omega)
        have d7 : decide (65 ≤ c) = true := decide_eq_true h3.1
        have d8 : decide (c ≤ 70) = true := decide_eq_true h3.2
        have e1 : IntKind.u8.wrap ((c : Int) - 65) = ((c - 65 : Nat) : Int) := by rw [IntKind.wrap_u8]; omega
        have e2 : IntKind.u32.wrap ((c - 65 : Nat) : Int) = ((c - 65 : Nat) : Int) := by rw [IntKind.wrap_u32]; omega
        have e3 : IntKind.u32.wrap (((c - 65 : Nat) : Int) + 10) = ((c - 55 : Nat) : Int) := by rw [IntKind.wrap_u32]; omega
        obtain ⟨d, hd⟩ : ∃ d, c - 65 = d := ⟨_, rfl⟩
        obtain ⟨f, hf⟩ : ∃ d, c - 55 = d := ⟨_, rfl⟩
        rw [hd] at e1 e2 e3
        rw [hf] at e3 ⊢
        clear h1 hd hf h2 h3
        go_enter Tryz.func201, Tryz.ntmps201
        go_wp2_with fail
        refine (CD.out _).mono ?_
        rintro e w1 ⟨rfl, rfl⟩
        go_wp2
        go_ret
        exact ⟨rfl, rfl⟩
      · rw [if_neg h3]
        clear h1
        by_cases g1 : 97 ≤ c
        · have g2 : ¬ c ≤ 102 := by omega
          have d1 : decide ((97 : Int) ≤ (c : Int)) = true := decide_eq_true (by omega)
          have d2 : decide ((c : Int) ≤ 102) = false := decide_eq_false (by omega)
          have d5 : decide ((65 : Int) ≤ (c : Int)) = true := decide_eq_true (by omega)
          have d6 : decide ((c : Int) ≤ 70) = false := decide_eq_false (by omega)
          have b1 : decide (97 ≤ c) = true := decide_eq_true g1
          have b2 : decide (c ≤ 102) = false := decide_eq_false g2
          have b5 : decide (65 ≤ c) = true := decide_eq_true (by omega)
          have b6 : decide (c ≤ 70) = false := decide_eq_false (by omega)
          clear h2 h3 g1 g2
          go_enter Tryz.func201, Tryz.ntmps201
          go_wp2_with fail
          refine (CD.out _).mono ?_
          rintro e w1 ⟨rfl, rfl⟩
          go_wp2
          go_ret
          exact ⟨rfl, rfl⟩
        · have d1 : decide ((97 : Int) ≤ (c : Int)) = false := decide_eq_false (by omega)
          have b1 : decide (97 ≤ c) = false := decide_eq_false g1
          by_cases g3 : 65 ≤ c
          · have d5 : decide ((65 : Int) ≤ (c : Int)) = true := decide_eq_true (by omega)
            have d6 : decide ((c : Int) ≤ 70) = false := decide_eq_false (by omega)
            have b5 : decide (65 ≤ c) = true := decide_eq_true g3
            have b6 : decide (c ≤ 70) = false := decide_eq_false (by omega)
            clear h2 h3 g1 g3
            go_enter Tryz.func201, Tryz.ntmps201
            go_wp2_with fail
            refine (CD.out _).mono ?_
            rintro e w1 ⟨rfl, rfl⟩
            go_wp2
            go_ret
            exact ⟨rfl, rfl⟩
          · have d5 : decide ((65 : Int) ≤ (c : Int)) = false := decide_eq_false (by omega)
            have b5 : decide (65 ≤ c) = false := decide_eq_false g3
            clear h2 h3 g1 g3
            go_enter Tryz.func201, Tryz.ntmps201
            go_wp2_with fail
            refine (CD.out _).mono ?_
            rintro e w1 ⟨rfl, rfl⟩
            go_wp2
            go_ret
            exact ⟨rfl, rfl⟩
end Go.Proofs.YtiolghcjndoigaaGreatDoor
