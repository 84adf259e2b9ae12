/-
  PACKED: WaF, WaG, MtC
-/
import Derived.Test.YtphighddlfabbaaDoorK03
import Derived.Test.YtphighddlfabbaaDoorK02
import Derived.Handy
namespace Go.Proofs.YtphighddlfabbaaDoor
set_option linter.unusedVariables false
set_option linter.unusedSimpArgs false
open Go.RowKit Go.PlainAid Go.Shelf
open Rx (Set4 RS)
theorem number_le (bs : List Nat) (p : Nat) (h : p ≤ bs.length) : (Rx.number bs p).2.2 ≤ bs.length := digs_le bs 4 p 0 h
def mostI : Option Nat → Int
  | none => -1
  | some n => ((n : Nat) : Int)
def BPost (r : Option (Nat × Option Nat)) (e : Ending) : Prop := ∃ a b : Int, e = .returned (.tuple #[.int .i64 a, .int .i64 b, .bool r.isSome]) ∧ ∀ l m, r = some (l, m) → a = ((l : Nat) : Int) ∧ b = mostI m
theorem BPost.none (a b : Int) : BPost none (.returned (.tuple #[.int .i64 a, .int .i64 b, .bool false])) := ⟨a, b, rfl, fun l m h => by cases h⟩
theorem BPost.some (l : Nat) (m : Option Nat) : BPost (some (l, m)) (.returned (.tuple #[.int .i64 ((l : Nat) : Int), .int .i64 (mostI m), .bool true])) := ⟨_, _, rfl, fun l m h => by cases h; exact ⟨rfl, rfl⟩⟩
/-- what a reader's call has done -/
structure Went (w w' : World) (R : Nat) (bs : List Nat) (st : RS) : Prop where
  rd : Rd w' R bs st
  only : Only [R] w w'
theorem Went.refl {w : World} {R : Nat} {bs : List Nat} {st : RS} (h : Rd w R bs st) : Went w w R bs st := ⟨h, Only.refl _ _⟩
theorem Went.below {w w1 w2 : World} {R : Nat} {bs : List Nat} {st : RS} (h : Went w w1 R bs st) (hb : Below w1.heap.size w1 w2) : Went w w2 R bs st := ⟨h.rd.stay hb, only_trans h.only (Only.of_below hb [R])⟩
theorem Went.trans {w w1 w2 : World} {R : Nat} {bs : List Nat} {st st' : RS} (h : Went w w1 R bs st) (k : Went w1 w2 R bs st') : Went w w2 R bs st' := ⟨k.rd, only_trans h.only k.only⟩
theorem sign_went (R : Nat) (bs : List Nat) (st : RS) (c : Nat) (hB : IsB bs) (hc : c < 256) (hp : st.at' ≤ bs.length) (hl : bs.length ≤ 500) (w : World) (H : Rd w R bs st) :
    Calls Tryd.prog 37 #[.pointer (some ⟨R, 0, none⟩), .string (strOf [c])] w fun e w' => e = .returned (.bool (Rx.isAt bs st.at' c)) ∧ Went w w' R bs (if Rx.isAt bs st.at' c then st.to (st.at' + 1) else st) :=
  (sign_any R bs st c hB hc hp hl w H).mono fun e w' h => ⟨h.1, h.2.2, h.2.1⟩
theorem sign_yes (R : Nat) (bs : List Nat) (st : RS) (c : Nat) (hB : IsB bs) (hc : c < 256) (h : Rx.isAt bs st.at' c = true) (hl : bs.length ≤ 500) (w : World) (H : Rd w R bs st) :
    Calls Tryd.prog 37 #[.pointer (some ⟨R, 0, none⟩), .string (strOf [c])] w fun e w' => e = .returned (.bool true) ∧ Went w w' R bs (st.to (st.at' + 1)) := by
  have hp : st.at' < bs.length := (List.getElem?_eq_some_iff.1 (of_decide_eq_true h)).1
  have := sign_went R bs st c hB hc (Nat.le_of_lt hp) hl w H
  rw [h, if_pos rfl] at this
  exact this
theorem sign_no (R : Nat) (bs : List Nat) (st : RS) (c : Nat) (hB : IsB bs) (hc : c < 256) (h : Rx.isAt bs st.at' c = false) (hp : st.at' ≤ bs.length) (hl : bs.length ≤ 500) (w : World) (H : Rd w R bs st) :
    Calls Tryd.prog 37 #[.pointer (some ⟨R, 0, none⟩), .string (strOf [c])] w fun e w' => e = .returned (.bool false) ∧ Went w w' R bs st := by
  have := sign_went R bs st c hB hc hp hl w H
  rw [h] at this
  exact this
theorem isAt_lt {bs : List Nat} {p c : Nat} (h : Rx.isAt bs p c = true) : p < bs.length := (List.getElem?_eq_some_iff.1 (of_decide_eq_true h)).1
theorem number_went (R : Nat) (bs : List Nat) (st : RS) (hB : IsB bs) (hp : st.at' ≤ bs.length) (hl : bs.length ≤ 500) (n : Nat) (b : Bool) (q : Nat) (h : Rx.number bs st.at' = (n, b, q)) (w : World) (H : Rd w R bs st) :
    Calls Tryd.prog 71 #[.pointer (some ⟨R, 0, none⟩)] w fun e w' => e = .returned (.tuple #[.int .i64 ((n : Nat) : Int), .bool b]) ∧ Went w w' R bs (st.to q) := by
  have := number_any R bs st hB hp hl w H
  rw [h] at this
  exact this.mono fun e w' h => ⟨h.1, h.2.2, h.2.1⟩
/-- the last sign of a count -/
theorem boundsEnd_le (bs : List Nat) (l : Nat) (m : Option Nat) (p : Nat) (h : p ≤ bs.length) : (Rx.boundsEnd bs l m p).2 ≤ bs.length := by
  unfold Rx.boundsEnd
  split
  · rename_i k; exact isAt_lt k
  · exact h
theorem bounds_le (bs : List Nat) (p : Nat) (h : p ≤ bs.length) : (Rx.bounds bs p).2 ≤ bs.length := by
  unfold Rx.bounds Rx.bounds2
  have h1 := number_le bs p h
  split
  · split
    · rename_i k
      have h2 := isAt_lt k
      split
      · exact boundsEnd_le _ _ _ _ h2
      · split
        · exact boundsEnd_le _ _ _ _ (number_le _ _ h2)
        · exact number_le _ _ h2
    · exact boundsEnd_le _ _ _ _ h1
  · exact h1
-- GEN
set_option maxHeartbeats 2000000 in
set_option maxRecDepth 100000 in
theorem bounds_a (R : Nat) (bs : List Nat) (st : RS) (hB : IsB bs) (hp : st.at' ≤ bs.length) (hl : bs.length ≤ 500) (w : World) (H : Rd w R bs st) (n q : Nat) (hn : Rx.number bs st.at' = (n, false, q)) :
    Calls Tryd.prog 62 #[.pointer (some ⟨R, 0, none⟩)] w fun e w' => BPost none e ∧ Went w w' R bs (st.to q) := by
  have C1 := Lib.hid (number_went R bs st hB hp hl n false q hn w H)
  have hq : q ≤ bs.length := by have := number_le bs st.at' hp; rw [hn] at this; exact this
  clear hn
  go_enter Tryd.func62, Tryd.ntmps62
  go_wp2_with fail
  refine C1.out.mono ?_
  rintro e w1 ⟨rfl, W1⟩
  have W1 := Lib.hid W1
  go_wp2_with fail
  go_returns
  exact ⟨BPost.none 0 0, W1.out⟩
set_option maxHeartbeats 2000000 in
set_option maxRecDepth 100000 in
theorem bounds_by (R : Nat) (bs : List Nat) (st : RS) (hB : IsB bs) (hp : st.at' ≤ bs.length) (hl : bs.length ≤ 500) (w : World) (H : Rd w R bs st) (n q : Nat) (hn : Rx.number bs st.at' = (n, true, q)) (h44 : Rx.isAt bs q 44 = false) (h125 : Rx.isAt bs q 125 = true) :
    Calls Tryd.prog 62 #[.pointer (some ⟨R, 0, none⟩)] w fun e w' => BPost (some (n, some n)) e ∧ Went w w' R bs (st.to (q + 1)) := by
  have C1 := Lib.hid (number_went R bs st hB hp hl n true q hn w H)
  have hq : q ≤ bs.length := by have := number_le bs st.at' hp; rw [hn] at this; exact this
  have C2 := Lib.hid (fun w H => sign_no R bs (st.to q) 44 hB (by decide) h44 hq hl w H)
  have C3 := Lib.hid (fun w H => sign_yes R bs (st.to q) 125 hB (by decide) h125 hl w H)
  clear h44 h125
  clear hn
  go_enter Tryd.func62, Tryd.ntmps62
  go_wp2_with fail
  refine C1.out.mono ?_
  rintro e w1 ⟨rfl, W1⟩
  have W1 := Lib.hid W1
  go_wp2_with fail
  refine (C2.out _ W1.out.rd).mono ?_
  rintro e w2 ⟨rfl, X⟩
  have Vw2 := Lib.hid (W1.out.trans X)
  clear X
  go_wp2_with fail
  refine (C3.out _ Vw2.out.rd).mono ?_
  rintro e w3 ⟨rfl, X⟩
  have Vw3 := Lib.hid (Vw2.out.trans X)
  clear X
  go_wp2_with fail
  go_returns
  exact ⟨BPost.some n (some n), Vw3.out⟩
set_option maxHeartbeats 2000000 in
set_option maxRecDepth 100000 in
theorem bounds_bn (R : Nat) (bs : List Nat) (st : RS) (hB : IsB bs) (hp : st.at' ≤ bs.length) (hl : bs.length ≤ 500) (w : World) (H : Rd w R bs st) (n q : Nat) (hn : Rx.number bs st.at' = (n, true, q)) (h44 : Rx.isAt bs q 44 = false) (h125 : Rx.isAt bs q 125 = false) :
    Calls Tryd.prog 62 #[.pointer (some ⟨R, 0, none⟩)] w fun e w' => BPost none e ∧ Went w w' R bs (st.to q) := by
  have C1 := Lib.hid (number_went R bs st hB hp hl n true q hn w H)
  have hq : q ≤ bs.length := by have := number_le bs st.at' hp; rw [hn] at this; exact this
  have C2 := Lib.hid (fun w H => sign_no R bs (st.to q) 44 hB (by decide) h44 hq hl w H)
  have C3 := Lib.hid (fun w H => sign_no R bs (st.to q) 125 hB (by decide) h125 hq hl w H)
  clear h44 h125
  clear hn
  go_enter Tryd.func62, Tryd.ntmps62
  go_wp2_with fail
  refine C1.out.mono ?_
  rintro e w1 ⟨rfl, W1⟩
  have W1 := Lib.hid W1
  go_wp2_with fail
  refine (C2.out _ W1.out.rd).mono ?_
  rintro e w2 ⟨rfl, X⟩
  have Vw2 := Lib.hid (W1.out.trans X)
  clear X
  go_wp2_with fail
  refine (C3.out _ Vw2.out.rd).mono ?_
  rintro e w3 ⟨rfl, X⟩
  have Vw3 := Lib.hid (Vw2.out.trans X)
  clear X
  go_wp2_with fail
  go_returns
  exact ⟨BPost.none _ _, Vw3.out⟩
set_option maxHeartbeats 2000000 in
set_option maxRecDepth 100000 in
theorem bounds_cy (R : Nat) (bs : List Nat) (st : RS) (hB : IsB bs) (hp : st.at' ≤ bs.length) (hl : bs.length ≤ 500) (w : World) (H : Rd w R bs st) (n q : Nat) (hn : Rx.number bs st.at' = (n, true, q)) (h44 : Rx.isAt bs q 44 = true) (hi : Rx.isNext bs (q + 1) [125] = true) (h125 : Rx.isAt bs (q + 1) 125 = true) :
    Calls Tryd.prog 62 #[.pointer (some ⟨R, 0, none⟩)] w fun e w' => BPost (some (n, none)) e ∧ Went w w' R bs (st.to (q + 1 + 1)) := by
  have C1 := Lib.hid (number_went R bs st hB hp hl n true q hn w H)
  have hq : q ≤ bs.length := by have := number_le bs st.at' hp; rw [hn] at this; exact this
  have hq1 : q + 1 ≤ bs.length := isAt_lt h44
  have C2 := Lib.hid (fun w H => sign_yes R bs (st.to q) 44 hB (by decide) h44 hl w H)
  have C3 := Lib.hid (fun w H => isNext_any R bs (st.to (q + 1)) [125] hB (by unfold IsB; decide) hq1 hl w H)
  rw [show (st.to (q + 1)).at' = q + 1 from rfl, hi] at C3
  have C4 := Lib.hid (fun w H => sign_yes R bs (st.to (q + 1)) 125 hB (by decide) h125 hl w H)
  clear h44 h125 hi
  clear hn
  go_enter Tryd.func62, Tryd.ntmps62
  go_wp2_with fail
  refine C1.out.mono ?_
  rintro e w1 ⟨rfl, W1⟩
  have W1 := Lib.hid W1
  go_wp2_with fail
  refine (C2.out _ W1.out.rd).mono ?_
  rintro e w2 ⟨rfl, X⟩
  have Vw2 := Lib.hid (W1.out.trans X)
  clear X
  go_wp2_with fail
  refine (C3.out _ Vw2.out.rd).mono ?_
  rintro e w3 ⟨rfl, X⟩
  have Vw3 := Lib.hid (Vw2.out.below X)
  clear X
  go_wp2_with fail
  refine (C4.out _ Vw3.out.rd).mono ?_
  rintro e w4 ⟨rfl, X⟩
  have Vw4 := Lib.hid (Vw3.out.trans X)
  clear X
  go_wp2_with fail
  go_returns
  exact ⟨BPost.some n none, Vw4.out⟩
set_option maxHeartbeats 2000000 in
set_option maxRecDepth 100000 in
theorem bounds_cn (R : Nat) (bs : List Nat) (st : RS) (hB : IsB bs) (hp : st.at' ≤ bs.length) (hl : bs.length ≤ 500) (w : World) (H : Rd w R bs st) (n q : Nat) (hn : Rx.number bs st.at' = (n, true, q)) (h44 : Rx.isAt bs q 44 = true) (hi : Rx.isNext bs (q + 1) [125] = true) (h125 : Rx.isAt bs (q + 1) 125 = false) :
    Calls Tryd.prog 62 #[.pointer (some ⟨R, 0, none⟩)] w fun e w' => BPost none e ∧ Went w w' R bs (st.to (q + 1)) := by
  have C1 := Lib.hid (number_went R bs st hB hp hl n true q hn w H)
  have hq : q ≤ bs.length := by have := number_le bs st.at' hp; rw [hn] at this; exact this
  have hq1 : q + 1 ≤ bs.length := isAt_lt h44
  have C2 := Lib.hid (fun w H => sign_yes R bs (st.to q) 44 hB (by decide) h44 hl w H)
  have C3 := Lib.hid (fun w H => isNext_any R bs (st.to (q + 1)) [125] hB (by unfold IsB; decide) hq1 hl w H)
  rw [show (st.to (q + 1)).at' = q + 1 from rfl, hi] at C3
  have C4 := Lib.hid (fun w H => sign_no R bs (st.to (q + 1)) 125 hB (by decide) h125 hq1 hl w H)
  clear h44 h125 hi
  clear hn
  go_enter Tryd.func62, Tryd.ntmps62
  go_wp2_with fail
  refine C1.out.mono ?_
  rintro e w1 ⟨rfl, W1⟩
  have W1 := Lib.hid W1
  go_wp2_with fail
  refine (C2.out _ W1.out.rd).mono ?_
  rintro e w2 ⟨rfl, X⟩
  have Vw2 := Lib.hid (W1.out.trans X)
  clear X
  go_wp2_with fail
  refine (C3.out _ Vw2.out.rd).mono ?_
  rintro e w3 ⟨rfl, X⟩
  have Vw3 := Lib.hid (Vw2.out.below X)
  clear X
  go_wp2_with fail
  refine (C4.out _ Vw3.out.rd).mono ?_
  rintro e w4 ⟨rfl, X⟩
  have Vw4 := Lib.hid (Vw3.out.trans X)
  clear X
  go_wp2_with fail
  go_returns
  exact ⟨BPost.none _ _, Vw4.out⟩
set_option maxHeartbeats 2000000 in
set_option maxRecDepth 100000 in
theorem bounds_d (R : Nat) (bs : List Nat) (st : RS) (hB : IsB bs) (hp : st.at' ≤ bs.length) (hl : bs.length ≤ 500) (w : World) (H : Rd w R bs st) (n q : Nat) (hn : Rx.number bs st.at' = (n, true, q)) (h44 : Rx.isAt bs q 44 = true) (hi : Rx.isNext bs (q + 1) [125] = false) (m q2 : Nat) (hn2 : Rx.number bs (q + 1) = (m, false, q2)) :
    Calls Tryd.prog 62 #[.pointer (some ⟨R, 0, none⟩)] w fun e w' => BPost none e ∧ Went w w' R bs (st.to q2) := by
  have C1 := Lib.hid (number_went R bs st hB hp hl n true q hn w H)
  have hq : q ≤ bs.length := by have := number_le bs st.at' hp; rw [hn] at this; exact this
  have hq1 : q + 1 ≤ bs.length := isAt_lt h44
  have C2 := Lib.hid (fun w H => sign_yes R bs (st.to q) 44 hB (by decide) h44 hl w H)
  have C3 := Lib.hid (fun w H => isNext_any R bs (st.to (q + 1)) [125] hB (by unfold IsB; decide) hq1 hl w H)
  rw [show (st.to (q + 1)).at' = q + 1 from rfl, hi] at C3
  have C5 := Lib.hid (fun w H => number_went R bs (st.to (q + 1)) hB hq1 hl m false q2 hn2 w H)
  have hq2 : q2 ≤ bs.length := by have := number_le bs (q + 1) hq1; rw [hn2] at this; exact this
  clear h44 hi hn2
  clear hn
  go_enter Tryd.func62, Tryd.ntmps62
  go_wp2_with fail
  refine C1.out.mono ?_
  rintro e w1 ⟨rfl, W1⟩
  have W1 := Lib.hid W1
  go_wp2_with fail
  refine (C2.out _ W1.out.rd).mono ?_
  rintro e w2 ⟨rfl, X⟩
  have Vw2 := Lib.hid (W1.out.trans X)
  clear X
  go_wp2_with fail
  refine (C3.out _ Vw2.out.rd).mono ?_
  rintro e w3 ⟨rfl, X⟩
  have Vw3 := Lib.hid (Vw2.out.below X)
  clear X
  go_wp2_with fail
  refine (C5.out _ Vw3.out.rd).mono ?_
  rintro e w4 ⟨rfl, X⟩
  have Vw4 := Lib.hid (Vw3.out.trans X)
  clear X
  go_wp2_with fail
  go_returns
  exact ⟨BPost.none _ _, Vw4.out⟩
set_option maxHeartbeats 2000000 in
set_option maxRecDepth 100000 in
theorem bounds_e (R : Nat) (bs : List Nat) (st : RS) (hB : IsB bs) (hp : st.at' ≤ bs.length) (hl : bs.length ≤ 500) (w : World) (H : Rd w R bs st) (n q : Nat) (hn : Rx.number bs st.at' = (n, true, q)) (h44 : Rx.isAt bs q 44 = true) (hi : Rx.isNext bs (q + 1) [125] = false) (m q2 : Nat) (hn2 : Rx.number bs (q + 1) = (m, true, q2)) (hlt : ¬ n ≤ m) :
    Calls Tryd.prog 62 #[.pointer (some ⟨R, 0, none⟩)] w fun e w' => BPost none e ∧ Went w w' R bs (st.to q2) := by
  have C1 := Lib.hid (number_went R bs st hB hp hl n true q hn w H)
  have hq : q ≤ bs.length := by have := number_le bs st.at' hp; rw [hn] at this; exact this
  have hq1 : q + 1 ≤ bs.length := isAt_lt h44
  have C2 := Lib.hid (fun w H => sign_yes R bs (st.to q) 44 hB (by decide) h44 hl w H)
  have C3 := Lib.hid (fun w H => isNext_any R bs (st.to (q + 1)) [125] hB (by unfold IsB; decide) hq1 hl w H)
  rw [show (st.to (q + 1)).at' = q + 1 from rfl, hi] at C3
  have C5 := Lib.hid (fun w H => number_went R bs (st.to (q + 1)) hB hq1 hl m true q2 hn2 w H)
  have hq2 : q2 ≤ bs.length := by have := number_le bs (q + 1) hq1; rw [hn2] at this; exact this
  have hd : decide (m < n) = true := by simp; omega
  clear h44 hi hn2
  clear hn
  go_enter Tryd.func62, Tryd.ntmps62
  go_wp2_with fail
  refine C1.out.mono ?_
  rintro e w1 ⟨rfl, W1⟩
  have W1 := Lib.hid W1
  go_wp2_with fail
  refine (C2.out _ W1.out.rd).mono ?_
  rintro e w2 ⟨rfl, X⟩
  have Vw2 := Lib.hid (W1.out.trans X)
  clear X
  go_wp2_with fail
  refine (C3.out _ Vw2.out.rd).mono ?_
  rintro e w3 ⟨rfl, X⟩
  have Vw3 := Lib.hid (Vw2.out.below X)
  clear X
  go_wp2_with fail
  refine (C5.out _ Vw3.out.rd).mono ?_
  rintro e w4 ⟨rfl, X⟩
  have Vw4 := Lib.hid (Vw3.out.trans X)
  clear X
  go_wp2_with fail
  go_returns
  exact ⟨BPost.none _ _, Vw4.out⟩
set_option maxHeartbeats 2000000 in
set_option maxRecDepth 100000 in
theorem bounds_fy (R : Nat) (bs : List Nat) (st : RS) (hB : IsB bs) (hp : st.at' ≤ bs.length) (hl : bs.length ≤ 500) (w : World) (H : Rd w R bs st) (n q : Nat) (hn : Rx.number bs st.at' = (n, true, q)) (h44 : Rx.isAt bs q 44 = true) (hi : Rx.isNext bs (q + 1) [125] = false) (m q2 : Nat) (hn2 : Rx.number bs (q + 1) = (m, true, q2)) (hlt : n ≤ m) (h125 : Rx.isAt bs q2 125 = true) :
    Calls Tryd.prog 62 #[.pointer (some ⟨R, 0, none⟩)] w fun e w' => BPost (some (n, some m)) e ∧ Went w w' R bs (st.to (q2 + 1)) := by
  have C1 := Lib.hid (number_went R bs st hB hp hl n true q hn w H)
  have hq : q ≤ bs.length := by have := number_le bs st.at' hp; rw [hn] at this; exact this
  have hq1 : q + 1 ≤ bs.length := isAt_lt h44
  have C2 := Lib.hid (fun w H => sign_yes R bs (st.to q) 44 hB (by decide) h44 hl w H)
  have C3 := Lib.hid (fun w H => isNext_any R bs (st.to (q + 1)) [125] hB (by unfold IsB; decide) hq1 hl w H)
  rw [show (st.to (q + 1)).at' = q + 1 from rfl, hi] at C3
  have C5 := Lib.hid (fun w H => number_went R bs (st.to (q + 1)) hB hq1 hl m true q2 hn2 w H)
  have hq2 : q2 ≤ bs.length := by have := number_le bs (q + 1) hq1; rw [hn2] at this; exact this
  have C6 := Lib.hid (fun w H => sign_yes R bs (st.to q2) 125 hB (by decide) h125 hl w H)
  have hd : decide (m < n) = false := by simp; omega
  clear h44 hi hn2 h125
  clear hn
  go_enter Tryd.func62, Tryd.ntmps62
  go_wp2_with fail
  refine C1.out.mono ?_
  rintro e w1 ⟨rfl, W1⟩
  have W1 := Lib.hid W1
  go_wp2_with fail
  refine (C2.out _ W1.out.rd).mono ?_
  rintro e w2 ⟨rfl, X⟩
  have Vw2 := Lib.hid (W1.out.trans X)
  clear X
  go_wp2_with fail
  refine (C3.out _ Vw2.out.rd).mono ?_
  rintro e w3 ⟨rfl, X⟩
  have Vw3 := Lib.hid (Vw2.out.below X)
  clear X
  go_wp2_with fail
  refine (C5.out _ Vw3.out.rd).mono ?_
  rintro e w4 ⟨rfl, X⟩
  have Vw4 := Lib.hid (Vw3.out.trans X)
  clear X
  go_wp2_with fail
  refine (C6.out _ Vw4.out.rd).mono ?_
  rintro e w5 ⟨rfl, X⟩
  have Vw5 := Lib.hid (Vw4.out.trans X)
  clear X
  go_wp2_with fail
  go_returns
  exact ⟨BPost.some n (some m), Vw5.out⟩
set_option maxHeartbeats 2000000 in
set_option maxRecDepth 100000 in
theorem bounds_fn (R : Nat) (bs : List Nat) (st : RS) (hB : IsB bs) (hp : st.at' ≤ bs.length) (hl : bs.length ≤ 500) (w : World) (H : Rd w R bs st) (n q : Nat) (hn : Rx.number bs st.at' = (n, true, q)) (h44 : Rx.isAt bs q 44 = true) (hi : Rx.isNext bs (q + 1) [125] = false) (m q2 : Nat) (hn2 : Rx.number bs (q + 1) = (m, true, q2)) (hlt : n ≤ m) (h125 : Rx.isAt bs q2 125 = false) :
    Calls Tryd.prog 62 #[.pointer (some ⟨R, 0, none⟩)] w fun e w' => BPost none e ∧ Went w w' R bs (st.to q2) := by
  have C1 := Lib.hid (number_went R bs st hB hp hl n true q hn w H)
  have hq : q ≤ bs.length := by have := number_le bs st.at' hp; rw [hn] at this; exact this
  have hq1 : q + 1 ≤ bs.length := isAt_lt h44
  have C2 := Lib.hid (fun w H => sign_yes R bs (st.to q) 44 hB (by decide) h44 hl w H)
  have C3 := Lib.hid (fun w H => isNext_any R bs (st.to (q + 1)) [125] hB (by unfold IsB; decide) hq1 hl w H)
  rw [show (st.to (q + 1)).at' = q + 1 from rfl, hi] at C3
  have C5 := Lib.hid (fun w H => number_went R bs (st.to (q + 1)) hB hq1 hl m true q2 hn2 w H)
  have hq2 : q2 ≤ bs.length := by have := number_le bs (q + 1) hq1; rw [hn2] at this; exact this
  have C6 := Lib.hid (fun w H => sign_no R bs (st.to q2) 125 hB (by decide) h125 hq2 hl w H)
  have hd : decide (m < n) = false := by simp; omega
  clear h44 hi hn2 h125
  clear hn
  go_enter Tryd.func62, Tryd.ntmps62
  go_wp2_with fail
  refine C1.out.mono ?_
  rintro e w1 ⟨rfl, W1⟩
  have W1 := Lib.hid W1
  go_wp2_with fail
  refine (C2.out _ W1.out.rd).mono ?_
  rintro e w2 ⟨rfl, X⟩
  have Vw2 := Lib.hid (W1.out.trans X)
  clear X
  go_wp2_with fail
  refine (C3.out _ Vw2.out.rd).mono ?_
  rintro e w3 ⟨rfl, X⟩
  have Vw3 := Lib.hid (Vw2.out.below X)
  clear X
  go_wp2_with fail
  refine (C5.out _ Vw3.out.rd).mono ?_
  rintro e w4 ⟨rfl, X⟩
  have Vw4 := Lib.hid (Vw3.out.trans X)
  clear X
  go_wp2_with fail
  refine (C6.out _ Vw4.out.rd).mono ?_
  rintro e w5 ⟨rfl, X⟩
  have Vw5 := Lib.hid (Vw4.out.trans X)
  clear X
  go_wp2_with fail
  go_returns
  exact ⟨BPost.none _ _, Vw5.out⟩
theorem bounds_any (R : Nat) (bs : List Nat) (st : RS) (hB : IsB bs) (hp : st.at' ≤ bs.length) (hl : bs.length ≤ 500) (w : World) (H : Rd w R bs st) :
    Calls Tryd.prog 62 #[.pointer (some ⟨R, 0, none⟩)] w fun e w' => BPost (Rx.bounds bs st.at').1 e ∧ Went w w' R bs (st.to (Rx.bounds bs st.at').2) := by
  rcases hn : Rx.number bs st.at' with ⟨n, b, q⟩
  unfold Rx.bounds
  rw [hn]
  cases b with
  | false => exact bounds_a R bs st hB hp hl w H n q hn
  | true =>
    simp only [if_true]
    cases h44 : Rx.isAt bs q 44 with
    | false =>
      simp only [Bool.false_eq_true, if_false]
      unfold Rx.boundsEnd
      cases h125 : Rx.isAt bs q 125 with
      | true => simp only [if_true]; exact bounds_by R bs st hB hp hl w H n q hn h44 h125
      | false => simp only [Bool.false_eq_true, if_false]; exact bounds_bn R bs st hB hp hl w H n q hn h44 h125
    | true =>
      simp only [if_true]
      unfold Rx.bounds2
      cases hi : Rx.isNext bs (q + 1) [125] with
      | true =>
        simp only [if_true]
        unfold Rx.boundsEnd
        cases h125 : Rx.isAt bs (q + 1) 125 with
        | true => simp only [if_true]; exact bounds_cy R bs st hB hp hl w H n q hn h44 hi h125
        | false => simp only [Bool.false_eq_true, if_false]; exact bounds_cn R bs st hB hp hl w H n q hn h44 hi h125
      | false =>
        simp only [Bool.false_eq_true, if_false]
        rcases hn2 : Rx.number bs (q + 1) with ⟨m, b2, q2⟩
        cases b2 with
        | false => exact bounds_d R bs st hB hp hl w H n q hn h44 hi m q2 hn2
        | true =>
          by_cases hlt : n ≤ m
          · simp only [decide_eq_true hlt, Bool.and_self, if_true]
            unfold Rx.boundsEnd
            cases h125 : Rx.isAt bs q2 125 with
            | true => simp only [if_true]; exact bounds_fy R bs st hB hp hl w H n q hn h44 hi m q2 hn2 hlt h125
            | false => simp only [Bool.false_eq_true, if_false]; exact bounds_fn R bs st hB hp hl w H n q hn h44 hi m q2 hn2 hlt h125
          · simp only [decide_eq_false hlt, Bool.and_false, Bool.false_eq_true, if_false]
            exact bounds_e R bs st hB hp hl w H n q hn h44 hi m q2 hn2 hlt
end Go.Proofs.YtphighddlfabbaaDoor
namespace Go.Proofs.YtphighddlfabbaaDoor
set_option linter.unusedVariables false
set_option linter.unusedSimpArgs false
open Go.RowKit Go.PlainAid Go.Shelf
open Rx (Set4 RS)
theorem results_cell_tmp {P : Program} {fn : Func} {p q : Tmp} {ty : TypeId} (h : fn.results = #[.cell p ty, .tmp q]) (tmps : Array Value) (w : World) (g : Nat) (t : TypeId) (cs : Array Value) (fr : Nat × Nat) (d : TypeDesc)
    (hp : tmps.getD p undef = .pointer (some ⟨g, 0, none⟩)) (hg : w.heap[g]? = some (.cells cs t fr))
    (hu : P.underlying ty = some d) (hd : (match d with | .struct _ | .array _ _ => true | _ => false) = true) (hi : (P.info? ty).map (·.size) = some cs.size) :
    (results fn tmps).run P w = .ok (.tuple #[.agg cs, tmps.getD q undef]) w := by
  have hp' : tmps[p]?.getD undef = .pointer (some ⟨g, 0, none⟩) := by simpa using hp
  simp [results, h, hp', asAddr, run_loadVar_row w g t ty cs fr d hg hu hd hi]
theorem only_setRow {S : List Nat} {a b : World} (h : Only S a b) {g : Nat} (hg : a.heap.size ≤ g) (cs : Array Value) : Only S a (b.setRow g cs) := by
  have hB := below_setRow (B := a.heap.size) (g := g) (Below.refl _ b) hg cs
  exact ⟨hB.os.trans h.os, hB.tape.trans h.tape, hB.output.trans h.output, Nat.le_trans h.size hB.size, fun k hk hn => (hB.block k hk).trans (h.block k hk hn)⟩
theorem Went.setRow {w w1 : World} {R : Nat} {bs : List Nat} {st : RS} (h : Went w w1 R bs st) (hR : R < w.heap.size) {g : Nat} (hg : w.heap.size ≤ g) (cs : Array Value) : Went w (w1.setRow g cs) R bs st := by
  have hB := below_setRow (B := w.heap.size) (g := g) (Below.refl _ w1) hg cs
  exact ⟨(hB.block R hR).trans h.rd, only_setRow h.only hg cs⟩
theorem Went.of_alloc {w w1 : World} {o : Obj} {R : Nat} {bs : List Nat} {st : RS} (h : Went (w.alloc o) w1 R bs st) : Went w w1 R bs st :=
  ⟨h.rd, (Only.of_below ((Below.refl _ w).alloc (Nat.le_refl _) o) [R]).trans h.only (fun x hx => .inl hx)⟩
theorem Went.alloc {w w1 : World} {R : Nat} {bs : List Nat} {st : RS} (h : Went w w1 R bs st) (o : Obj) : Went w (w1.alloc o) R bs st := h.below ((Below.refl _ _).alloc (Nat.le_refl _) o)
theorem Went.to {w w1 : World} {R : Nat} {bs : List Nat} {st : RS} (h : Went w w1 R bs st) (p : Nat) : Went w (w1.setCell ⟨R, 1, none⟩ (.int .i64 ((p : Nat) : Int))) R bs (st.to p) := ⟨h.rd.set1 p, only_trans h.only (only_set 1 _)⟩
theorem Went.drewN {w w1 : World} {R : Nat} {bs : List Nat} {st : RS} (h : Went w w1 R bs st) (n : Nat) : Went w (w1.drewN n) R bs st := ⟨h.rd, h.only.drewN n⟩
/-- a result: a set, or none -/
def setRes (r : Option Set4) : Value := .tuple #[setV (r.getD Set4.none), .bool r.isSome]
theorem isNone_iff (x : Set4) : x.isNone = true ↔ x = Set4.none := by
  cases x with
  | mk a b c d =>
    unfold Set4.isNone Set4.none
    simp [Bool.and_eq_true, and_assoc]
theorem cmp_none (a b c d : Nat) (w : World) : (Op.equalIn 10000 65 (.agg #[.int .u64 ((a : Nat) : Int), .int .u64 ((b : Nat) : Int), .int .u64 ((c : Nat) : Int), .int .u64 ((d : Nat) : Int)]) (.agg #[.int .u64 0, .int .u64 0, .int .u64 0, .int .u64 0])).run Tryd.prog w = .ok (Set4.isNone ⟨a, b, c, d⟩) w := by
  rcases a with _ | a <;> rcases b with _ | b <;> rcases c with _ | c <;> rcases d with _ | d <;> kernel_rfl
theorem pe_ok (bs : List Nat) (e : Bool) (p : Nat) : ∀ x, (Rx.peEnd bs e p).1 = some x → x.Ok := by
  intro x h
  unfold Rx.peEnd at h
  split at h
  · cases h
  · cases e
    · simp only [Bool.false_eq_true, if_false] at h
      split at h
      · cases h
      · cases h; exact only_ok _
    · simp only [if_true] at h
      split at h
      · cases h
      · cases h; exact meaning_ok _
theorem poe_ok (bs : List Nat) (p : Nat) : ∀ x, (Rx.plainOrEscape bs p).1 = some x → x.Ok := by
  intro x h
  unfold Rx.plainOrEscape at h
  split at h
  · exact pe_ok _ _ _ x h
  · exact pe_ok _ _ _ x h
theorem pe_le (bs : List Nat) (e : Bool) (p : Nat) (h : p ≤ bs.length) : (Rx.peEnd bs e p).2 ≤ bs.length := by
  unfold Rx.peEnd
  split
  · exact h
  · rename_i c hc
    have hlt := (List.getElem?_eq_some_iff.1 hc).1
    cases e
    · simp only [Bool.false_eq_true, if_false]
      split
      · exact h
      · exact hlt
    · simp only [if_true]
      split
      · exact h
      · exact hlt
theorem poe_le (bs : List Nat) (p : Nat) (h : p ≤ bs.length) : (Rx.plainOrEscape bs p).2 ≤ bs.length := by
  unfold Rx.plainOrEscape
  split
  · rename_i k; exact pe_le _ _ _ (isAt_lt k)
  · exact pe_le _ _ _ h
theorem item_ok (bs : List Nat) (p : Nat) : ∀ x, (Rx.item bs p).1 = some x → x.Ok := by
  intro x h
  unfold Rx.item at h
  split at h
  · cases h
  · exact poe_ok _ _ x h
theorem item_le (bs : List Nat) (p : Nat) (h : p ≤ bs.length) : (Rx.item bs p).2 ≤ bs.length := by
  unfold Rx.item
  split
  · exact h
  · exact poe_le _ _ h
-- GEN
set_option maxHeartbeats 4000000 in
set_option maxRecDepth 100000 in
theorem pen_end (R : Nat) (bs : List Nat) (st : RS) (hB : IsB bs) (hp : st.at' ≤ bs.length) (hl : bs.length ≤ 500) (w : World) (H : Rd w R bs st) (p : Nat) (hpp : st.at' = p) (hpl : p ≤ bs.length) (h92 : Rx.isAt bs st.at' 92 = false) (hend : bs.length ≤ p) :
    Calls Tryd.prog 60 #[.pointer (some ⟨R, 0, none⟩)] w fun e w' => e = .returned (setRes none) ∧ Went w w' R bs (st.to p) := by
  have HL := Lib.hid (laid_none w)
  have HZ := Lib.hid (fun X => show (setC Set4.none).size = (setC X).size from rfl)
  have HO := Lib.hid setC_one
  have HRW := Lib.hid H.lt
  have HR0 := Lib.hid (fun o => H.stay ((Below.refl _ w).alloc (Nat.le_refl _) o))
  have CR := Lib.hid (fun w H => rest_any R bs (st.to p) hpl hl w H)
  rw [show (st.to p).at' = p from rfl] at CR
  have C1 := Lib.hid (fun w H => sign_no R bs st 92 hB (by decide) h92 hp hl w H)
  rw [show st = st.to p by rw [← hpp]; rfl] at C1 HR0
  have he : (strOf (bs.drop p)).toList.isEmpty = true := by rw [empty_of, List.length_drop]; simp; omega
  obtain ⟨D, hD⟩ : ∃ D, strOf (bs.drop p) = D := ⟨_, rfl⟩
  rw [hD] at CR he
  clear hD hpp h92 hB H
  go_enter Tryd.func60, Tryd.ntmps60
  go_wp2_with fail
  refine (C1.out _ (HR0.out _)).mono ?_
  rintro e w1 ⟨rfl, X⟩
  have h1 := (X.only.block w.heap.size (by simp) (by have := HRW.out; simp; omega)).trans HL.out
  have z1 : w.heap.size < w1.heap.size := by have := X.only.size; simp at this; omega
  have W1 := Lib.hid (Went.of_alloc X)
  clear X
  go_wp2_with fail
  refine (CR.out _ W1.out.rd).mono ?_
  rintro e w2 ⟨rfl, hb⟩
  have W2 := Lib.hid (W1.out.below hb)
  have h2 := (hb.block w.heap.size z1).trans h1
  have z2 : w.heap.size < w2.heap.size := Nat.lt_of_lt_of_le z1 hb.size
  clear hb h1
  have hn := setRow_heap w2 w.heap.size (setC Set4.none) (setC Set4.none) 65 (0, 0) h2
  go_wp2_with (refine wpList_store_row rfl 65 (.tmp 2) (.tmp 11) rfl w.heap.size (setC Set4.none) rfl rfl 65 (setC Set4.none) h2 (by kernel_rfl) (HZ.out Set4.none) (HO.out Set4.none) ?_)
  refine bodyPost_ret (v := .tuple #[.agg (setC Set4.none), .bool false]) ?_ ?_ ?_
  · exact results_cell_tmp (p := 2) (q := 3) rfl _ _ w.heap.size 65 (setC Set4.none) (0, 0) _ rfl hn Tryd.underlying65 rfl (by kernel_rfl)
  · rfl
  · exact ⟨rfl, Went.setRow W2.out HRW.out (Nat.le_refl _) (setC Set4.none)⟩
set_option maxHeartbeats 4000000 in
set_option maxRecDepth 100000 in
theorem pen_some (R : Nat) (bs : List Nat) (st : RS) (hB : IsB bs) (hp : st.at' ≤ bs.length) (hl : bs.length ≤ 500) (w : World) (H : Rd w R bs st) (p : Nat) (hpp : st.at' = p) (hpl : p ≤ bs.length) (h92 : Rx.isAt bs st.at' 92 = false) (c : Nat) (hc : bs[p]? = some c) (hb : (Set4.only c).isNone = false) :
    Calls Tryd.prog 60 #[.pointer (some ⟨R, 0, none⟩)] w fun e w' => e = .returned (setRes (some (Set4.only c))) ∧ Went w w' R bs (st.to (p + 1)) := by
  have HL := Lib.hid (laid_none w)
  have HZ := Lib.hid (fun X => show (setC Set4.none).size = (setC X).size from rfl)
  have HO := Lib.hid setC_one
  have HRW := Lib.hid H.lt
  have HR0 := Lib.hid (fun o => H.stay ((Below.refl _ w).alloc (Nat.le_refl _) o))
  have CR := Lib.hid (fun w H => rest_any R bs (st.to p) hpl hl w H)
  rw [show (st.to p).at' = p from rfl] at CR
  have C1 := Lib.hid (fun w H => sign_no R bs st 92 hB (by decide) h92 hp hl w H)
  rw [show st = st.to p by rw [← hpp]; rfl] at C1 HR0
  have hplt : p < bs.length := (List.getElem?_eq_some_iff.1 hc).1
  have hcv : bs[p] = c := (List.getElem?_eq_some_iff.1 hc).2
  have hc256 : c < 256 := by rw [← hcv]; exact hB.at p hplt
  have hds : 0 < (bs.drop p).length := by rw [List.length_drop]; omega
  have hb0 := strOf_bt (bs.drop p) (isB_drop hB _) 0 hds
  rw [show (bs.drop p)[0] = c by rw [List.getElem_drop, ← hcv]; rfl] at hb0
  have hbt := get_bt (strOf (bs.drop p))
  have hDl : (strOf (bs.drop p)).size = bs.length - p := by rw [strOf_size, List.length_drop]
  have he : (strOf (bs.drop p)).toList.isEmpty = false := by rw [empty_of]; simp; omega
  have CO := Lib.hid (fun w => only_any c hc256 w)
  have CM := Lib.hid (fun w => meaning_any c hc256 w)
  obtain ⟨Y, hY⟩ : ∃ Y, Set4.only c = Y := ⟨_, rfl⟩
  obtain ⟨M, hM⟩ : ∃ M, Rx.meaning c = M := ⟨_, rfl⟩
  obtain ⟨D, hD⟩ : ∃ D, strOf (bs.drop p) = D := ⟨_, rfl⟩
  rw [hD] at CR he hb0 hbt hDl
  have hs0 : 0 < D.size := by omega
  rw [hY] at CO
  rw [hM] at CM
  rw [hY] at hb ⊢
  rw [setV_eq] at CO CM
  have hcmp := fun w => cmp_none Y.a Y.b Y.c Y.d w
  rw [show Set4.isNone ⟨Y.a, Y.b, Y.c, Y.d⟩ = false from hb] at hcmp
  have HCMP := Lib.hid hcmp
  have HCMP2 := Lib.hid (show ∀ w, (Op.equalIn 10000 65 (.agg (setC Y)) (.agg #[.int .u64 0, .int .u64 0, .int .u64 0, .int .u64 0])).run Tryd.prog w = .ok false w from hcmp)
  clear hcmp
  have HPL := Lib.hid hplt
  have e1 : ((p : Int) + 1) = ((p + 1 : Nat) : Int) := by omega
  have E1 := Lib.hid e1
  clear hD hpp h92 H hc hcv hDl hds hb hY hM e1
  go_enter Tryd.func60, Tryd.ntmps60
  go_wp2_with fail
  refine (C1.out _ (HR0.out _)).mono ?_
  rintro e w1 ⟨rfl, X⟩
  have h1 := (X.only.block w.heap.size (by simp) (by have := HRW.out; simp; omega)).trans HL.out
  have z1 : w.heap.size < w1.heap.size := by have := X.only.size; simp at this; omega
  have W1 := Lib.hid (Went.of_alloc X)
  clear X
  go_wp2_with fail
  refine (CR.out _ W1.out.rd).mono ?_
  rintro e w2 ⟨rfl, hb⟩
  have W2 := Lib.hid (W1.out.below hb)
  have h2 := (hb.block w.heap.size z1).trans h1
  have z2 : w.heap.size < w2.heap.size := Nat.lt_of_lt_of_le z1 hb.size
  clear hb h1
  go_wp2_with fail
  refine (CR.out _ W2.out.rd).mono ?_
  rintro e w3 ⟨rfl, hb⟩
  have W3 := Lib.hid (W2.out.below hb)
  have h3 := (hb.block w.heap.size z2).trans h2
  have z3 : w.heap.size < w3.heap.size := Nat.lt_of_lt_of_le z2 hb.size
  clear hb h2
  go_wp2_with fail
  refine (CO.out _).mono ?_
  rintro e w4 ⟨rfl, hb⟩
  have W4 := Lib.hid (W3.out.below hb)
  have h4 := (hb.block w.heap.size z3).trans h3
  have z4 : w.heap.size < w4.heap.size := Nat.lt_of_lt_of_le z3 hb.size
  clear hb h3
  have c1 := W4.out.rd.c1
  rw [show (st.to p).at' = p from rfl] at c1
  have f1 := W4.out.rd.fz 1
  have hRl := W4.out.rd.lt
  have c1' := (((Below.refl _ w4).alloc (Nat.le_refl _) (.cells #[.int .u64 ((Y.a : Nat) : Int), .int .u64 ((Y.b : Nat) : Int), .int .u64 ((Y.c : Nat) : Int), .int .u64 ((Y.d : Nat) : Int)] 65)).cell (p := ⟨R, 1, none⟩) hRl).trans c1
  have f1' := (((Below.refl _ w4).alloc (Nat.le_refl _) (.cells #[.int .u64 ((Y.a : Nat) : Int), .int .u64 ((Y.b : Nat) : Int), .int .u64 ((Y.c : Nat) : Int), .int .u64 ((Y.d : Nat) : Int)] 65)).frozen (p := ⟨R, 1, none⟩) hRl).trans f1
  have W5 := W4.out.to (p + 1)
  rw [← E1.out] at W5
  have hne : w.heap.size ≠ R := by have := HRW.out; omega
  have h4' := (show (w4.setCell ⟨R, 1, none⟩ (.int .i64 ((p : Int) + 1))).heap[w.heap.size]? = w4.heap[w.heap.size]? from heap_setCell_other _ _ _ _ (by first | exact hne | exact fun h => hne h.symm)).trans h4
  have h5 := (((Below.refl _ (w4.setCell ⟨R, 1, none⟩ (.int .i64 ((p : Int) + 1)))).alloc (Nat.le_refl _) (.cells #[.int .u64 ((Y.a : Nat) : Int), .int .u64 ((Y.b : Nat) : Int), .int .u64 ((Y.c : Nat) : Int), .int .u64 ((Y.d : Nat) : Int)] 65)).block w.heap.size (by simp; exact z4)).trans h4'
  have hcmp := HCMP.out
  have hn := setRow_heap ((w4.setCell ⟨R, 1, none⟩ (.int .i64 ((p : Int) + 1))).alloc (.cells #[.int .u64 ((Y.a : Nat) : Int), .int .u64 ((Y.b : Nat) : Int), .int .u64 ((Y.c : Nat) : Int), .int .u64 ((Y.d : Nat) : Int)] 65)) w.heap.size (setC Set4.none) (setC Y) 65 (0, 0) h5
  have W5 := Lib.hid (W5.alloc (.cells #[.int .u64 ((Y.a : Nat) : Int), .int .u64 ((Y.b : Nat) : Int), .int .u64 ((Y.c : Nat) : Int), .int .u64 ((Y.d : Nat) : Int)] 65))
  clear hne h4' h4
  go_wp2_with (refine wpList_store_row rfl 65 (.tmp 2) (.tmp 32) rfl w.heap.size (setC Y) rfl rfl 65 (setC Set4.none) h5 (by kernel_rfl) (HZ.out Y) (HO.out Y) ?_)
  refine bodyPost_ret (v := .tuple #[.agg (setC Y), .bool true]) ?_ ?_ ?_
  · exact results_cell_tmp (p := 2) (q := 3) rfl _ _ w.heap.size 65 (setC Y) (0, 0) _ rfl hn Tryd.underlying65 rfl (by kernel_rfl)
  · rfl
  · exact ⟨rfl, Went.setRow W5.out HRW.out (Nat.le_refl _) (setC Y)⟩
set_option maxHeartbeats 4000000 in
set_option maxRecDepth 100000 in
theorem pen_none (R : Nat) (bs : List Nat) (st : RS) (hB : IsB bs) (hp : st.at' ≤ bs.length) (hl : bs.length ≤ 500) (w : World) (H : Rd w R bs st) (p : Nat) (hpp : st.at' = p) (hpl : p ≤ bs.length) (h92 : Rx.isAt bs st.at' 92 = false) (c : Nat) (hc : bs[p]? = some c) (hb : (Set4.only c).isNone = true) :
    Calls Tryd.prog 60 #[.pointer (some ⟨R, 0, none⟩)] w fun e w' => e = .returned (setRes none) ∧ Went w w' R bs (st.to p) := by
  have HL := Lib.hid (laid_none w)
  have HZ := Lib.hid (fun X => show (setC Set4.none).size = (setC X).size from rfl)
  have HO := Lib.hid setC_one
  have HRW := Lib.hid H.lt
  have HR0 := Lib.hid (fun o => H.stay ((Below.refl _ w).alloc (Nat.le_refl _) o))
  have CR := Lib.hid (fun w H => rest_any R bs (st.to p) hpl hl w H)
  rw [show (st.to p).at' = p from rfl] at CR
  have C1 := Lib.hid (fun w H => sign_no R bs st 92 hB (by decide) h92 hp hl w H)
  rw [show st = st.to p by rw [← hpp]; rfl] at C1 HR0
  have hplt : p < bs.length := (List.getElem?_eq_some_iff.1 hc).1
  have hcv : bs[p] = c := (List.getElem?_eq_some_iff.1 hc).2
  have hc256 : c < 256 := by rw [← hcv]; exact hB.at p hplt
  have hds : 0 < (bs.drop p).length := by rw [List.length_drop]; omega
  have hb0 := strOf_bt (bs.drop p) (isB_drop hB _) 0 hds
  rw [show (bs.drop p)[0] = c by rw [List.getElem_drop, ← hcv]; rfl] at hb0
  have hbt := get_bt (strOf (bs.drop p))
  have hDl : (strOf (bs.drop p)).size = bs.length - p := by rw [strOf_size, List.length_drop]
  have he : (strOf (bs.drop p)).toList.isEmpty = false := by rw [empty_of]; simp; omega
  have CO := Lib.hid (fun w => only_any c hc256 w)
  have CM := Lib.hid (fun w => meaning_any c hc256 w)
  obtain ⟨Y, hY⟩ : ∃ Y, Set4.only c = Y := ⟨_, rfl⟩
  obtain ⟨M, hM⟩ : ∃ M, Rx.meaning c = M := ⟨_, rfl⟩
  obtain ⟨D, hD⟩ : ∃ D, strOf (bs.drop p) = D := ⟨_, rfl⟩
  rw [hD] at CR he hb0 hbt hDl
  have hs0 : 0 < D.size := by omega
  rw [hY] at CO
  rw [hM] at CM
  rw [hY] at hb
  rw [setV_eq] at CO CM
  have hcmp := fun w => cmp_none Y.a Y.b Y.c Y.d w
  rw [show Set4.isNone ⟨Y.a, Y.b, Y.c, Y.d⟩ = true from hb] at hcmp
  have HCMP := Lib.hid hcmp
  have HCMP2 := Lib.hid (show ∀ w, (Op.equalIn 10000 65 (.agg (setC Y)) (.agg #[.int .u64 0, .int .u64 0, .int .u64 0, .int .u64 0])).run Tryd.prog w = .ok true w from hcmp)
  clear hcmp
  have HPL := Lib.hid hplt
  have e1 : ((p : Int) + 1) = ((p + 1 : Nat) : Int) := by omega
  have E1 := Lib.hid e1
  clear hD hpp h92 H hc hcv hDl hds hb hY hM e1
  go_enter Tryd.func60, Tryd.ntmps60
  go_wp2_with fail
  refine (C1.out _ (HR0.out _)).mono ?_
  rintro e w1 ⟨rfl, X⟩
  have h1 := (X.only.block w.heap.size (by simp) (by have := HRW.out; simp; omega)).trans HL.out
  have z1 : w.heap.size < w1.heap.size := by have := X.only.size; simp at this; omega
  have W1 := Lib.hid (Went.of_alloc X)
  clear X
  go_wp2_with fail
  refine (CR.out _ W1.out.rd).mono ?_
  rintro e w2 ⟨rfl, hb⟩
  have W2 := Lib.hid (W1.out.below hb)
  have h2 := (hb.block w.heap.size z1).trans h1
  have z2 : w.heap.size < w2.heap.size := Nat.lt_of_lt_of_le z1 hb.size
  clear hb h1
  go_wp2_with fail
  refine (CR.out _ W2.out.rd).mono ?_
  rintro e w3 ⟨rfl, hb⟩
  have W3 := Lib.hid (W2.out.below hb)
  have h3 := (hb.block w.heap.size z2).trans h2
  have z3 : w.heap.size < w3.heap.size := Nat.lt_of_lt_of_le z2 hb.size
  clear hb h2
  go_wp2_with fail
  refine (CO.out _).mono ?_
  rintro e w4 ⟨rfl, hb⟩
  have W4 := Lib.hid (W3.out.below hb)
  have h4 := (hb.block w.heap.size z3).trans h3
  have z4 : w.heap.size < w4.heap.size := Nat.lt_of_lt_of_le z3 hb.size
  clear hb h3
  have h5 := (((Below.refl _ w4).alloc (Nat.le_refl _) (.cells #[.int .u64 ((Y.a : Nat) : Int), .int .u64 ((Y.b : Nat) : Int), .int .u64 ((Y.c : Nat) : Int), .int .u64 ((Y.d : Nat) : Int)] 65)).block w.heap.size z4).trans h4
  have hcmp := HCMP.out
  have hn := setRow_heap (w4.alloc (.cells #[.int .u64 ((Y.a : Nat) : Int), .int .u64 ((Y.b : Nat) : Int), .int .u64 ((Y.c : Nat) : Int), .int .u64 ((Y.d : Nat) : Int)] 65)) w.heap.size (setC Set4.none) (setC Set4.none) 65 (0, 0) h5
  go_wp2_with (refine wpList_store_row rfl 65 (.tmp 2) (.tmp 24) rfl w.heap.size (setC Set4.none) rfl rfl 65 (setC Set4.none) h5 (by kernel_rfl) (HZ.out Set4.none) (HO.out Set4.none) ?_)
  refine bodyPost_ret (v := .tuple #[.agg (setC Set4.none), .bool false]) ?_ ?_ ?_
  · exact results_cell_tmp (p := 2) (q := 3) rfl _ _ w.heap.size 65 (setC Set4.none) (0, 0) _ rfl hn Tryd.underlying65 rfl (by kernel_rfl)
  · rfl
  · exact ⟨rfl, Went.setRow (W4.out.alloc _) HRW.out (Nat.le_refl _) (setC Set4.none)⟩
set_option maxHeartbeats 4000000 in
set_option maxRecDepth 100000 in
theorem pey_end (R : Nat) (bs : List Nat) (st : RS) (hB : IsB bs) (hp : st.at' ≤ bs.length) (hl : bs.length ≤ 500) (w : World) (H : Rd w R bs st) (p : Nat) (hpp : (st.at' + 1) = p) (hpl : p ≤ bs.length) (h92 : Rx.isAt bs st.at' 92 = true) (hend : bs.length ≤ p) :
    Calls Tryd.prog 60 #[.pointer (some ⟨R, 0, none⟩)] w fun e w' => e = .returned (setRes none) ∧ Went w w' R bs (st.to p) := by
  have HL := Lib.hid (laid_none w)
  have HZ := Lib.hid (fun X => show (setC Set4.none).size = (setC X).size from rfl)
  have HO := Lib.hid setC_one
  have HRW := Lib.hid H.lt
  have HR0 := Lib.hid (fun o => H.stay ((Below.refl _ w).alloc (Nat.le_refl _) o))
  have CR := Lib.hid (fun w H => rest_any R bs (st.to p) hpl hl w H)
  rw [show (st.to p).at' = p from rfl] at CR
  have C1 := Lib.hid (fun w H => sign_yes R bs st 92 hB (by decide) h92 hl w H)
  rw [hpp] at C1
  have he : (strOf (bs.drop p)).toList.isEmpty = true := by rw [empty_of, List.length_drop]; simp; omega
  obtain ⟨D, hD⟩ : ∃ D, strOf (bs.drop p) = D := ⟨_, rfl⟩
  rw [hD] at CR he
  clear hD hpp h92 hB H
  go_enter Tryd.func60, Tryd.ntmps60
  go_wp2_with fail
  refine (C1.out _ (HR0.out _)).mono ?_
  rintro e w1 ⟨rfl, X⟩
  have h1 := (X.only.block w.heap.size (by simp) (by have := HRW.out; simp; omega)).trans HL.out
  have z1 : w.heap.size < w1.heap.size := by have := X.only.size; simp at this; omega
  have W1 := Lib.hid (Went.of_alloc X)
  clear X
  go_wp2_with fail
  refine (CR.out _ W1.out.rd).mono ?_
  rintro e w2 ⟨rfl, hb⟩
  have W2 := Lib.hid (W1.out.below hb)
  have h2 := (hb.block w.heap.size z1).trans h1
  have z2 : w.heap.size < w2.heap.size := Nat.lt_of_lt_of_le z1 hb.size
  clear hb h1
  have hn := setRow_heap w2 w.heap.size (setC Set4.none) (setC Set4.none) 65 (0, 0) h2
  go_wp2_with (refine wpList_store_row rfl 65 (.tmp 2) (.tmp 11) rfl w.heap.size (setC Set4.none) rfl rfl 65 (setC Set4.none) h2 (by kernel_rfl) (HZ.out Set4.none) (HO.out Set4.none) ?_)
  refine bodyPost_ret (v := .tuple #[.agg (setC Set4.none), .bool false]) ?_ ?_ ?_
  · exact results_cell_tmp (p := 2) (q := 3) rfl _ _ w.heap.size 65 (setC Set4.none) (0, 0) _ rfl hn Tryd.underlying65 rfl (by kernel_rfl)
  · rfl
  · exact ⟨rfl, Went.setRow W2.out HRW.out (Nat.le_refl _) (setC Set4.none)⟩
set_option maxHeartbeats 4000000 in
set_option maxRecDepth 100000 in
theorem pey_some (R : Nat) (bs : List Nat) (st : RS) (hB : IsB bs) (hp : st.at' ≤ bs.length) (hl : bs.length ≤ 500) (w : World) (H : Rd w R bs st) (p : Nat) (hpp : (st.at' + 1) = p) (hpl : p ≤ bs.length) (h92 : Rx.isAt bs st.at' 92 = true) (c : Nat) (hc : bs[p]? = some c) (hb : (Rx.meaning c).isNone = false) :
    Calls Tryd.prog 60 #[.pointer (some ⟨R, 0, none⟩)] w fun e w' => e = .returned (setRes (some (Rx.meaning c))) ∧ Went w w' R bs (st.to (p + 1)) := by
  have HL := Lib.hid (laid_none w)
  have HZ := Lib.hid (fun X => show (setC Set4.none).size = (setC X).size from rfl)
  have HO := Lib.hid setC_one
  have HRW := Lib.hid H.lt
  have HR0 := Lib.hid (fun o => H.stay ((Below.refl _ w).alloc (Nat.le_refl _) o))
  have CR := Lib.hid (fun w H => rest_any R bs (st.to p) hpl hl w H)
  rw [show (st.to p).at' = p from rfl] at CR
  have C1 := Lib.hid (fun w H => sign_yes R bs st 92 hB (by decide) h92 hl w H)
  rw [hpp] at C1
  have hplt : p < bs.length := (List.getElem?_eq_some_iff.1 hc).1
  have hcv : bs[p] = c := (List.getElem?_eq_some_iff.1 hc).2
  have hc256 : c < 256 := by rw [← hcv]; exact hB.at p hplt
  have hds : 0 < (bs.drop p).length := by rw [List.length_drop]; omega
  have hb0 := strOf_bt (bs.drop p) (isB_drop hB _) 0 hds
  rw [show (bs.drop p)[0] = c by rw [List.getElem_drop, ← hcv]; rfl] at hb0
  have hbt := get_bt (strOf (bs.drop p))
  have hDl : (strOf (bs.drop p)).size = bs.length - p := by rw [strOf_size, List.length_drop]
  have he : (strOf (bs.drop p)).toList.isEmpty = false := by rw [empty_of]; simp; omega
  have CO := Lib.hid (fun w => only_any c hc256 w)
  have CM := Lib.hid (fun w => meaning_any c hc256 w)
  obtain ⟨Y, hY⟩ : ∃ Y, Set4.only c = Y := ⟨_, rfl⟩
  obtain ⟨M, hM⟩ : ∃ M, Rx.meaning c = M := ⟨_, rfl⟩
  obtain ⟨D, hD⟩ : ∃ D, strOf (bs.drop p) = D := ⟨_, rfl⟩
  rw [hD] at CR he hb0 hbt hDl
  have hs0 : 0 < D.size := by omega
  rw [hY] at CO
  rw [hM] at CM
  rw [hM] at hb ⊢
  rw [setV_eq] at CO CM
  have hcmp := fun w => cmp_none M.a M.b M.c M.d w
  rw [show Set4.isNone ⟨M.a, M.b, M.c, M.d⟩ = false from hb] at hcmp
  have HCMP := Lib.hid hcmp
  have HCMP2 := Lib.hid (show ∀ w, (Op.equalIn 10000 65 (.agg (setC M)) (.agg #[.int .u64 0, .int .u64 0, .int .u64 0, .int .u64 0])).run Tryd.prog w = .ok false w from hcmp)
  clear hcmp
  have HPL := Lib.hid hplt
  have e1 : ((p : Int) + 1) = ((p + 1 : Nat) : Int) := by omega
  have E1 := Lib.hid e1
  clear hD hpp h92 H hc hcv hDl hds hb hY hM e1
  go_enter Tryd.func60, Tryd.ntmps60
  go_wp2_with fail
  refine (C1.out _ (HR0.out _)).mono ?_
  rintro e w1 ⟨rfl, X⟩
  have h1 := (X.only.block w.heap.size (by simp) (by have := HRW.out; simp; omega)).trans HL.out
  have z1 : w.heap.size < w1.heap.size := by have := X.only.size; simp at this; omega
  have W1 := Lib.hid (Went.of_alloc X)
  clear X
  go_wp2_with fail
  refine (CR.out _ W1.out.rd).mono ?_
  rintro e w2 ⟨rfl, hb⟩
  have W2 := Lib.hid (W1.out.below hb)
  have h2 := (hb.block w.heap.size z1).trans h1
  have z2 : w.heap.size < w2.heap.size := Nat.lt_of_lt_of_le z1 hb.size
  clear hb h1
  go_wp2_with fail
  refine (CR.out _ W2.out.rd).mono ?_
  rintro e w3 ⟨rfl, hb⟩
  have W3 := Lib.hid (W2.out.below hb)
  have h3 := (hb.block w.heap.size z2).trans h2
  have z3 : w.heap.size < w3.heap.size := Nat.lt_of_lt_of_le z2 hb.size
  clear hb h2
  go_wp2_with fail
  refine (CO.out _).mono ?_
  rintro e w4 ⟨rfl, hb⟩
  have W4 := Lib.hid (W3.out.below hb)
  have h4 := (hb.block w.heap.size z3).trans h3
  have z4 : w.heap.size < w4.heap.size := Nat.lt_of_lt_of_le z3 hb.size
  clear hb h3
  have HR4 := Lib.hid (fun o => (W4.out.alloc o))
  have h4a := Lib.hid (fun o => (((Below.refl _ w4).alloc (Nat.le_refl _) o).block w.heap.size z4).trans h4)
  have hx4 := Lib.hid (lay_set w4 Y)
  go_wp2_with fail
  refine (CR.out _ (HR4.out _).rd).mono ?_
  rintro e w5 ⟨rfl, hb⟩
  have W5 := Lib.hid ((HR4.out _).below hb)
  have h5 := (hb.block w.heap.size (by simp; omega)).trans (h4a.out _)
  have x5 := (hb.block w4.heap.size (by simp)).trans hx4.out
  have z5 : w4.heap.size < w5.heap.size := by have := hb.size; simp at this; omega
  clear hb h4
  go_wp2_with fail
  refine (CM.out _).mono ?_
  rintro e w6 ⟨rfl, hb⟩
  have W6 := Lib.hid (W5.out.below hb)
  have h6 := (hb.block w.heap.size (by omega)).trans h5
  have x6 := (hb.block w4.heap.size z5).trans x5
  have z6 : w4.heap.size < w6.heap.size := Nat.lt_of_lt_of_le z5 hb.size
  clear hb h5 x5
  have x7 := setRow_heap w6 w4.heap.size (setC Y) (setC M) 65 (0, 0) x6
  have W7 := Lib.hid (Went.setRow W6.out HRW.out (Nat.le_of_lt z4) (setC M))
  have h7 := ((below_setRow (B := w4.heap.size) (g := w4.heap.size) (Below.refl _ w6) (Nat.le_refl _) (setC M)).block w.heap.size z4).trans h6
  have hcmp := HCMP2.out
  have HX6 := Lib.hid x6
  clear h6 x6
  have c1 := W7.out.rd.c1
  rw [show (st.to p).at' = p from rfl] at c1
  have f1 := W7.out.rd.fz 1
  have W8 := W7.out.to (p + 1)
  rw [← E1.out] at W8
  have hne : w.heap.size ≠ R := by have := HRW.out; omega
  have hne4 : w4.heap.size ≠ R := by have := HRW.out; omega
  have x8 := (show ((w6.setRow w4.heap.size (setC M)).setCell ⟨R, 1, none⟩ (.int .i64 ((p : Int) + 1))).heap[w4.heap.size]? = (w6.setRow w4.heap.size (setC M)).heap[w4.heap.size]? from heap_setCell_other _ _ _ _ (by first | exact hne4 | exact fun h => hne4 h.symm)).trans x7
  have h8 := (show ((w6.setRow w4.heap.size (setC M)).setCell ⟨R, 1, none⟩ (.int .i64 ((p : Int) + 1))).heap[w.heap.size]? = (w6.setRow w4.heap.size (setC M)).heap[w.heap.size]? from heap_setCell_other _ _ _ _ (by first | exact hne | exact fun h => hne h.symm)).trans h7
  have hn := setRow_heap ((w6.setRow w4.heap.size (setC M)).setCell ⟨R, 1, none⟩ (.int .i64 ((p : Int) + 1))) w.heap.size (setC Set4.none) (setC M) 65 (0, 0) h8
  have W8 := Lib.hid W8
  clear hne hne4
  go_wp2_with (first | (refine wpList_store_row rfl 65 (.tmp 5) (.tmp 20) rfl w4.heap.size (setC M) rfl rfl 65 (setC Y) HX6.out (by kernel_rfl) rfl (HO.out M) ?_) | (refine wpList_load_row rfl 65 (.tmp 5) rfl w4.heap.size rfl 65 (setC M) (0, 0) _ x7 Tryd.underlying65 rfl (by kernel_rfl) ?_) | (refine wpList_load_row rfl 65 (.tmp 5) rfl w4.heap.size rfl 65 (setC M) (0, 0) _ x8 Tryd.underlying65 rfl (by kernel_rfl) ?_) | (refine wpList_store_row rfl 65 (.tmp 2) (.tmp 32) rfl w.heap.size (setC M) rfl rfl 65 (setC Set4.none) h8 (by kernel_rfl) (HZ.out M) (HO.out M) ?_))
  refine bodyPost_ret (v := .tuple #[.agg (setC M), .bool true]) ?_ ?_ ?_
  · exact results_cell_tmp (p := 2) (q := 3) rfl _ _ w.heap.size 65 (setC M) (0, 0) _ rfl hn Tryd.underlying65 rfl (by kernel_rfl)
  · rfl
  · exact ⟨rfl, Went.setRow W8.out HRW.out (Nat.le_refl _) (setC M)⟩
set_option maxHeartbeats 4000000 in
set_option maxRecDepth 100000 in
theorem pey_none (R : Nat) (bs : List Nat) (st : RS) (hB : IsB bs) (hp : st.at' ≤ bs.length) (hl : bs.length ≤ 500) (w : World) (H : Rd w R bs st) (p : Nat) (hpp : (st.at' + 1) = p) (hpl : p ≤ bs.length) (h92 : Rx.isAt bs st.at' 92 = true) (c : Nat) (hc : bs[p]? = some c) (hb : (Rx.meaning c).isNone = true) :
    Calls Tryd.prog 60 #[.pointer (some ⟨R, 0, none⟩)] w fun e w' => e = .returned (setRes none) ∧ Went w w' R bs (st.to p) := by
  have HL := Lib.hid (laid_none w)
  have HZ := Lib.hid (fun X => show (setC Set4.none).size = (setC X).size from rfl)
  have HO := Lib.hid setC_one
  have HRW := Lib.hid H.lt
  have HR0 := Lib.hid (fun o => H.stay ((Below.refl _ w).alloc (Nat.le_refl _) o))
  have CR := Lib.hid (fun w H => rest_any R bs (st.to p) hpl hl w H)
  rw [show (st.to p).at' = p from rfl] at CR
  have C1 := Lib.hid (fun w H => sign_yes R bs st 92 hB (by decide) h92 hl w H)
  rw [hpp] at C1
  have hplt : p < bs.length := (List.getElem?_eq_some_iff.1 hc).1
  have hcv : bs[p] = c := (List.getElem?_eq_some_iff.1 hc).2
  have hc256 : c < 256 := by rw [← hcv]; exact hB.at p hplt
  have hds : 0 < (bs.drop p).length := by rw [List.length_drop]; omega
  have hb0 := strOf_bt (bs.drop p) (isB_drop hB _) 0 hds
  rw [show (bs.drop p)[0] = c by rw [List.getElem_drop, ← hcv]; rfl] at hb0
  have hbt := get_bt (strOf (bs.drop p))
  have hDl : (strOf (bs.drop p)).size = bs.length - p := by rw [strOf_size, List.length_drop]
  have he : (strOf (bs.drop p)).toList.isEmpty = false := by rw [empty_of]; simp; omega
  have CO := Lib.hid (fun w => only_any c hc256 w)
  have CM := Lib.hid (fun w => meaning_any c hc256 w)
  obtain ⟨Y, hY⟩ : ∃ Y, Set4.only c = Y := ⟨_, rfl⟩
  obtain ⟨M, hM⟩ : ∃ M, Rx.meaning c = M := ⟨_, rfl⟩
  obtain ⟨D, hD⟩ : ∃ D, strOf (bs.drop p) = D := ⟨_, rfl⟩
  rw [hD] at CR he hb0 hbt hDl
  have hs0 : 0 < D.size := by omega
  rw [hY] at CO
  rw [hM] at CM
  rw [hM] at hb
  rw [setV_eq] at CO CM
  have hcmp := fun w => cmp_none M.a M.b M.c M.d w
  rw [show Set4.isNone ⟨M.a, M.b, M.c, M.d⟩ = true from hb] at hcmp
  have HCMP := Lib.hid hcmp
  have HCMP2 := Lib.hid (show ∀ w, (Op.equalIn 10000 65 (.agg (setC M)) (.agg #[.int .u64 0, .int .u64 0, .int .u64 0, .int .u64 0])).run Tryd.prog w = .ok true w from hcmp)
  clear hcmp
  have HPL := Lib.hid hplt
  have e1 : ((p : Int) + 1) = ((p + 1 : Nat) : Int) := by omega
  have E1 := Lib.hid e1
  clear hD hpp h92 H hc hcv hDl hds hb hY hM e1
  go_enter Tryd.func60, Tryd.ntmps60
  go_wp2_with fail
  refine (C1.out _ (HR0.out _)).mono ?_
  rintro e w1 ⟨rfl, X⟩
  have h1 := (X.only.block w.heap.size (by simp) (by have := HRW.out; simp; omega)).trans HL.out
  have z1 : w.heap.size < w1.heap.size := by have := X.only.size; simp at this; omega
  have W1 := Lib.hid (Went.of_alloc X)
  clear X
  go_wp2_with fail
  refine (CR.out _ W1.out.rd).mono ?_
  rintro e w2 ⟨rfl, hb⟩
  have W2 := Lib.hid (W1.out.below hb)
  have h2 := (hb.block w.heap.size z1).trans h1
  have z2 : w.heap.size < w2.heap.size := Nat.lt_of_lt_of_le z1 hb.size
  clear hb h1
  go_wp2_with fail
  refine (CR.out _ W2.out.rd).mono ?_
  rintro e w3 ⟨rfl, hb⟩
  have W3 := Lib.hid (W2.out.below hb)
  have h3 := (hb.block w.heap.size z2).trans h2
  have z3 : w.heap.size < w3.heap.size := Nat.lt_of_lt_of_le z2 hb.size
  clear hb h2
  go_wp2_with fail
  refine (CO.out _).mono ?_
  rintro e w4 ⟨rfl, hb⟩
  have W4 := Lib.hid (W3.out.below hb)
  have h4 := (hb.block w.heap.size z3).trans h3
  have z4 : w.heap.size < w4.heap.size := Nat.lt_of_lt_of_le z3 hb.size
  clear hb h3
  have HR4 := Lib.hid (fun o => (W4.out.alloc o))
  have h4a := Lib.hid (fun o => (((Below.refl _ w4).alloc (Nat.le_refl _) o).block w.heap.size z4).trans h4)
  have hx4 := Lib.hid (lay_set w4 Y)
  go_wp2_with fail
  refine (CR.out _ (HR4.out _).rd).mono ?_
  rintro e w5 ⟨rfl, hb⟩
  have W5 := Lib.hid ((HR4.out _).below hb)
  have h5 := (hb.block w.heap.size (by simp; omega)).trans (h4a.out _)
  have x5 := (hb.block w4.heap.size (by simp)).trans hx4.out
  have z5 : w4.heap.size < w5.heap.size := by have := hb.size; simp at this; omega
  clear hb h4
  go_wp2_with fail
  refine (CM.out _).mono ?_
  rintro e w6 ⟨rfl, hb⟩
  have W6 := Lib.hid (W5.out.below hb)
  have h6 := (hb.block w.heap.size (by omega)).trans h5
  have x6 := (hb.block w4.heap.size z5).trans x5
  have z6 : w4.heap.size < w6.heap.size := Nat.lt_of_lt_of_le z5 hb.size
  clear hb h5 x5
  have x7 := setRow_heap w6 w4.heap.size (setC Y) (setC M) 65 (0, 0) x6
  have W7 := Lib.hid (Went.setRow W6.out HRW.out (Nat.le_of_lt z4) (setC M))
  have h7 := ((below_setRow (B := w4.heap.size) (g := w4.heap.size) (Below.refl _ w6) (Nat.le_refl _) (setC M)).block w.heap.size z4).trans h6
  have hcmp := HCMP2.out
  have HX6 := Lib.hid x6
  clear h6 x6
  have hn := setRow_heap (w6.setRow w4.heap.size (setC M)) w.heap.size (setC Set4.none) (setC Set4.none) 65 (0, 0) h7
  go_wp2_with (first | (refine wpList_store_row rfl 65 (.tmp 5) (.tmp 20) rfl w4.heap.size (setC M) rfl rfl 65 (setC Y) HX6.out (by kernel_rfl) rfl (HO.out M) ?_) | (refine wpList_load_row rfl 65 (.tmp 5) rfl w4.heap.size rfl 65 (setC M) (0, 0) _ x7 Tryd.underlying65 rfl (by kernel_rfl) ?_) | (refine wpList_store_row rfl 65 (.tmp 2) (.tmp 24) rfl w.heap.size (setC Set4.none) rfl rfl 65 (setC Set4.none) h7 (by kernel_rfl) (HZ.out Set4.none) (HO.out Set4.none) ?_))
  refine bodyPost_ret (v := .tuple #[.agg (setC Set4.none), .bool false]) ?_ ?_ ?_
  · exact results_cell_tmp (p := 2) (q := 3) rfl _ _ w.heap.size 65 (setC Set4.none) (0, 0) _ rfl hn Tryd.underlying65 rfl (by kernel_rfl)
  · rfl
  · exact ⟨rfl, Went.setRow W7.out HRW.out (Nat.le_refl _) (setC Set4.none)⟩
theorem poe_any (R : Nat) (bs : List Nat) (st : RS) (hB : IsB bs) (hp : st.at' ≤ bs.length) (hl : bs.length ≤ 500) (w : World) (H : Rd w R bs st) :
    Calls Tryd.prog 60 #[.pointer (some ⟨R, 0, none⟩)] w fun e w' => e = .returned (setRes (Rx.plainOrEscape bs st.at').1) ∧ Went w w' R bs (st.to (Rx.plainOrEscape bs st.at').2) := by
  unfold Rx.plainOrEscape
  cases h92 : Rx.isAt bs st.at' 92 with
  | true =>
    simp only [if_true]
    unfold Rx.peEnd
    have hpl := isAt_lt h92
    rcases hc : bs[st.at' + 1]? with _ | c
    · exact pey_end R bs st hB hp hl w H (st.at' + 1) rfl hpl h92 (List.getElem?_eq_none_iff.1 hc)
    · simp only [if_true]
      cases hb : (Rx.meaning c).isNone with
      | true => simp only [if_true]; exact pey_none R bs st hB hp hl w H (st.at' + 1) rfl hpl h92 c hc hb
      | false => simp only [Bool.false_eq_true, if_false]; exact pey_some R bs st hB hp hl w H (st.at' + 1) rfl hpl h92 c hc hb
  | false =>
    simp only [Bool.false_eq_true, if_false]
    unfold Rx.peEnd
    rcases hc : bs[st.at']? with _ | c
    · exact pen_end R bs st hB hp hl w H st.at' rfl hp h92 (List.getElem?_eq_none_iff.1 hc)
    · simp only [Bool.false_eq_true, if_false]
      cases hb : (Set4.only c).isNone with
      | true => simp only [if_true]; exact pen_none R bs st hB hp hl w H st.at' rfl hp h92 c hc hb
      | false => simp only [Bool.false_eq_true, if_false]; exact pen_some R bs st hB hp hl w H st.at' rfl hp h92 c hc hb
set_option maxHeartbeats 4000000 in
set_option maxRecDepth 100000 in
theorem item_no (R : Nat) (bs : List Nat) (st : RS) (hB : IsB bs) (hp : st.at' ≤ bs.length) (hl : bs.length ≤ 500) (w : World) (H : Rd w R bs st) (hi : Rx.isNext bs st.at' [93] = true) :
    Calls Tryd.prog 75 #[.pointer (some ⟨R, 0, none⟩)] w fun e w' => e = .returned (setRes none) ∧ Went w w' R bs st := by
  have HL := Lib.hid (laid_none w)
  have HZ := Lib.hid (fun X => show (setC Set4.none).size = (setC X).size from rfl)
  have HO := Lib.hid setC_one
  have HRW := Lib.hid H.lt
  have HR0 := Lib.hid (fun o => H.stay ((Below.refl _ w).alloc (Nat.le_refl _) o))
  have CI := Lib.hid (fun w H => isNext_any R bs st [93] hB (by unfold IsB; decide) hp hl w H)
  rw [hi] at CI
  clear hi H
  go_enter Tryd.func75, Tryd.ntmps75
  go_wp2_with fail
  refine (CI.out _ (HR0.out _)).mono ?_
  rintro e w1 ⟨rfl, X⟩
  have h1 := (X.block w.heap.size (by simp)).trans HL.out
  have z1 : w.heap.size < w1.heap.size := by have := X.size; simp at this; omega
  have W1 := Lib.hid (Went.of_alloc (Went.below (Went.refl (HR0.out _)) X))
  clear X
  have hn := setRow_heap w1 w.heap.size (setC Set4.none) (setC Set4.none) 65 (0, 0) h1
  go_wp2_with (refine wpList_store_row rfl 65 (.tmp 2) (.tmp 6) rfl w.heap.size (setC Set4.none) rfl rfl 65 (setC Set4.none) h1 (by kernel_rfl) (HZ.out Set4.none) (HO.out Set4.none) ?_)
  refine bodyPost_ret (v := .tuple #[.agg (setC Set4.none), .bool false]) ?_ ?_ ?_
  · exact results_cell_tmp (p := 2) (q := 3) rfl _ _ w.heap.size 65 (setC Set4.none) (0, 0) _ rfl hn Tryd.underlying65 rfl (by kernel_rfl)
  · rfl
  · exact ⟨rfl, Went.setRow W1.out HRW.out (Nat.le_refl _) (setC Set4.none)⟩
set_option maxHeartbeats 4000000 in
set_option maxRecDepth 100000 in
theorem item_go (R : Nat) (bs : List Nat) (st : RS) (hB : IsB bs) (hp : st.at' ≤ bs.length) (hl : bs.length ≤ 500) (w : World) (H : Rd w R bs st) (hi : Rx.isNext bs st.at' [93] = false) (r : Option Set4) (q : Nat) (hr : Rx.plainOrEscape bs st.at' = (r, q)) :
    Calls Tryd.prog 75 #[.pointer (some ⟨R, 0, none⟩)] w fun e w' => e = .returned (setRes r) ∧ Went w w' R bs (st.to q) := by
  have HL := Lib.hid (laid_none w)
  have HZ := Lib.hid (fun X => show (setC Set4.none).size = (setC X).size from rfl)
  have HO := Lib.hid setC_one
  have HRW := Lib.hid H.lt
  have HR0 := Lib.hid (fun o => H.stay ((Below.refl _ w).alloc (Nat.le_refl _) o))
  have CI := Lib.hid (fun w H => isNext_any R bs st [93] hB (by unfold IsB; decide) hp hl w H)
  rw [hi] at CI
  have CP := Lib.hid (fun w H => poe_any R bs st hB hp hl w H)
  rw [hr] at CP
  unfold setRes at CP ⊢
  obtain ⟨X, hX⟩ : ∃ X, r.getD Set4.none = X := ⟨_, rfl⟩
  obtain ⟨b, hb⟩ : ∃ b, r.isSome = b := ⟨_, rfl⟩
  rw [hX, hb] at CP ⊢
  unfold setV at CP ⊢
  clear hX hb hr
  clear hi H
  go_enter Tryd.func75, Tryd.ntmps75
  go_wp2_with fail
  refine (CI.out _ (HR0.out _)).mono ?_
  rintro e w1 ⟨rfl, X⟩
  have h1 := (X.block w.heap.size (by simp)).trans HL.out
  have z1 : w.heap.size < w1.heap.size := by have := X.size; simp at this; omega
  have W1 := Lib.hid (Went.of_alloc (Went.below (Went.refl (HR0.out _)) X))
  clear X
  go_wp2_with fail
  refine (CP.out _ W1.out.rd).mono ?_
  rintro e w2 ⟨rfl, Y⟩
  have h2 := (Y.only.block w.heap.size z1 (by have := HRW.out; simp; omega)).trans h1
  have W2 := Lib.hid (W1.out.trans Y)
  have hn := setRow_heap w2 w.heap.size (setC Set4.none) (setC X) 65 (0, 0) h2
  clear Y h1
  go_wp2_with (refine wpList_store_row rfl 65 (.tmp 2) (.tmp 9) rfl w.heap.size (setC X) rfl rfl 65 (setC Set4.none) h2 (by kernel_rfl) (HZ.out X) (HO.out X) ?_)
  refine bodyPost_ret (v := .tuple #[.agg (setC X), .bool b]) ?_ ?_ ?_
  · exact results_cell_tmp (p := 2) (q := 3) rfl _ _ w.heap.size 65 (setC X) (0, 0) _ rfl hn Tryd.underlying65 rfl (by kernel_rfl)
  · rfl
  · exact ⟨rfl, Went.setRow W2.out HRW.out (Nat.le_refl _) (setC X)⟩
theorem item_any (R : Nat) (bs : List Nat) (st : RS) (hB : IsB bs) (hp : st.at' ≤ bs.length) (hl : bs.length ≤ 500) (w : World) (H : Rd w R bs st) :
    Calls Tryd.prog 75 #[.pointer (some ⟨R, 0, none⟩)] w fun e w' => e = .returned (setRes (Rx.item bs st.at').1) ∧ Went w w' R bs (st.to (Rx.item bs st.at').2) := by
  unfold Rx.item
  cases hi : Rx.isNext bs st.at' [93] with
  | true => simp only [if_true]; exact item_no R bs st hB hp hl w H hi
  | false => simp only [Bool.false_eq_true, if_false]; exact item_go R bs st hB hp hl w H hi _ _ rfl
set_option maxHeartbeats 4000000 in
set_option maxRecDepth 100000 in
theorem dash_any (R : Nat) (bs : List Nat) (st : RS) (hB : IsB bs) (hp : st.at' ≤ bs.length) (hl : bs.length ≤ 500) (w : World) (H : Rd w R bs st) : Calls Tryd.prog 73 #[.pointer (some ⟨R, 0, none⟩)] w (Gives w (.bool (Rx.dashBetween bs st.at'))) := by
  have CI := Lib.hid (fun w H => isNext_any R bs st [45] hB (by unfold IsB; decide) hp hl w H)
  have CR := Lib.hid (fun w H => rest_any R bs st hp hl w H)
  have CP := Lib.hid (fun w => prefix_any (bs.drop st.at') [45, 93] (isB_drop hB _) (by unfold IsB; decide) w)
  rw [prefix_two] at CP
  have HR := Lib.hid H
  unfold Rx.dashBetween
  obtain ⟨a, ha⟩ : ∃ a, Rx.isNext bs st.at' [45] = a := ⟨_, rfl⟩
  obtain ⟨b, hb⟩ : ∃ b, (Rx.isAt bs st.at' 45 && Rx.isAt bs (st.at' + 1) 93) = b := ⟨_, rfl⟩
  obtain ⟨D, hD⟩ : ∃ D, strOf (bs.drop st.at') = D := ⟨_, rfl⟩
  rw [ha] at CI ⊢
  rw [hb] at CP ⊢
  rw [hD] at CR CP
  clear ha hb hD H
  cases a with
  | true =>
    go_enter Tryd.func73, Tryd.ntmps73
    go_wp2_with fail
    refine (CI.out _ HR.out).mono ?_
    rintro e w1 ⟨rfl, X⟩
    have B1 := Lib.hid X
    have R1 := Lib.hid (HR.out.stay X)
    clear X
    go_wp2_with fail
    refine (CR.out _ R1.out).mono ?_
    rintro e w2 ⟨rfl, X⟩
    have B2 := Lib.hid (B1.out.trans (X.mono B1.out.size))
    clear X
    go_wp2_with fail
    refine (CP.out _).mono ?_
    rintro e w3 ⟨rfl, rfl⟩
    go_wp2
    go_ret
    exact ⟨rfl, B2.out⟩
  | false =>
    go_enter Tryd.func73, Tryd.ntmps73
    go_wp2_with fail
    refine (CI.out _ HR.out).mono ?_
    rintro e w1 ⟨rfl, X⟩
    have B1 := Lib.hid X
    clear X
    go_wp2
    go_ret
    exact ⟨rfl, B1.out⟩
theorem one_left (bs : List Nat) (p : Nat) (hB : IsB bs) : ((strOf (bs.drop p)).toList == [45]) = decide (bs.length = p + 1 ∧ Rx.isAt bs p 45 = true) := by
  rw [Lib.toList_data, strOf_list]
  unfold Rx.isAt
  have hl : (bs.drop p).length = bs.length - p := List.length_drop
  rw [← drop_head bs p]
  have hD := isB_drop hB p
  match hm : bs.drop p with
  | [] => rw [hm] at hl; simp
  | [x] =>
    rw [hm] at hl hD
    have hx : x < 256 := hD x (by simp)
    simp only [List.length_cons, List.length_nil] at hl
    by_cases e : x = 45
    · subst e; simp; omega
    · have : ¬ UInt8.ofNat x = 45 := fun h => e (ofNat_inj (b := 45) hx (by decide) h)
      simp [e, this]
  | x :: y :: zs =>
    rw [hm] at hl
    simp only [List.length_cons] at hl
    simp
    omega
set_option maxHeartbeats 4000000 in
set_option maxRecDepth 100000 in
theorem stray_y (R : Nat) (bs : List Nat) (st : RS) (hB : IsB bs) (hp : st.at' ≤ bs.length) (hl : bs.length ≤ 500) (w : World) (H : Rd w R bs st) (hs : decide (bs.length = st.at' + 1 ∧ Rx.isAt bs st.at' 45 = true) = true) :
    Calls Tryd.prog 74 #[.pointer (some ⟨R, 0, none⟩)] w fun e w' => e = .returned (setRes none) ∧ Went w w' R bs (st.to (st.at' + 1)) := by
  have HL := Lib.hid (laid_none w)
  have HZ := Lib.hid (fun X => show (setC Set4.none).size = (setC X).size from rfl)
  have HO := Lib.hid setC_one
  have HRW := Lib.hid H.lt
  have HR0 := Lib.hid (fun o => H.stay ((Below.refl _ w).alloc (Nat.le_refl _) o))
  have CR := Lib.hid (fun w H => rest_any R bs st hp hl w H)
  have ho := one_left bs st.at' hB
  rw [hs] at ho
  obtain ⟨D, hD⟩ : ∃ D, strOf (bs.drop st.at') = D := ⟨_, rfl⟩
  rw [hD] at CR ho
  obtain ⟨p, hpp⟩ : ∃ p, st.at' = p := ⟨_, rfl⟩
  have HPP := Lib.hid hpp
  have e1 : ((p : Int) + 1) = ((p + 1 : Nat) : Int) := by omega
  have E1 := Lib.hid e1
  have HPB := Lib.hid (show p ≤ 500 by omega)
  clear hs hD H hpp e1
  go_enter Tryd.func74, Tryd.ntmps74
  go_wp2_with fail
  refine (CR.out _ (HR0.out _)).mono ?_
  rintro e w1 ⟨rfl, X⟩
  have h1 := (X.block w.heap.size (by simp)).trans HL.out
  have z1 : w.heap.size < w1.heap.size := by have := X.size; simp at this; omega
  have W1 := Lib.hid (Went.of_alloc (Went.below (Went.refl (HR0.out _)) X))
  clear X
  have c1 := W1.out.rd.c1
  rw [HPP.out] at c1
  have f1 := W1.out.rd.fz 1
  have W2 := W1.out.to (p + 1)
  rw [← E1.out] at W2
  have hne : w.heap.size ≠ R := by have := HRW.out; omega
  have h2 := (show (w1.setCell ⟨R, 1, none⟩ (.int .i64 ((p : Int) + 1))).heap[w.heap.size]? = w1.heap[w.heap.size]? from heap_setCell_other _ _ _ _ (by first | exact hne | exact fun h => hne h.symm)).trans h1
  have hn := setRow_heap (w1.setCell ⟨R, 1, none⟩ (.int .i64 ((p : Int) + 1))) w.heap.size (setC Set4.none) (setC Set4.none) 65 (0, 0) h2
  have W2 := Lib.hid W2
  have hpb := HPB.out
  clear hne h1
  go_wp2_with (refine wpList_store_row rfl 65 (.tmp 2) (.tmp 14) rfl w.heap.size (setC Set4.none) rfl rfl 65 (setC Set4.none) h2 (by kernel_rfl) (HZ.out Set4.none) (HO.out Set4.none) ?_)
  refine bodyPost_ret (v := .tuple #[.agg (setC Set4.none), .bool false]) ?_ ?_ ?_
  · exact results_cell_tmp (p := 2) (q := 3) rfl _ _ w.heap.size 65 (setC Set4.none) (0, 0) _ rfl hn Tryd.underlying65 rfl (by kernel_rfl)
  · rfl
  · exact ⟨rfl, by rw [HPP.out]; exact Went.setRow W2.out HRW.out (Nat.le_refl _) (setC Set4.none)⟩
set_option maxHeartbeats 4000000 in
set_option maxRecDepth 100000 in
theorem stray_n (R : Nat) (bs : List Nat) (st : RS) (hB : IsB bs) (hp : st.at' ≤ bs.length) (hl : bs.length ≤ 500) (w : World) (H : Rd w R bs st) (hs : decide (bs.length = st.at' + 1 ∧ Rx.isAt bs st.at' 45 = true) = false) :
    Calls Tryd.prog 74 #[.pointer (some ⟨R, 0, none⟩)] w fun e w' => e = .returned (setRes none) ∧ Went w w' R bs st := by
  have HL := Lib.hid (laid_none w)
  have HZ := Lib.hid (fun X => show (setC Set4.none).size = (setC X).size from rfl)
  have HO := Lib.hid setC_one
  have HRW := Lib.hid H.lt
  have HR0 := Lib.hid (fun o => H.stay ((Below.refl _ w).alloc (Nat.le_refl _) o))
  have CR := Lib.hid (fun w H => rest_any R bs st hp hl w H)
  have ho := one_left bs st.at' hB
  rw [hs] at ho
  obtain ⟨D, hD⟩ : ∃ D, strOf (bs.drop st.at') = D := ⟨_, rfl⟩
  rw [hD] at CR ho
  obtain ⟨p, hpp⟩ : ∃ p, st.at' = p := ⟨_, rfl⟩
  have HPP := Lib.hid hpp
  have e1 : ((p : Int) + 1) = ((p + 1 : Nat) : Int) := by omega
  have E1 := Lib.hid e1
  have HPB := Lib.hid (show p ≤ 500 by omega)
  clear hs hD H hpp e1
  go_enter Tryd.func74, Tryd.ntmps74
  go_wp2_with fail
  refine (CR.out _ (HR0.out _)).mono ?_
  rintro e w1 ⟨rfl, X⟩
  have h1 := (X.block w.heap.size (by simp)).trans HL.out
  have z1 : w.heap.size < w1.heap.size := by have := X.size; simp at this; omega
  have W1 := Lib.hid (Went.of_alloc (Went.below (Went.refl (HR0.out _)) X))
  clear X
  have hn := setRow_heap w1 w.heap.size (setC Set4.none) (setC Set4.none) 65 (0, 0) h1
  go_wp2_with (refine wpList_store_row rfl 65 (.tmp 2) (.tmp 14) rfl w.heap.size (setC Set4.none) rfl rfl 65 (setC Set4.none) h1 (by kernel_rfl) (HZ.out Set4.none) (HO.out Set4.none) ?_)
  refine bodyPost_ret (v := .tuple #[.agg (setC Set4.none), .bool false]) ?_ ?_ ?_
  · exact results_cell_tmp (p := 2) (q := 3) rfl _ _ w.heap.size 65 (setC Set4.none) (0, 0) _ rfl hn Tryd.underlying65 rfl (by kernel_rfl)
  · rfl
  · exact ⟨rfl, Went.setRow W1.out HRW.out (Nat.le_refl _) (setC Set4.none)⟩
theorem stray_any (R : Nat) (bs : List Nat) (st : RS) (hB : IsB bs) (hp : st.at' ≤ bs.length) (hl : bs.length ≤ 500) (w : World) (H : Rd w R bs st) :
    Calls Tryd.prog 74 #[.pointer (some ⟨R, 0, none⟩)] w fun e w' => e = .returned (setRes none) ∧ Went w w' R bs (st.to (Rx.stray bs st.at')) := by
  unfold Rx.stray
  by_cases h : bs.length = st.at' + 1 ∧ Rx.isAt bs st.at' 45 = true
  · rw [if_pos h]; exact stray_y R bs st hB hp hl w H (decide_eq_true h)
  · rw [if_neg h]; exact stray_n R bs st hB hp hl w H (decide_eq_false h)
end Go.Proofs.YtphighddlfabbaaDoor
namespace Go.Proofs.YtphighddlfabbaaDoor
set_option linter.unusedVariables false
set_option linter.unusedSimpArgs false
open Go.RowKit Go.PlainAid
def kvV (k B : Nat) : Array Value := match k with
  | 1 => #[.int .u8 1, .string ⟨#[61]⟩, .func (.func 17) #[] #[]]
  | 2 => #[.int .u8 2, .string ⟨#[33, 61]⟩, .func (.func 22) #[] #[pt B]]
  | 3 => #[.int .u8 3, .string ⟨#[61, 126]⟩, .func (.func 19) #[] #[]]
  | 4 => #[.int .u8 4, .string ⟨#[33, 126]⟩, .func (.func 22) #[] #[pt (B + 1)]]
  | _ => #[.int .u8 0, .string ⟨#[]⟩, .nilFunc]
theorem kv_far (k B : Nat) (h : ¬ (1 ≤ k ∧ k ≤ 4)) : kvV k B = #[.int .u8 0, .string ⟨#[]⟩, .nilFunc] := by
  unfold kvV
  split <;> first | omega | rfl
/-- a matcher -/
def mV (k : Nat) (n v : ByteArray) : Value := .agg #[.int .u8 (k : Int), .string n, .string v]
theorem heap_setRow_ne (w : World) (g k : Nat) (cs : Array Value) (h : k ≠ g) : (w.setRow g cs).heap[k]? = w.heap[k]? := by
  have h2 : g ≠ k := fun e => h e.symm
  unfold World.setRow
  simp [Array.getElem?_modify, h2]
theorem cell_heap {w w' : World} {a : Addr} (h : w'.heap[a.block]? = w.heap[a.block]?) : w'.cell? a = w.cell? a := World.cell?_of_block (w := w) h
theorem Kinds.same {w w' : World} {B : Nat} (h : Kinds w B) (h0 : w'.heap[B]? = w.heap[B]?) (h1 : w'.heap[B + 1]? = w.heap[B + 1]?) (h2 : w'.heap[B + 2]? = w.heap[B + 2]?) : Kinds w' B :=
  ⟨h2.trans h.row, (cell_heap (a := ⟨B, 0, none⟩) h0).trans h.one, (cell_heap (a := ⟨B + 1, 0, none⟩) h1).trans h.two⟩
theorem Kinds.lt {w : World} {B : Nat} (h : Kinds w B) : B + 2 < w.heap.size := (Array.getElem?_eq_some_iff.1 h.row).1
theorem Kinds.below {w w' : World} {B : Nat} (h : Kinds w B) (hb : Below w.heap.size w w') : Kinds w' B :=
  have := h.lt
  h.same (hb.block _ (by omega)) (hb.block _ (by omega)) (hb.block _ (by omega))
/-- what the loop keeps -/
structure Kd (w wr : World) (S k : Nat) : Prop where
  m : wr.cell? ⟨S, 0, none⟩ = some (.int .u8 (k : Int))
  r : wr.heap[S + 1]? = some (.cells #[.int .u8 0, .string ⟨#[]⟩, .nilFunc] 39 (0, 0))
  ks : Kinds wr (S + 2)
  b : Below S w wr
theorem Kd.below {w wr w' : World} {S k : Nat} (h : Kd w wr S k) (hb : Below wr.heap.size wr w') : Kd w w' S k := by
  have hl := h.ks.lt
  exact ⟨cell_below h.m hb, (hb.block _ (by omega)).trans h.r, h.ks.below hb, h.b.trans (hb.mono (by omega))⟩
/-- a kind's row in a new block -/
def layW (W : World) (cs : Array Value) : World := W.alloc (.cells cs 39)
theorem layW_below (W : World) (cs : Array Value) : Below W.heap.size W (layW W cs) := (Below.refl _ W).alloc (Nat.le_refl _) _
theorem layW_row (W : World) (cs : Array Value) : (layW W cs).heap[W.heap.size]? = some (.cells cs 39 (0, 0)) := heap_alloc_new W _
theorem kd_end {w W : World} {S k : Nat} (h : Kd w W S k) (cs : Array Value) : (W.setRow (S + 1) cs).heap[S + 1]? = some (.cells cs 39 (0, 0)) ∧ Kinds (W.setRow (S + 1) cs) (S + 2) ∧ Below S w (W.setRow (S + 1) cs) :=
  ⟨setRow_heap _ _ _ _ _ _ h.r, h.ks.same (heap_setRow_ne _ _ _ _ (by omega)) (heap_setRow_ne _ _ _ _ (by omega)) (heap_setRow_ne _ _ _ _ (by omega)), below_setRow h.b (by omega) cs⟩
theorem st_any (W : World) (g i : Nat) (n : Nat) (first cap : Array Value) (h : W.cell? ⟨g, i, none⟩ = some .nilFunc) (hf : W.frozen? ⟨g, i, none⟩ = false) : (store ⟨g, i, none⟩ (.func (.func n) first cap)).run Tryd.prog W = .ok () (W.setCell ⟨g, i, none⟩ (.func (.func n) first cap)) := by
  rw [run_store Tryd.prog _ _ _ _ rfl]
  simp only [h, hf]
  rfl
theorem kd_set {w W : World} {S k : Nat} {a b c : Value} (h : Kd w W S k) (x y z : Value) : ((((W.setCell ⟨S + 1, 0, none⟩ x).setCell ⟨S + 1, 1, none⟩ y).setCell ⟨S + 1, 2, none⟩ z).heap[S + 1]? = some (.cells #[x, y, z] 39 (0, 0))) ∧ Kinds (((W.setCell ⟨S + 1, 0, none⟩ x).setCell ⟨S + 1, 1, none⟩ y).setCell ⟨S + 1, 2, none⟩ z) (S + 2) ∧ Below S w (((W.setCell ⟨S + 1, 0, none⟩ x).setCell ⟨S + 1, 1, none⟩ y).setCell ⟨S + 1, 2, none⟩ z) ∧
    ((W.setCell ⟨S + 1, 0, none⟩ x).setCell ⟨S + 1, 1, none⟩ y).heap[S + 1]? = some (.cells #[x, y, .nilFunc] 39 (0, 0)) ∧ (W.setCell ⟨S + 1, 0, none⟩ x).heap[S + 1]? = some (.cells #[x, .string ⟨#[]⟩, .nilFunc] 39 (0, 0)) := by
  have e1 : (W.setCell ⟨S + 1, 0, none⟩ x).heap[S + 1]? = some (.cells #[x, .string ⟨#[]⟩, .nilFunc] 39 (0, 0)) := by rw [heap_setCell_same _ _ _ _ _ _ h.r]; rfl
  have e2 : ((W.setCell ⟨S + 1, 0, none⟩ x).setCell ⟨S + 1, 1, none⟩ y).heap[S + 1]? = some (.cells #[x, y, .nilFunc] 39 (0, 0)) := by rw [heap_setCell_same _ _ _ _ _ _ e1]; rfl
  have e3 : (((W.setCell ⟨S + 1, 0, none⟩ x).setCell ⟨S + 1, 1, none⟩ y).setCell ⟨S + 1, 2, none⟩ z).heap[S + 1]? = some (.cells #[x, y, z] 39 (0, 0)) := by rw [heap_setCell_same _ _ _ _ _ _ e2]; rfl
  have hO := (((Only.refl [S + 1] W).setCell (p := ⟨S + 1, 0, none⟩) (.inl (by simp)) x).setCell (p := ⟨S + 1, 1, none⟩) (.inl (by simp)) y).setCell (p := ⟨S + 1, 2, none⟩) (.inl (by simp)) z
  have hl := h.ks.lt
  refine ⟨e3, h.ks.same (hO.block _ (by omega) (by simp)) (hO.block _ (by omega) (by simp)) (hO.block _ (by omega) (by simp)), ?_, e2, e1⟩
  exact h.b.trans (hO.below (by omega) (by simp))
theorem step_q {k j : Nat} (h : ∀ q, q < j → k ≠ q + 1) (hk : ¬ k = j + 1) : ∀ q, q < j + 1 → k ≠ q + 1 := by
  intro q hq
  rcases Nat.lt_or_ge q j with h2 | h2
  · exact h q h2
  · have : q = j := by omega
    subst this; exact hk
set_option maxRecDepth 100000 in
set_option maxHeartbeats 8000000 in
theorem kindof_any (k : Nat) (n v : ByteArray) (w : World) : Calls Tryd.prog 11 #[mV k n v] w fun e w' => ∃ B, e = .returned (.tuple #[.agg (kvV k B), .bool (decide (1 ≤ k ∧ k ≤ 4))]) ∧ Kinds w' B ∧ Below w.heap.size w w' := by
  have CK := Lib.hid (fun w => kinds_any w)
  obtain ⟨S, hS⟩ : ∃ S, w.heap.size = S := ⟨_, rfl⟩
  have hb1 := (Below.refl w.heap.size w).alloc (Nat.le_refl _) (.cells #[.int .u8 (k : Int), .string n, .string v] 24)
  have hb2 := hb1.alloc (by simp) (.cells #[.int .u8 0, .string ⟨#[]⟩, .nilFunc] 39)
  have hc0 : (w.alloc (.cells #[.int .u8 (k : Int), .string n, .string v] 24)).cell? ⟨S, 0, none⟩ = some (.int .u8 (k : Int)) := World.cell?_alloc_at _ _ _ _ hS.symm
  have hr0 := heap_alloc_new (w.alloc (.cells #[.int .u8 (k : Int), .string n, .string v] 24)) (.cells #[.int .u8 0, .string ⟨#[]⟩, .nilFunc] 39)
  have hs1 : (w.alloc (.cells #[.int .u8 (k : Int), .string n, .string v] 24)).heap.size = S + 1 := by simp [hS]
  have hs2 : ((w.alloc (.cells #[.int .u8 (k : Int), .string n, .string v] 24)).alloc (.cells #[.int .u8 0, .string ⟨#[]⟩, .nilFunc] 39)).heap.size = S + 2 := by simp [hS]
  have hc := cell_below hc0 ((Below.refl _ _).alloc (Nat.le_refl _) (.cells #[.int .u8 0, .string ⟨#[]⟩, .nilFunc] 39))
  rw [hs1] at hr0
  rw [hS] at hb2 ⊢
  obtain ⟨CC, hCC⟩ : ∃ z, CK.out ((w.alloc (.cells #[.int .u8 (k : Int), .string n, .string v] 24)).alloc (.cells #[.int .u8 0, .string ⟨#[]⟩, .nilFunc] 39)) = z := ⟨_, rfl⟩
  have CC2 := CC
  rw [hs2] at CC2
  have HC := Lib.hid CC2
  have HK : Hid (∀ w1, Kinds w1 (S + 2) → Below (S + 2) ((w.alloc (.cells #[.int .u8 (k : Int), .string n, .string v] 24)).alloc (.cells #[.int .u8 0, .string ⟨#[]⟩, .nilFunc] 39)) w1 → Kd w w1 S k) :=
    Lib.hid fun w1 hk hb => ⟨(hb.cell (p := ⟨S, 0, none⟩) (by show S < S + 2; omega)).trans hc, (hb.block _ (by omega)).trans hr0, hk, hb2.trans (hb.mono (by omega))⟩
  unfold mV
  clear hb1 hb2 hc0 hr0 hc CK CC2 hCC CC hs1 hs2
  go_enter Tryd.func11, Tryd.ntmps11
  go_wp2_with fail
  go_at_call 15
  refine HC.out.mono ?_
  rintro e w1 ⟨rfl, hk, hb⟩
  have HD := Lib.hid (HK.out _ hk hb)
  clear hk hb HK HC
  go_wp2
  go_loopw [8] (fun i wr => ∃ j : Nat, j ≤ 4 ∧ i = .int .i64 j ∧ Hid (∀ q, q < j → k ≠ q + 1) ∧ Hid (Kd w wr S k)) (fun i _ => 4 - (intOf i).toNat)
  case atStart => exact ⟨0, by omega, rfl, Lib.hid (fun q h => by omega), HD⟩
  case round =>
    obtain ⟨j, hj, rfl, HQ, HD⟩ := hrel
    have hm := HD.out.m
    have hrow := HD.out.ks.row
    have hrr := HD.out.r
    have hj2 : j = 0 ∨ j = 1 ∨ j = 2 ∨ j = 3 ∨ j = 4 := by omega
    rcases hj2 with rfl | rfl | rfl | rfl | rfl
    · have hl := HD.out.ks.lt
      have d0 : wr.cell? ⟨S + 2 + 2, 0, none⟩ = some (.int .u8 1) := (cell_of_row _ _ 0 _ _ _ hrow).trans rfl
      have d1 : wr.cell? ⟨S + 2 + 2, 1, none⟩ = some (.string ⟨#[61]⟩) := (cell_of_row _ _ 1 _ _ _ hrow).trans rfl
      have d2 : wr.cell? ⟨S + 2 + 2, 2, none⟩ = some (.func (.func 17) #[] #[]) := (cell_of_row _ _ 2 _ _ _ hrow).trans rfl
      have hL := layW_row wr #[.int .u8 1, .string ⟨#[61]⟩, .func (.func 17) #[] #[]]
      have HB := Lib.hid (HD.out.below (layW_below wr #[.int .u8 1, .string ⟨#[61]⟩, .func (.func 17) #[] #[]]))
      have HE := Lib.hid (kd_set (a := .nilFunc) (b := .nilFunc) (c := .nilFunc) HB.out (.int .u8 1) (.string ⟨#[61]⟩) (.func (.func 17) #[] #[]))
      have hm2 := HB.out.m
      have hr2 := HB.out.r
      have hs1 := st_any (wr.alloc (.cells #[.int .u8 1, .string ⟨#[61]⟩, .nilFunc] 39)) wr.heap.size 2 17 #[] #[] ((cell_of_row _ _ 2 _ _ _ (heap_alloc_new wr _)).trans rfl) (frozen_of_row _ _ _ _ _ (heap_alloc_new wr _))
      have hs2 := st_any _ (S + 1) 2 17 #[] #[] ((cell_of_row _ _ 2 _ _ _ HE.out.2.2.2.1).trans rfl) (frozen_of_row _ _ _ _ _ HE.out.2.2.2.1)
      have g0 : (layW wr #[.int .u8 1, .string ⟨#[61]⟩, .func (.func 17) #[] #[]]).cell? ⟨S + 1, 0, none⟩ = some (.int .u8 0) := (cell_of_row _ _ 0 _ _ _ hr2).trans rfl
      have g1 : ((layW wr #[.int .u8 1, .string ⟨#[61]⟩, .func (.func 17) #[] #[]]).setCell ⟨S + 1, 0, none⟩ (.int .u8 1)).cell? ⟨S + 1, 1, none⟩ = some (.string ⟨#[]⟩) := (cell_of_row _ _ 1 _ _ _ HE.out.2.2.2.2).trans rfl
      have q1 : ((layW wr #[.int .u8 1, .string ⟨#[61]⟩, .func (.func 17) #[] #[]]).setCell ⟨S + 1, 0, none⟩ (.int .u8 1)).frozen? ⟨S + 1, 1, none⟩ = false := frozen_of_row _ _ _ _ _ HE.out.2.2.2.2
      have q0 : (layW wr #[.int .u8 1, .string ⟨#[61]⟩, .func (.func 17) #[] #[]]).frozen? ⟨S + 1, 0, none⟩ = false := frozen_of_row _ _ _ _ _ hr2
      unfold layW at hm2 hr2 hL HB HE hs2 q0 g0 g1 q1
      clear hrow hrr hl
      by_cases hk : k = 1
      · subst hk
        clear HQ
        go_wp2_with fail
        refine bodyPost_ret (v := .tuple #[.agg #[.int .u8 1, .string ⟨#[61]⟩, .func (.func 17) #[] #[]], .bool true]) ?_ ?_ ?_
        · exact results_cell_tmp (fn := Tryd.f11) (p := 2) (q := 3) (ty := 39) rfl _ _ (S + 1) 39 #[.int .u8 1, .string ⟨#[61]⟩, .func (.func 17) #[] #[]] (0, 0) _ rfl HE.out.1 Tryd.underlying39 rfl (by kernel_rfl)
        · rfl
        · exact ⟨S + 2, rfl, HE.out.2.1, HE.out.2.2.1⟩
      · have hne : ((1 : Int) == (k : Int)) = false := by simp; omega
        have hne2 : ¬ (1 : Int) = (k : Int) := by omega
        have HQ2 := Lib.hid (step_q HQ.out hk)
        clear hk HQ
        go_wp2_with fail
        exact ⟨⟨1, by omega, rfl, HQ2, HB⟩, by simp [intOf]⟩
    · have hl := HD.out.ks.lt
      have d0 : wr.cell? ⟨S + 2 + 2, 3, none⟩ = some (.int .u8 2) := (cell_of_row _ _ 3 _ _ _ hrow).trans rfl
      have d1 : wr.cell? ⟨S + 2 + 2, 4, none⟩ = some (.string ⟨#[33, 61]⟩) := (cell_of_row _ _ 4 _ _ _ hrow).trans rfl
      have d2 : wr.cell? ⟨S + 2 + 2, 5, none⟩ = some (.func (.func 22) #[] #[.pointer (some ⟨S + 2, 0, none⟩)]) := (cell_of_row _ _ 5 _ _ _ hrow).trans rfl
      have hL := layW_row wr #[.int .u8 2, .string ⟨#[33, 61]⟩, .func (.func 22) #[] #[.pointer (some ⟨S + 2, 0, none⟩)]]
      have HB := Lib.hid (HD.out.below (layW_below wr #[.int .u8 2, .string ⟨#[33, 61]⟩, .func (.func 22) #[] #[.pointer (some ⟨S + 2, 0, none⟩)]]))
      have HE := Lib.hid (kd_set (a := .nilFunc) (b := .nilFunc) (c := .nilFunc) HB.out (.int .u8 2) (.string ⟨#[33, 61]⟩) (.func (.func 22) #[] #[.pointer (some ⟨S + 2, 0, none⟩)]))
      have hm2 := HB.out.m
      have hr2 := HB.out.r
      have hs1 := st_any (wr.alloc (.cells #[.int .u8 2, .string ⟨#[33, 61]⟩, .nilFunc] 39)) wr.heap.size 2 22 #[] #[.pointer (some ⟨S + 2, 0, none⟩)] ((cell_of_row _ _ 2 _ _ _ (heap_alloc_new wr _)).trans rfl) (frozen_of_row _ _ _ _ _ (heap_alloc_new wr _))
      have hs2 := st_any _ (S + 1) 2 22 #[] #[.pointer (some ⟨S + 2, 0, none⟩)] ((cell_of_row _ _ 2 _ _ _ HE.out.2.2.2.1).trans rfl) (frozen_of_row _ _ _ _ _ HE.out.2.2.2.1)
      have g0 : (layW wr #[.int .u8 2, .string ⟨#[33, 61]⟩, .func (.func 22) #[] #[.pointer (some ⟨S + 2, 0, none⟩)]]).cell? ⟨S + 1, 0, none⟩ = some (.int .u8 0) := (cell_of_row _ _ 0 _ _ _ hr2).trans rfl
      have g1 : ((layW wr #[.int .u8 2, .string ⟨#[33, 61]⟩, .func (.func 22) #[] #[.pointer (some ⟨S + 2, 0, none⟩)]]).setCell ⟨S + 1, 0, none⟩ (.int .u8 2)).cell? ⟨S + 1, 1, none⟩ = some (.string ⟨#[]⟩) := (cell_of_row _ _ 1 _ _ _ HE.out.2.2.2.2).trans rfl
      have q1 : ((layW wr #[.int .u8 2, .string ⟨#[33, 61]⟩, .func (.func 22) #[] #[.pointer (some ⟨S + 2, 0, none⟩)]]).setCell ⟨S + 1, 0, none⟩ (.int .u8 2)).frozen? ⟨S + 1, 1, none⟩ = false := frozen_of_row _ _ _ _ _ HE.out.2.2.2.2
      have q0 : (layW wr #[.int .u8 2, .string ⟨#[33, 61]⟩, .func (.func 22) #[] #[.pointer (some ⟨S + 2, 0, none⟩)]]).frozen? ⟨S + 1, 0, none⟩ = false := frozen_of_row _ _ _ _ _ hr2
      unfold layW at hm2 hr2 hL HB HE hs2 q0 g0 g1 q1
      clear hrow hrr hl
      by_cases hk : k = 2
      · subst hk
        clear HQ
        go_wp2_with fail
        refine bodyPost_ret (v := .tuple #[.agg #[.int .u8 2, .string ⟨#[33, 61]⟩, .func (.func 22) #[] #[.pointer (some ⟨S + 2, 0, none⟩)]], .bool true]) ?_ ?_ ?_
        · exact results_cell_tmp (fn := Tryd.f11) (p := 2) (q := 3) (ty := 39) rfl _ _ (S + 1) 39 #[.int .u8 2, .string ⟨#[33, 61]⟩, .func (.func 22) #[] #[.pointer (some ⟨S + 2, 0, none⟩)]] (0, 0) _ rfl HE.out.1 Tryd.underlying39 rfl (by kernel_rfl)
        · rfl
        · exact ⟨S + 2, rfl, HE.out.2.1, HE.out.2.2.1⟩
      · have hne : ((2 : Int) == (k : Int)) = false := by simp; omega
        have hne2 : ¬ (2 : Int) = (k : Int) := by omega
        have HQ2 := Lib.hid (step_q HQ.out hk)
        clear hk HQ
        go_wp2_with fail
        exact ⟨⟨2, by omega, rfl, HQ2, HB⟩, by simp [intOf]⟩
    · have hl := HD.out.ks.lt
      have d0 : wr.cell? ⟨S + 2 + 2, 6, none⟩ = some (.int .u8 3) := (cell_of_row _ _ 6 _ _ _ hrow).trans rfl
      have d1 : wr.cell? ⟨S + 2 + 2, 7, none⟩ = some (.string ⟨#[61, 126]⟩) := (cell_of_row _ _ 7 _ _ _ hrow).trans rfl
      have d2 : wr.cell? ⟨S + 2 + 2, 8, none⟩ = some (.func (.func 19) #[] #[]) := (cell_of_row _ _ 8 _ _ _ hrow).trans rfl
      have hL := layW_row wr #[.int .u8 3, .string ⟨#[61, 126]⟩, .func (.func 19) #[] #[]]
      have HB := Lib.hid (HD.out.below (layW_below wr #[.int .u8 3, .string ⟨#[61, 126]⟩, .func (.func 19) #[] #[]]))
      have HE := Lib.hid (kd_set (a := .nilFunc) (b := .nilFunc) (c := .nilFunc) HB.out (.int .u8 3) (.string ⟨#[61, 126]⟩) (.func (.func 19) #[] #[]))
      have hm2 := HB.out.m
      have hr2 := HB.out.r
      have hs1 := st_any (wr.alloc (.cells #[.int .u8 3, .string ⟨#[61, 126]⟩, .nilFunc] 39)) wr.heap.size 2 19 #[] #[] ((cell_of_row _ _ 2 _ _ _ (heap_alloc_new wr _)).trans rfl) (frozen_of_row _ _ _ _ _ (heap_alloc_new wr _))
      have hs2 := st_any _ (S + 1) 2 19 #[] #[] ((cell_of_row _ _ 2 _ _ _ HE.out.2.2.2.1).trans rfl) (frozen_of_row _ _ _ _ _ HE.out.2.2.2.1)
      have g0 : (layW wr #[.int .u8 3, .string ⟨#[61, 126]⟩, .func (.func 19) #[] #[]]).cell? ⟨S + 1, 0, none⟩ = some (.int .u8 0) := (cell_of_row _ _ 0 _ _ _ hr2).trans rfl
      have g1 : ((layW wr #[.int .u8 3, .string ⟨#[61, 126]⟩, .func (.func 19) #[] #[]]).setCell ⟨S + 1, 0, none⟩ (.int .u8 3)).cell? ⟨S + 1, 1, none⟩ = some (.string ⟨#[]⟩) := (cell_of_row _ _ 1 _ _ _ HE.out.2.2.2.2).trans rfl
      have q1 : ((layW wr #[.int .u8 3, .string ⟨#[61, 126]⟩, .func (.func 19) #[] #[]]).setCell ⟨S + 1, 0, none⟩ (.int .u8 3)).frozen? ⟨S + 1, 1, none⟩ = false := frozen_of_row _ _ _ _ _ HE.out.2.2.2.2
      have q0 : (layW wr #[.int .u8 3, .string ⟨#[61, 126]⟩, .func (.func 19) #[] #[]]).frozen? ⟨S + 1, 0, none⟩ = false := frozen_of_row _ _ _ _ _ hr2
      unfold layW at hm2 hr2 hL HB HE hs2 q0 g0 g1 q1
      clear hrow hrr hl
      by_cases hk : k = 3
      · subst hk
        clear HQ
        go_wp2_with fail
        refine bodyPost_ret (v := .tuple #[.agg #[.int .u8 3, .string ⟨#[61, 126]⟩, .func (.func 19) #[] #[]], .bool true]) ?_ ?_ ?_
        · exact results_cell_tmp (fn := Tryd.f11) (p := 2) (q := 3) (ty := 39) rfl _ _ (S + 1) 39 #[.int .u8 3, .string ⟨#[61, 126]⟩, .func (.func 19) #[] #[]] (0, 0) _ rfl HE.out.1 Tryd.underlying39 rfl (by kernel_rfl)
        · rfl
        · exact ⟨S + 2, rfl, HE.out.2.1, HE.out.2.2.1⟩
      · have hne : ((3 : Int) == (k : Int)) = false := by simp; omega
        have hne2 : ¬ (3 : Int) = (k : Int) := by omega
        have HQ2 := Lib.hid (step_q HQ.out hk)
        clear hk HQ
        go_wp2_with fail
        exact ⟨⟨3, by omega, rfl, HQ2, HB⟩, by simp [intOf]⟩
    · have hl := HD.out.ks.lt
      have d0 : wr.cell? ⟨S + 2 + 2, 9, none⟩ = some (.int .u8 4) := (cell_of_row _ _ 9 _ _ _ hrow).trans rfl
      have d1 : wr.cell? ⟨S + 2 + 2, 10, none⟩ = some (.string ⟨#[33, 126]⟩) := (cell_of_row _ _ 10 _ _ _ hrow).trans rfl
      have d2 : wr.cell? ⟨S + 2 + 2, 11, none⟩ = some (.func (.func 22) #[] #[.pointer (some ⟨S + 2 + 1, 0, none⟩)]) := (cell_of_row _ _ 11 _ _ _ hrow).trans rfl
      have hL := layW_row wr #[.int .u8 4, .string ⟨#[33, 126]⟩, .func (.func 22) #[] #[.pointer (some ⟨S + 2 + 1, 0, none⟩)]]
      have HB := Lib.hid (HD.out.below (layW_below wr #[.int .u8 4, .string ⟨#[33, 126]⟩, .func (.func 22) #[] #[.pointer (some ⟨S + 2 + 1, 0, none⟩)]]))
      have HE := Lib.hid (kd_set (a := .nilFunc) (b := .nilFunc) (c := .nilFunc) HB.out (.int .u8 4) (.string ⟨#[33, 126]⟩) (.func (.func 22) #[] #[.pointer (some ⟨S + 2 + 1, 0, none⟩)]))
      have hm2 := HB.out.m
      have hr2 := HB.out.r
      have hs1 := st_any (wr.alloc (.cells #[.int .u8 4, .string ⟨#[33, 126]⟩, .nilFunc] 39)) wr.heap.size 2 22 #[] #[.pointer (some ⟨S + 2 + 1, 0, none⟩)] ((cell_of_row _ _ 2 _ _ _ (heap_alloc_new wr _)).trans rfl) (frozen_of_row _ _ _ _ _ (heap_alloc_new wr _))
      have hs2 := st_any _ (S + 1) 2 22 #[] #[.pointer (some ⟨S + 2 + 1, 0, none⟩)] ((cell_of_row _ _ 2 _ _ _ HE.out.2.2.2.1).trans rfl) (frozen_of_row _ _ _ _ _ HE.out.2.2.2.1)
      have g0 : (layW wr #[.int .u8 4, .string ⟨#[33, 126]⟩, .func (.func 22) #[] #[.pointer (some ⟨S + 2 + 1, 0, none⟩)]]).cell? ⟨S + 1, 0, none⟩ = some (.int .u8 0) := (cell_of_row _ _ 0 _ _ _ hr2).trans rfl
      have g1 : ((layW wr #[.int .u8 4, .string ⟨#[33, 126]⟩, .func (.func 22) #[] #[.pointer (some ⟨S + 2 + 1, 0, none⟩)]]).setCell ⟨S + 1, 0, none⟩ (.int .u8 4)).cell? ⟨S + 1, 1, none⟩ = some (.string ⟨#[]⟩) := (cell_of_row _ _ 1 _ _ _ HE.out.2.2.2.2).trans rfl
      have q1 : ((layW wr #[.int .u8 4, .string ⟨#[33, 126]⟩, .func (.func 22) #[] #[.pointer (some ⟨S + 2 + 1, 0, none⟩)]]).setCell ⟨S + 1, 0, none⟩ (.int .u8 4)).frozen? ⟨S + 1, 1, none⟩ = false := frozen_of_row _ _ _ _ _ HE.out.2.2.2.2
      have q0 : (layW wr #[.int .u8 4, .string ⟨#[33, 126]⟩, .func (.func 22) #[] #[.pointer (some ⟨S + 2 + 1, 0, none⟩)]]).frozen? ⟨S + 1, 0, none⟩ = false := frozen_of_row _ _ _ _ _ hr2
      unfold layW at hm2 hr2 hL HB HE hs2 q0 g0 g1 q1
      clear hrow hrr hl
      by_cases hk : k = 4
      · subst hk
        clear HQ
        go_wp2_with fail
        refine bodyPost_ret (v := .tuple #[.agg #[.int .u8 4, .string ⟨#[33, 126]⟩, .func (.func 22) #[] #[.pointer (some ⟨S + 2 + 1, 0, none⟩)]], .bool true]) ?_ ?_ ?_
        · exact results_cell_tmp (fn := Tryd.f11) (p := 2) (q := 3) (ty := 39) rfl _ _ (S + 1) 39 #[.int .u8 4, .string ⟨#[33, 126]⟩, .func (.func 22) #[] #[.pointer (some ⟨S + 2 + 1, 0, none⟩)]] (0, 0) _ rfl HE.out.1 Tryd.underlying39 rfl (by kernel_rfl)
        · rfl
        · exact ⟨S + 2, rfl, HE.out.2.1, HE.out.2.2.1⟩
      · have hne : ((4 : Int) == (k : Int)) = false := by simp; omega
        have hne2 : ¬ (4 : Int) = (k : Int) := by omega
        have HQ2 := Lib.hid (step_q HQ.out hk)
        clear hk HQ
        go_wp2_with fail
        exact ⟨⟨4, by omega, rfl, HQ2, HB⟩, by simp [intOf]⟩
    · have HF := Lib.hid (show ¬ (1 ≤ k ∧ k ≤ 4) by
        intro h
        have := HQ.out (k - 1) (by omega)
        omega)
      have HE := Lib.hid (kd_set (a := .nilFunc) (b := .nilFunc) (c := .nilFunc) HD.out (.int .u8 0) (.string ⟨#[]⟩) .nilFunc)
      have g0 : wr.cell? ⟨S + 1, 0, none⟩ = some (.int .u8 0) := (cell_of_row _ _ 0 _ _ _ hrr).trans rfl
      have g1 : (wr.setCell ⟨S + 1, 0, none⟩ (.int .u8 0)).cell? ⟨S + 1, 1, none⟩ = some (.string ⟨#[]⟩) := (cell_of_row _ _ 1 _ _ _ HE.out.2.2.2.2).trans rfl
      have g2 : ((wr.setCell ⟨S + 1, 0, none⟩ (.int .u8 0)).setCell ⟨S + 1, 1, none⟩ (.string ⟨#[]⟩)).cell? ⟨S + 1, 2, none⟩ = some .nilFunc := (cell_of_row _ _ 2 _ _ _ HE.out.2.2.2.1).trans rfl
      have q0 : wr.frozen? ⟨S + 1, 0, none⟩ = false := frozen_of_row _ _ _ _ _ hrr
      have q1 : (wr.setCell ⟨S + 1, 0, none⟩ (.int .u8 0)).frozen? ⟨S + 1, 1, none⟩ = false := frozen_of_row _ _ _ _ _ HE.out.2.2.2.2
      have q2 : ((wr.setCell ⟨S + 1, 0, none⟩ (.int .u8 0)).setCell ⟨S + 1, 1, none⟩ (.string ⟨#[]⟩)).frozen? ⟨S + 1, 2, none⟩ = false := frozen_of_row _ _ _ _ _ HE.out.2.2.2.1
      have hst : (store ⟨S + 1, 2, none⟩ .nilFunc).run Tryd.prog ((wr.setCell ⟨S + 1, 0, none⟩ (.int .u8 0)).setCell ⟨S + 1, 1, none⟩ (.string ⟨#[]⟩)) = .ok () (((wr.setCell ⟨S + 1, 0, none⟩ (.int .u8 0)).setCell ⟨S + 1, 1, none⟩ (.string ⟨#[]⟩)).setCell ⟨S + 1, 2, none⟩ .nilFunc) := by
        rw [run_store Tryd.prog _ _ _ _ rfl]
        simp only [g2, q2]
        rfl
      clear HQ hrow hrr
      go_wp2_with fail
      refine bodyPost_ret (v := .tuple #[.agg #[.int .u8 0, .string ⟨#[]⟩, .nilFunc], .bool false]) ?_ ?_ ?_
      · exact results_cell_tmp (fn := Tryd.f11) (p := 2) (q := 3) (ty := 39) rfl _ _ (S + 1) 39 #[.int .u8 0, .string ⟨#[]⟩, .nilFunc] (0, 0) _ rfl HE.out.1 Tryd.underlying39 rfl (by kernel_rfl)
      · rfl
      · exact ⟨S + 2, by rw [kv_far _ _ HF.out, decide_eq_false HF.out], HE.out.2.1, HE.out.2.2.1⟩
end Go.Proofs.YtphighddlfabbaaDoor
