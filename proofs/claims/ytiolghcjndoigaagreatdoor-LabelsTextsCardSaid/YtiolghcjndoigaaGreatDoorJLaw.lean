/-
  WALKS: the law of texts, walked.
-/
import Derived.Test.YtiolghcjndoigaaGreatDoorJPar
import Derived.Test.YtiolghcjndoigaaGreatDoorJRsf
import Derived.Test.YtiolghcjndoigaaGreatDoorJEs
import Derived.Test.YtiolghcjndoigaaGreatDoorJBck
import Derived.Test.YtiolghcjndoigaaGreatDoorQuoA
import Derived.Test.YtiolghcjndoigaaGreatDoorDoor
import Derived.Test.YtiolghcjndoigaaGreatDoorAsA
import Derived.Test.YtiolghcjndoigaaGreatDoorOpn
import Derived.Test.YtiolghcjndoigaaGreatDoorSam
import Derived.Test.YtiolghcjndoigaaGreatDoorJKno
import Derived.LaidSub
import Derived.LaidMore
import Derived.SizedLaws
namespace Go.Proofs.YtiolghcjndoigaaGreatDoor
set_option linter.unusedVariables false
set_option linter.unusedSimpArgs false
open Go.RowKit Go.PlainAid Go.Shelf
theorem skipB_blank {bs : List Nat} {q : Nat} (h : bs[q]? = some 32) : skipB bs q = skipB bs (q + 1) := by
  obtain ⟨hlt, he⟩ := List.getElem?_eq_some_iff.1 h
  have : bs.drop q = 32 :: bs.drop (q + 1) := by rw [← he]; exact List.drop_eq_getElem_cons hlt
  unfold skipB
  rw [this]
  rfl
theorem skipB_stop {bs : List Nat} {q : Nat} (h : bs[q]? ≠ some 32) (hq : q ≤ bs.length) : skipB bs q = q := by
  unfold skipB
  by_cases hlt : q < bs.length
  · have e : bs.drop q = bs[q] :: bs.drop (q + 1) := List.drop_eq_getElem_cons hlt
    have hne : (bs[q] == 32) = false := by
      rw [beq_eq_false_iff_ne]
      intro hh
      exact h (by rw [List.getElem?_eq_getElem hlt, hh])
    have e2 : (bs.drop q).dropWhile (fun c => c == 32) = bs.drop q := by
      rw [e, List.dropWhile_cons, hne]
      rfl
    rw [e2, List.length_drop]
    omega
  · rw [List.drop_eq_nil_of_le (by omega)]
    simp
    omega
theorem skipB_not (bs : List Nat) : ∀ (n q : Nat), q ≤ bs.length → bs.length - q ≤ n → bs[skipB bs q]? ≠ some 32
  | 0, q, hq, hn => by
    have hq2 : q = bs.length := by omega
    subst hq2
    rw [skipB_stop (by rw [List.getElem?_eq_none (Nat.le_refl _)]; simp) (Nat.le_refl _), List.getElem?_eq_none (Nat.le_refl _)]
    simp
  | n + 1, q, hq, hn => by
    by_cases h : bs[q]? = some 32
    · rw [skipB_blank h]
      have := (List.getElem?_eq_some_iff.1 h).1
      exact skipB_not bs n (q + 1) (by omega) (by omega)
    · rw [skipB_stop h hq]; exact h
theorem skipB_idem (bs : List Nat) (q : Nat) (hq : q ≤ bs.length) : skipB bs (skipB bs q) = skipB bs q := skipB_stop (skipB_not bs _ q hq (Nat.le_refl _)) (skipB_le _ _)
/-- the reference's reader stands at p -/
def Rs (w : World) (R : Nat) (bs : List Nat) (p : Nat) : Prop := w.heap[R]? = some (.cells #[.string (strOf bs), .int .i64 ((p : Nat) : Int)] 144 (0, 0))
theorem Rs.lt {w : World} {R : Nat} {bs : List Nat} {p : Nat} (h : Rs w R bs p) : R < w.heap.size := (Array.getElem?_eq_some_iff.1 h).1
theorem Rs.below {w w' : World} {R : Nat} {bs : List Nat} {p : Nat} (h : Rs w R bs p) {B : Nat} (ho : Below B w w') (hB : R < B) : Rs w' R bs p := (ho.block R hB).trans h
theorem Rs.stay {w w' : World} {R : Nat} {bs : List Nat} {p : Nat} (h : Rs w R bs p) (ho : Below w.heap.size w w') : Rs w' R bs p := h.below ho h.lt
theorem Rs.c0 {w : World} {R : Nat} {bs : List Nat} {p : Nat} (h : Rs w R bs p) : w.cell? ⟨R, 0, none⟩ = some (.string (strOf bs)) := by
  rw [cell_of_row _ _ _ _ _ _ h]; rfl
theorem Rs.c1 {w : World} {R : Nat} {bs : List Nat} {p : Nat} (h : Rs w R bs p) : w.cell? ⟨R, 1, none⟩ = some (.int .i64 ((p : Nat) : Int)) := by
  rw [cell_of_row _ _ _ _ _ _ h]; rfl
theorem Rs.fz {w : World} {R : Nat} {bs : List Nat} {p : Nat} (h : Rs w R bs p) (k : Nat) : w.frozen? ⟨R, k, none⟩ = false := frozen_of_row _ _ _ _ _ h
theorem Rs.set {w : World} {R : Nat} {bs : List Nat} {p : Nat} (h : Rs w R bs p) (q : Nat) : Rs (w.setCell ⟨R, 1, none⟩ (.int .i64 ((q : Nat) : Int))) R bs q := heap_setCell_same _ _ _ _ _ _ h
theorem Rs.drewN {w : World} {R : Nat} {bs : List Nat} {p : Nat} (h : Rs w R bs p) (n : Nat) : Rs (w.drewN n) R bs p := h
/-- where it stands -/
def posS (R : Nat) (w : World) : Nat := match w.cell? ⟨R, 1, none⟩ with | some v => (intOf v).toNat | none => 0
theorem Rs.posS {w : World} {R : Nat} {bs : List Nat} {p : Nat} (h : Rs w R bs p) : posS R w = p := by
  unfold YtiolghcjndoigaaGreatDoor.posS
  rw [h.c1]
  simp [intOf]
theorem only_set' {w : World} {R : Nat} (j : Nat) (v : Value) : Only [R] w (w.setCell ⟨R, j, none⟩ v) := (Only.refl [R] w).setCell (p := ⟨R, j, none⟩) (.inl List.mem_cons_self) v
set_option maxHeartbeats 2000000 in
theorem rblanks_any (R : Nat) (bs : List Nat) (p : Nat) (hB : IsB bs) (hp : p ≤ bs.length) (hl : bs.length ≤ 20000) (w : World) (H : Rs w R bs p) :
    Calls Tryz.prog 135 #[.pointer (some ⟨R, 0, none⟩)] w fun e w' => e = .returned (.tuple #[]) ∧ Only [R] w w' ∧ Rs w' R bs (skipB bs p) := by
  have hsz := strOf_size bs
  have hbt := get_bt (strOf bs)
  have HS := Lib.hid (fun (k c : Nat) (hk : bs[k]? = some c) => show bt (strOf bs) k = (c : Int) ∧ c < 256 by
    obtain ⟨h1, h2⟩ := List.getElem?_eq_some_iff.1 hk
    have := strOf_bt bs hB k h1
    rw [h2] at this
    exact ⟨this, at_isB hB hk⟩)
  have HR := Lib.hid H
  obtain ⟨L, hL⟩ : ∃ L, bs.length = L := ⟨_, rfl⟩
  have HL := Lib.hid hL
  rw [hL] at hsz hp hl
  obtain ⟨S, hS⟩ : ∃ S, strOf bs = S := ⟨_, rfl⟩
  rw [hS] at hsz hbt HS
  have HSS := Lib.hid hS
  have HC0 := Lib.hid (fun (w : World) (k : Nat) (h : Rs w R bs k) => show w.cell? ⟨R, 0, none⟩ = some (.string S) by rw [← hS]; exact h.c0)
  clear hL hB H hS
  go_enter Tryz.func135, Tryz.ntmps135
  go_wp2
  go_loopw [] (fun wr => ∃ (k : Nat), k ≤ L ∧ Hid (Rs wr R bs k) ∧ Hid (skipB bs k = skipB bs p) ∧ Hid (Only [R] w wr)) (fun wr => L - posS R wr)
  case atStart => exact ⟨p, hp, HR, Lib.hid rfl, Lib.hid (Only.refl _ _)⟩
  case round =>
    obtain ⟨k, hk, HRR, HK, HO⟩ := hrel
    have c0 := HC0.out _ _ HRR.out
    have c1 := HRR.out.c1
    by_cases hkL : k < L
    · have da : decide ((k : Int) < (L : Int)) = true := decide_eq_true (by omega)
      have da2 : decide (k < L) = true := decide_eq_true hkL
      have hki : (k : Int) < (L : Int) := by omega
      obtain ⟨c, hc⟩ : ∃ c, bs[k]? = some c := ⟨_, List.getElem?_eq_getElem (by rw [HL.out]; exact hkL)⟩
      obtain ⟨hbk, hc256⟩ := HS.out k c hc
      by_cases h32 : c = 32
      · have n1 : ((c : Int) == 32) = true := by simp; omega
        have HK2 := Lib.hid (show skipB bs (k + 1) = skipB bs p by rw [← HK.out]; exact (skipB_blank (by rw [hc, h32])).symm)
        have e1 : wrap64 ((k : Int) + 1) = ((k + 1 : Nat) : Int) := by rw [wrap64_small (by omega) (by omega)]; omega
        have e1' : IntKind.i64.wrap ((k : Int) + 1) = ((k + 1 : Nat) : Int) := by rw [IntKind.wrap_i64]; omega
        obtain ⟨k1, hk1⟩ : ∃ k1, k + 1 = k1 := ⟨_, rfl⟩
        rw [hk1] at e1 e1' HK2
        have HK1 := Lib.hid hk1
        clear h32 hc hk1
        go_wp2_with fail
        go_quiet (fail)
        have R1 := Lib.hid (HRR.out.drewN nq)
        have O1 := Lib.hid (HO.out.drewN nq)
        have c1 := R1.out.c1
        have f1 := R1.out.fz 1
        go_wp2
        go_roundw
        case rel => exact ⟨k1, by have := HK1.out; omega, Lib.hid (R1.out.set k1), HK2, Lib.hid (O1.out.trans (only_set' 1 _) (fun x hx => .inl hx))⟩
        case measure => rw [(R1.out.set k1).posS, HRR.out.posS]; have := HK1.out; omega
      · have n1 : ((c : Int) == 32) = false := by simp; omega
        have HK2 := Lib.hid (show k = skipB bs p by rw [← HK.out, skipB_stop (by rw [hc]; simpa using h32) (by rw [HL.out]; omega)])
        clear h32 hc
        go_wp2_with fail
        go_quiet (fail)
        go_wp2
        go_end0
        exact ⟨rfl, HO.out.drewN nq, by rw [← HK2.out]; exact HRR.out.drewN nq⟩
    · have da : decide ((k : Int) < (L : Int)) = false := decide_eq_false (by omega)
      have da2 : decide (k < L) = false := decide_eq_false (by omega)
      have HK2 := Lib.hid (show k = skipB bs p by rw [← HK.out, skipB_stop (by rw [List.getElem?_eq_none (by rw [HL.out]; omega)]; simp) (by rw [HL.out]; omega)])
      go_wp2_with fail
      go_quiet (fail)
      go_wp2
      go_end0
      exact ⟨rfl, HO.out.drewN nq, by rw [← HK2.out]; exact HRR.out.drewN nq⟩
/-- a sign, or none, behind the blanks -/
def RSignPost (R : Nat) (bs : List Nat) (p c : Nat) (w : World) (e : Ending) (w' : World) : Prop := Only [R] w w' ∧
  ((bs[skipB bs p]? = some c ∧ e = .returned (.bool true) ∧ Rs w' R bs (skipB bs (skipB bs p + 1))) ∨ (bs[skipB bs p]? ≠ some c ∧ e = .returned (.bool false) ∧ Rs w' R bs (skipB bs p)))
set_option maxHeartbeats 2000000 in
theorem rsign_any (R : Nat) (bs : List Nat) (p c : Nat) (hB : IsB bs) (hp : p ≤ bs.length) (hl : bs.length ≤ 20000) (hc : c < 256) (w : World) (H : Rs w R bs p) :
    Calls Tryz.prog 120 #[.pointer (some ⟨R, 0, none⟩), .int .u8 ((c : Nat) : Int)] w (RSignPost R bs p c w) := by
  have hsz := strOf_size bs
  have hbt := get_bt (strOf bs)
  have HS := Lib.hid (fun (k c : Nat) (hk : bs[k]? = some c) => show bt (strOf bs) k = (c : Int) ∧ c < 256 by
    obtain ⟨h1, h2⟩ := List.getElem?_eq_some_iff.1 hk
    have := strOf_bt bs hB k h1
    rw [h2] at this
    exact ⟨this, at_isB hB hk⟩)
  have HR := Lib.hid H
  have CB := Lib.hid (fun p hp w H => rblanks_any R bs p hB hp hl w H)
  have hq := skipB_le bs p
  unfold RSignPost
  obtain ⟨q, hqe⟩ : ∃ q, skipB bs p = q := ⟨_, rfl⟩
  have HQ := Lib.hid hqe
  rw [hqe] at hq ⊢
  obtain ⟨L, hL⟩ : ∃ L, bs.length = L := ⟨_, rfl⟩
  have HL := Lib.hid hL
  rw [hL] at hsz hp hl hq CB
  obtain ⟨S, hS⟩ : ∃ S, strOf bs = S := ⟨_, rfl⟩
  rw [hS] at hsz hbt HS
  have HC0 := Lib.hid (fun (w : World) (k : Nat) (h : Rs w R bs k) => show w.cell? ⟨R, 0, none⟩ = some (.string S) by rw [← hS]; exact h.c0)
  have CB1 := Lib.hid (fun w H => CB.out p hp w H)
  have CB2 := Lib.hid (fun h w H => CB.out (q + 1) h w H)
  rw [HQ.out] at CB1
  clear hL hB H hS hqe CB hp
  go_enter Tryz.func120, Tryz.ntmps120
  go_wp2_with fail
  refine (CB1.out _ HR.out).mono ?_
  rintro e w1 ⟨rfl, ho, hr⟩
  have R1 := Lib.hid hr
  have O1 := Lib.hid ho
  clear ho hr
  have c0 := HC0.out _ _ R1.out
  have c1 := R1.out.c1
  by_cases hkL : q < L
  · have da : decide ((q : Int) ≥ (L : Int)) = false := decide_eq_false (by omega)
    have da1 : decide ((L : Int) ≤ (q : Int)) = false := decide_eq_false (by omega)
    have da2 : decide (L ≤ q) = false := decide_eq_false (by omega)
    have hki : (q : Int) < (L : Int) := by omega
    obtain ⟨d, hd⟩ : ∃ c, bs[q]? = some c := ⟨_, List.getElem?_eq_getElem (by rw [HL.out]; exact hkL)⟩
    obtain ⟨hbk, hd256⟩ := HS.out q d hd
    by_cases hdc : d = c
    · have n1 : ((d : Int) != (c : Int)) = false := by simp; omega
      have HY := Lib.hid (show bs[q]? = some c by rw [hd, hdc])
      have CB3 := Lib.hid (fun w H => CB2.out (by omega) w H)
      have e1 : wrap64 ((q : Int) + 1) = ((q + 1 : Nat) : Int) := by rw [wrap64_small (by omega) (by omega)]; omega
      have e1' : IntKind.i64.wrap ((q : Int) + 1) = ((q + 1 : Nat) : Int) := by rw [IntKind.wrap_i64]; omega
      obtain ⟨k1, hk1⟩ : ∃ k1, q + 1 = k1 := ⟨_, rfl⟩
      rw [hk1] at e1 e1' CB3
      have HK1 := Lib.hid hk1
      clear hdc hd hk1 CB2
      go_wp2_with fail
      go_quiet (fail)
      have R2 := Lib.hid (R1.out.drewN nq)
      have O2 := Lib.hid (O1.out.drewN nq)
      have c1 := R2.out.c1
      have f1 := R2.out.fz 1
      have R3 := Lib.hid (R2.out.set k1)
      have O3 := Lib.hid (O2.out.trans (only_set' 1 (.int .i64 ((k1 : Nat) : Int))) (fun x hx => .inl hx))
      go_wp2_with fail
      refine (CB3.out _ R3.out).mono ?_
      rintro e w4 ⟨rfl, ho, hr⟩
      have R4 := Lib.hid hr
      have O4 := Lib.hid (O3.out.trans ho (fun x hx => .inl hx))
      clear ho hr
      go_wp2
      go_ret
      exact ⟨O4.out, .inl ⟨HY.out, rfl, by rw [HK1.out]; exact R4.out⟩⟩
    · have n1 : ((d : Int) != (c : Int)) = true := by simp; omega
      have HY := Lib.hid (show bs[q]? ≠ some c by rw [hd]; simpa using hdc)
      clear hdc hd
      go_wp2_with fail
      go_quiet (fail)
      go_wp2
      go_ret
      exact ⟨O1.out.drewN nq, .inr ⟨HY.out, rfl, R1.out.drewN nq⟩⟩
  · have da : decide ((q : Int) ≥ (L : Int)) = true := decide_eq_true (by omega)
    have da1 : decide ((L : Int) ≤ (q : Int)) = true := decide_eq_true (by omega)
    have da2 : decide (L ≤ q) = true := decide_eq_true (by omega)
    have HY := Lib.hid (show bs[q]? ≠ some c by rw [List.getElem?_eq_none (by rw [HL.out]; omega)]; simp)
    go_wp2_with fail
    go_quiet (fail)
    go_wp2
    go_ret
    exact ⟨O1.out.drewN nq, .inr ⟨HY.out, rfl, R1.out.drewN nq⟩⟩
theorem nmA_take : ∀ (bs : List Nat) (k m : Nat), nmA (bs.take m) k = min (k + m) (nmA bs k)
  | [], k, m => by simp [nmA]
  | c :: cs, k, 0 => by
    have := (nmA_le (c :: cs) k).1
    rw [List.take_zero, nmA]
    omega
  | c :: cs, k, m + 1 => by
    rw [List.take_succ_cons, nmA, nmA]
    split
    · rw [nmA_take cs (k + 1) m]; congr 1; omega
    · omega
theorem nmL_take (bs : List Nat) (m : Nat) : nmL (bs.take m) = min m (nmL bs) := by
  unfold nmL; rw [nmA_take, Nat.zero_add]
theorem nameB_take {ds : List Nat} (hB : IsB ds) (k : Nat) (hk : k < ds.length) : nameB (strOf (ds.take (k + 1))) = decide (k < nmL ds) := by
  rw [nameB_of (isB_take hB _), nmL_take, List.length_take]
  have hne : ds.take (k + 1) ≠ [] := by
    intro e
    have := congrArg List.length e
    rw [List.length_take, List.length_nil] at this
    omega
  rw [decide_eq_true hne, Bool.true_and]
  by_cases h : k < nmL ds
  · rw [decide_eq_true h, decide_eq_true (by omega)]
  · rw [decide_eq_false h, decide_eq_false (by omega)]
theorem only_drewN {R : Nat} {a b : World} (h : Only [R] a b) (n : Nat) : Only [R] a (b.drewN n) := h.drewN n
set_option maxHeartbeats 2000000 in
theorem rscanname_any (R : Nat) (bs : List Nat) (p : Nat) (hB : IsB bs) (hp : p ≤ bs.length) (hl : bs.length ≤ 20000) (w : World) (H : Rs w R bs p) :
    Calls Tryz.prog 121 #[.pointer (some ⟨R, 0, none⟩)] w fun e w' => e = .returned (.string (strOf ((bs.drop p).take (nmL (bs.drop p))))) ∧ Only [R] w w' ∧ Rs w' R bs (p + nmL (bs.drop p)) := by
  have hsz := strOf_size bs
  have HR := Lib.hid H
  have hm := nmL_le (bs.drop p)
  rw [List.length_drop] at hm
  have CN := Lib.hid (fun k (hk : k < bs.length - p) w => (rname_bs ((bs.drop p).take (k + 1)) (isB_take (isB_drop hB p) _) w))
  have HNB := Lib.hid (fun k (hk : k < bs.length - p) => nameB_take (isB_drop hB p) k (by rw [List.length_drop]; exact hk))
  have HX := Lib.hid (fun q h1 h2 => strOf_extract bs p q h1 h2)
  obtain ⟨m, hme⟩ : ∃ m, nmL (bs.drop p) = m := ⟨_, rfl⟩
  rw [hme] at hm HNB ⊢
  obtain ⟨L, hL⟩ : ∃ L, bs.length = L := ⟨_, rfl⟩
  have HL := Lib.hid hL
  rw [hL] at hsz hp hl hm CN HX HNB
  obtain ⟨S, hS⟩ : ∃ S, strOf bs = S := ⟨_, rfl⟩
  rw [hS] at hsz HX
  have HC0 := Lib.hid (fun (w : World) (k : Nat) (h : Rs w R bs k) => show w.cell? ⟨R, 0, none⟩ = some (.string S) by rw [← hS]; exact h.c0)
  have c0 := HC0.out _ _ HR.out
  have c1 := HR.out.c1
  obtain ⟨T0, hT0⟩ : ∃ T, strOf ((bs.drop p).take m) = T := ⟨_, rfl⟩
  have HT0 := Lib.hid hT0
  rw [hT0]
  clear hL hB H hS hme hT0
  go_enter Tryz.func121, Tryz.ntmps121
  go_wp2
  clear c0 c1
  go_loopw [] (fun wr => ∃ (k : Nat), k ≤ m ∧ Hid (Rs wr R bs (p + k)) ∧ Hid (Only [R] w wr)) (fun wr => L - posS R wr)
  case atStart => exact ⟨0, Nat.zero_le _, Lib.hid (by rw [Nat.add_zero]; exact HR.out), Lib.hid (Only.refl _ _)⟩
  case round =>
    obtain ⟨k, hk, HRR, HO⟩ := hrel
    obtain ⟨q, hq⟩ : ∃ q, p + k = q := ⟨_, rfl⟩
    rw [hq] at HRR
    have HQ := Lib.hid hq
    have c0 := HC0.out _ _ HRR.out
    have c1 := HRR.out.c1
    by_cases hkL : q < L
    · have da : decide ((q : Int) < (L : Int)) = true := decide_eq_true (by omega)
      have da2 : decide (q < L) = true := decide_eq_true hkL
      have hki : (q : Int) < (L : Int) := by omega
      have CN1 := Lib.hid (fun w => CN.out k (by omega) w)
      have hnb := HNB.out k (by omega)
      have hx := HX.out (q + 1) (by omega) (by omega)
      rw [show q + 1 - p = k + 1 by omega] at hx
      obtain ⟨T, hT⟩ : ∃ T, strOf ((bs.drop p).take (k + 1)) = T := ⟨_, rfl⟩
      rw [hT] at hx CN1 hnb
      have e1 : wrap64 ((q : Int) + 1) = ((q + 1 : Nat) : Int) := by rw [wrap64_small (by omega) (by omega)]; omega
      have e1' : IntKind.i64.wrap ((q : Int) + 1) = ((q + 1 : Nat) : Int) := by rw [IntKind.wrap_i64]; omega
      obtain ⟨k1, hk1⟩ : ∃ k1, q + 1 = k1 := ⟨_, rfl⟩
      rw [hk1] at e1 e1' hx
      have HK1 := Lib.hid hk1
      have hpk : p ≤ k1 := by omega
      have hkl1 : k1 ≤ L := by omega
      have hx' : S.extract p k1 = T := hx
      clear hT hq hk1
      by_cases hkm : k < m
      · rw [decide_eq_true hkm] at hnb
        rw [hnb] at CN1
        clear hnb
        go_wp2_with fail
        go_quiet (fail)
        have R1 := Lib.hid (HRR.out.drewN nq)
        have O1 := Lib.hid (HO.out.drewN nq)
        obtain ⟨w1, hw1⟩ : ∃ w1, wr.drewN nq = w1 := ⟨_, rfl⟩
        rw [hw1] at R1 O1
        rw [hw1]
        clear hw1 c0 c1
        have c0 := HC0.out _ _ R1.out
        have c1 := R1.out.c1
        go_wp2_with fail
        go_quiet ((go_at_call 37; exact Calls.quiet_of_same (CN1.out _)))
        have R2 := Lib.hid (R1.out.drewN nq)
        have O2 := Lib.hid (O1.out.drewN nq)
        clear c0 c1
        have c1 := R2.out.c1
        have f1 := R2.out.fz 1
        go_wp2
        go_roundw
        case rel => exact ⟨k + 1, by omega, Lib.hid (by have h1 := HK1.out; have h2 := HQ.out; rw [show p + (k + 1) = k1 by omega]; exact R2.out.set k1), Lib.hid (O2.out.trans (only_set' 1 _) (fun x hx => .inl hx))⟩
        case measure => rw [(R2.out.set k1).posS, HRR.out.posS]; have h1 := HK1.out; omega
      · rw [decide_eq_false hkm] at hnb
        rw [hnb] at CN1
        clear hnb
        have HKM := Lib.hid (show p + m = q by have h2 := HQ.out; omega)
        have hpq : p ≤ q := by have h2 := HQ.out; omega
        have hql : q ≤ L := by omega
        have hx0 := HX.out q hpq hql
        rw [show q - p = m by have h2 := HQ.out; omega, HT0.out] at hx0
        go_wp2_with fail
        go_quiet (fail)
        have R1 := Lib.hid (HRR.out.drewN nq)
        have O1 := Lib.hid (HO.out.drewN nq)
        obtain ⟨w1, hw1⟩ : ∃ w1, wr.drewN nq = w1 := ⟨_, rfl⟩
        rw [hw1] at R1 O1
        rw [hw1]
        clear hw1 c0 c1
        have c0 := HC0.out _ _ R1.out
        have c1 := R1.out.c1
        go_wp2_with fail
        go_quiet ((go_at_call 37; exact Calls.quiet_of_same (CN1.out _)))
        have R2 := Lib.hid (R1.out.drewN nq)
        have O2 := Lib.hid (O1.out.drewN nq)
        obtain ⟨w2, hw2⟩ : ∃ w2, w1.drewN nq = w2 := ⟨_, rfl⟩
        rw [hw2] at R2 O2
        rw [hw2]
        clear hw2 c0 c1
        have c0 := HC0.out _ _ R2.out
        have c1 := R2.out.c1
        go_wp2_with fail
        go_quiet (fail)
        go_wp2
        go_ret
        exact ⟨rfl, O2.out.drewN nq, by rw [HKM.out]; exact R2.out.drewN nq⟩
    · have da : decide ((q : Int) < (L : Int)) = false := decide_eq_false (by omega)
      have da2 : decide (q < L) = false := decide_eq_false hkL
      have HKM := Lib.hid (show p + m = q by have h2 := HQ.out; omega)
      have hpq : p ≤ q := by have h2 := HQ.out; omega
      have hql : q ≤ L := by have h2 := HQ.out; omega
      have hx0 := HX.out q hpq hql
      rw [show q - p = m by have h2 := HQ.out; omega, HT0.out] at hx0
      go_wp2_with fail
      go_quiet (fail)
      have R1 := Lib.hid (HRR.out.drewN nq)
      have O1 := Lib.hid (HO.out.drewN nq)
      obtain ⟨w1, hw1⟩ : ∃ w1, wr.drewN nq = w1 := ⟨_, rfl⟩
      rw [hw1] at R1 O1
      rw [hw1]
      clear hw1 c0 c1
      have c0 := HC0.out _ _ R1.out
      have c1 := R1.out.c1
      go_wp2_with fail
      go_quiet (fail)
      go_wp2
      go_ret
      exact ⟨rfl, O1.out.drewN nq, by rw [HKM.out]; exact R1.out.drewN nq⟩
end Go.Proofs.YtiolghcjndoigaaGreatDoor
namespace Go.Proofs.YtiolghcjndoigaaGreatDoor
set_option linter.unusedVariables false
set_option linter.unusedSimpArgs false
open Go.RowKit Go.PlainAid Go.Shelf
theorem incR (k : Nat) (h : k ≤ 30000) : wrap64 ((k : Int) + 1) = ((k + 1 : Nat) : Int) ∧ IntKind.i64.wrap ((k : Int) + 1) = ((k + 1 : Nat) : Int) := ⟨by rw [wrap64_small (by omega) (by omega)]; omega, by rw [IntKind.wrap_i64]; omega⟩
structure SinceS (a b : World) : Prop where
  out : Below a.heap.size a b
theorem SinceS.start (a : World) : SinceS a a.drew := ⟨(Below.refl _ _).drew⟩
theorem SinceS.next {a b c : World} (h : SinceS a b) (k : Below b.heap.size b c) : SinceS a c := ⟨h.out.trans (k.mono h.out.size)⟩
theorem keepSS {A : World → Prop} {wr b c : World} (F : ∀ w', SinceS wr w' → A w') (h : A b ∧ SinceS wr b) (k : Below b.heap.size b c) : A c ∧ SinceS wr c := ⟨F _ (h.2.next k), h.2.next k⟩
theorem keepSOut {A : Prop} {wr b : World} (h : A ∧ SinceS wr b) : SinceS wr b := h.2
theorem valR_end {bs : List Nat} {p : Nat} {r : VR} (h : bs[p]? = some 34) (hc : cls (bs.drop p) 1 = 0) (hv : ValR bs p r) : r = .bad bs.length := by
  cases hv with
  | noquote h2 => exact absurd h h2
  | ends h2 hc2 => rfl
  | wrong n q h2 hc2 h0 hr he => omega
  | good n xs m h2 hc2 h0 hr => omega
theorem valR_some {bs : List Nat} {p n : Nat} {r : VR} (h : bs[p]? = some 34) (hc : cls (bs.drop p) 1 = n) (h0 : 0 < n) (hv : ValR bs p r) :
    ∃ q, IsQ ((bs.drop p).take n) q ∧ ((uErr q = 42 ∧ r = .bad p) ∨ (∃ xs m, q = .ok xs m ∧ r = .ok xs (skipB bs (p + n)))) := by
  cases hv with
  | noquote h2 => exact absurd h h2
  | ends h2 hc2 => omega
  | wrong n2 q h2 hc2 h02 hr he =>
    have e : n2 = n := by omega
    subst e
    refine ⟨q, hr, .inl ⟨?_, rfl⟩⟩
    cases q with
    | ok xs m => exact absurd rfl he
    | fault a => rfl
    | ended => rfl
  | good n2 xs m h2 hc2 h02 hr =>
    have e : n2 = n := by omega
    subst e
    exact ⟨_, hr, .inr ⟨xs, m, rfl, rfl⟩⟩
def RValPost (R : Nat) (bs : List Nat) (w : World) : VR → Ending → World → Prop
  | .ok xs e => fun en w' => Only [R] w w' ∧ en = .returned (.tuple #[.string (strOf xs), .bool true]) ∧ ∃ q, q ≤ bs.length ∧ skipB bs q = e ∧ Rs w' R bs q
  | .bad q => fun en w' => Only [R] w w' ∧ en = .returned (.tuple #[.string ⟨#[]⟩, .bool false]) ∧ Rs w' R bs q
set_option maxRecDepth 100000 in
set_option maxHeartbeats 4000000 in
theorem rvalue_any (R : Nat) (bs : List Nat) (p : Nat) (r : VR) (hB : IsB bs) (hl : bs.length ≤ 20000) (hp : p ≤ bs.length) (hv : ValR bs p r) (w : World) (H : Rs w R bs p) :
    Calls Tryz.prog 122 #[.pointer (some ⟨R, 0, none⟩)] w (RValPost R bs w r) := by
  have hsz := strOf_size bs
  have hbt := get_bt (strOf bs)
  have HS := Lib.hid (fun (k c : Nat) (hk : bs[k]? = some c) => show bt (strOf bs) k = (c : Int) ∧ c < 256 by
    obtain ⟨h1, h2⟩ := List.getElem?_eq_some_iff.1 hk
    have := strOf_bt bs hB k h1
    rw [h2] at this
    exact ⟨this, at_isB hB hk⟩)
  have HR := Lib.hid H
  have HV := Lib.hid hv
  have HBB := Lib.hid hB
  have HX := Lib.hid (fun q h1 h2 => strOf_extract bs p q h1 h2)
  obtain ⟨L, hL⟩ : ∃ L, bs.length = L := ⟨_, rfl⟩
  have HL := Lib.hid hL
  rw [hL] at hsz hp hl HX
  obtain ⟨S, hS⟩ : ∃ S, strOf bs = S := ⟨_, rfl⟩
  rw [hS] at hsz hbt HS HX
  have HC0 := Lib.hid (fun (w : World) (k : Nat) (h : Rs w R bs k) => show w.cell? ⟨R, 0, none⟩ = some (.string S) by rw [← hS]; exact h.c0)
  have c0 := HC0.out _ _ HR.out
  have c1 := HR.out.c1
  clear hL hB H hS hv
  by_cases hq : bs[p]? = some 34
  · have HQ := Lib.hid hq
    have hpL : p < L := by rw [← HL.out]; exact (List.getElem?_eq_some_iff.1 hq).1
    obtain ⟨hbk, _⟩ := HS.out p 34 hq
    have da : decide ((p : Int) ≥ (L : Int)) = false := decide_eq_false (by omega)
    have da1 : decide ((L : Int) ≤ (p : Int)) = false := decide_eq_false (by omega)
    have da2 : decide (L ≤ p) = false := decide_eq_false (by omega)
    have hki : (p : Int) < (L : Int) := by omega
    have n1 : (((34 : Nat) : Int) != 34) = false := by simp
    obtain ⟨C, hC⟩ : ∃ C, cls (bs.drop p) 1 = C := ⟨_, rfl⟩
    have HC := Lib.hid hC
    have e1 : wrap64 ((p : Int) + 1) = ((p + 1 : Nat) : Int) := by rw [wrap64_small (by omega) (by omega)]; omega
    have e1' : IntKind.i64.wrap ((p : Int) + 1) = ((p + 1 : Nat) : Int) := by rw [IntKind.wrap_i64]; omega
    obtain ⟨p1, hp1⟩ : ∃ k1, p + 1 = k1 := ⟨_, rfl⟩
    rw [hp1] at e1 e1'
    have HP1 := Lib.hid hp1
    clear hq hC hp1
    go_enter Tryz.func122, Tryz.ntmps122
    go_wp2_with fail
    go_quiet (fail)
    have R1 := Lib.hid (HR.out.drewN nq)
    have O1 := Lib.hid ((Only.refl [R] w).drewN nq)
    obtain ⟨w1, hw1⟩ : ∃ w1, w.drewN nq = w1 := ⟨_, rfl⟩
    rw [hw1] at R1 O1
    rw [hw1]
    clear hw1 c0 c1
    have c1 := R1.out.c1
    have f1 := R1.out.fz 1
    have R2 := Lib.hid (R1.out.set p1)
    have O2 := Lib.hid (O1.out.trans (only_set' 1 (.int .i64 ((p1 : Nat) : Int))) (fun x hx => .inl hx))
    go_wp2
    clear c1 f1 da da1 da2 e1 e1' n1 hki hbk
    go_loopw [] (fun wr => ∃ (k : Nat), p < k ∧ k ≤ L + 1 ∧ Hid (Rs wr R bs k) ∧ Hid (cls (bs.drop p) (k - p) = C) ∧ Hid (Only [R] w wr)) (fun wr => L + 1 - posS R wr)
    case atStart => exact ⟨p1, by have := HP1.out; omega, by have := HP1.out; omega, R2, Lib.hid (by rw [← HP1.out, Nat.add_sub_cancel_left]; exact HC.out), O2⟩
    case round =>
      obtain ⟨k, hpk, hk, HRR, HK, HO⟩ := hrel
      have c0 := HC0.out _ _ HRR.out
      have c1 := HRR.out.c1
      by_cases hkL : k < L
      · have da : decide ((k : Int) < (L : Int)) = true := decide_eq_true (by omega)
        have da2 : decide (k < L) = true := decide_eq_true hkL
        have hki : (k : Int) < (L : Int) := by omega
        obtain ⟨c, hc⟩ : ∃ c, bs[k]? = some c := ⟨_, List.getElem?_eq_getElem (by rw [HL.out]; exact hkL)⟩
        obtain ⟨hbk, hc256⟩ := HS.out k c hc
        have hd : (bs.drop p)[k - p]? = some c := by rw [List.getElem?_drop, show p + (k - p) = k by omega]; exact hc
        by_cases h34 : c = 34
        · subst h34
          have n1 : (((34 : Nat) : Int) != 34) = false := by simp
          have HCC := Lib.hid (show p + C = k + 1 by have := HK.out; rw [cls_quote hd] at this; omega)
          obtain ⟨q, hqq, hres⟩ := valR_some HQ.out HC.out (by have := HCC.out; omega) HV.out
          have HRES := Lib.hid hres
          have CU := Lib.hid (runquote_any ((bs.drop p).take C) q (isB_take (isB_drop HBB.out p) C) (by rw [List.length_take, List.length_drop, HL.out]; omega) hqq)
          unfold uvalR at CU
          have hx := HX.out (k + 1) (by omega) (by omega)
          rw [show k + 1 - p = C by have := HCC.out; omega] at hx
          obtain ⟨T, hT⟩ : ∃ T, strOf ((bs.drop p).take C) = T := ⟨_, rfl⟩
          obtain ⟨U2, hU2⟩ : ∃ x, uPos ((bs.drop p).take C) q = x := ⟨_, rfl⟩
          rw [hT] at CU hx
          rw [hU2] at CU
          have e1 : wrap64 ((k : Int) + 1) = ((k + 1 : Nat) : Int) := by rw [wrap64_small (by omega) (by omega)]; omega
          have e1' : IntKind.i64.wrap ((k : Int) + 1) = ((k + 1 : Nat) : Int) := by rw [IntKind.wrap_i64]; omega
          obtain ⟨k1, hk1⟩ : ∃ k1, k + 1 = k1 := ⟨_, rfl⟩
          rw [hk1] at e1 e1' hx HCC
          have hpk1 : p ≤ k1 := by omega
          have hkl1 : k1 ≤ L := by omega
          have hx' : S.extract p k1 = T := hx
          have g1 : decide ((k : Int) ≥ (L : Int)) = false := decide_eq_false (by omega)
          have g2 : decide ((L : Int) ≤ (k : Int)) = false := decide_eq_false (by omega)
          have g3 : decide (L ≤ k) = false := decide_eq_false (by omega)
          have HKL := Lib.hid hkl1
          clear hT hU2 hk1 hqq hres hd hc hpk hk hkL
          go_wp2_with fail
          go_quiet (fail)
          have R1 := Lib.hid (HRR.out.drewN nq)
          have O1 := Lib.hid (HO.out.drewN nq)
          obtain ⟨w1, hw1⟩ : ∃ w1, wr.drewN nq = w1 := ⟨_, rfl⟩
          rw [hw1] at R1 O1
          rw [hw1]
          clear hw1 c0 c1
          have c0 := HC0.out _ _ R1.out
          have c1 := R1.out.c1
          go_wp2_with fail
          go_quiet (fail)
          have R2 := Lib.hid (R1.out.drewN nq)
          have O2 := Lib.hid (O1.out.drewN nq)
          obtain ⟨w2, hw2⟩ : ∃ w2, w1.drewN nq = w2 := ⟨_, rfl⟩
          rw [hw2] at R2 O2
          rw [hw2]
          clear hw2 c0 c1
          have c1 := R2.out.c1
          have f1 := R2.out.fz 1
          go_wp2_with fail
          have R3 := Lib.hid (R2.out.set k1)
          have O3 := Lib.hid (O2.out.trans (only_set' 1 (.int .i64 ((k1 : Nat) : Int))) (fun x hx => .inl hx))
          obtain ⟨w3, hw3⟩ : ∃ w3, w2.setCell ⟨R, 1, none⟩ (.int .i64 ((k1 : Nat) : Int)) = w3 := ⟨_, rfl⟩
          rw [hw3] at R3 O3
          rw [hw3]
          clear hw3 c1 f1 g1 g2 g3 da da2 hki
          have HCW := Lib.hid (show ∀ w', SinceS w3 w' → (w'.cell? ⟨R, 0, none⟩ = some (.string S) ∧ w'.cell? ⟨R, 1, none⟩ = some (.int .i64 ((k1 : Nat) : Int))) from fun w' hs => ⟨HC0.out _ _ (R3.out.stay hs.out), (R3.out.stay hs.out).c1⟩)
          go_region_held3 (fun w' => (w'.cell? ⟨R, 0, none⟩ = some (.string S) ∧ w'.cell? ⟨R, 1, none⟩ = some (.int .i64 ((k1 : Nat) : Int))) ∧ SinceS w3 w')
            ((first | exact ⟨HCW.out _ (SinceS.start _), SinceS.start _⟩ | (refine keepSS (A := fun w' => (w'.cell? ⟨R, 0, none⟩ = some (.string S) ∧ w'.cell? ⟨R, 1, none⟩ = some (.int .i64 ((k1 : Nat) : Int)))) HCW.out ?_ (by assumption); assumption)))
            ((go_at_call 136; refine (CU.out _).mono ?_; rintro e w' ⟨rfl, hb⟩))
          all_goals
            have HSN := Lib.hid (keepSOut (wr := w3) (by assumption))
            have R4 := Lib.hid (R3.out.stay HSN.out.out)
            have O4 := Lib.hid (O3.out.trans (Only.of_below HSN.out.out [R]) (fun x hx => .inl hx))
            have c1 := R4.out.c1
            have f1 := R4.out.fz 1
            rcases HRES.out with ⟨he, hr⟩ | ⟨xs, m, hq, hr⟩
            · subst hr
              rw [he]
              go_wp2
              go_ret2
              exact ⟨O4.out.trans (only_set' 1 _) (fun x hx => .inl hx), rfl, R4.out.set p⟩
            · subst hr hq
              rw [show uErr (.ok xs m) = 0 from rfl, show uStr (.ok xs m) = xs from rfl]
              go_wp2
              go_ret2
              exact ⟨O4.out, rfl, k1, by rw [HL.out]; exact HKL.out, by rw [HCC.out], R4.out⟩
        · have n1 : ((c : Int) != 34) = true := by simp; omega
          have HB1 := Lib.hid (show p < k + 1 ∧ k + 1 ≤ L + 1 ∧ L + 1 - (k + 1) < L + 1 - k by omega)
          have HB2 := Lib.hid (show p < k + 1 + 1 ∧ k + 1 + 1 ≤ L + 1 ∧ L + 1 - (k + 1 + 1) < L + 1 - k by omega)
          have w30 : k + 1 ≤ 30000 := by omega
          obtain ⟨k1, hk1⟩ : ∃ k1, k + 1 = k1 := ⟨_, rfl⟩
          by_cases h92 : c = 92
          · subst h92
            have m1 : (((92 : Nat) : Int) == 92) = true := by simp
            have HK2 := Lib.hid (show cls (bs.drop p) (k1 + 1 - p) = C by rw [← HK.out, cls_esc hd, ← hk1, show k - p + 2 = k + 1 + 1 - p by omega])
            obtain ⟨e1, e1'⟩ := incR k (by omega)
            obtain ⟨e2, e2'⟩ := incR (k + 1) w30
            rw [hk1] at e1 e1' e2 e2' HB2
            obtain ⟨k2, hk2⟩ : ∃ k2, k1 + 1 = k2 := ⟨_, rfl⟩
            rw [hk2] at e2 e2' HK2 HB2
            clear hk1 hk2 hd hc h34 w30 HB1
            go_wp2_with fail
            go_quiet (fail)
            have R1 := Lib.hid (HRR.out.drewN nq)
            have O1 := Lib.hid (HO.out.drewN nq)
            obtain ⟨w1, hw1⟩ : ∃ w1, wr.drewN nq = w1 := ⟨_, rfl⟩
            rw [hw1] at R1 O1
            rw [hw1]
            clear hw1 c0 c1
            have c0 := HC0.out _ _ R1.out
            have c1 := R1.out.c1
            go_wp2_with fail
            go_quiet (fail)
            have R2 := Lib.hid (R1.out.drewN nq)
            have O2 := Lib.hid (O1.out.drewN nq)
            obtain ⟨w2, hw2⟩ : ∃ w2, w1.drewN nq = w2 := ⟨_, rfl⟩
            rw [hw2] at R2 O2
            rw [hw2]
            clear hw2 c0 c1
            have c1 := R2.out.c1
            have f1 := R2.out.fz 1
            have R3 := Lib.hid (R2.out.set k1)
            have c2 := R3.out.c1
            have f2 := R3.out.fz 1
            have O3 := Lib.hid (O2.out.trans (only_set' 1 (.int .i64 ((k1 : Nat) : Int))) (fun x hx => .inl hx))
            go_wp2
            go_roundw
            case rel => exact ⟨k2, HB2.out.1, HB2.out.2.1, Lib.hid (R3.out.set k2), HK2, Lib.hid (O3.out.trans (only_set' 1 _) (fun x hx => .inl hx))⟩
            case measure => rw [(R3.out.set k2).posS, HRR.out.posS]; exact HB2.out.2.2
          · have m1 : ((c : Int) == 92) = false := by simp; omega
            have HK2 := Lib.hid (show cls (bs.drop p) (k1 - p) = C by rw [← HK.out, cls_other hd h34 h92, ← hk1, show k - p + 1 = k + 1 - p by omega])
            obtain ⟨e1, e1'⟩ := incR k (by omega)
            rw [hk1] at e1 e1' HB1
            clear hk1 hd hc h34 h92 w30 HB2
            go_wp2_with fail
            go_quiet (fail)
            have R1 := Lib.hid (HRR.out.drewN nq)
            have O1 := Lib.hid (HO.out.drewN nq)
            obtain ⟨w1, hw1⟩ : ∃ w1, wr.drewN nq = w1 := ⟨_, rfl⟩
            rw [hw1] at R1 O1
            rw [hw1]
            clear hw1 c0 c1
            have c0 := HC0.out _ _ R1.out
            have c1 := R1.out.c1
            go_wp2_with fail
            go_quiet (fail)
            have R2 := Lib.hid (R1.out.drewN nq)
            have O2 := Lib.hid (O1.out.drewN nq)
            obtain ⟨w2, hw2⟩ : ∃ w2, w1.drewN nq = w2 := ⟨_, rfl⟩
            rw [hw2] at R2 O2
            rw [hw2]
            clear hw2 c0 c1
            have c1 := R2.out.c1
            have f1 := R2.out.fz 1
            go_wp2
            go_roundw
            case rel => exact ⟨k1, HB1.out.1, HB1.out.2.1, Lib.hid (R2.out.set k1), HK2, Lib.hid (O2.out.trans (only_set' 1 _) (fun x hx => .inl hx))⟩
            case measure => rw [(R2.out.set k1).posS, HRR.out.posS]; exact HB1.out.2.2
      · have da : decide ((k : Int) < (L : Int)) = false := decide_eq_false (by omega)
        have da2 : decide (k < L) = false := decide_eq_false hkL
        have g1 : decide ((k : Int) ≥ (L : Int)) = true := decide_eq_true (by omega)
        have g2 : decide ((L : Int) ≤ (k : Int)) = true := decide_eq_true (by omega)
        have g3 : decide (L ≤ k) = true := decide_eq_true (by omega)
        have HE := Lib.hid (valR_end HQ.out (by rw [HC.out, ← HK.out, cls_end (by rw [List.length_drop, HL.out]; omega)]) HV.out)
        go_wp2_with fail
        go_quiet (fail)
        have R1 := Lib.hid (HRR.out.drewN nq)
        have O1 := Lib.hid (HO.out.drewN nq)
        obtain ⟨w1, hw1⟩ : ∃ w1, wr.drewN nq = w1 := ⟨_, rfl⟩
        rw [hw1] at R1 O1
        rw [hw1]
        clear hw1 c0 c1
        have c0 := HC0.out _ _ R1.out
        have c1 := R1.out.c1
        go_wp2_with fail
        go_quiet (fail)
        have R2 := Lib.hid (R1.out.drewN nq)
        have O2 := Lib.hid (O1.out.drewN nq)
        obtain ⟨w2, hw2⟩ : ∃ w2, w1.drewN nq = w2 := ⟨_, rfl⟩
        rw [hw2] at R2 O2
        rw [hw2]
        clear hw2 c0 c1
        have c0 := HC0.out _ _ R2.out
        have c1 := R2.out.c1
        have f1 := R2.out.fz 1
        go_wp2
        go_ret2
        rw [HE.out]
        exact ⟨O2.out.trans (only_set' 1 _) (fun x hx => .inl hx), rfl, by rw [HL.out]; exact R2.out.set L⟩
  · have HE := Lib.hid (show r = .bad p by
      have := HV.out
      cases this with
      | noquote h2 => rfl
      | ends h2 hc2 => exact absurd h2 hq
      | wrong n q h2 hc2 h02 hr he => exact absurd h2 hq
      | good n2 xs m h2 hc2 h02 hr => exact absurd h2 hq)
    by_cases hkL : p < L
    · have da : decide ((p : Int) ≥ (L : Int)) = false := decide_eq_false (by omega)
      have da1 : decide ((L : Int) ≤ (p : Int)) = false := decide_eq_false (by omega)
      have da2 : decide (L ≤ p) = false := decide_eq_false (by omega)
      have hki : (p : Int) < (L : Int) := by omega
      obtain ⟨c, hc⟩ : ∃ c, bs[p]? = some c := ⟨_, List.getElem?_eq_getElem (by rw [HL.out]; exact hkL)⟩
      obtain ⟨hbk, hc256⟩ := HS.out p c hc
      have hne : c ≠ 34 := fun e => hq (by rw [hc, e])
      have n1 : ((c : Int) != 34) = true := by simp; omega
      clear hc hq hne
      go_enter Tryz.func122, Tryz.ntmps122
      go_wp2_with fail
      go_quiet (fail)
      go_wp2
      go_ret2
      rw [HE.out]
      exact ⟨(Only.refl [R] w).drewN nq, rfl, HR.out.drewN nq⟩
    · have da : decide ((p : Int) ≥ (L : Int)) = true := decide_eq_true (by omega)
      have da1 : decide ((L : Int) ≤ (p : Int)) = true := decide_eq_true (by omega)
      have da2 : decide (L ≤ p) = true := decide_eq_true (by omega)
      go_enter Tryz.func122, Tryz.ntmps122
      go_wp2_with fail
      go_quiet (fail)
      go_wp2
      go_ret2
      rw [HE.out]
      exact ⟨(Only.refl [R] w).drewN nq, rfl, HR.out.drewN nq⟩
end Go.Proofs.YtiolghcjndoigaaGreatDoor
namespace Go.Proofs.YtiolghcjndoigaaGreatDoor
set_option linter.unusedVariables false
set_option linter.unusedSimpArgs false
open Go.RowKit Go.PlainAid Go.Shelf
theorem rsign_yes (R : Nat) (bs : List Nat) (p q c : Nat) (hB : IsB bs) (hp : p ≤ bs.length) (hl : bs.length ≤ 20000) (hc : c < 256) (hq : skipB bs p = q) (h : bs[q]? = some c) (w : World) (H : Rs w R bs p) :
    Calls Tryz.prog 120 #[.pointer (some ⟨R, 0, none⟩), .int .u8 ((c : Nat) : Int)] w fun e w' => e = .returned (.bool true) ∧ Only [R] w w' ∧ Rs w' R bs (skipB bs (q + 1)) :=
  (rsign_any R bs p c hB hp hl hc w H).mono fun e w' hpost => by
    obtain ⟨ho, h1 | h1⟩ := hpost
    · rw [hq] at h1; exact ⟨h1.2.1, ho, h1.2.2⟩
    · rw [hq] at h1; exact absurd h h1.1
theorem rsign_no (R : Nat) (bs : List Nat) (p q c : Nat) (hB : IsB bs) (hp : p ≤ bs.length) (hl : bs.length ≤ 20000) (hc : c < 256) (hq : skipB bs p = q) (h : bs[q]? ≠ some c) (w : World) (H : Rs w R bs p) :
    Calls Tryz.prog 120 #[.pointer (some ⟨R, 0, none⟩), .int .u8 ((c : Nat) : Int)] w fun e w' => e = .returned (.bool false) ∧ Only [R] w w' ∧ Rs w' R bs q :=
  (rsign_any R bs p c hB hp hl hc w H).mono fun e w' hpost => by
    obtain ⟨ho, h1 | h1⟩ := hpost
    · rw [hq] at h1; exact absurd h1.1 h
    · rw [hq] at h1; exact ⟨h1.2.1, ho, h1.2.2⟩
def RAllPost (R : Nat) (bs : List Nat) (w : World) (r : PR) (e : Ending) (w' : World) : Prop := Only [R] w w' ∧ (match r with
  | .good l => ∃ v, e = .returned (.tuple #[v, .bool true]) ∧ OwnL w' w.heap.size v l
  | .bad q => (∃ v, e = .returned (.tuple #[v, .bool false])) ∧ Rs w' R bs q)
set_option maxRecDepth 100000 in
set_option maxHeartbeats 8000000 in
theorem rall_any (R : Nat) (bs : List Nat) (r : PR) (hB : IsB bs) (hl : bs.length ≤ 20000) (hv : AllR bs r) (w : World) (H : Rs w R bs 0) :
    Calls Tryz.prog 99 #[.pointer (some ⟨R, 0, none⟩)] w (RAllPost R bs w r) := by
  obtain ⟨i0, hi, hz0, hz1, hz2⟩ := info_parts info94'
  have HR := Lib.hid H
  rcases hv with ⟨h0, hrun⟩ | ⟨h0, rfl⟩
  case inr =>
    have CO := Lib.hid (fun w H => rsign_no R bs 0 (skipB bs 0) 123 hB (Nat.zero_le _) hl (by decide) rfl h0 w H)
    clear h0 H hB
    go_enter Tryz.func99, Tryz.ntmps99
    go_wp2_with fail
    refine (CO.out _ HR.out).mono ?_
    rintro e w1 ⟨rfl, ho, hr⟩
    have R1 := Lib.hid hr
    have O1 := Lib.hid ho
    clear ho hr
    go_wp2
    go_ret2
    exact ⟨O1.out, ⟨_, rfl⟩, R1.out⟩
  have CO := Lib.hid (fun w H => rsign_yes R bs 0 (skipB bs 0) 123 hB (Nat.zero_le _) hl (by decide) rfl h0 w H)
  have CY := Lib.hid (fun p q hp (hq : skipB bs p = q) (h : bs[q]? = some 125) w H => rsign_yes R bs p q 125 hB hp hl (by decide) hq h w H)
  have CN := Lib.hid (fun p q hp (hq : skipB bs p = q) (h : bs[q]? ≠ some 125) w H => rsign_no R bs p q 125 hB hp hl (by decide) hq h w H)
  have CCY := Lib.hid (fun p q hp (hq : skipB bs p = q) (h : bs[q]? = some 44) w H => rsign_yes R bs p q 44 hB hp hl (by decide) hq h w H)
  have CCN := Lib.hid (fun p q hp (hq : skipB bs p = q) (h : bs[q]? ≠ some 44) w H => rsign_no R bs p q 44 hB hp hl (by decide) hq h w H)
  have CEY := Lib.hid (fun p q hp (hq : skipB bs p = q) (h : bs[q]? = some 61) w H => rsign_yes R bs p q 61 hB hp hl (by decide) hq h w H)
  have CEN := Lib.hid (fun p q hp (hq : skipB bs p = q) (h : bs[q]? ≠ some 61) w H => rsign_no R bs p q 61 hB hp hl (by decide) hq h w H)
  have CNM := Lib.hid (fun p hp w H => rscanname_any R bs p hB hp hl w H)
  have CV := Lib.hid (fun p r hp hv w H => rvalue_any R bs p r hB hl hp hv w H)
  have HLT := Lib.hid H.lt
  have HB0 := Lib.hid (show skipB bs 0 + 1 ≤ bs.length from (List.getElem?_eq_some_iff.1 h0).1)
  have HRUN := Lib.hid hrun
  have HLEN := Lib.hid hl
  have HBB := Lib.hid hB
  have hsz := strOf_size bs
  obtain ⟨S, hS⟩ : ∃ S, strOf bs = S := ⟨_, rfl⟩
  rw [hS] at hsz
  have HC0 := Lib.hid (fun (w : World) (k : Nat) (h : Rs w R bs k) => show w.cell? ⟨R, 0, none⟩ = some (.string S) by rw [← hS]; exact h.c0)
  obtain ⟨L, hL⟩ : ∃ L, bs.length = L := ⟨_, rfl⟩
  have HL := Lib.hid hL
  rw [hL] at hsz
  clear hB hl h0 hrun H hS hL
  go_enter Tryz.func99, Tryz.ntmps99
  go_wp2_with fail
  refine (CO.out _ HR.out).mono ?_
  rintro e w2 ⟨rfl, ho, hr⟩
  have R2 := Lib.hid hr
  have O2 := Lib.hid ho
  clear ho hr
  go_wp2_with fail
  go_loopw [4] (fun v wr => ∃ (p : Nat) (sofar : List Lm.Lb) (rest : PR), Hid (OwnL wr w.heap.size v sofar) ∧ Hid (Rs wr R bs p) ∧ Hid (RunR bs p true rest) ∧ Hid (glue sofar rest = r) ∧ Hid (Only [R] w wr) ∧ Hid (sofar.length ≤ p) ∧ Hid (skipB bs p = p)) (fun _ wr => bs.length - posS R wr)
  case atStart => exact ⟨_, [], r, Lib.hid (World.ownsRow_nil _ _ _ _), R2, HRUN, Lib.hid (glue_nil r), O2, Lib.hid (Nat.zero_le _), Lib.hid (skipB_idem bs _ HB0.out)⟩
  case round =>
    obtain ⟨p, sofar, rest, HO, HRR, HRU, HE, HON, HLE, HID⟩ := hrel
    have hru := HRU.out
    clear HRU
    cases hru with
    | close p go h he =>
      have hpl := Nat.le_of_lt (List.getElem?_eq_some_iff.1 h).1
      have CY1 := Lib.hid (fun w H => CY.out p p hpl HID.out h w H)
      have HE1 := Lib.hid he
      have HS := Lib.hid (show PR.good sofar = r by rw [← HE.out]; show PR.good sofar = PR.good (sofar ++ []); rw [List.append_nil])
      clear h he hpl
      go_wp2_with fail
      refine (CY1.out _ HRR.out).mono ?_
      rintro e w3 ⟨rfl, ho, hr⟩
      rw [HE1.out, HL.out] at hr
      have R3 := Lib.hid hr
      have N3 := Lib.hid (HON.out.trans ho (fun x hx => .inl hx))
      have O3 := Lib.hid (HO.out.only ho (fun k hk => by have := HLT.out; simp at hk; omega))
      clear ho hr
      have c0 := HC0.out _ _ R3.out
      have c1 := R3.out.c1
      have q1 : ((L : Int) == (L : Int)) = true := by simp
      go_wp2_with fail
      go_quiet (fail)
      go_wp2
      go_ret2
      rw [← HS.out]
      exact ⟨N3.out.drewN nq, _, rfl, show OwnL w3 _ _ _ from O3.out⟩
    | behind p q go h he hq =>
      have hpl := Nat.le_of_lt (List.getElem?_eq_some_iff.1 h).1
      have CY1 := Lib.hid (fun w H => CY.out p p hpl HID.out h w H)
      have HE1 := Lib.hid he
      have HS := Lib.hid (show PR.bad q = r by rw [← HE.out]; rfl)
      rw [HL.out] at hq
      have q1 : ((q : Int) == (L : Int)) = false := by rw [beq_eq_false_iff_ne]; omega
      clear h he hpl hq
      go_wp2_with fail
      refine (CY1.out _ HRR.out).mono ?_
      rintro e w3 ⟨rfl, ho, hr⟩
      rw [HE1.out] at hr
      have R3 := Lib.hid hr
      have N3 := Lib.hid (HON.out.trans ho (fun x hx => .inl hx))
      clear ho hr
      have c0 := HC0.out _ _ R3.out
      have c1 := R3.out.c1
      go_wp2_with fail
      go_quiet (fail)
      go_wp2
      go_ret2
      rw [← HS.out]
      exact ⟨N3.out.drewN nq, ⟨_, rfl⟩, R3.out.drewN nq⟩
    | wrong p q hp h hx =>
      have CN1 := Lib.hid (fun w H => CN.out p p hp HID.out h w H)
      have CM1 := Lib.hid (fun w H => CNM.out p hp w H)
      have HS := Lib.hid (show PR.bad q = r by rw [← HE.out]; rfl)
      clear h
      cases hx with
      | noname hm =>
        rw [hm] at CM1
        rw [show strOf ((bs.drop p).take 0) = ⟨#[]⟩ by rw [List.take_zero]; rfl, Nat.add_zero] at CM1
        clear hm
        go_wp2_with fail
        refine (CN1.out _ HRR.out).mono ?_
        rintro e1 w3 ⟨rfl, ho, hr⟩
        have R3 := Lib.hid hr
        have O3 := Lib.hid (HO.out.only ho (fun k hk => by have := HLT.out; simp at hk; omega))
        have N3 := Lib.hid (HON.out.trans ho (fun x hx => .inl hx))
        clear ho hr
        go_wp2_with fail
        refine (CM1.out _ R3.out).mono ?_
        rintro e1 w4 ⟨rfl, ho, hr⟩
        have R4 := Lib.hid hr
        have O4 := Lib.hid (O3.out.only ho (fun k hk => by have := HLT.out; simp at hk; omega))
        have N4 := Lib.hid (N3.out.trans ho (fun x hx => .inl hx))
        clear ho hr
        go_wp2
        go_ret2
        rw [← HS.out]
        exact ⟨N4.out, ⟨_, rfl⟩, R4.out⟩
      | nosign m p1 hm hm0 h1 h61 =>
        have hnl := nmL_le (bs.drop p)
        rw [hm, List.length_drop] at hnl
        rw [hm] at CM1
        have hns := strOf_size ((bs.drop p).take m)
        rw [List.length_take, List.length_drop] at hns
        have hns2 : (strOf ((bs.drop p).take m)).size = m := by rw [hns]; omega
        obtain ⟨N, hN⟩ : ∃ N, strOf ((bs.drop p).take m) = N := ⟨_, rfl⟩
        have hne : ¬ N.toList = [] := by
          intro e
          have : N = ⟨#[]⟩ := (toList_iff _ _).1 (by rw [e, ByteArray.toList_eq])
          rw [hN, this] at hns2
          have : m = 0 := hns2.symm
          omega
        have hie : N.toList.isEmpty = false := by cases h : N.toList with
          | nil => exact absurd h hne
          | cons => rfl
        rw [hN] at CM1
        have CE1 := Lib.hid (fun w H => CEN.out (p + m) q (by omega) h1 h61 w H)
        clear hm hm0 h1 h61 hns hns2 hN hnl
        go_wp2_with fail
        refine (CN1.out _ HRR.out).mono ?_
        rintro e1 w3 ⟨rfl, ho, hr⟩
        have R3 := Lib.hid hr
        have O3 := Lib.hid (HO.out.only ho (fun k hk => by have := HLT.out; simp at hk; omega))
        have N3 := Lib.hid (HON.out.trans ho (fun x hx => .inl hx))
        clear ho hr
        go_wp2_with fail
        refine (CM1.out _ R3.out).mono ?_
        rintro e1 w4 ⟨rfl, ho, hr⟩
        have R4 := Lib.hid hr
        have O4 := Lib.hid (O3.out.only ho (fun k hk => by have := HLT.out; simp at hk; omega))
        have N4 := Lib.hid (N3.out.trans ho (fun x hx => .inl hx))
        clear ho hr
        go_wp2_with fail
        refine (CE1.out _ R4.out).mono ?_
        rintro e1 w5 ⟨rfl, ho, hr⟩
        have R5 := Lib.hid hr
        have N5 := Lib.hid (N4.out.trans ho (fun x hx => .inl hx))
        clear ho hr
        go_wp2
        go_ret2
        rw [← HS.out]
        exact ⟨N5.out, ⟨_, rfl⟩, R5.out⟩
      | bad m p1 q hm hm0 h1 h61 hvv =>
        have hnl := nmL_le (bs.drop p)
        rw [hm, List.length_drop] at hnl
        rw [hm] at CM1
        have hns := strOf_size ((bs.drop p).take m)
        rw [List.length_take, List.length_drop] at hns
        have hns2 : (strOf ((bs.drop p).take m)).size = m := by rw [hns]; omega
        obtain ⟨N, hN⟩ : ∃ N, strOf ((bs.drop p).take m) = N := ⟨_, rfl⟩
        have hne : ¬ N.toList = [] := by
          intro e
          have : N = ⟨#[]⟩ := (toList_iff _ _).1 (by rw [e, ByteArray.toList_eq])
          rw [hN, this] at hns2
          have : m = 0 := hns2.symm
          omega
        have hie : N.toList.isEmpty = false := by cases h : N.toList with
          | nil => exact absurd h hne
          | cons => rfl
        rw [hN] at CM1
        have CE1 := Lib.hid (fun w H => CEY.out (p + m) p1 (by omega) h1 h61 w H)
        have CV1 := Lib.hid (fun w H => CV.out (skipB bs (p1 + 1)) (.bad q) (skipB_le _ _) hvv w H)
        unfold RValPost at CV1
        simp only at CV1
        clear hm hm0 h1 h61 hns hns2 hN hnl hvv
        go_wp2_with fail
        refine (CN1.out _ HRR.out).mono ?_
        rintro e1 w3 ⟨rfl, ho, hr⟩
        have R3 := Lib.hid hr
        have O3 := Lib.hid (HO.out.only ho (fun k hk => by have := HLT.out; simp at hk; omega))
        have N3 := Lib.hid (HON.out.trans ho (fun x hx => .inl hx))
        clear ho hr
        go_wp2_with fail
        refine (CM1.out _ R3.out).mono ?_
        rintro e1 w4 ⟨rfl, ho, hr⟩
        have R4 := Lib.hid hr
        have O4 := Lib.hid (O3.out.only ho (fun k hk => by have := HLT.out; simp at hk; omega))
        have N4 := Lib.hid (N3.out.trans ho (fun x hx => .inl hx))
        clear ho hr
        go_wp2_with fail
        refine (CE1.out _ R4.out).mono ?_
        rintro e1 w5 ⟨rfl, ho, hr⟩
        have R5 := Lib.hid hr
        have N5 := Lib.hid (N4.out.trans ho (fun x hx => .inl hx))
        clear ho hr
        go_wp2_with fail
        refine (CV1.out _ R5.out).mono ?_
        rintro e1 w6 ⟨ho, rfl, hr⟩
        have R6 := Lib.hid hr
        have N6 := Lib.hid (N5.out.trans ho (fun x hx => .inl hx))
        clear ho hr
        go_wp2
        go_ret2
        rw [← HS.out]
        exact ⟨N6.out, ⟨_, rfl⟩, R6.out⟩
    | more p e x rr hp h hx hc hrl =>
      have CN1 := Lib.hid (fun w H => CN.out p p hp HID.out h w H)
      have CM1 := Lib.hid (fun w H => CNM.out p hp w H)
      have hlt := labR_ok hp hx
      have HRL := Lib.hid hrl
      have HE2 := Lib.hid (show glue (sofar ++ [x]) rr = r by rw [glue_cons]; exact HE.out)
      obtain ⟨av, cv, rfl⟩ := ownL_shape HO.out
      obtain ⟨n, hn⟩ : ∃ n, sofar.length = n := ⟨_, rfl⟩
      have HNN := Lib.hid hn
      have hnp : n ≤ p := by rw [← hn]; exact HLE.out
      have hlen := HLEN.out
      have hnl0 : n ≤ 200000 := by omega
      rw [hn] at HO ⊢
      have HLT2 := Lib.hid hlt
      have HCE := Lib.hid hc
      cases hx with
      | good m p1 en ds hm hm0 h1 h61 hvv =>
        have hnl := nmL_le (bs.drop p)
        rw [hm, List.length_drop] at hnl
        rw [hm] at CM1
        have hns := strOf_size ((bs.drop p).take m)
        rw [List.length_take, List.length_drop] at hns
        have hns2 : (strOf ((bs.drop p).take m)).size = m := by rw [hns]; omega
        obtain ⟨N, hN⟩ : ∃ N, strOf ((bs.drop p).take m) = N := ⟨_, rfl⟩
        have hne : ¬ N.toList = [] := by
          intro e
          have : N = ⟨#[]⟩ := (toList_iff _ _).1 (by rw [e, ByteArray.toList_eq])
          rw [hN, this] at hns2
          have : m = 0 := hns2.symm
          omega
        have hie : N.toList.isEmpty = false := by cases h : N.toList with
          | nil => exact absurd h hne
          | cons => rfl
        rw [hN] at CM1
        have CE1 := Lib.hid (fun w H => CEY.out (p + m) p1 (by omega) h1 h61 w H)
        have CV1 := Lib.hid (fun w H => CV.out (skipB bs (p1 + 1)) (.ok ds e) (skipB_le _ _) hvv w H)
        unfold RValPost at CV1
        simp only at CV1
        obtain ⟨V, hV⟩ : ∃ V, strOf ds = V := ⟨_, rfl⟩
        rw [hV] at CV1
        rw [hN, hV] at HE2
        clear hn hrl h hm hm0 h1 h61 hns hns2 hN hnl hvv hV hc
        go_wp2_with fail
        refine (CN1.out _ HRR.out).mono ?_
        rintro e1 w3 ⟨rfl, ho, hr⟩
        have R3 := Lib.hid hr
        have O3 := Lib.hid (HO.out.only ho (fun k hk => by have := HLT.out; simp at hk; omega))
        have N3 := Lib.hid (HON.out.trans ho (fun x hx => .inl hx))
        clear ho hr
        go_wp2_with fail
        refine (CM1.out _ R3.out).mono ?_
        rintro e1 w4 ⟨rfl, ho, hr⟩
        have R4 := Lib.hid hr
        have O4 := Lib.hid (O3.out.only ho (fun k hk => by have := HLT.out; simp at hk; omega))
        have N4 := Lib.hid (N3.out.trans ho (fun x hx => .inl hx))
        clear ho hr
        go_wp2_with fail
        refine (CE1.out _ R4.out).mono ?_
        rintro e1 w5 ⟨rfl, ho, hr⟩
        have R5 := Lib.hid hr
        have O5 := Lib.hid (O4.out.only ho (fun k hk => by have := HLT.out; simp at hk; omega))
        have N5 := Lib.hid (N4.out.trans ho (fun x hx => .inl hx))
        clear ho hr
        go_wp2_with fail
        refine (CV1.out _ R5.out).mono ?_
        rintro e1 w6 ⟨ho, rfl, q, hql, hqe, hr⟩
        have R6 := Lib.hid hr
        have O6 := Lib.hid (O5.out.only ho (fun k hk => by have := HLT.out; simp at hk; omega))
        have N6 := Lib.hid (N5.out.trans ho (fun x hx => .inl hx))
        have HQ := Lib.hid (And.intro hql hqe)
        clear ho hr hql hqe
        have hsz6 := N6.out.size
        have HON7 : Hid (∀ o1 : Obj, (w6.alloc o1).ownsRow w.heap.size 94 2 (.slice av n cv) n (sofar.flatMap enc2)) := Lib.hid (fun o1 => by have h := O6.out.below ((Below.refl w6.heap.size w6).alloc (Nat.le_refl _) o1); unfold OwnL at h; rw [HNN.out] at h; exact h)
        have HOB := Lib.hid (ownL_block O6.out)
        go_wp2_with (first
          | (at_builtin; refine wpList_append_own _ rfl (.tmp 46) (.tmp 50) 22 rfl w.heap.size 94 i0 (.agg #[.string ⟨#[]⟩, .string ⟨#[]⟩]) 2 32 Tryz.underlying22 hi hz0 hz1 hz2 rfl (by decide) (.slice av n cv) n (sofar.flatMap enc2) rfl (HON7.out _) ⟨w6.heap.size, 0, none⟩ 1 1 (enc2 (N, V)) rfl rfl (two_new w6 (N, V)) (by simp [Value.oneCell', enc2]) (by unfold maxLen; omega) (by omega) (by simp; omega) ?_; intro v7 w7 hown7 hgr7 hne7
             have g1 : OwnL w7 w.heap.size v7 (sofar ++ [(N, V)]) := (by unfold OwnL; rw [List.length_append, List.flatMap_append, HNN.out]; simpa using hown7)
             have N7 := Lib.hid ((N6.out.alloc (.cells #[.string N, .string V] 94)).grown hgr7 (fun k hk => .inr (HOB.out k hk)))
             have R7 := Lib.hid (show Rs w7 R bs q from (hgr7.block R (by have := R6.out.lt; simp; omega) (fun e2 => by have h1 := HOB.out R e2.symm; have h2 := HLT.out; omega)).trans (((Below.refl _ w6).alloc (Nat.le_refl _) _).block R R6.out.lt |>.trans R6.out))
             have O7 := Lib.hid g1
             obtain ⟨a7, c7, rfl⟩ := ownL_shape g1
             obtain ⟨n7, hn7⟩ : ∃ n, (sofar ++ [(N, V)]).length = n := ⟨_, rfl⟩
             have HN7 := Lib.hid hn7
             rw [hn7] at O7 ⊢
             clear hown7 hgr7 hne7 g1 hn7)
          | fail)
        refine (CCY.out q e HQ.out.1 HQ.out.2 HCE.out _ R7.out).mono ?_
        rintro e1 w8 ⟨rfl, ho, hr⟩
        have R8 := Lib.hid hr
        have O8 := Lib.hid (O7.out.only ho (fun k hk => by have := HLT.out; simp at hk; omega))
        have N8 := Lib.hid (N7.out.trans ho (fun x hx => .inl hx))
        clear ho hr
        go_wp2
        go_roundw
        case rel => exact ⟨_, sofar ++ [(N, V)], rr, O8, R8, HRL, HE2, N8, Lib.hid (by have h1 := HLT2.out; have h2 := skipB_ge bs (e + 1) (by have := (List.getElem?_eq_some_iff.1 HCE.out).1; omega); rw [List.length_append, HNN.out]; simp; omega), Lib.hid (skipB_idem bs _ (by have := (List.getElem?_eq_some_iff.1 HCE.out).1; omega))⟩
        case measure => rw [R8.out.posS, HRR.out.posS]; have h1 := HLT2.out; have h2 := skipB_ge bs (e + 1) (by have := (List.getElem?_eq_some_iff.1 HCE.out).1; omega); have h3 := skipB_le bs (e + 1); omega
    | last p e x rr hp h hx hc hrl =>
      have CN1 := Lib.hid (fun w H => CN.out p p hp HID.out h w H)
      have CM1 := Lib.hid (fun w H => CNM.out p hp w H)
      have hlt := labR_ok hp hx
      have HRL := Lib.hid hrl
      have HE2 := Lib.hid (show glue (sofar ++ [x]) rr = r by rw [glue_cons]; exact HE.out)
      obtain ⟨av, cv, rfl⟩ := ownL_shape HO.out
      obtain ⟨n, hn⟩ : ∃ n, sofar.length = n := ⟨_, rfl⟩
      have HNN := Lib.hid hn
      have hnp : n ≤ p := by rw [← hn]; exact HLE.out
      have hlen := HLEN.out
      have hnl0 : n ≤ 200000 := by omega
      rw [hn] at HO ⊢
      have HLT2 := Lib.hid hlt
      have HCE := Lib.hid hc
      cases hx with
      | good m p1 en ds hm hm0 h1 h61 hvv =>
        have hnl := nmL_le (bs.drop p)
        rw [hm, List.length_drop] at hnl
        rw [hm] at CM1
        have hns := strOf_size ((bs.drop p).take m)
        rw [List.length_take, List.length_drop] at hns
        have hns2 : (strOf ((bs.drop p).take m)).size = m := by rw [hns]; omega
        obtain ⟨N, hN⟩ : ∃ N, strOf ((bs.drop p).take m) = N := ⟨_, rfl⟩
        have hne : ¬ N.toList = [] := by
          intro e
          have : N = ⟨#[]⟩ := (toList_iff _ _).1 (by rw [e, ByteArray.toList_eq])
          rw [hN, this] at hns2
          have : m = 0 := hns2.symm
          omega
        have hie : N.toList.isEmpty = false := by cases h : N.toList with
          | nil => exact absurd h hne
          | cons => rfl
        rw [hN] at CM1
        have CE1 := Lib.hid (fun w H => CEY.out (p + m) p1 (by omega) h1 h61 w H)
        have CV1 := Lib.hid (fun w H => CV.out (skipB bs (p1 + 1)) (.ok ds e) (skipB_le _ _) hvv w H)
        unfold RValPost at CV1
        simp only at CV1
        obtain ⟨V, hV⟩ : ∃ V, strOf ds = V := ⟨_, rfl⟩
        rw [hV] at CV1
        rw [hN, hV] at HE2
        clear hn hrl h hm hm0 h1 h61 hns hns2 hN hnl hvv hV hc
        go_wp2_with fail
        refine (CN1.out _ HRR.out).mono ?_
        rintro e1 w3 ⟨rfl, ho, hr⟩
        have R3 := Lib.hid hr
        have O3 := Lib.hid (HO.out.only ho (fun k hk => by have := HLT.out; simp at hk; omega))
        have N3 := Lib.hid (HON.out.trans ho (fun x hx => .inl hx))
        clear ho hr
        go_wp2_with fail
        refine (CM1.out _ R3.out).mono ?_
        rintro e1 w4 ⟨rfl, ho, hr⟩
        have R4 := Lib.hid hr
        have O4 := Lib.hid (O3.out.only ho (fun k hk => by have := HLT.out; simp at hk; omega))
        have N4 := Lib.hid (N3.out.trans ho (fun x hx => .inl hx))
        clear ho hr
        go_wp2_with fail
        refine (CE1.out _ R4.out).mono ?_
        rintro e1 w5 ⟨rfl, ho, hr⟩
        have R5 := Lib.hid hr
        have O5 := Lib.hid (O4.out.only ho (fun k hk => by have := HLT.out; simp at hk; omega))
        have N5 := Lib.hid (N4.out.trans ho (fun x hx => .inl hx))
        clear ho hr
        go_wp2_with fail
        refine (CV1.out _ R5.out).mono ?_
        rintro e1 w6 ⟨ho, rfl, q, hql, hqe, hr⟩
        have R6 := Lib.hid hr
        have O6 := Lib.hid (O5.out.only ho (fun k hk => by have := HLT.out; simp at hk; omega))
        have N6 := Lib.hid (N5.out.trans ho (fun x hx => .inl hx))
        have HQ := Lib.hid (And.intro hql hqe)
        clear ho hr hql hqe
        have hsz6 := N6.out.size
        have HON7 : Hid (∀ o1 : Obj, (w6.alloc o1).ownsRow w.heap.size 94 2 (.slice av n cv) n (sofar.flatMap enc2)) := Lib.hid (fun o1 => by have h := O6.out.below ((Below.refl w6.heap.size w6).alloc (Nat.le_refl _) o1); unfold OwnL at h; rw [HNN.out] at h; exact h)
        have HOB := Lib.hid (ownL_block O6.out)
        go_wp2_with (first
          | (at_builtin; refine wpList_append_own _ rfl (.tmp 46) (.tmp 50) 22 rfl w.heap.size 94 i0 (.agg #[.string ⟨#[]⟩, .string ⟨#[]⟩]) 2 32 Tryz.underlying22 hi hz0 hz1 hz2 rfl (by decide) (.slice av n cv) n (sofar.flatMap enc2) rfl (HON7.out _) ⟨w6.heap.size, 0, none⟩ 1 1 (enc2 (N, V)) rfl rfl (two_new w6 (N, V)) (by simp [Value.oneCell', enc2]) (by unfold maxLen; omega) (by omega) (by simp; omega) ?_; intro v7 w7 hown7 hgr7 hne7
             have g1 : OwnL w7 w.heap.size v7 (sofar ++ [(N, V)]) := (by unfold OwnL; rw [List.length_append, List.flatMap_append, HNN.out]; simpa using hown7)
             have N7 := Lib.hid ((N6.out.alloc (.cells #[.string N, .string V] 94)).grown hgr7 (fun k hk => .inr (HOB.out k hk)))
             have R7 := Lib.hid (show Rs w7 R bs q from (hgr7.block R (by have := R6.out.lt; simp; omega) (fun e2 => by have h1 := HOB.out R e2.symm; have h2 := HLT.out; omega)).trans (((Below.refl _ w6).alloc (Nat.le_refl _) _).block R R6.out.lt |>.trans R6.out))
             have O7 := Lib.hid g1
             obtain ⟨a7, c7, rfl⟩ := ownL_shape g1
             obtain ⟨n7, hn7⟩ : ∃ n, (sofar ++ [(N, V)]).length = n := ⟨_, rfl⟩
             have HN7 := Lib.hid hn7
             rw [hn7] at O7 ⊢
             clear hown7 hgr7 hne7 g1 hn7)
          | fail)
        refine (CCN.out q e HQ.out.1 HQ.out.2 HCE.out _ R7.out).mono ?_
        rintro e1 w8 ⟨rfl, ho, hr⟩
        have R8 := Lib.hid hr
        have O8 := Lib.hid (O7.out.only ho (fun k hk => by have := HLT.out; simp at hk; omega))
        have N8 := Lib.hid (N7.out.trans ho (fun x hx => .inl hx))
        clear ho hr
        have hee := skipB_idem bs q HQ.out.1
        rw [HQ.out.2] at hee
        have HEE := Lib.hid hee
        have HEL := Lib.hid (show e ≤ bs.length from HLT2.out.2)
        have hrl := HRL.out
        clear HRL hee
        cases hrl with
        | close p go h he =>
          have CY1 := Lib.hid (fun w H => CY.out e e HEL.out HEE.out h w H)
          have HE1 := Lib.hid he
          have HS := Lib.hid (show PR.good (sofar ++ [(N, V)]) = r by rw [← HE2.out]; show _ = PR.good ((sofar ++ [(N, V)]) ++ []); rw [List.append_nil])
          clear h he
          go_wp2_with fail
          refine (CY1.out _ R8.out).mono ?_
          rintro e9 w9 ⟨rfl, ho, hr⟩
          rw [HE1.out, HL.out] at hr
          have R9 := Lib.hid hr
          have N9 := Lib.hid (N8.out.trans ho (fun x hx => .inl hx))
          have O9 := Lib.hid (O8.out.only ho (fun k hk => by have := HLT.out; simp at hk; omega))
          clear ho hr
          have c0 := HC0.out _ _ R9.out
          have c1 := R9.out.c1
          have q1 : ((L : Int) == (L : Int)) = true := by simp
          go_wp2_with fail
          go_quiet (fail)
          go_wp2
          go_ret2
          rw [← HS.out]
          exact ⟨N9.out.drewN nq, _, rfl, show OwnL w9 _ _ _ from O9.out⟩
        | behind p q2 go h he hq =>
          have CY1 := Lib.hid (fun w H => CY.out e e HEL.out HEE.out h w H)
          have HE1 := Lib.hid he
          have HS := Lib.hid (show PR.bad q2 = r by rw [← HE2.out]; rfl)
          rw [HL.out] at hq
          have q1 : ((q2 : Int) == (L : Int)) = false := by rw [beq_eq_false_iff_ne]; omega
          clear h he hq
          go_wp2_with fail
          refine (CY1.out _ R8.out).mono ?_
          rintro e9 w9 ⟨rfl, ho, hr⟩
          rw [HE1.out] at hr
          have R9 := Lib.hid hr
          have N9 := Lib.hid (N8.out.trans ho (fun x hx => .inl hx))
          clear ho hr
          have c0 := HC0.out _ _ R9.out
          have c1 := R9.out.c1
          go_wp2_with fail
          go_quiet (fail)
          go_wp2
          go_ret2
          rw [← HS.out]
          exact ⟨N9.out.drewN nq, ⟨_, rfl⟩, R9.out.drewN nq⟩
        | stop p hp2 h =>
          have CN2 := Lib.hid (fun w H => CN.out e e HEL.out HEE.out h w H)
          have HS := Lib.hid (show PR.bad e = r by rw [← HE2.out]; rfl)
          clear h hp2
          go_wp2_with fail
          refine (CN2.out _ R8.out).mono ?_
          rintro e9 w9 ⟨rfl, ho, hr⟩
          have R9 := Lib.hid hr
          have N9 := Lib.hid (N8.out.trans ho (fun x hx => .inl hx))
          clear ho hr
          go_wp2_with fail
          go_quiet (fail)
          go_wp2
          go_ret2
          rw [← HS.out]
          exact ⟨N9.out.drewN nq, ⟨_, rfl⟩, R9.out.drewN nq⟩
end Go.Proofs.YtiolghcjndoigaaGreatDoor
namespace Go.Proofs.YtiolghcjndoigaaGreatDoor
set_option linter.unusedVariables false
set_option linter.unusedSimpArgs false
open Go.RowKit Go.PlainAid Go.Shelf
def RPPost (w : World) (bs : List Nat) (r : PR) (e : Ending) (w' : World) : Prop := Below w.heap.size w w' ∧ (match r with
  | .good L => ∃ v c out, e = .returned (.tuple #[v, .int .u16 ((c : Nat) : Int), .int .i64 (((if c = 0 then 0 else bs.length) : Nat) : Int)]) ∧ SetN L c out ∧ OwnL w' w.heap.size v out
  | .bad q => e = .returned (.tuple #[.slice none 0 0, .int .u16 70, .int .i64 ((q : Nat) : Int)]))
theorem setn_none {L out : List Lm.Lb} {c : Nat} (h : SetN L c out) (h0 : c ≠ 0) : out = [] := by
  unfold SetN at h
  split at h
  · exact h.2
  · split at h
    · exact h.2
    · split at h
      · exact h.2
      · exact absurd h.1 h0
set_option maxHeartbeats 2000000 in
theorem rparse_any (bs : List Nat) (r : PR) (hB : IsB bs) (hl : bs.length ≤ 20000) (hv : AllR bs r) (w : World) : Calls Tryz.prog 35 #[.string (strOf bs)] w (RPPost w bs r) := by
  have CA := Lib.hid (fun w1 H => rall_any w.heap.size bs r hB hl hv w1 H)
  have hA : Below w.heap.size w (w.alloc (.cells #[.string (strOf bs), .int .i64 0] 144)) := (Below.refl _ w).alloc (Nat.le_refl _) _
  have HR := Lib.hid (show Rs (w.alloc (.cells #[.string (strOf bs), .int .i64 0] 144)) w.heap.size bs 0 from heap_alloc_new w _)
  have HA := Lib.hid hA
  have hsz := strOf_size bs
  cases r with
  | bad q =>
    have CA1 := Lib.hid (CA.out _ HR.out)
    unfold RAllPost at CA1
    simp only at CA1
    obtain ⟨S, hS⟩ : ∃ S, strOf bs = S := ⟨_, rfl⟩
    rw [hS] at HR HA hsz CA1 ⊢
    obtain ⟨N, hN⟩ : ∃ N, bs.length = N := ⟨_, rfl⟩
    rw [hN] at hsz
    clear hB hl hv hA hS hN CA
    go_enter Tryz.func35, Tryz.ntmps35
    go_wp2_with fail
    refine CA1.out.mono ?_
    rintro e w1 ⟨ho, ⟨v, rfl⟩, hr⟩
    have B1 := Lib.hid (show Below w.heap.size w w1 from HA.out.trans (ho.below (B := w.heap.size) (by simp) (by simp)))
    have c1 := hr.c1
    have g0 := hr.fz 1
    clear ho hr
    go_wp2_with (go_quiet (fail))
    go_returns
    exact ⟨below_drewN B1.out nq, rfl⟩
  | good L =>
    have hln := allR_good hv
    have CS := Lib.hid (fun a c w H => rset_any a c L w H (by omega))
    have CA1 := Lib.hid (CA.out _ HR.out)
    unfold RAllPost at CA1
    simp only at CA1
    obtain ⟨S, hS⟩ : ∃ S, strOf bs = S := ⟨_, rfl⟩
    rw [hS] at HR HA hsz CA1 ⊢
    obtain ⟨N, hN⟩ : ∃ N, bs.length = N := ⟨_, rfl⟩
    have HNN := Lib.hid hN
    rw [hN] at hsz
    clear hB hl hv hln hA hS hN CA
    go_enter Tryz.func35, Tryz.ntmps35
    go_wp2_with fail
    refine CA1.out.mono ?_
    rintro e w1 ⟨hb, v, rfl, ho⟩
    have B1 := Lib.hid (show Below w.heap.size w w1 from HA.out.trans (hb.below (B := w.heap.size) (by simp) (by simp)))
    obtain ⟨a, c, rfl, hla, _⟩ := ho.labs
    have C2 := Lib.hid (CS.out a c w1 hla)
    obtain ⟨n, hn⟩ : ∃ n, L.length = n := ⟨_, rfl⟩
    rw [hn] at C2 ⊢
    clear ho hb hla hn CA1
    go_wp2_with fail
    refine C2.out.mono ?_
    rintro e w2 ⟨v2, c2, out, rfl, hs, ho, hb⟩
    have S2 := Lib.hid hs
    have O2 := Lib.hid (ho.lower B1.out.size)
    have B2 := Lib.hid (B1.out.trans (hb.mono B1.out.size))
    clear hs ho hb
    by_cases h0 : c2 = 0
    · subst h0
      go_wp2
      go_returns
      exact ⟨B2.out, _, 0, out, rfl, S2.out, O2.out⟩
    · have d1 : ((c2 : Int) == 0) = false := by simp; omega
      have d2 : ¬ ((c2 : Int) = 0) := by omega
      have HE := Lib.hid (setn_none S2.out h0)
      have HI := Lib.hid (show ((if c2 = 0 then 0 else bs.length : Nat) : Int) = (N : Int) by rw [if_neg h0, HNN.out])
      go_wp2
      go_returns
      refine ⟨B2.out, .slice none 0 0, c2, out, ?_, S2.out, ?_⟩
      · rw [HI.out]; rfl
      · rw [HE.out]; exact OwnL.nil _ _
end Go.Proofs.YtiolghcjndoigaaGreatDoor
namespace Go.Proofs.YtiolghcjndoigaaGreatDoor
set_option linter.unusedVariables false
set_option linter.unusedSimpArgs false
open Go.RowKit Go.PlainAid Go.Shelf
def bodyL : List Lm.Lb → List Nat
  | [] => []
  | [x] => pairL x
  | x :: y :: l => pairL x ++ ([44, 32] ++ bodyL (y :: l))
def printB (l : List Lm.Lb) : List Nat := 123 :: (bodyL l ++ [125])
theorem join_body (l : List Lm.Lb) : joinS l = strOf (bodyL l) := by
  unfold joinS Lib.join
  have key : ∀ l : List Lm.Lb, ([44, 32] : List UInt8).intercalate ((l.map pairS).map (·.data.toList)) = (bodyL l).map UInt8.ofNat := by
    intro l
    induction l with
    | nil => rfl
    | cons x l ih =>
      have hp : (pairS x).data.toList = (pairL x).map UInt8.ofNat := by rw [pairS_of, strOf_list]
      cases l with
      | nil =>
        rw [List.map_cons, List.map_cons, List.map_nil, List.map_nil, inter_one, hp]
        rfl
      | cons y l =>
        rw [List.map_cons, List.map_cons] at ih
        rw [List.map_cons, List.map_cons, List.map_cons, List.map_cons, inter_more, ih, hp, bodyL, List.map_append, List.map_append]
        rfl
  rw [key]
  rfl
theorem print_body (l : List Lm.Lb) : printS l = strOf (printB l) := by
  unfold printS printB
  rw [join_body]
  rw [show (⟨#[123]⟩ : ByteArray) = strOf [123] from rfl, show (⟨#[125]⟩ : ByteArray) = strOf [125] from rfl, strOf_append, strOf_append]
  rfl
theorem pairL_isB (x : Lm.Lb) : IsB (pairL x) := IsB.app (IsB.app (isB_bytesOf _) (IsB.cons (by decide) IsB.nil)) (quoteL_isB (isB_bytesOf _))
theorem bodyL_isB : ∀ l : List Lm.Lb, IsB (bodyL l)
  | [] => IsB.nil
  | [x] => pairL_isB x
  | x :: y :: l => IsB.app (pairL_isB x) (IsB.app (IsB.cons (by decide) (IsB.cons (by decide) IsB.nil)) (bodyL_isB (y :: l)))
theorem printB_isB (l : List Lm.Lb) : IsB (printB l) := IsB.cons (by decide) (IsB.app (bodyL_isB l) (IsB.cons (by decide) IsB.nil))
theorem pairL_len (x : Lm.Lb) : (pairL x).length ≤ x.1.size + 3 + 4 * x.2.size := by
  have := pairS_size x
  rw [pairS_of, strOf_size] at this
  exact this
theorem bodyL_len : ∀ l : List Lm.Lb, (bodyL l).length ≤ 5 * l.length + 4 * weigh l
  | [] => by simp [bodyL]
  | [x] => by
    have h := pairL_len x
    have hw : weigh [x] = x.1.size + x.2.size := by simp [weigh]
    show (pairL x).length ≤ _
    simp only [List.length_cons, List.length_nil]
    omega
  | x :: y :: l => by
    have h := pairL_len x
    have ih := bodyL_len (y :: l)
    have hw : weigh (x :: y :: l) = x.1.size + x.2.size + weigh (y :: l) := by unfold weigh; rw [List.map_cons, List.sum_cons]
    rw [bodyL, List.length_append, List.length_append]
    simp only [List.length_cons, List.length_nil] at ih ⊢
    omega
/-! where the blanks end -/
theorem skip_at {bs : List Nat} {q c : Nat} (h : bs[q]? = some c) (hc : c ≠ 32) : skipB bs q = q := by
  obtain ⟨hq, rfl⟩ := List.getElem?_eq_some_iff.1 h
  unfold skipB
  rw [List.drop_eq_getElem_cons hq, List.dropWhile_cons, if_neg (by simpa using hc), List.length_cons, List.length_drop]
  omega
theorem skip_one {bs : List Nat} {q : Nat} (h : bs[q]? = some 32) : skipB bs q = skipB bs (q + 1) := by
  obtain ⟨hq, h2⟩ := List.getElem?_eq_some_iff.1 h
  unfold skipB
  rw [List.drop_eq_getElem_cons hq, List.dropWhile_cons, h2, if_pos (by rfl)]
theorem skip_end (bs : List Nat) : skipB bs bs.length = bs.length := by unfold skipB; rw [List.drop_length]; rfl
theorem at_mid {pre l : List Nat} {c : Nat} (i : Nat) (h : l[i]? = some c) : (pre ++ l)[pre.length + i]? = some c := by
  rw [List.getElem?_append_right (by omega), show pre.length + i - pre.length = i by omega]; exact h
/-! how far a name goes -/
theorem nmA_go : ∀ (ns r : List Nat) (k : Nat), nmA ns k = k + ns.length → (∀ c, r[0]? = some c → ∀ j, placeB c j = false) → nmA (ns ++ r) k = k + ns.length
  | [], r, k, _, hr => by
    cases r with
    | nil => rfl
    | cons c r =>
      rw [List.nil_append, nmA, if_neg (by rw [hr c rfl k]; decide)]
      rfl
  | c :: ns, r, k, h, hr => by
    rw [nmA] at h
    by_cases hp : placeB c k = true
    · rw [if_pos hp] at h
      rw [List.cons_append, nmA, if_pos hp, nmA_go ns r (k + 1) (by rw [h, List.length_cons]; omega) hr, List.length_cons]
      omega
    · rw [if_neg hp, List.length_cons] at h
      omega
theorem eq_no (j : Nat) : placeB 61 j = false := by
  have e : letterB 61 = false := by decide
  have e2 : digB 61 = false := by decide
  unfold placeB
  rw [e, e2, Bool.false_and, Bool.or_false, Bool.and_false]
theorem nameB_go {s : ByteArray} (h : nameB s = true) (r : List Nat) : nmL (bytesOf s ++ 61 :: r) = (bytesOf s).length := by
  unfold nameB at h
  rw [Bool.and_eq_true] at h
  have h2 := of_decide_eq_true h.2
  unfold nmL at *
  have := nmA_go (bytesOf s) (61 :: r) 0 (by rw [h2]; omega) (fun c hc j => by
    have : c = 61 := by simpa using hc.symm
    rw [this]; exact eq_no j)
  rw [this]
  omega
theorem name_head {s : ByteArray} (h : nameB s = true) : ∃ c r, bytesOf s = c :: r ∧ c ≠ 32 ∧ c ≠ 125 := by
  unfold nameB at h
  rw [Bool.and_eq_true] at h
  have h1 := of_decide_eq_true h.1
  have h2 := of_decide_eq_true h.2
  cases hb : bytesOf s with
  | nil => exact absurd hb h1
  | cons c r =>
    refine ⟨c, r, rfl, ?_, ?_⟩
    · rintro rfl
      rw [hb] at h2
      unfold nmL at h2
      rw [nmA, if_neg (by decide), List.length_cons] at h2
      omega
    · rintro rfl
      rw [hb] at h2
      unfold nmL at h2
      rw [nmA, if_neg (by decide), List.length_cons] at h2
      omega
/-- a label that stands in a text -/
theorem lab_in (pre r : List Nat) (x : Lm.Lb) (hn : nameB x.1 = true) (c : Nat) (hr : r[0]? = some c) (hc : c ≠ 32) : LabOk (pre ++ (pairL x ++ r)) pre.length x (pre ++ pairL x).length := by
  obtain ⟨bs, hbs⟩ : ∃ bs, pre ++ (pairL x ++ r) = bs := ⟨_, rfl⟩
  have h0 : 0 < (bytesOf x.1).length := by
    obtain ⟨c, q, h, _⟩ := name_head hn
    rw [h]; simp
  have e1 : pairL x ++ r = bytesOf x.1 ++ 61 :: (quoteL (bytesOf x.2) ++ r) := by unfold pairL; simp
  have hd : bs.drop pre.length = bytesOf x.1 ++ 61 :: (quoteL (bytesOf x.2) ++ r) := by rw [← hbs, List.drop_left, e1]
  have h61 : bs[pre.length + (bytesOf x.1).length]? = some 61 := by
    rw [← hbs, e1]
    exact at_mid _ (by rw [List.getElem?_append_right (Nat.le_refl _), Nat.sub_self]; rfl)
  have e2 : bs = (pre ++ bytesOf x.1 ++ [61]) ++ (quoteL (bytesOf x.2) ++ r) := by rw [← hbs, e1]; simp
  have hl2 : (pre ++ bytesOf x.1 ++ [61]).length = pre.length + (bytesOf x.1).length + 1 := by simp; omega
  have hd2 : bs.drop (pre.length + (bytesOf x.1).length + 1) = quoteL (bytesOf x.2) ++ r := by rw [← hl2, e2, List.drop_left]
  have h34 : bs[pre.length + (bytesOf x.1).length + 1]? = some 34 := by
    have := congrArg (fun l => l[0]?) hd2
    rw [List.getElem?_drop, Nat.add_zero] at this
    rw [this]; rfl
  have hq : (quoteL (bytesOf x.2)).length = 1 + ((bytesOf x.2).flatMap qB).length + 1 := by
    unfold quoteL
    rw [List.length_append, List.length_cons, List.length_singleton]
    omega
  have hpl : (pairL x).length = (bytesOf x.1).length + 1 + (quoteL (bytesOf x.2)).length := by unfold pairL; rw [List.length_append, List.length_append, List.length_singleton]
  rw [hbs]
  refine ⟨(bytesOf x.1).length, pre.length + (bytesOf x.1).length, bytesOf x.2, h0, by rw [hd]; exact nameB_go hn _, (skip_at h61 (by decide)).symm, h61, ?_, ?_⟩
  · rw [skip_at h34 (by decide)]
    refine ⟨1 + ((bytesOf x.2).flatMap qB).length, isB_bytesOf _, by rw [hd2]; rfl, ?_, ?_⟩
    · rw [hd2]
      have ht := toks_quote r (bytesOf x.2) [34] (isB_bytesOf _)
      have e : [34] ++ ((bytesOf x.2).flatMap qB ++ 34 :: r) = quoteL (bytesOf x.2) ++ r := by unfold quoteL; simp
      rw [e] at ht
      exact ht
    · have ee : pre.length + (bytesOf x.1).length + 1 + (1 + ((bytesOf x.2).flatMap qB).length + 1) = (pre ++ pairL x).length := by rw [List.length_append, hpl, hq]; omega
      rw [ee]
      refine (skip_at (c := c) ?_ hc).symm
      have e3 : bs = (pre ++ pairL x) ++ r := by rw [← hbs]; simp
      rw [e3, List.getElem?_append_right (Nat.le_refl _), Nat.sub_self]
      exact hr
  · rw [hd, List.take_left, strOf_bytesOf, strOf_bytesOf]
theorem run_in : ∀ (l : List Lm.Lb) (pre : List Nat), l ≠ [] → (∀ x ∈ l, nameB x.1 = true) → Run (pre ++ (bodyL l ++ [125])) pre.length true l
  | [], _, h, _ => absurd rfl h
  | [x], pre, _, hn => by
    have hx := hn x List.mem_cons_self
    obtain ⟨c, q, hc, hc1, hc2⟩ := name_head hx
    have hl := lab_in pre [125] x hx 125 rfl (by decide)
    show Run (pre ++ (pairL x ++ [125])) pre.length true [x]
    have hend : (pre ++ (pairL x ++ [125]))[(pre ++ pairL x).length]? = some 125 := by
      rw [← List.append_assoc, List.getElem?_append_right (Nat.le_refl _), Nat.sub_self]; rfl
    have hlen : (pre ++ (pairL x ++ [125])).length = (pre ++ pairL x).length + 1 := by simp only [List.length_append, List.length_singleton]; omega
    refine Run.last _ _ x [] (by rw [List.length_append]; omega) ?_ hl (by rw [hend]; decide) (Run.close _ _ hend (by rw [← hlen]; exact skip_end _))
    have := at_mid (pre := pre) (l := pairL x ++ [125]) (c := c) 0 (by unfold pairL; rw [hc]; rfl)
    rw [Nat.add_zero] at this
    rw [this]
    simpa using hc2
  | x :: y :: l, pre, _, hn => by
    have hx := hn x List.mem_cons_self
    have hy := hn y (List.mem_cons_of_mem _ List.mem_cons_self)
    obtain ⟨c, q, hc, hc1, hc2⟩ := name_head hx
    obtain ⟨d, q2, hd, hd1, hd2⟩ := name_head hy
    have e0 : pre ++ (bodyL (x :: y :: l) ++ [125]) = pre ++ (pairL x ++ (44 :: 32 :: (bodyL (y :: l) ++ [125]))) := by rw [bodyL]; simp
    rw [e0]
    have hl := lab_in pre (44 :: 32 :: (bodyL (y :: l) ++ [125])) x hx 44 rfl (by decide)
    obtain ⟨bs, hbs⟩ : ∃ bs, pre ++ (pairL x ++ (44 :: 32 :: (bodyL (y :: l) ++ [125]))) = bs := ⟨_, rfl⟩
    rw [hbs] at hl ⊢
    have e1 : bs = (pre ++ pairL x ++ [44, 32]) ++ (bodyL (y :: l) ++ [125]) := by rw [← hbs]; simp
    have e2 : bs = (pre ++ pairL x) ++ (44 :: 32 :: (bodyL (y :: l) ++ [125])) := by rw [← hbs]; simp
    have hlen : (pre ++ pairL x ++ [44, 32]).length = (pre ++ pairL x).length + 2 := by rw [List.length_append]; rfl
    have h44 : bs[(pre ++ pairL x).length]? = some 44 := by rw [e2, List.getElem?_append_right (Nat.le_refl _), Nat.sub_self]; rfl
    have h32 : bs[(pre ++ pairL x).length + 1]? = some 32 := by rw [e2]; exact at_mid 1 rfl
    have hyd : bs[(pre ++ pairL x).length + 1 + 1]? = some d := by
      rw [show (pre ++ pairL x).length + 1 + 1 = (pre ++ pairL x ++ [44, 32]).length by rw [hlen], e1, List.getElem?_append_right (Nat.le_refl _), Nat.sub_self]
      cases l with
      | nil => show (pairL y ++ [125])[0]? = _; unfold pairL; rw [hd]; rfl
      | cons z l => rw [bodyL]; unfold pairL; rw [hd]; rfl
    have hsk : skipB bs ((pre ++ pairL x).length + 1) = (pre ++ pairL x ++ [44, 32]).length := by
      rw [skip_one h32, skip_at hyd hd1, hlen]
    refine Run.more _ _ x (y :: l) (by rw [← hbs, List.length_append]; omega) ?_ hl h44 ?_
    · have := at_mid (pre := pre) (l := pairL x ++ (44 :: 32 :: (bodyL (y :: l) ++ [125]))) (c := c) 0 (by unfold pairL; rw [hc]; rfl)
      rw [Nat.add_zero, hbs] at this
      rw [this]
      simpa using hc2
    · rw [hsk, e1]
      exact run_in (y :: l) _ (by simp) fun z hz => hn z (List.mem_cons_of_mem _ hz)
theorem form_print (S : List Lm.Lb) (hn : ∀ x ∈ S, nameB x.1 = true) : Form (printB S) S := by
  have h0 : skipB (printB S) 0 = 0 := skip_at (c := 123) rfl (by decide)
  refine ⟨by rw [h0]; rfl, ?_⟩
  rw [h0]
  cases S with
  | nil =>
    have : skipB (printB []) (0 + 1) = 1 := skip_at (c := 125) rfl (by decide)
    rw [this]
    exact Run.close 1 true rfl (skip_end (printB []))
  | cons x l =>
    obtain ⟨c, q, hc, hc1, hc2⟩ := name_head (hn x List.mem_cons_self)
    have h1 : (printB (x :: l))[0 + 1]? = some c := by
      unfold printB
      cases l with
      | nil => show (pairL x ++ [125])[0]? = _; unfold pairL; rw [hc]; rfl
      | cons y l => show (bodyL (x :: y :: l) ++ [125])[0]? = _; rw [bodyL]; unfold pairL; rw [hc]; rfl
    rw [skip_at h1 hc1]
    exact run_in (x :: l) [123] (by simp) hn
end Go.Proofs.YtiolghcjndoigaaGreatDoor
namespace Go.Proofs.YtiolghcjndoigaaGreatDoor
set_option linter.unusedVariables false
set_option linter.unusedSimpArgs false
open Go.RowKit Go.PlainAid Go.Shelf
theorem bodyL_snoc : ∀ (l : List Lm.Lb) (x : Lm.Lb), l ≠ [] → bodyL (l ++ [x]) = (bodyL l ++ [44, 32]) ++ pairL x
  | [], x, h => absurd rfl h
  | [y], x, _ => by simp [bodyL]
  | y :: z :: l, x, _ => by
    have ih := bodyL_snoc (z :: l) x (by simp)
    show bodyL (y :: z :: (l ++ [x])) = _
    rw [bodyL, bodyL]
    rw [show z :: (l ++ [x]) = (z :: l) ++ [x] from rfl, ih]
    simp [List.append_assoc]
/-- what is printed of the first labels -/
def frontS (l : List Lm.Lb) (k : Nat) : ByteArray := strOf (123 :: bodyL (l.take k))
theorem frontS_zero (l : List Lm.Lb) : frontS l 0 = ⟨#[123]⟩ := rfl
theorem glueS (F : List Nat) (s : ByteArray) (Q : List Nat) : ((strOf F ++ s) ++ (⟨#[61]⟩ : ByteArray)) ++ strOf Q = strOf (F ++ (bytesOf s ++ [61] ++ Q)) := by
  rw [show (⟨#[61]⟩ : ByteArray) = strOf [61] from rfl]
  have e : strOf F ++ s = strOf (F ++ bytesOf s) := by rw [← strOf_append, strOf_bytesOf]
  rw [e, strOf_append, strOf_append]
  congr 1
  simp [List.append_assoc]
theorem frontS_first (l : List Lm.Lb) (x : Lm.Lb) (h : l[0]? = some x) : ((((⟨#[123]⟩ : ByteArray) ++ x.1) ++ ⟨#[61]⟩) ++ strOf (quoteL (bytesOf x.2))) = frontS l 1 := by
  obtain ⟨h1, h2⟩ := List.getElem?_eq_some_iff.1 h
  unfold frontS
  rw [show (⟨#[123]⟩ : ByteArray) = strOf [123] from rfl, glueS, List.take_succ_eq_append_getElem h1, h2]
  rfl
theorem frontS_next (l : List Lm.Lb) (k : Nat) (x : Lm.Lb) (hk : 0 < k) (h : l[k]? = some x) : ((((frontS l k ++ ⟨#[44, 32]⟩) ++ x.1) ++ ⟨#[61]⟩) ++ strOf (quoteL (bytesOf x.2))) = frontS l (k + 1) := by
  obtain ⟨h1, h2⟩ := List.getElem?_eq_some_iff.1 h
  unfold frontS
  rw [List.take_succ_eq_append_getElem h1, h2, bodyL_snoc _ _ (by intro e; have := congrArg List.length e; rw [List.length_take, List.length_nil] at this; omega)]
  rw [show (⟨#[44, 32]⟩ : ByteArray) = strOf [44, 32] from rfl, strOf_append, glueS]
  congr 1
theorem frontS_end (l : List Lm.Lb) : frontS l l.length ++ (⟨#[125]⟩ : ByteArray) = printS l := by
  rw [print_body, printB]
  unfold frontS
  rw [List.take_length, show (⟨#[125]⟩ : ByteArray) = strOf [125] from rfl, strOf_append]
  rfl

theorem weigh_take (l : List Lm.Lb) : ∀ k, weigh (l.take k) ≤ weigh l := by
  induction l with
  | nil => intro k; simp
  | cons x t ih =>
    intro k
    cases k with
    | zero => simp [weigh]
    | succ k =>
      have h := ih k
      unfold weigh at *
      rw [List.take_succ_cons, List.map_cons, List.map_cons, List.sum_cons, List.sum_cons]
      omega
theorem frontS_size (l : List Lm.Lb) (hf : Few l) (k : Nat) : (frontS l k).size ≤ 81501 := by
  have h1 := bodyL_len (l.take k)
  have h2 := weigh_take l k
  have h3 := hf.1
  have h4 := hf.2
  have h5 : (l.take k).length ≤ l.length := by rw [List.length_take]; omega
  unfold frontS
  rw [strOf_size, List.length_cons]
  omega
/-- what the walk asks of the sums -/
theorem sums_fit (F x Q : ByteArray) (h1 : F.size ≤ 90000) (h2 : x.size ≤ 20000) (h3 : Q.size ≤ 80002) :
    ¬ 9223372036854775807 < F.size + x.size ∧ ¬ 9223372036854775807 < F.size + x.size + 1 ∧ ¬ 9223372036854775807 < (F ++ x).size + 1 ∧ ¬ 9223372036854775807 < (F ++ x).size + ByteArray.size ⟨#[61]⟩ ∧ ¬ 9223372036854775807 < F.size + x.size + 1 + Q.size ∧ ¬ 9223372036854775807 < (F ++ x ++ ⟨#[61]⟩).size + Q.size := by
  have e1 : (F ++ x).size = F.size + x.size := ByteArray.size_append
  have e2 : (F ++ x ++ (⟨#[61]⟩ : ByteArray)).size = F.size + x.size + 1 := by rw [ByteArray.size_append, e1]; rfl
  have e3 : ByteArray.size ⟨#[61]⟩ = 1 := rfl
  rw [e1, e2, e3]
  omega
set_option maxRecDepth 100000 in
set_option maxHeartbeats 4000000 in
theorem rprint_any (a : Option Addr) (c : Nat) (l : List Lm.Lb) (w : World) (H : Labs w a l) (hf : Few l) : Calls Tryz.prog 39 #[.slice a l.length c] w (Gives w (.string (printS l))) := by
  have HL := Lib.hid H
  have CQ := Lib.hid (fun (x : Lm.Lb) (hx : x ∈ l) w => show Calls Tryz.prog 103 #[.string x.2] w (Gives w (.string (strOf (quoteL (bytesOf x.2))))) by
    have h := rquote_any (bytesOf x.2) (isB_bytesOf _) (by rw [bytesOf_length]; have := weigh_mem hx; have := hf.2; omega) w
    rw [strOf_bytesOf] at h
    exact h)
  have hn300 := hf.1
  have HE := Lib.hid (frontS_end l)
  have HFZ := Lib.hid (frontS_size l hf)
  have HFW := Lib.hid hf.2
  have HF1 := Lib.hid (frontS_first l)
  have HFN := Lib.hid (frontS_next l)
  obtain ⟨n, hn⟩ : ∃ n, l.length = n := ⟨_, rfl⟩
  have HN := Lib.hid hn
  rw [hn] at hn300 HE ⊢
  obtain ⟨R, hR⟩ : ∃ R, printS l = R := ⟨_, rfl⟩
  rw [hR] at HE ⊢
  clear H hf hn hR
  go_enter Tryz.func39, Tryz.ntmps39
  go_wp2
  go_loopw [3, 4] (fun s i wr => ∃ k : Nat, k ≤ n ∧ i = .int .i64 (k : Nat) ∧ s = .string (frontS l k) ∧ Hid (Below w.heap.size w wr)) (fun _ i _ => n - (intOf i).toNat)
  case atStart => exact ⟨0, Nat.zero_le _, rfl, rfl, Lib.hid (Below.refl _ _)⟩
  case round =>
    obtain ⟨k, hk, rfl, rfl, HB⟩ := hrel
    by_cases hkn : k < n
    · have da : decide ((k : Int) < (n : Int)) = true := decide_eq_true (by omega)
      have da2 : decide (k < n) = true := decide_eq_true hkn
      have hkl : k < l.length := by rw [HN.out]; exact hkn
      obtain ⟨b1, o1, rfl, hb1, hc1⟩ := (HL.out.below HB.out) (by intro e; rw [e] at hkl; simp at hkl)
      obtain ⟨p1, p2⟩ := hc1 k hkl
      obtain ⟨⟨x, y⟩, hx⟩ : ∃ x, l[k] = x := ⟨_, rfl⟩
      rw [hx] at p1 p2
      simp only at p1 p2
      have hxq : l[k]? = some (x, y) := by rw [List.getElem?_eq_getElem hkl, hx]
      have CQ1 := Lib.hid (CQ.out (x, y) (by rw [← hx]; exact List.getElem_mem hkl))
      have HP := Lib.hid (And.intro p1 p2)
      have HBL := Lib.hid hb1
      obtain ⟨Q, hQ⟩ : ∃ Q, strOf (quoteL (bytesOf y)) = Q := ⟨_, rfl⟩
      simp only [hQ] at CQ1
      have hxw := weigh_mem (List.getElem_mem hkl)
      rw [hx] at hxw
      simp only at hxw
      have hqs := strOf_size (quoteL (bytesOf y))
      have hql := quoteL_len (bytesOf y)
      rw [bytesOf_length] at hql
      rw [hQ] at hqs
      have HSZ := Lib.hid (show x.size ≤ 20000 ∧ Q.size ≤ 80002 by have := HFW.out; omega)
      have hfz := HFZ.out k
      clear hxw hqs hql
      have HNEXT := Lib.hid (show (0 < k → ((((frontS l k ++ ⟨#[44, 32]⟩) ++ x) ++ ⟨#[61]⟩) ++ Q) = frontS l (k + 1)) from fun h0 => by rw [← hQ]; exact HFN.out k (x, y) h0 hxq)
      have HFST := Lib.hid (show (k = 0 → ((((⟨#[123]⟩ : ByteArray) ++ x) ++ ⟨#[61]⟩) ++ Q) = frontS l (k + 1)) from fun h0 => by subst h0; rw [← hQ]; exact HF1.out (x, y) hxq)
      obtain ⟨e1, e1'⟩ := incR k (by omega)
      obtain ⟨k1, hk1⟩ : ∃ k1, k + 1 = k1 := ⟨_, rfl⟩
      rw [hk1] at e1 e1' HNEXT HFST
      have HK1 := Lib.hid (show k1 ≤ n ∧ n - k1 < n - k by omega)
      have HCW := Lib.hid (show ∀ w', SinceS wr w' → (w'.cell? ⟨b1, o1 + k * 2, none⟩ = some (.string x) ∧ w'.cell? ⟨b1, o1 + k * 2 + 1, none⟩ = some (.string y)) from fun w' hs => ⟨(hs.out.cell (p := ⟨b1, o1 + k * 2, none⟩) HBL.out).trans HP.out.1, (hs.out.cell (p := ⟨b1, o1 + k * 2 + 1, none⟩) HBL.out).trans HP.out.2⟩)
      by_cases hk0 : k = 0
      · have hs0 : frontS l k = ⟨#[123]⟩ := by rw [hk0]; rfl
        rw [hs0]
        have HNX := Lib.hid (HFST.out hk0)
        obtain ⟨F2, hF2⟩ : ∃ F, (⟨#[123]⟩ : ByteArray) = F := ⟨_, rfl⟩
        have HF2 := Lib.hid (show F2.size ≤ 90000 by rw [← hF2]; decide)
        rw [hF2] at HNX ⊢
        have d0 : decide ((k : Int) > 0) = false := decide_eq_false (by omega)
        have d1 : decide (0 < (k : Int)) = false := decide_eq_false (by omega)
        have d2 : decide (0 < k) = false := decide_eq_false (by omega)
        clear hx hc1 hxq hQ HNEXT HFST hk1 p1 p2 hs0 hk0 hF2 hfz
        obtain ⟨z1, z2, z3, z4, z5, z6⟩ := sums_fit F2 x Q HF2.out HSZ.out.1 HSZ.out.2
        go_wp2_with fail
        go_region_held3 (fun w' => (w'.cell? ⟨b1, o1 + k * 2, none⟩ = some (.string x) ∧ w'.cell? ⟨b1, o1 + k * 2 + 1, none⟩ = some (.string y)) ∧ SinceS wr w')
          ((first | exact ⟨HCW.out _ (SinceS.start _), SinceS.start _⟩ | (refine keepSS (A := fun w' => (w'.cell? ⟨b1, o1 + k * 2, none⟩ = some (.string x) ∧ w'.cell? ⟨b1, o1 + k * 2 + 1, none⟩ = some (.string y))) HCW.out ?_ (by assumption); assumption)))
          ((go_at_call 103; refine (CQ1.out _).mono ?_; rintro e w' ⟨rfl, hb⟩))
        all_goals
          have HSN := Lib.hid (keepSOut (wr := wr) (by assumption))
          have B2 := Lib.hid (HB.out.trans (HSN.out.out.mono HB.out.size))
          clear z1 z2 z3 z4 z5 z6
          go_wp2
          go_roundw
          case rel => exact ⟨k1, HK1.out.1, rfl, by rw [HNX.out], B2⟩
          case measure => simpa [intOf] using HK1.out.2
      · obtain ⟨F, hF⟩ : ∃ F, frontS l k = F := ⟨_, rfl⟩
        have HNX := Lib.hid (HNEXT.out (by omega))
        rw [hF] at HNX hfz ⊢
        have d0 : decide ((k : Int) > 0) = true := decide_eq_true (by omega)
        have d1 : decide (0 < (k : Int)) = true := decide_eq_true (by omega)
        have d2 : decide (0 < k) = true := decide_eq_true (by omega)
        have y1 : ¬ 9223372036854775807 < F.size + 2 := by omega
        have y2 : ¬ 9223372036854775807 < F.size + ByteArray.size ⟨#[44, 32]⟩ := by show ¬ _ < F.size + 2; omega
        have HF2 := Lib.hid (show (F ++ (⟨#[44, 32]⟩ : ByteArray)).size ≤ 90000 by rw [ByteArray.size_append]; show F.size + 2 ≤ _; omega)
        clear hx hc1 hxq hQ HNEXT HFST hk1 p1 p2 hF hk0 hfz
        go_wp2_with fail
        obtain ⟨F2, hF2⟩ : ∃ F2, F ++ (⟨#[44, 32]⟩ : ByteArray) = F2 := ⟨_, rfl⟩
        rw [hF2] at HNX HF2 ⊢
        clear hF2 y1 y2
        obtain ⟨z1, z2, z3, z4, z5, z6⟩ := sums_fit F2 x Q HF2.out HSZ.out.1 HSZ.out.2
        go_wp2_with fail
        go_region_held3 (fun w' => (w'.cell? ⟨b1, o1 + k * 2, none⟩ = some (.string x) ∧ w'.cell? ⟨b1, o1 + k * 2 + 1, none⟩ = some (.string y)) ∧ SinceS wr w')
          ((first | exact ⟨HCW.out _ (SinceS.start _), SinceS.start _⟩ | (refine keepSS (A := fun w' => (w'.cell? ⟨b1, o1 + k * 2, none⟩ = some (.string x) ∧ w'.cell? ⟨b1, o1 + k * 2 + 1, none⟩ = some (.string y))) HCW.out ?_ (by assumption); assumption)))
          ((go_at_call 103; refine (CQ1.out _).mono ?_; rintro e w' ⟨rfl, hb⟩))
        all_goals
          have HSN := Lib.hid (keepSOut (wr := wr) (by assumption))
          have B2 := Lib.hid (HB.out.trans (HSN.out.out.mono HB.out.size))
          clear z1 z2 z3 z4 z5 z6
          go_wp2
          go_roundw
          case rel => exact ⟨k1, HK1.out.1, rfl, by rw [HNX.out], B2⟩
          case measure => simpa [intOf] using HK1.out.2
    · have hk2 : k = n := by omega
      have da : decide ((k : Int) < (n : Int)) = false := decide_eq_false (by omega)
      have da2 : decide (k < n) = false := decide_eq_false hkn
      have hfz := HFZ.out k
      have HE2 := Lib.hid (show frontS l k ++ (⟨#[125]⟩ : ByteArray) = R by rw [hk2]; exact HE.out)
      obtain ⟨F, hF⟩ : ∃ F, frontS l k = F := ⟨_, rfl⟩
      rw [hF] at HE2 hfz ⊢
      have y1 : ¬ 9223372036854775807 < F.size + 1 := by omega
      have y2 : ¬ 9223372036854775807 < F.size + ByteArray.size ⟨#[125]⟩ := by show ¬ _ < F.size + 1; omega
      clear hF hk2 hfz
      go_wp2
      go_ret
      exact ⟨congrArg (fun x => Ending.returned (.string x)) HE2.out, HB.out⟩
end Go.Proofs.YtiolghcjndoigaaGreatDoor
namespace Go.Proofs.YtiolghcjndoigaaGreatDoor
open Go.RowKit
theorem types_size : Tryz.prog.types.size = 377 := by kernel_rfl
theorem error_row : ((List.range 377).filter fun t => Tryz.prog.rowNamed t [101, 114, 114, 111, 114]) = [244] := by kernel_rfl
theorem laid_error {W : World} (h : laidMetH Tryz.prog laid3 W) : W.cell? ⟨1, 0, none⟩ = some (rt 244) := by
  obtain ⟨_, h2⟩ := laidMetH_iff.1 h
  obtain ⟨name, u, ty, e1, e2, e3, e4, e5⟩ := h2 ("errors.errorType", Rows.laid_errors_errorType) (List.mem_filter.2 ⟨by simp [laid3, Rows.labelsOrderRow], by kernel_rfl⟩)
  have en : name = [101, 114, 114, 111, 114] := (Option.some.inj e1).symm
  subst en
  obtain rfl := Option.some.inj ((show (Tryz.prog.cutTypes.find? (·.1 == "internal/reflectlite.rtype")).map (·.2) = some 334 by kernel_rfl).symm.trans e2)
  have hm : ty ∈ (List.range 377).filter fun t => Tryz.prog.rowNamed t [101, 114, 114, 111, 114] := List.mem_filter.2 ⟨List.mem_range.2 (by rw [← types_size]; exact e3), e4⟩
  rw [error_row] at hm
  obtain rfl := List.mem_singleton.1 hm
  have hh : typeHandle Tryz.prog 244 = hd 244 := by kernel_rfl
  rw [hh] at e5
  simpa using World.var?_cell (show Tryz.prog.globalNamed "errors.errorType" = some 1 by kernel_rfl) e5 0
end Go.Proofs.YtiolghcjndoigaaGreatDoor
namespace Go.Proofs.YtiolghcjndoigaaGreatDoor
set_option linter.unusedVariables false
set_option linter.unusedSimpArgs false
open Go.RowKit Go.ChangeShapes Go.WideShapes
theorem weighs94 {H : Type} (parts : List (DataW H)) : DataW.weights Tryz.prog 94 (.agg parts) = DataW.weightsEach Tryz.prog [9, 9] parts := by
  unfold DataW.weights
  rw [Tryz.underlying94]
  rfl
theorem weighs22 {H : Type} (a b : List (DataW H)) : DataW.weights Tryz.prog 22 (.slice a b) = (a.length + b.length) * Tryz.prog.bytesOf 94 :: (DataW.weightsAll Tryz.prog 94 a ++ DataW.weightsAll Tryz.prog 94 b) := by
  rw [DataW.weights]
  rw [Tryz.underlying22]
theorem weighs9 {H : Type} (t : TypeId) (s : ByteArray) : DataW.weights (H := H) Tryz.prog t (.lit (.string s.data.toList)) = [s.size] := by
  unfold DataW.weights
  show [s.data.toList.length] = [s.size]
  rw [Array.length_toList]
  rfl
theorem weighsAll_mem {H : Type} {P : Program} {e : TypeId} : ∀ {l : List (DataW H)} {d : DataW H}, d ∈ l → ∀ n ∈ d.weights P e, n ∈ DataW.weightsAll P e l
  | [], d, h, n, hn => by cases h
  | x :: l, d, h, n, hn => by
    unfold DataW.weightsAll
    rcases List.mem_cons.1 h with rfl | h
    · exact List.mem_append.2 (.inl hn)
    · exact List.mem_append.2 (.inr (weighsAll_mem h n hn))
theorem lab_cellw {H : Type} {enc : TypeId × Value → H} {w : World} {base fuel : Nat} {spare : Nat → Bool} {held : Bool} {cs : List Value} {a : Addr} {d : DataW H} {pl : List MemPlace}
    (hc : w.cells? base a 2 = some cs) (ht : DataW.trod enc Tryz.prog w base spare held fuel 94 cs = some (d, pl)) (hw : ∀ n ∈ d.weights Tryz.prog 94, n ≤ reachBytes) :
    ∃ x : Lm.Lb, w.cell? (a.add 0) = some (.string x.1) ∧ w.cell? (a.add 1) = some (.string x.2) ∧ x.1.size ≤ reachBytes ∧ x.2.size ≤ reachBytes := by
  obtain ⟨ys, n, _, hx, _, hyl, hf⟩ := DataW.trod_struct Tryz.underlying94 ht
  obtain ⟨_, hcl, hat⟩ := World.cells?_some hc
  obtain ⟨c0, c1, rfl⟩ := two_list hcl
  have t0 : DataW.trod enc Tryz.prog w base spare held n 9 (([c0, c1].drop 0).take (Tryz.prog.cellsOf 9)) = ys[0]? := hf 0 _ rfl
  have t1 : DataW.trod enc Tryz.prog w base spare held n 9 (([c0, c1].drop 1).take (Tryz.prog.cellsOf 9)) = ys[1]? := hf 1 _ rfl
  have y0 : ys[0]? = some (ys[0]'(by rw [hyl]; decide)) := List.getElem?_eq_getElem _
  have y1 : ys[1]? = some (ys[1]'(by rw [hyl]; decide)) := List.getElem?_eq_getElem _
  rw [y0, one9] at t0
  rw [y1, one9] at t1
  obtain ⟨s0, e0, x0, _⟩ := DataW.trod_string Tryz.underlying9 t0
  obtain ⟨s1, e1, x1, _⟩ := DataW.trod_string Tryz.underlying9 t1
  have a0 : c0 = .string s0 := by simpa using e0
  have a1 : c1 = .string s1 := by simpa using e1
  subst a0 a1
  have hd : d = .agg (ys.map (·.1)) := congrArg Prod.fst hx
  subst hd
  rw [weighs94] at hw
  have z0 : (ys.map (·.1))[0]? = some (.lit (.string s0.data.toList)) := by rw [List.getElem?_map, y0, x0]; rfl
  have z1 : (ys.map (·.1))[1]? = some (.lit (.string s1.data.toList)) := by rw [List.getElem?_map, y1, x1]; rfl
  refine ⟨(s0, s1), hat 0 (by decide), hat 1 (by decide), ?_, ?_⟩
  · exact hw _ (DataW.weights_mem_each (j := 0) (t := 9) rfl z0 _ (by rw [weighs9]; simp))
  · exact hw _ (DataW.weights_mem_each (j := 1) (t := 9) rfl z1 _ (by rw [weighs9]; simp))
theorem labw_of_trod {H : Type} {enc : TypeId × Value → H} {w : World} {base fuel : Nat} {spare : Nat → Bool} {held : Bool} {a : Option Addr} {len cap : Nat} {x : DataW H × List MemPlace}
    (h : DataW.trod enc Tryz.prog w base spare held fuel 22 [.slice a len cap] = some x) (hw : ∀ n ∈ x.1.weights Tryz.prog 22, n ≤ reachBytes) : ∃ l : List Lm.Lb, l.length = len ∧ len ≤ maxLen ∧ Labs w a l ∧ Small l := by
  rcases Go.Deep.open_slice Tryz.underlying22 h with ⟨hcs, _⟩ | ⟨ad, l, c, m, n, D, Pl, hcs, _, hl, hm, hmm, hx, hi⟩
  · simp at hcs
    obtain ⟨rfl, rfl, rfl⟩ := hcs
    exact ⟨[], rfl, Nat.zero_le _, fun h => absurd rfl h, fun x hx => by simp at hx⟩
  · simp at hcs
    obtain ⟨rfl, rfl, rfl⟩ := hcs
    have hlm : len ≤ m := by rw [hmm]; split <;> omega
    subst hx
    simp only [weighs22] at hw
    have hwd : ∀ i, i < len → ∀ n ∈ (D i).weights Tryz.prog 94, n ≤ reachBytes := fun i hil n hn =>
      hw n (List.mem_cons_of_mem _ (List.mem_append.2 (.inl (weighsAll_mem (List.mem_map.2 ⟨i, List.mem_range.2 hil, rfl⟩) n hn))))
    have hone : ∀ i, i < len → ∃ o : Lm.Lb, w.cell? ((ad.add (i * 2)).add 0) = some (.string o.1) ∧ w.cell? ((ad.add (i * 2)).add 1) = some (.string o.2) ∧ o.1.size ≤ reachBytes ∧ o.2.size ≤ reachBytes := by
      intro i hil
      obtain ⟨cs', hc, ht⟩ := hi i (by omega)
      rw [two94] at hc
      exact lab_cellw hc ht (hwd i hil)
    have hall : ∀ k, k ≤ len → ∃ os : List Lm.Lb, os.length = k ∧ ∀ i (hi : i < os.length), w.cell? ((ad.add (i * 2)).add 0) = some (.string os[i].1) ∧ w.cell? ((ad.add (i * 2)).add 1) = some (.string os[i].2) ∧ os[i].1.size ≤ reachBytes ∧ os[i].2.size ≤ reachBytes := by
      intro k hk
      induction k with
      | zero => exact ⟨[], rfl, fun i hi => absurd hi (by simp)⟩
      | succ k ih =>
        obtain ⟨os, hl, ho⟩ := ih (by omega)
        obtain ⟨o, h1⟩ := hone k (by omega)
        refine ⟨os ++ [o], by simp [hl], fun i hi => ?_⟩
        by_cases hik : i < os.length
        · rw [List.getElem_append_left hik]; exact ho i hik
        · have : i = k := by simp [hl] at hi; omega
          subst this
          have e : (os ++ [o])[i] = o := by rw [List.getElem_append_right (by omega)]; simp [hl]
          rw [e]; exact h1
    obtain ⟨os, hl2, ho⟩ := hall len (Nat.le_refl _)
    refine ⟨os, hl2, Nat.le_trans hl hm, fun hn => ?_, fun x hx => ?_⟩
    · have h0 : 0 < os.length := List.length_pos_iff.2 hn
      obtain ⟨b, off, spot⟩ := ad
      have hc0 := (ho 0 h0).1
      have hspot : spot = none := by simpa [Addr.add] using World.cell?_spot hc0
      subst hspot
      refine ⟨b, off, rfl, ?_, fun i hi => ?_⟩
      · have := World.block_lt_of_cell? _ _ hc0
        simpa [Addr.add] using this
      · obtain ⟨k1, k2, _⟩ := ho i hi
        rw [add_at, add_at] at k1 k2
        exact ⟨k1, k2⟩
    · obtain ⟨i, hi, rfl⟩ := List.getElem_of_mem hx
      obtain ⟨_, _, k1, k2⟩ := ho i hi
      unfold reachBytes at k1 k2
      exact ⟨by omega, by omega⟩
end Go.Proofs.YtiolghcjndoigaaGreatDoor
namespace Go.Proofs.YtiolghcjndoigaaGreatDoor
set_option linter.unusedVariables false
set_option linter.unusedSimpArgs false
open Go.RowKit Go.PlainAid Go.Shelf
theorem setn_small {l out : List Lm.Lb} {c : Nat} (h : SetN l c out) : out.length ≤ 64 := by
  unfold SetN at h
  split at h
  · rw [h.2]; simp
  · split at h
    · rw [h.2]; simp
    · split at h
      · rw [h.2]; simp
      · rw [h.2]; omega
set_option maxRecDepth 100000 in
set_option maxHeartbeats 8000000 in
theorem law_texts (s : ByteArray) (a1 : Option Addr) (c1 : Nat) (l : List Lm.Lb) (w : World) (H1 : Labs w a1 l) (l1 : l.length ≤ maxLen) (hsm : Small l) (hT : Ty w) :
    Calls Tryz.prog 5 #[.string s, .slice a1 l.length c1] w (Gives w (.bool true)) := by
  have M1 := Lib.hid (fun w H => much_any a1 c1 l w H l1)
  have CK := Lib.hid known_any
  have K1 := Lib.hid H1
  have KT := Lib.hid hT
  have HSM := Lib.hid hsm
  have CN := Lib.hid (name_any s)
  have CRN := Lib.hid (rname_any s)
  obtain ⟨r, hr⟩ := allR_all (bytesOf s)
  have HRR := Lib.hid hr
  have hsb := bytesOf_length s
  obtain ⟨n1, hn1⟩ : ∃ n, l.length = n := ⟨_, rfl⟩
  have HN1 := Lib.hid hn1
  rw [hn1] at M1 ⊢
  by_cases h2 : 20000 < s.size
  · have e3 : decide ((s.size : Int) > 20000) = true := decide_eq_true (by omega)
    have e4 : decide (20000 < (s.size : Int)) = true := decide_eq_true (by omega)
    have e5 : decide (20000 < s.size) = true := decide_eq_true h2
    clear H1 l1 hn1 hsm hT hr
    go_enter Tryz.func5, Tryz.ntmps5
    go_wp2
    go_ret
    exact ⟨rfl, Below.refl _ _⟩
  have e3 : decide ((s.size : Int) > 20000) = false := decide_eq_false (by omega)
  have e4 : decide (20000 < (s.size : Int)) = false := decide_eq_false (by omega)
  have e5 : decide (20000 < s.size) = false := decide_eq_false h2
  have CP := Lib.hid (fun w hT => show Calls Tryz.prog 34 #[.string s] w (PPost w (bytesOf s) r) by
    have h := parse_any (bytesOf s) r (isB_bytesOf s) (by rw [hsb]; omega) HRR.out w hT
    rw [strOf_bytesOf] at h
    exact h)
  have CRP := Lib.hid (fun w => show Calls Tryz.prog 35 #[.string s] w (RPPost w (bytesOf s) r) by
    have h := rparse_any (bytesOf s) r (isB_bytesOf s) (by rw [hsb]; omega) HRR.out w
    rw [strOf_bytesOf] at h
    exact h)
  clear H1 l1 hn1 hsm hT hr h2
  go_enter Tryz.func5, Tryz.ntmps5
  go_wp2_with fail
  refine (M1.out _ K1.out).mono ?_
  rintro e w1 ⟨b1, rfl, hbl, hfew⟩
  have B1 := Lib.hid hbl
  have HF1 := Lib.hid hfew
  clear hbl hfew
  cases b1 with
  | true =>
    go_wp2
    go_ret
    exact ⟨rfl, B1.out⟩
  | false =>
    have hfew : Few l := ⟨(HF1.out rfl).1, (HF1.out rfl).2 HSM.out⟩
    have CPR := Lib.hid (fun w H => print_any a1 c1 l w H hfew)
    have CRPR := Lib.hid (fun w H => rprint_any a1 c1 l w H hfew)
    rw [HN1.out] at CPR CRPR
    obtain ⟨PS, hPS⟩ : ∃ P, printS l = P := ⟨_, rfl⟩
    rw [hPS] at CPR CRPR
    have hpp : (PS.toList == PS.toList) = true := by simp
    obtain ⟨NB, hNB⟩ : ∃ b, nameB s = b := ⟨_, rfl⟩
    rw [hNB] at CN CRN
    have hbb : (NB == NB) = true := by simp
    clear hfew hPS hNB
    go_wp2_with fail
    refine (CP.out _ (KT.out.below B1.out)).mono ?_
    clear e3 e4 e5
    cases r with
    | bad q =>
      rintro e w2 ⟨hbl, rfl⟩
      have B2 := Lib.hid (B1.out.trans (hbl.mono B1.out.size))
      clear hbl
      go_wp2_with fail
      refine (CRP.out _).mono ?_
      rintro e w3 ⟨hbl, rfl⟩
      have B3 := Lib.hid (B2.out.trans (hbl.mono B2.out.size))
      clear hbl
      have CSM := Lib.hid (fun w => show Calls Tryz.prog 18 #[.slice none 0 0, .slice none 0 0] w (Gives w (.bool true)) by
        have h := same_any none none 0 0 [] [] w (fun h => absurd rfl h) (fun h => absurd rfl h) (by simp)
        rw [decide_eq_true rfl] at h
        exact h)
      have hqq : ((q : Int) == (q : Int)) = true := by simp
      go_wp2_with fail
      refine (CK.out _).mono ?_
      rintro e w4 ⟨rfl, hbl⟩
      have B4 := Lib.hid (B3.out.trans (hbl.mono B3.out.size))
      clear hbl
      go_wp2_with fail
      refine (CN.out _).mono ?_
      rintro e w5 ⟨rfl, hww⟩
      have hww2 := hww.symm
      subst hww2
      go_wp2_with fail
      refine (CRN.out _).mono ?_
      rintro e w5 ⟨rfl, hww⟩
      have hww2 := hww.symm
      subst hww2
      go_wp2_with fail
      refine (CSM.out _).mono ?_
      rintro e w5 ⟨rfl, hbl⟩
      have B5 := Lib.hid (B4.out.trans (hbl.mono B4.out.size))
      clear hbl
      go_wp2_with fail
      refine (CPR.out _ (K1.out.below B5.out)).mono ?_
      rintro e w6 ⟨rfl, hbl⟩
      have B6 := Lib.hid (B5.out.trans (hbl.mono B5.out.size))
      clear hbl
      go_wp2_with fail
      refine (CRPR.out _ (K1.out.below B6.out)).mono ?_
      rintro e w7 ⟨rfl, hbl⟩
      have B7 := Lib.hid (B6.out.trans (hbl.mono B6.out.size))
      clear hbl
      go_wp2
      go_ret
      exact ⟨rfl, B7.out⟩
    | good L =>
      rintro e w2 ⟨hbl, v, c, out, rfl, hs, ho⟩
      obtain ⟨q, hq⟩ : ∃ q, (if c = 0 then 0 else (bytesOf s).length) = q := ⟨_, rfl⟩
      rw [hq]
      have HQ := Lib.hid hq
      clear hq
      have B2 := Lib.hid (B1.out.trans (hbl.mono B1.out.size))
      have HS := Lib.hid (setn_of hs)
      obtain ⟨av, cv, rfl, hlv, _⟩ := ho.labs
      have KV := Lib.hid hlv
      clear hbl hs ho hlv
      go_wp2_with fail
      refine (CRP.out _).mono ?_
      rintro e w3 ⟨hbl, v2, c2, out2, rfl, hs, ho⟩
      obtain ⟨e1, e2⟩ := setn_one hs HS.out
      subst e1
      rw [e2] at ho
      obtain ⟨av2, cv2, rfl, hlv, _⟩ := ho.labs
      have KV2 := Lib.hid hlv
      have KV1 := Lib.hid (KV.out.below hbl)
      have B3 := Lib.hid (B2.out.trans (hbl.mono B2.out.size))
      clear hbl hs ho hlv e2
      have HLN : out.length ≤ maxLen := Nat.le_trans (setn_small HS.out) (by decide)
      have CSM := Lib.hid (fun w1 H H' => show Calls Tryz.prog 18 #[.slice av out.length cv, .slice av2 out.length cv2] w1 (Gives w1 (.bool true)) by
        have h := same_any av av2 cv cv2 out out w1 H H' HLN
        rw [decide_eq_true rfl] at h
        exact h)
      obtain ⟨k, hk⟩ : ∃ k, out.length = k := ⟨_, rfl⟩
      rw [hk] at CSM ⊢
      rw [HQ.out]
      clear hk HLN
      have hqq : ((q : Int) == (q : Int)) = true := by simp
      have hcc : ((c2 : Int) == (c2 : Int)) = true := by simp
      go_wp2_with fail
      refine (CK.out _).mono ?_
      rintro e w4 ⟨rfl, hbl⟩
      have B4 := Lib.hid (B3.out.trans (hbl.mono B3.out.size))
      have KA := Lib.hid (KV1.out.below hbl)
      have KB := Lib.hid (KV2.out.below hbl)
      clear hbl
      go_wp2_with fail
      refine (CN.out _).mono ?_
      rintro e w5 ⟨rfl, hww⟩
      have hww2 := hww.symm
      subst hww2
      go_wp2_with fail
      refine (CRN.out _).mono ?_
      rintro e w5 ⟨rfl, hww⟩
      have hww2 := hww.symm
      subst hww2
      go_wp2_with fail
      refine (CSM.out _ KA.out KB.out).mono ?_
      rintro e w5 ⟨rfl, hbl⟩
      have B5 := Lib.hid (B4.out.trans (hbl.mono B4.out.size))
      clear hbl
      go_wp2_with fail
      refine (CPR.out _ (K1.out.below B5.out)).mono ?_
      rintro e w6 ⟨rfl, hbl⟩
      have B6 := Lib.hid (B5.out.trans (hbl.mono B5.out.size))
      clear hbl
      go_wp2_with fail
      refine (CRPR.out _ (K1.out.below B6.out)).mono ?_
      rintro e w7 ⟨rfl, hbl⟩
      have B7 := Lib.hid (B6.out.trans (hbl.mono B6.out.size))
      clear hbl
      go_wp2
      go_ret
      exact ⟨rfl, B7.out⟩
end Go.Proofs.YtiolghcjndoigaaGreatDoor
