/-
  PACKED: GwM, GwN, GoH, GrA, GrB
-/
import Derived.Test.YtdlifcpdlbmijaaGreatDoorK04
import Derived.Test.YtdlifcpdlbmijaaGreatDoorK03
import Derived.Test.YtdlifcpdlbmijaaGreatDoorK02
import Derived.OrdersIn
set_option linter.unusedVariables false
set_option linter.unusedSimpArgs false
namespace Go.Proofs.YtdlifcpdlbmijaaGreatDoor
set_option linter.unusedVariables false
set_option linter.unusedSimpArgs false
open Go.RowKit Go.PlainAid Go.Shelf
open B2 (Only Wr PutPost Bys Row cellsOf Rf RfPost)
open Gm (St Smp)
/-- samples in memory -/
def Sam (w : World) (b o : Nat) (l : List Smp) : Prop := ∀ i (hi : i < l.length), w.cell? ⟨b, o + i * 2, none⟩ = some (.int .i64 l[i].t) ∧ w.cell? ⟨b, o + i * 2 + 1, none⟩ = some (.int .u64 ((l[i].v : Nat) : Int))
theorem Sam.below {w w' : World} {b o : Nat} {l : List Smp} (h : Sam w b o l) (hb : Below w.heap.size w w') : Sam w' b o l := fun i hi => ⟨cell_below (h i hi).1 hb, cell_below (h i hi).2 hb⟩
theorem Sam.only {w w' : World} {S : List Nat} {b o : Nat} {l : List Smp} (h : Sam w b o l) (ho : Only S w w') (hn : b ∉ S) : Sam w' b o l := fun i hi => ⟨Only_cell ho (h i hi).1 hn, Only_cell ho (h i hi).2 hn⟩
def bkL : List (List Int) := [[2, 2, -63, 64, 7], [6, 3, -255, 256, 9], [14, 4, -2047, 2048, 12]]
/-- the document's table in memory: q, q0, q1, q2: its blocks -/
structure TabB (w : World) (q q0 q1 q2 c c0 c1 c2 o9 oa oc od : Nat) : Prop where
  g : w.cell? ⟨0, 0, none⟩ = some (.slice (some ⟨q, o9, none⟩) 3 c)
  r : w.cell? ⟨q, o9, none⟩ = some (.slice (some ⟨q0, oa, none⟩) 5 c0) ∧ w.cell? ⟨q, o9 + 1, none⟩ = some (.slice (some ⟨q1, oc, none⟩) 5 c1) ∧ w.cell? ⟨q, o9 + 2, none⟩ = some (.slice (some ⟨q2, od, none⟩) 5 c2)
  t0 : w.cell? ⟨q0, oa, none⟩ = some (.int .i64 2) ∧ w.cell? ⟨q0, oa + 1, none⟩ = some (.int .i64 2) ∧ w.cell? ⟨q0, oa + 2, none⟩ = some (.int .i64 (-63)) ∧ w.cell? ⟨q0, oa + 3, none⟩ = some (.int .i64 64) ∧ w.cell? ⟨q0, oa + 4, none⟩ = some (.int .i64 7)
  t1 : w.cell? ⟨q1, oc, none⟩ = some (.int .i64 6) ∧ w.cell? ⟨q1, oc + 1, none⟩ = some (.int .i64 3) ∧ w.cell? ⟨q1, oc + 2, none⟩ = some (.int .i64 (-255)) ∧ w.cell? ⟨q1, oc + 3, none⟩ = some (.int .i64 256) ∧ w.cell? ⟨q1, oc + 4, none⟩ = some (.int .i64 9)
  t2 : w.cell? ⟨q2, od, none⟩ = some (.int .i64 14) ∧ w.cell? ⟨q2, od + 1, none⟩ = some (.int .i64 4) ∧ w.cell? ⟨q2, od + 2, none⟩ = some (.int .i64 (-2047)) ∧ w.cell? ⟨q2, od + 3, none⟩ = some (.int .i64 2048) ∧ w.cell? ⟨q2, od + 4, none⟩ = some (.int .i64 12)
theorem row_zero (D : Nat) (hD : D < 18446744073709551616) : Gm.hasR 0 D = decide (Gm.i64 D = 0) := by
  unfold Gm.hasR Gm.i64; rw [Bool.eq_iff_iff]; simp only [decide_eq_true_eq, Gm.pl, Gm.sz, Nat.pow_zero, Nat.div_one]; split <;> omega
theorem row_one (D : Nat) (hD : D < 18446744073709551616) : Gm.hasR 1 D = (decide (-63 ≤ Gm.i64 D) && decide (Gm.i64 D ≤ 64)) := by
  unfold Gm.hasR Gm.i64; rw [Bool.eq_iff_iff]; simp only [decide_eq_true_eq, Bool.and_eq_true, Gm.pl, Gm.sz, show (2 : Nat) ^ 7 = 128 from rfl]; split <;> omega
theorem row_two (D : Nat) (hD : D < 18446744073709551616) : Gm.hasR 2 D = (decide (-255 ≤ Gm.i64 D) && decide (Gm.i64 D ≤ 256)) := by
  unfold Gm.hasR Gm.i64; rw [Bool.eq_iff_iff]; simp only [decide_eq_true_eq, Bool.and_eq_true, Gm.pl, Gm.sz, show (2 : Nat) ^ 9 = 512 from rfl]; split <;> omega
theorem row_three (D : Nat) (hD : D < 18446744073709551616) : Gm.hasR 3 D = (decide (-2047 ≤ Gm.i64 D) && decide (Gm.i64 D ≤ 2048)) := by
  unfold Gm.hasR Gm.i64; rw [Bool.eq_iff_iff]; simp only [decide_eq_true_eq, Bool.and_eq_true, Gm.pl, Gm.sz, show (2 : Nat) ^ 12 = 4096 from rfl]; split <;> omega
theorem wrap_u (t : Int) : IntKind.u64.wrap t = ((Gm.gapOf t 0 : Nat) : Int) := by rw [IntKind.wrap_u64]; unfold Gm.gapOf; omega
theorem gap_u (t l : Int) : IntKind.u64.wrap (IntKind.u64.wrap t - IntKind.u64.wrap l) = ((Gm.gapOf t l : Nat) : Int) := by rw [IntKind.wrap_u64, IntKind.wrap_u64, IntKind.wrap_u64]; unfold Gm.gapOf; omega
theorem i64_of (D : Nat) (hD : D < 18446744073709551616) : IntKind.i64.wrap (D : Int) = Gm.i64 D := by rw [i64_is]; unfold RowKit.wrap64 Gm.i64; split <;> omega
theorem u_of_i64 (D : Nat) (hD : D < 18446744073709551616) : IntKind.u64.wrap (Gm.i64 D) = (D : Int) := by rw [IntKind.wrap_u64]; unfold Gm.i64; split <;> omega
theorem i64_bd (D : Nat) (hD : D < 18446744073709551616) : -9223372036854775808 ≤ Gm.i64 D ∧ Gm.i64 D ≤ 9223372036854775807 := by unfold Gm.i64; split <;> omega
/-- how the time of sample i is told -/
def timeL (l : List Smp) (i : Nat) : List Bool := if i = 1 then B2.Bt.vb (Gm.gapOf (l.getD 1 ⟨0, 0⟩).t (l.getD 0 ⟨0, 0⟩).t) else Gm.stepB (Gm.subW (Gm.gapOf (l.getD i ⟨0, 0⟩).t (l.getD (i - 1) ⟨0, 0⟩).t) (Gm.gapOf (l.getD (i - 1) ⟨0, 0⟩).t (l.getD (i - 2) ⟨0, 0⟩).t))
set_option maxHeartbeats 8000000 in
set_option maxRecDepth 100000 in
theorem time_one (r g b o n cap : Nat) (B : List Bool) (l : List Smp) (hn : l.length = n) (hl : 1 < n) (hB : B.length + 200 ≤ 1000000000) (w : World) (H : Rf w r g B 0) (HS : Sam w b o l) :
    Calls Tryz.prog 89 #[pt r, .slice (some ⟨b, o, none⟩) n cap, .int .i64 1] w fun e w' => e = .returned (.tuple #[]) ∧ RfPost w r g (B ++ timeL l 1) 0 w' := by
  have h0 : w.cell? ⟨b, o, none⟩ = some (.int .i64 l[0].t) := (HS 0 (by omega)).1
  have h1 : w.cell? ⟨b, o + 2, none⟩ = some (.int .i64 l[1].t) := (HS 1 (by omega)).1
  have q0 : l[0] = l.getD 0 ⟨0, 0⟩ := by simp [List.getD, List.getElem?_eq_getElem (show 0 < l.length by omega)]
  have q1 : l[1] = l.getD 1 ⟨0, 0⟩ := by simp [List.getD, List.getElem?_eq_getElem (show 1 < l.length by omega)]
  rw [q0] at h0
  rw [q1] at h1
  unfold timeL
  rw [if_pos rfl]
  obtain ⟨a0, ha0⟩ : ∃ a0, (l.getD 0 ⟨0, 0⟩).t = a0 := ⟨_, rfl⟩
  obtain ⟨a1, ha1⟩ : ∃ a1, (l.getD 1 ⟨0, 0⟩).t = a1 := ⟨_, rfl⟩
  rw [ha0] at h0 ⊢
  rw [ha1] at h1 ⊢
  have hg := gap_u a1 a0
  have hgl := Gm.gapOf_lt a1 a0
  obtain ⟨G, hG⟩ : ∃ G, Gm.gapOf a1 a0 = G := ⟨_, rfl⟩
  rw [hG] at hg hgl ⊢
  have CV := Lib.hid (fun W (h : Rf W r g B 0) => B2.fputvar_any r g B 0 G hgl W h (by omega))
  have HH := Lib.hid H
  have hb1 : (1 : Int) < (n : Int) := by omega
  have hb2 : (0 : Int) < (n : Int) := by omega
  have hn1 : 1 < n := hl
  have hn0 : 0 < n := by omega
  clear H HS q0 q1 ha0 ha1 hG hB hn hl
  unfold pt at *
  go_enter Tryz.func89, Tryz.ntmps89
  go_wp2_with fail
  go_quiet (fail)
  go_wp2_with (go_at_call 113; refine (CV.out _ (HH.out.below (drewn_below _ _))).mono ?_; rintro e w1 ⟨rfl, hp⟩)
  exact bodyPost_ret (results_none rfl _ _ _) rfl ⟨rfl, RfPost.trans ((Only.refl [r, g] w).drewN _) (.inl rfl) hp⟩
theorem TabB.only {w w' : World} {q q0 q1 q2 c c0 c1 c2 o9 oa oc od r g : Nat} (h : TabB w q q0 q1 q2 c c0 c1 c2 o9 oa oc od) (ho : Only [r, g] w w') (hne : r ≠ 0 ∧ r ≠ q ∧ r ≠ q0 ∧ r ≠ q1 ∧ r ≠ q2 ∧ g ≠ 0 ∧ g ≠ q ∧ g ≠ q0 ∧ g ≠ q1 ∧ g ≠ q2) : TabB w' q q0 q1 q2 c c0 c1 c2 o9 oa oc od := by
  have n0 : 0 ∉ [r, g] := by simp only [List.mem_cons, List.not_mem_nil, or_false]; omega
  have nq : q ∉ [r, g] := by simp only [List.mem_cons, List.not_mem_nil, or_false]; omega
  have n1 : q0 ∉ [r, g] := by simp only [List.mem_cons, List.not_mem_nil, or_false]; omega
  have n2 : q1 ∉ [r, g] := by simp only [List.mem_cons, List.not_mem_nil, or_false]; omega
  have n3 : q2 ∉ [r, g] := by simp only [List.mem_cons, List.not_mem_nil, or_false]; omega
  exact ⟨Only_cell ho h.g n0, ⟨Only_cell ho h.r.1 nq, Only_cell ho h.r.2.1 nq, Only_cell ho h.r.2.2 nq⟩,
    ⟨Only_cell ho h.t0.1 n1, Only_cell ho h.t0.2.1 n1, Only_cell ho h.t0.2.2.1 n1, Only_cell ho h.t0.2.2.2.1 n1, Only_cell ho h.t0.2.2.2.2 n1⟩,
    ⟨Only_cell ho h.t1.1 n2, Only_cell ho h.t1.2.1 n2, Only_cell ho h.t1.2.2.1 n2, Only_cell ho h.t1.2.2.2.1 n2, Only_cell ho h.t1.2.2.2.2 n2⟩,
    ⟨Only_cell ho h.t2.1 n3, Only_cell ho h.t2.2.1 n3, Only_cell ho h.t2.2.2.1 n3, Only_cell ho h.t2.2.2.2.1 n3, Only_cell ho h.t2.2.2.2.2 n3⟩⟩
theorem TabB.below {w w' : World} {q q0 q1 q2 c c0 c1 c2 o9 oa oc od : Nat} (h : TabB w q q0 q1 q2 c c0 c1 c2 o9 oa oc od) (hb : Below w.heap.size w w') : TabB w' q q0 q1 q2 c c0 c1 c2 o9 oa oc od :=
  ⟨cell_below h.g hb, ⟨cell_below h.r.1 hb, cell_below h.r.2.1 hb, cell_below h.r.2.2 hb⟩,
    ⟨cell_below h.t0.1 hb, cell_below h.t0.2.1 hb, cell_below h.t0.2.2.1 hb, cell_below h.t0.2.2.2.1 hb, cell_below h.t0.2.2.2.2 hb⟩,
    ⟨cell_below h.t1.1 hb, cell_below h.t1.2.1 hb, cell_below h.t1.2.2.1 hb, cell_below h.t1.2.2.2.1 hb, cell_below h.t1.2.2.2.2 hb⟩,
    ⟨cell_below h.t2.1 hb, cell_below h.t2.2.1 hb, cell_below h.t2.2.2.1 hb, cell_below h.t2.2.2.2.1 hb, cell_below h.t2.2.2.2.2 hb⟩⟩
theorem add_two (i : Nat) : ((i + 2 : Nat) : Int) - 1 = ((i + 1 : Nat) : Int) ∧ ((i + 2 : Nat) : Int) - 2 = (i : Int) := ⟨by omega, by omega⟩
set_option maxHeartbeats 8000000 in
set_option maxRecDepth 100000 in
theorem time_more (r g b o n cap j : Nat) (B : List Bool) (l : List Smp) (hn : l.length = n) (hl : j + 2 < n) (hn9 : n ≤ 1000000) (hB : B.length + 200 ≤ 1000000000) (q p0 p1 p2 c c0 c1 c2 o9 oa oc od : Nat) (w : World) (H : Rf w r g B 0) (HS : Sam w b o l) (HT : TabB w q p0 p1 p2 c c0 c1 c2 o9 oa oc od)
    (hne : r ≠ 0 ∧ r ≠ q ∧ r ≠ p0 ∧ r ≠ p1 ∧ r ≠ p2 ∧ g ≠ 0 ∧ g ≠ q ∧ g ≠ p0 ∧ g ≠ p1 ∧ g ≠ p2) :
    Calls Tryz.prog 89 #[pt r, .slice (some ⟨b, o, none⟩) n cap, .int .i64 ((j + 2 : Nat) : Int)] w fun e w' => e = .returned (.tuple #[]) ∧ RfPost w r g (B ++ timeL l (j + 2)) 0 w' := by
  have h0 := (HS j (by omega)).1
  have h1 := (HS (j + 1) (by omega)).1
  have h2 := (HS (j + 2) (by omega)).1
  have q0 : l[j] = l.getD j ⟨0, 0⟩ := by simp [List.getD, List.getElem?_eq_getElem (show j < l.length by omega)]
  have q1 : l[j + 1] = l.getD (j + 1) ⟨0, 0⟩ := by simp [List.getD, List.getElem?_eq_getElem (show j + 1 < l.length by omega)]
  have q2 : l[j + 2] = l.getD (j + 2) ⟨0, 0⟩ := by simp [List.getD, List.getElem?_eq_getElem (show j + 2 < l.length by omega)]
  rw [q0] at h0
  rw [q1] at h1
  rw [q2] at h2
  unfold timeL
  rw [if_neg (by omega), show j + 2 - 1 = j + 1 by omega, show j + 2 - 2 = j by omega]
  obtain ⟨a0, ha0⟩ : ∃ a0, (l.getD j ⟨0, 0⟩).t = a0 := ⟨_, rfl⟩
  obtain ⟨a1, ha1⟩ : ∃ a1, (l.getD (j + 1) ⟨0, 0⟩).t = a1 := ⟨_, rfl⟩
  obtain ⟨a2, ha2⟩ : ∃ a2, (l.getD (j + 2) ⟨0, 0⟩).t = a2 := ⟨_, rfl⟩
  rw [ha0] at h0 ⊢
  rw [ha1] at h1 ⊢
  rw [ha2] at h2 ⊢
  have hg := gap_u a2 a1
  have hg2 := gap_u a1 a0
  have hgl := Gm.gapOf_lt a2 a1
  have hgl2 := Gm.gapOf_lt a1 a0
  obtain ⟨G, hG⟩ : ∃ G, Gm.gapOf a2 a1 = G := ⟨_, rfl⟩
  obtain ⟨G2, hG2⟩ : ∃ G2, Gm.gapOf a1 a0 = G2 := ⟨_, rfl⟩
  rw [hG] at hg hgl ⊢
  rw [hG2] at hg2 hgl2 ⊢
  have hs := sub_word G G2 hgl hgl2
  have hDl := Gm.subW_lt G G2
  obtain ⟨D, hD⟩ : ∃ D, Gm.subW G G2 = D := ⟨_, rfl⟩
  rw [hD] at hs hDl ⊢
  have hi := i64_of D hDl
  obtain ⟨e, he⟩ : ∃ e, Gm.i64 D = e := ⟨_, rfl⟩
  rw [he] at hi
  have HE := Lib.hid (And.intro he hDl)
  have HH := Lib.hid H
  have HTT := Lib.hid HT
  have HNE := Lib.hid hne
  have HB := Lib.hid hB
  have hb2 : ((j + 2 : Nat) : Int) < (n : Int) := by omega
  have hb1 : ((j + 1 : Nat) : Int) < (n : Int) := by omega
  have hb0 : (j : Int) < (n : Int) := by omega
  have hc2 : j + 2 < n := hl
  have hc1 : j + 1 < n := by omega
  have hc0 : j < n := by omega
  have hj1 := (add_two j).1
  have hj2 := (add_two j).2
  have hne1 : (((j + 2 : Nat) : Int) == 1) = false := by simp; omega
  have hne2 : ¬ ((j + 2 : Nat) : Int) = 1 := by omega
  obtain ⟨m2, hm2⟩ : ∃ m2, j + 2 = m2 := ⟨_, rfl⟩
  obtain ⟨m1, hm1⟩ : ∃ m1, j + 1 = m1 := ⟨_, rfl⟩
  rw [hm2] at h2 hb2 hc2 hj1 hj2 hne1 hne2 ⊢
  rw [hm1] at h1 hb1 hc1 hj1
  clear H HS HT hne q0 q1 q2 ha0 ha1 ha2 hG hG2 hB hn hl hD hm1 hm2 he hgl hgl2 hDl
  unfold pt at *
  go_enter Tryz.func89, Tryz.ntmps89
  go_wp2_with fail
  go_quiet (fail)
  revert nq
  intro nq1
  go_wp2_with fail
  go_quiet (fail)
  have HO := Lib.hid (show Only [r, g] w ((w.drewN nq1).drewN nq) from ((Only.refl [r, g] w).drewN _).drewN _)
  have HTW := Lib.hid ((HTT.out.below (drewn_below w nq1)).below (drewn_below (w.drewN nq1) nq))
  have HRW := Lib.hid ((HH.out.below (drewn_below w nq1)).below (drewn_below (w.drewN nq1) nq))
  clear h0 h1 h2 hb0 hb1 hb2 hc0 hc1 hc2 hj1 hj2 hg hg2 hs hi hne1 hne2 HH HTT
  generalize (w.drewN nq1).drewN nq = W0 at HO HTW HRW ⊢
  have he := HE.out.1
  have hDl := HE.out.2
  clear HE
  have r0 := row_zero D hDl
  have r1 := row_one D hDl
  have r2 := row_two D hDl
  have r3 := row_three D hDl
  rw [he] at r0 r1 r2 r3
  have hbd := i64_bd D hDl
  rw [he] at hbd
  have hue := u_of_i64 D hDl
  rw [he] at hue
  have hcase : e = 0 ∨ (e ≠ 0 ∧ -63 ≤ e ∧ e ≤ 64) ∨ (-255 ≤ e ∧ e < -63) ∨ (64 < e ∧ e ≤ 256) ∨ (-2047 ≤ e ∧ e < -255) ∨ (256 < e ∧ e ≤ 2048) ∨ e < -2047 ∨ 2048 < e := by omega
  rcases hcase with h | h | h | h | h | h | h | h
  · have hk : Gm.rowOf D = 0 := row_is D 0 (by decide) (fun q h => by omega) (by rw [r0, decide_eq_true h])
    have CB := Lib.hid (fun W (h : Rf W r g B 0) => B2.fbit_any r g B 0 false W h (by have := HB.out; omega))
    have HSB := Lib.hid (show Gm.stepB D = [false] by unfold Gm.stepB; rw [hk]; rfl)
    subst h
    clear r0 r1 r2 r3 hbd hue hk HTW he hDl
    go_wp2_with (go_at_call 90; refine (CB.out _ HRW.out).mono ?_; rintro e' w1 ⟨rfl, hp⟩)
    refine bodyPost_ret (results_none rfl _ _ _) rfl ⟨rfl, ?_⟩
    rw [HSB.out]
    exact RfPost.trans HO.out (.inl rfl) hp
  · have hz1 : (e == 0) = false := by simp; omega
    have hz2 : ¬ e = 0 := by omega
    have u1a : decide ((-63 : Int) ≤ e) = true := decide_eq_true (by omega)
    have u1b : decide (e ≤ (64 : Int)) = true := decide_eq_true (by omega)
    have u2a : decide ((-255 : Int) ≤ e) = true := decide_eq_true (by omega)
    have u2b : decide (e ≤ (256 : Int)) = true := decide_eq_true (by omega)
    have u3a : decide ((-2047 : Int) ≤ e) = true := decide_eq_true (by omega)
    have u3b : decide (e ≤ (2048 : Int)) = true := decide_eq_true (by omega)
    have z0 : decide (e = 0) = false := decide_eq_false (by omega)
    rw [z0] at r0
    rw [u1a, u1b] at r1
    rw [u2a, u2b] at r2
    rw [u3a, u3b] at r3
    have r1 : Gm.hasR 1 D = true := r1
    have r2 : Gm.hasR 2 D = true := r2
    have r3 : Gm.hasR 3 D = true := r3
    have hk : Gm.rowOf D = 1 := row_is D 1 (by decide) (fun q h => by
      have h5 : q = 0 := by omega
      rcases h5 with rfl
      · exact r0
    ) r1
    have HSB := Lib.hid (show Gm.stepB D = B2.Bt.top 2 2 ++ B2.Bt.top ((D + 63) % 18446744073709551616) 7 by unfold Gm.stepB; rw [hk]; rfl)
    have hcv : e + 63 = (((D + 63) % 18446744073709551616 : Nat) : Int) := by rw [← he] at h ⊢; unfold Gm.i64 at h ⊢; split at h <;> rename_i h2 <;> simp only [h2, if_true, if_false] <;> omega
    have CB := Lib.hid (fun W (h : Rf W r g B 0) => B2.fbits_good r g B 0 2 2 (by decide) (by decide) W h (by have := HB.out; omega))
    have CB2 := Lib.hid (fun g1 W (h : Rf W r g1 (B ++ B2.Bt.top 2 2) 0) => B2.fbits_good r g1 (B ++ B2.Bt.top 2 2) 0 ((D + 63) % 18446744073709551616) 7 (Nat.mod_lt _ (by decide)) (by decide) W h (by simp only [List.length_append, B2.Bt.top_length]; have := HB.out; omega))
    rw [← hcv] at CB2
    simp only [Int.cast_ofNat_Int] at CB CB2
    have hTg := HTW.out.g
    obtain ⟨hTr0, hTr1, hTr2⟩ := HTW.out.r
    obtain ⟨ta0, ta1, ta2, ta3, ta4⟩ := HTW.out.t0
    obtain ⟨tb0, tb1, tb2, tb3, tb4⟩ := HTW.out.t1
    obtain ⟨tc0, tc1, tc2, tc3, tc4⟩ := HTW.out.t2
    clear r0 r1 r2 r3 hue hk he hDl z0 hcv
    go_wp2_with fail
    refine wp_loop_rounds 4 ?_
    rw [rounds_succ]
    go_wp2_with fail
    go_still_tail 8, (by kernel_rfl)
    change wpList _ _ _ _ _ (World.drew _)
    clear hTg hTr0 hTr1 hTr2 ta0 ta1 ta2 ta3 ta4 tb0 tb1 tb2 tb3 tb4 tc0 tc1 tc2 tc3 tc4
    go_wp2_with fail
    go_at_call 88
    refine (CB.out _ (HRW.out.below (drew_below _))).mono ?_
    rintro e' w1 ⟨rfl, hp⟩
    obtain ⟨g1, hr1, hg1, ho1⟩ := hp
    have ho2 : Only [r, g] W0 w1 := ((Only.refl [r, g] W0).drew).trans ho1 (fun x hx => .inl hx)
    have hTw := HTW.out.only ho2 HNE.out
    have hx2 := hTw.t0.2.2.1
    have hx4 := hTw.t0.2.2.2.2
    have HO2 := Lib.hid (HO.out.trans ho2 (fun x hx => .inl hx))
    have HG1 := Lib.hid (show g1 = g ∨ w.heap.size ≤ g1 from hg1.imp id (fun h => Nat.le_trans HO.out.size h))
    have HR1 := Lib.hid hr1
    clear hr1 hg1 ho1 ho2 hTw CB HTW HRW
    go_upto_region 12 with (fail)
    go_still_tail 10, (by kernel_rfl)
    change wpList _ _ _ _ _ (World.drew _)
    go_wp2_with fail
    go_at_call 88
    refine (CB2.out g1 _ (HR1.out.below (drew_below _))).mono ?_
    rintro e' w2 ⟨rfl, hp⟩
    go_wp2_with fail
    refine bodyPost_ret (results_none rfl _ _ _) rfl ⟨rfl, ?_⟩
    rw [HSB.out, ← List.append_assoc]
    exact RfPost.trans (HO2.out.drew) HG1.out hp
  · have hz1 : (e == 0) = false := by simp; omega
    have hz2 : ¬ e = 0 := by omega
    have u1a : decide ((-63 : Int) ≤ e) = false := decide_eq_false (by omega)
    have u1b : decide (e ≤ (64 : Int)) = true := decide_eq_true (by omega)
    have u2a : decide ((-255 : Int) ≤ e) = true := decide_eq_true (by omega)
    have u2b : decide (e ≤ (256 : Int)) = true := decide_eq_true (by omega)
    have u3a : decide ((-2047 : Int) ≤ e) = true := decide_eq_true (by omega)
    have u3b : decide (e ≤ (2048 : Int)) = true := decide_eq_true (by omega)
    have z0 : decide (e = 0) = false := decide_eq_false (by omega)
    rw [z0] at r0
    rw [u1a, u1b] at r1
    rw [u2a, u2b] at r2
    rw [u3a, u3b] at r3
    have r1 : Gm.hasR 1 D = false := r1
    have r2 : Gm.hasR 2 D = true := r2
    have r3 : Gm.hasR 3 D = true := r3
    have hk : Gm.rowOf D = 2 := row_is D 2 (by decide) (fun q h => by
      have h5 : q = 0 ∨ q = 1 := by omega
      rcases h5 with rfl | rfl
      · exact r0
      · exact r1
    ) r2
    have HSB := Lib.hid (show Gm.stepB D = B2.Bt.top 6 3 ++ B2.Bt.top ((D + 255) % 18446744073709551616) 9 by unfold Gm.stepB; rw [hk]; rfl)
    have hcv : e + 255 = (((D + 255) % 18446744073709551616 : Nat) : Int) := by rw [← he] at h ⊢; unfold Gm.i64 at h ⊢; split at h <;> rename_i h2 <;> simp only [h2, if_true, if_false] <;> omega
    have CB := Lib.hid (fun W (h : Rf W r g B 0) => B2.fbits_good r g B 0 6 3 (by decide) (by decide) W h (by have := HB.out; omega))
    have CB2 := Lib.hid (fun g1 W (h : Rf W r g1 (B ++ B2.Bt.top 6 3) 0) => B2.fbits_good r g1 (B ++ B2.Bt.top 6 3) 0 ((D + 255) % 18446744073709551616) 9 (Nat.mod_lt _ (by decide)) (by decide) W h (by simp only [List.length_append, B2.Bt.top_length]; have := HB.out; omega))
    rw [← hcv] at CB2
    simp only [Int.cast_ofNat_Int] at CB CB2
    have hTg := HTW.out.g
    obtain ⟨hTr0, hTr1, hTr2⟩ := HTW.out.r
    obtain ⟨ta0, ta1, ta2, ta3, ta4⟩ := HTW.out.t0
    obtain ⟨tb0, tb1, tb2, tb3, tb4⟩ := HTW.out.t1
    obtain ⟨tc0, tc1, tc2, tc3, tc4⟩ := HTW.out.t2
    clear r0 r1 r2 r3 hue hk he hDl z0 hcv
    go_wp2_with fail
    refine wp_loop_rounds 4 ?_
    rw [rounds_succ]
    go_wp2_with fail
    rw [rounds_succ]
    go_wp2_with fail
    go_still_tail 8, (by kernel_rfl)
    change wpList _ _ _ _ _ (World.drew _)
    clear hTg hTr0 hTr1 hTr2 ta0 ta1 ta2 ta3 ta4 tb0 tb1 tb2 tb3 tb4 tc0 tc1 tc2 tc3 tc4
    go_wp2_with fail
    go_at_call 88
    refine (CB.out _ (HRW.out.below (drew_below _))).mono ?_
    rintro e' w1 ⟨rfl, hp⟩
    obtain ⟨g1, hr1, hg1, ho1⟩ := hp
    have ho2 : Only [r, g] W0 w1 := ((Only.refl [r, g] W0).drew).trans ho1 (fun x hx => .inl hx)
    have hTw := HTW.out.only ho2 HNE.out
    have hx2 := hTw.t1.2.2.1
    have hx4 := hTw.t1.2.2.2.2
    have HO2 := Lib.hid (HO.out.trans ho2 (fun x hx => .inl hx))
    have HG1 := Lib.hid (show g1 = g ∨ w.heap.size ≤ g1 from hg1.imp id (fun h => Nat.le_trans HO.out.size h))
    have HR1 := Lib.hid hr1
    clear hr1 hg1 ho1 ho2 hTw CB HTW HRW
    go_upto_region 12 with (fail)
    go_still_tail 10, (by kernel_rfl)
    change wpList _ _ _ _ _ (World.drew _)
    go_wp2_with fail
    go_at_call 88
    refine (CB2.out g1 _ (HR1.out.below (drew_below _))).mono ?_
    rintro e' w2 ⟨rfl, hp⟩
    go_wp2_with fail
    refine bodyPost_ret (results_none rfl _ _ _) rfl ⟨rfl, ?_⟩
    rw [HSB.out, ← List.append_assoc]
    exact RfPost.trans (HO2.out.drew) HG1.out hp
  · have hz1 : (e == 0) = false := by simp; omega
    have hz2 : ¬ e = 0 := by omega
    have u1a : decide ((-63 : Int) ≤ e) = true := decide_eq_true (by omega)
    have u1b : decide (e ≤ (64 : Int)) = false := decide_eq_false (by omega)
    have u2a : decide ((-255 : Int) ≤ e) = true := decide_eq_true (by omega)
    have u2b : decide (e ≤ (256 : Int)) = true := decide_eq_true (by omega)
    have u3a : decide ((-2047 : Int) ≤ e) = true := decide_eq_true (by omega)
    have u3b : decide (e ≤ (2048 : Int)) = true := decide_eq_true (by omega)
    have z0 : decide (e = 0) = false := decide_eq_false (by omega)
    rw [z0] at r0
    rw [u1a, u1b] at r1
    rw [u2a, u2b] at r2
    rw [u3a, u3b] at r3
    have r1 : Gm.hasR 1 D = false := r1
    have r2 : Gm.hasR 2 D = true := r2
    have r3 : Gm.hasR 3 D = true := r3
    have hk : Gm.rowOf D = 2 := row_is D 2 (by decide) (fun q h => by
      have h5 : q = 0 ∨ q = 1 := by omega
      rcases h5 with rfl | rfl
      · exact r0
      · exact r1
    ) r2
    have HSB := Lib.hid (show Gm.stepB D = B2.Bt.top 6 3 ++ B2.Bt.top ((D + 255) % 18446744073709551616) 9 by unfold Gm.stepB; rw [hk]; rfl)
    have hcv : e + 255 = (((D + 255) % 18446744073709551616 : Nat) : Int) := by rw [← he] at h ⊢; unfold Gm.i64 at h ⊢; split at h <;> rename_i h2 <;> simp only [h2, if_true, if_false] <;> omega
    have CB := Lib.hid (fun W (h : Rf W r g B 0) => B2.fbits_good r g B 0 6 3 (by decide) (by decide) W h (by have := HB.out; omega))
    have CB2 := Lib.hid (fun g1 W (h : Rf W r g1 (B ++ B2.Bt.top 6 3) 0) => B2.fbits_good r g1 (B ++ B2.Bt.top 6 3) 0 ((D + 255) % 18446744073709551616) 9 (Nat.mod_lt _ (by decide)) (by decide) W h (by simp only [List.length_append, B2.Bt.top_length]; have := HB.out; omega))
    rw [← hcv] at CB2
    simp only [Int.cast_ofNat_Int] at CB CB2
    have hTg := HTW.out.g
    obtain ⟨hTr0, hTr1, hTr2⟩ := HTW.out.r
    obtain ⟨ta0, ta1, ta2, ta3, ta4⟩ := HTW.out.t0
    obtain ⟨tb0, tb1, tb2, tb3, tb4⟩ := HTW.out.t1
    obtain ⟨tc0, tc1, tc2, tc3, tc4⟩ := HTW.out.t2
    clear r0 r1 r2 r3 hue hk he hDl z0 hcv
    go_wp2_with fail
    refine wp_loop_rounds 4 ?_
    rw [rounds_succ]
    go_wp2_with fail
    rw [rounds_succ]
    go_wp2_with fail
    go_still_tail 8, (by kernel_rfl)
    change wpList _ _ _ _ _ (World.drew _)
    clear hTg hTr0 hTr1 hTr2 ta0 ta1 ta2 ta3 ta4 tb0 tb1 tb2 tb3 tb4 tc0 tc1 tc2 tc3 tc4
    go_wp2_with fail
    go_at_call 88
    refine (CB.out _ (HRW.out.below (drew_below _))).mono ?_
    rintro e' w1 ⟨rfl, hp⟩
    obtain ⟨g1, hr1, hg1, ho1⟩ := hp
    have ho2 : Only [r, g] W0 w1 := ((Only.refl [r, g] W0).drew).trans ho1 (fun x hx => .inl hx)
    have hTw := HTW.out.only ho2 HNE.out
    have hx2 := hTw.t1.2.2.1
    have hx4 := hTw.t1.2.2.2.2
    have HO2 := Lib.hid (HO.out.trans ho2 (fun x hx => .inl hx))
    have HG1 := Lib.hid (show g1 = g ∨ w.heap.size ≤ g1 from hg1.imp id (fun h => Nat.le_trans HO.out.size h))
    have HR1 := Lib.hid hr1
    clear hr1 hg1 ho1 ho2 hTw CB HTW HRW
    go_upto_region 12 with (fail)
    go_still_tail 10, (by kernel_rfl)
    change wpList _ _ _ _ _ (World.drew _)
    go_wp2_with fail
    go_at_call 88
    refine (CB2.out g1 _ (HR1.out.below (drew_below _))).mono ?_
    rintro e' w2 ⟨rfl, hp⟩
    go_wp2_with fail
    refine bodyPost_ret (results_none rfl _ _ _) rfl ⟨rfl, ?_⟩
    rw [HSB.out, ← List.append_assoc]
    exact RfPost.trans (HO2.out.drew) HG1.out hp
  · have hz1 : (e == 0) = false := by simp; omega
    have hz2 : ¬ e = 0 := by omega
    have u1a : decide ((-63 : Int) ≤ e) = false := decide_eq_false (by omega)
    have u1b : decide (e ≤ (64 : Int)) = true := decide_eq_true (by omega)
    have u2a : decide ((-255 : Int) ≤ e) = false := decide_eq_false (by omega)
    have u2b : decide (e ≤ (256 : Int)) = true := decide_eq_true (by omega)
    have u3a : decide ((-2047 : Int) ≤ e) = true := decide_eq_true (by omega)
    have u3b : decide (e ≤ (2048 : Int)) = true := decide_eq_true (by omega)
    have z0 : decide (e = 0) = false := decide_eq_false (by omega)
    rw [z0] at r0
    rw [u1a, u1b] at r1
    rw [u2a, u2b] at r2
    rw [u3a, u3b] at r3
    have r1 : Gm.hasR 1 D = false := r1
    have r2 : Gm.hasR 2 D = false := r2
    have r3 : Gm.hasR 3 D = true := r3
    have hk : Gm.rowOf D = 3 := row_is D 3 (by decide) (fun q h => by
      have h5 : q = 0 ∨ q = 1 ∨ q = 2 := by omega
      rcases h5 with rfl | rfl | rfl
      · exact r0
      · exact r1
      · exact r2
    ) r3
    have HSB := Lib.hid (show Gm.stepB D = B2.Bt.top 14 4 ++ B2.Bt.top ((D + 2047) % 18446744073709551616) 12 by unfold Gm.stepB; rw [hk]; rfl)
    have hcv : e + 2047 = (((D + 2047) % 18446744073709551616 : Nat) : Int) := by rw [← he] at h ⊢; unfold Gm.i64 at h ⊢; split at h <;> rename_i h2 <;> simp only [h2, if_true, if_false] <;> omega
    have CB := Lib.hid (fun W (h : Rf W r g B 0) => B2.fbits_good r g B 0 14 4 (by decide) (by decide) W h (by have := HB.out; omega))
    have CB2 := Lib.hid (fun g1 W (h : Rf W r g1 (B ++ B2.Bt.top 14 4) 0) => B2.fbits_good r g1 (B ++ B2.Bt.top 14 4) 0 ((D + 2047) % 18446744073709551616) 12 (Nat.mod_lt _ (by decide)) (by decide) W h (by simp only [List.length_append, B2.Bt.top_length]; have := HB.out; omega))
    rw [← hcv] at CB2
    simp only [Int.cast_ofNat_Int] at CB CB2
    have hTg := HTW.out.g
    obtain ⟨hTr0, hTr1, hTr2⟩ := HTW.out.r
    obtain ⟨ta0, ta1, ta2, ta3, ta4⟩ := HTW.out.t0
    obtain ⟨tb0, tb1, tb2, tb3, tb4⟩ := HTW.out.t1
    obtain ⟨tc0, tc1, tc2, tc3, tc4⟩ := HTW.out.t2
    clear r0 r1 r2 r3 hue hk he hDl z0 hcv
    go_wp2_with fail
    refine wp_loop_rounds 4 ?_
    rw [rounds_succ]
    go_wp2_with fail
    rw [rounds_succ]
    go_wp2_with fail
    rw [rounds_succ]
    go_wp2_with fail
    go_still_tail 8, (by kernel_rfl)
    change wpList _ _ _ _ _ (World.drew _)
    clear hTg hTr0 hTr1 hTr2 ta0 ta1 ta2 ta3 ta4 tb0 tb1 tb2 tb3 tb4 tc0 tc1 tc2 tc3 tc4
    go_wp2_with fail
    go_at_call 88
    refine (CB.out _ (HRW.out.below (drew_below _))).mono ?_
    rintro e' w1 ⟨rfl, hp⟩
    obtain ⟨g1, hr1, hg1, ho1⟩ := hp
    have ho2 : Only [r, g] W0 w1 := ((Only.refl [r, g] W0).drew).trans ho1 (fun x hx => .inl hx)
    have hTw := HTW.out.only ho2 HNE.out
    have hx2 := hTw.t2.2.2.1
    have hx4 := hTw.t2.2.2.2.2
    have HO2 := Lib.hid (HO.out.trans ho2 (fun x hx => .inl hx))
    have HG1 := Lib.hid (show g1 = g ∨ w.heap.size ≤ g1 from hg1.imp id (fun h => Nat.le_trans HO.out.size h))
    have HR1 := Lib.hid hr1
    clear hr1 hg1 ho1 ho2 hTw CB HTW HRW
    go_upto_region 12 with (fail)
    go_still_tail 10, (by kernel_rfl)
    change wpList _ _ _ _ _ (World.drew _)
    go_wp2_with fail
    go_at_call 88
    refine (CB2.out g1 _ (HR1.out.below (drew_below _))).mono ?_
    rintro e' w2 ⟨rfl, hp⟩
    go_wp2_with fail
    refine bodyPost_ret (results_none rfl _ _ _) rfl ⟨rfl, ?_⟩
    rw [HSB.out, ← List.append_assoc]
    exact RfPost.trans (HO2.out.drew) HG1.out hp
  · have hz1 : (e == 0) = false := by simp; omega
    have hz2 : ¬ e = 0 := by omega
    have u1a : decide ((-63 : Int) ≤ e) = true := decide_eq_true (by omega)
    have u1b : decide (e ≤ (64 : Int)) = false := decide_eq_false (by omega)
    have u2a : decide ((-255 : Int) ≤ e) = true := decide_eq_true (by omega)
    have u2b : decide (e ≤ (256 : Int)) = false := decide_eq_false (by omega)
    have u3a : decide ((-2047 : Int) ≤ e) = true := decide_eq_true (by omega)
    have u3b : decide (e ≤ (2048 : Int)) = true := decide_eq_true (by omega)
    have z0 : decide (e = 0) = false := decide_eq_false (by omega)
    rw [z0] at r0
    rw [u1a, u1b] at r1
    rw [u2a, u2b] at r2
    rw [u3a, u3b] at r3
    have r1 : Gm.hasR 1 D = false := r1
    have r2 : Gm.hasR 2 D = false := r2
    have r3 : Gm.hasR 3 D = true := r3
    have hk : Gm.rowOf D = 3 := row_is D 3 (by decide) (fun q h => by
      have h5 : q = 0 ∨ q = 1 ∨ q = 2 := by omega
      rcases h5 with rfl | rfl | rfl
      · exact r0
      · exact r1
      · exact r2
    ) r3
    have HSB := Lib.hid (show Gm.stepB D = B2.Bt.top 14 4 ++ B2.Bt.top ((D + 2047) % 18446744073709551616) 12 by unfold Gm.stepB; rw [hk]; rfl)
    have hcv : e + 2047 = (((D + 2047) % 18446744073709551616 : Nat) : Int) := by rw [← he] at h ⊢; unfold Gm.i64 at h ⊢; split at h <;> rename_i h2 <;> simp only [h2, if_true, if_false] <;> omega
    have CB := Lib.hid (fun W (h : Rf W r g B 0) => B2.fbits_good r g B 0 14 4 (by decide) (by decide) W h (by have := HB.out; omega))
    have CB2 := Lib.hid (fun g1 W (h : Rf W r g1 (B ++ B2.Bt.top 14 4) 0) => B2.fbits_good r g1 (B ++ B2.Bt.top 14 4) 0 ((D + 2047) % 18446744073709551616) 12 (Nat.mod_lt _ (by decide)) (by decide) W h (by simp only [List.length_append, B2.Bt.top_length]; have := HB.out; omega))
    rw [← hcv] at CB2
    simp only [Int.cast_ofNat_Int] at CB CB2
    have hTg := HTW.out.g
    obtain ⟨hTr0, hTr1, hTr2⟩ := HTW.out.r
    obtain ⟨ta0, ta1, ta2, ta3, ta4⟩ := HTW.out.t0
    obtain ⟨tb0, tb1, tb2, tb3, tb4⟩ := HTW.out.t1
    obtain ⟨tc0, tc1, tc2, tc3, tc4⟩ := HTW.out.t2
    clear r0 r1 r2 r3 hue hk he hDl z0 hcv
    go_wp2_with fail
    refine wp_loop_rounds 4 ?_
    rw [rounds_succ]
    go_wp2_with fail
    rw [rounds_succ]
    go_wp2_with fail
    rw [rounds_succ]
    go_wp2_with fail
    go_still_tail 8, (by kernel_rfl)
    change wpList _ _ _ _ _ (World.drew _)
    clear hTg hTr0 hTr1 hTr2 ta0 ta1 ta2 ta3 ta4 tb0 tb1 tb2 tb3 tb4 tc0 tc1 tc2 tc3 tc4
    go_wp2_with fail
    go_at_call 88
    refine (CB.out _ (HRW.out.below (drew_below _))).mono ?_
    rintro e' w1 ⟨rfl, hp⟩
    obtain ⟨g1, hr1, hg1, ho1⟩ := hp
    have ho2 : Only [r, g] W0 w1 := ((Only.refl [r, g] W0).drew).trans ho1 (fun x hx => .inl hx)
    have hTw := HTW.out.only ho2 HNE.out
    have hx2 := hTw.t2.2.2.1
    have hx4 := hTw.t2.2.2.2.2
    have HO2 := Lib.hid (HO.out.trans ho2 (fun x hx => .inl hx))
    have HG1 := Lib.hid (show g1 = g ∨ w.heap.size ≤ g1 from hg1.imp id (fun h => Nat.le_trans HO.out.size h))
    have HR1 := Lib.hid hr1
    clear hr1 hg1 ho1 ho2 hTw CB HTW HRW
    go_upto_region 12 with (fail)
    go_still_tail 10, (by kernel_rfl)
    change wpList _ _ _ _ _ (World.drew _)
    go_wp2_with fail
    go_at_call 88
    refine (CB2.out g1 _ (HR1.out.below (drew_below _))).mono ?_
    rintro e' w2 ⟨rfl, hp⟩
    go_wp2_with fail
    refine bodyPost_ret (results_none rfl _ _ _) rfl ⟨rfl, ?_⟩
    rw [HSB.out, ← List.append_assoc]
    exact RfPost.trans (HO2.out.drew) HG1.out hp
  · have hz1 : (e == 0) = false := by simp; omega
    have hz2 : ¬ e = 0 := by omega
    have u1a : decide ((-63 : Int) ≤ e) = false := decide_eq_false (by omega)
    have u1b : decide (e ≤ (64 : Int)) = true := decide_eq_true (by omega)
    have u2a : decide ((-255 : Int) ≤ e) = false := decide_eq_false (by omega)
    have u2b : decide (e ≤ (256 : Int)) = true := decide_eq_true (by omega)
    have u3a : decide ((-2047 : Int) ≤ e) = false := decide_eq_false (by omega)
    have u3b : decide (e ≤ (2048 : Int)) = true := decide_eq_true (by omega)
    have z0 : decide (e = 0) = false := decide_eq_false (by omega)
    rw [z0] at r0
    rw [u1a, u1b] at r1
    rw [u2a, u2b] at r2
    rw [u3a, u3b] at r3
    have r1 : Gm.hasR 1 D = false := r1
    have r2 : Gm.hasR 2 D = false := r2
    have r3 : Gm.hasR 3 D = false := r3
    have hk : Gm.rowOf D = 4 := row_is D 4 (by decide) (fun q h => by
      have h5 : q = 0 ∨ q = 1 ∨ q = 2 ∨ q = 3 := by omega
      rcases h5 with rfl | rfl | rfl | rfl
      · exact r0
      · exact r1
      · exact r2
      · exact r3
    ) (by unfold Gm.hasR; exact decide_eq_true (Nat.div_eq_of_lt (Nat.mod_lt _ (by decide))))
    have HSB := Lib.hid (show Gm.stepB D = B2.Bt.top 15 4 ++ B2.Bt.top D 64 by unfold Gm.stepB; rw [hk]; show B2.Bt.top 15 4 ++ B2.Bt.top ((D + 0) % 18446744073709551616) 64 = _; rw [Nat.add_zero, Nat.mod_eq_of_lt hDl])
    have CB := Lib.hid (fun W (h : Rf W r g B 0) => B2.fbits_good r g B 0 15 4 (by decide) (by decide) W h (by have := HB.out; omega))
    have CB2 := Lib.hid (fun g1 W (h : Rf W r g1 (B ++ B2.Bt.top 15 4) 0) => B2.fbits_good r g1 (B ++ B2.Bt.top 15 4) 0 D 64 hDl (by decide) W h (by simp only [List.length_append, B2.Bt.top_length]; have := HB.out; omega))
    rw [← hue] at CB2
    simp only [Int.cast_ofNat_Int] at CB CB2
    have hTg := HTW.out.g
    obtain ⟨hTr0, hTr1, hTr2⟩ := HTW.out.r
    obtain ⟨ta0, ta1, ta2, ta3, ta4⟩ := HTW.out.t0
    obtain ⟨tb0, tb1, tb2, tb3, tb4⟩ := HTW.out.t1
    obtain ⟨tc0, tc1, tc2, tc3, tc4⟩ := HTW.out.t2
    clear r0 r1 r2 r3 hue hk he hDl z0
    go_wp2_with fail
    refine wp_loop_rounds 4 ?_
    rw [rounds_succ]
    go_wp2_with fail
    rw [rounds_succ]
    go_wp2_with fail
    rw [rounds_succ]
    go_wp2_with fail
    rw [rounds_succ]
    go_wp2_with fail
    go_at_call 88
    refine (CB.out _ HRW.out).mono ?_
    rintro e' w1 ⟨rfl, hp⟩
    obtain ⟨g1, hr1, hg1, ho1⟩ := hp
    have HO2 := Lib.hid (HO.out.trans ho1 (fun x hx => .inl hx))
    have HG1 := Lib.hid (show g1 = g ∨ w.heap.size ≤ g1 from hg1.imp id (fun h => Nat.le_trans HO.out.size h))
    have HR1 := Lib.hid hr1
    clear hr1 hg1 ho1 CB HTW HRW hTg hTr0 hTr1 hTr2 ta0 ta1 ta2 ta3 ta4 tb0 tb1 tb2 tb3 tb4 tc0 tc1 tc2 tc3 tc4
    go_wp2_with fail
    go_at_call 88
    refine (CB2.out g1 _ HR1.out).mono ?_
    rintro e' w2 ⟨rfl, hp⟩
    go_wp2_with fail
    refine bodyPost_end (results_none rfl _ _ _) rfl ⟨rfl, ?_⟩
    rw [HSB.out, ← List.append_assoc]
    exact RfPost.trans HO2.out HG1.out hp
  · have hz1 : (e == 0) = false := by simp; omega
    have hz2 : ¬ e = 0 := by omega
    have u1a : decide ((-63 : Int) ≤ e) = true := decide_eq_true (by omega)
    have u1b : decide (e ≤ (64 : Int)) = false := decide_eq_false (by omega)
    have u2a : decide ((-255 : Int) ≤ e) = true := decide_eq_true (by omega)
    have u2b : decide (e ≤ (256 : Int)) = false := decide_eq_false (by omega)
    have u3a : decide ((-2047 : Int) ≤ e) = true := decide_eq_true (by omega)
    have u3b : decide (e ≤ (2048 : Int)) = false := decide_eq_false (by omega)
    have z0 : decide (e = 0) = false := decide_eq_false (by omega)
    rw [z0] at r0
    rw [u1a, u1b] at r1
    rw [u2a, u2b] at r2
    rw [u3a, u3b] at r3
    have r1 : Gm.hasR 1 D = false := r1
    have r2 : Gm.hasR 2 D = false := r2
    have r3 : Gm.hasR 3 D = false := r3
    have hk : Gm.rowOf D = 4 := row_is D 4 (by decide) (fun q h => by
      have h5 : q = 0 ∨ q = 1 ∨ q = 2 ∨ q = 3 := by omega
      rcases h5 with rfl | rfl | rfl | rfl
      · exact r0
      · exact r1
      · exact r2
      · exact r3
    ) (by unfold Gm.hasR; exact decide_eq_true (Nat.div_eq_of_lt (Nat.mod_lt _ (by decide))))
    have HSB := Lib.hid (show Gm.stepB D = B2.Bt.top 15 4 ++ B2.Bt.top D 64 by unfold Gm.stepB; rw [hk]; show B2.Bt.top 15 4 ++ B2.Bt.top ((D + 0) % 18446744073709551616) 64 = _; rw [Nat.add_zero, Nat.mod_eq_of_lt hDl])
    have CB := Lib.hid (fun W (h : Rf W r g B 0) => B2.fbits_good r g B 0 15 4 (by decide) (by decide) W h (by have := HB.out; omega))
    have CB2 := Lib.hid (fun g1 W (h : Rf W r g1 (B ++ B2.Bt.top 15 4) 0) => B2.fbits_good r g1 (B ++ B2.Bt.top 15 4) 0 D 64 hDl (by decide) W h (by simp only [List.length_append, B2.Bt.top_length]; have := HB.out; omega))
    have hwe : IntKind.u64.wrap e = e := by rw [IntKind.wrap_u64]; omega
    rw [hwe] at hue
    rw [← hue] at CB2
    simp only [Int.cast_ofNat_Int] at CB CB2
    have hTg := HTW.out.g
    obtain ⟨hTr0, hTr1, hTr2⟩ := HTW.out.r
    obtain ⟨ta0, ta1, ta2, ta3, ta4⟩ := HTW.out.t0
    obtain ⟨tb0, tb1, tb2, tb3, tb4⟩ := HTW.out.t1
    obtain ⟨tc0, tc1, tc2, tc3, tc4⟩ := HTW.out.t2
    clear r0 r1 r2 r3 hue hk he hDl z0
    go_wp2_with fail
    refine wp_loop_rounds 4 ?_
    rw [rounds_succ]
    go_wp2_with fail
    rw [rounds_succ]
    go_wp2_with fail
    rw [rounds_succ]
    go_wp2_with fail
    rw [rounds_succ]
    go_wp2_with fail
    go_at_call 88
    refine (CB.out _ HRW.out).mono ?_
    rintro e' w1 ⟨rfl, hp⟩
    obtain ⟨g1, hr1, hg1, ho1⟩ := hp
    have HO2 := Lib.hid (HO.out.trans ho1 (fun x hx => .inl hx))
    have HG1 := Lib.hid (show g1 = g ∨ w.heap.size ≤ g1 from hg1.imp id (fun h => Nat.le_trans HO.out.size h))
    have HR1 := Lib.hid hr1
    clear hr1 hg1 ho1 CB HTW HRW hTg hTr0 hTr1 hTr2 ta0 ta1 ta2 ta3 ta4 tb0 tb1 tb2 tb3 tb4 tc0 tc1 tc2 tc3 tc4
    go_wp2_with fail
    go_at_call 88
    refine (CB2.out g1 _ HR1.out).mono ?_
    rintro e' w2 ⟨rfl, hp⟩
    go_wp2_with fail
    refine bodyPost_end (results_none rfl _ _ _) rfl ⟨rfl, ?_⟩
    rw [HSB.out, ← List.append_assoc]
    exact RfPost.trans HO2.out HG1.out hp
end Go.Proofs.YtdlifcpdlbmijaaGreatDoor
namespace Go.Proofs.YtdlifcpdlbmijaaGreatDoor
set_option linter.unusedVariables false
set_option linter.unusedSimpArgs false
open Go.RowKit Go.PlainAid Go.Shelf
open B2 (Only Wr PutPost Bys Row cellsOf Rf RfPost)
open Gm (St Smp)
theorem run_succ (l : List Smp) (i : Nat) (hi : i < l.length) : Gm.run (l.take (i + 1)) = Gm.put (Gm.run (l.take i)) l[i] := by
  rw [List.take_succ_eq_append_getElem hi, Gm.run_snoc]
theorem run_one (l : List Smp) (h : 0 < l.length) : (Gm.run (l.take 1)).out = B2.Bt.vb (B2.Bt.zz l[0].t) ++ B2.Bt.top l[0].v 64 ∧ (Gm.run (l.take 1)).ws = 0 ∧ (Gm.run (l.take 1)).we = 0 := by
  rw [run_succ l 0 h]
  refine ⟨?_, rfl, rfl⟩
  show [] ++ Gm.bitsOf Gm.st0 l[0] = _
  rw [List.nil_append]
  rfl
theorem run_len (l : List Smp) (i : Nat) (hi : i ≤ l.length) : (Gm.run (l.take i)).n = i := by rw [Gm.run_n, List.length_take]; omega
theorem run_last (l : List Smp) (i : Nat) (hi : i < l.length) : (Gm.run (l.take (i + 1))).last = l[i] := by rw [run_succ l i hi]; rfl
theorem run_frm (l : List Smp) (i : Nat) (hi : i < l.length) : (Gm.run (l.take (i + 1))).frm = (l[0]'(by omega)).t := by
  induction i with
  | zero => rw [run_succ l 0 hi]; rfl
  | succ i ih =>
    rw [run_succ l (i + 1) hi]
    show (if (Gm.run (l.take (i + 1))).n = 0 then _ else (Gm.run (l.take (i + 1))).frm) = _
    rw [run_len l (i + 1) (by omega), if_neg (by omega), ih (by omega)]
theorem getD_is (l : List Smp) (i : Nat) (hi : i < l.length) : l.getD i ⟨0, 0⟩ = l[i] := by simp [List.getD, List.getElem?_eq_getElem hi]
theorem step_time (l : List Smp) (i : Nat) (h1 : 1 ≤ i) (hi : i < l.length) : Gm.timeB (Gm.run (l.take i)) l[i].t = timeL l i := by
  obtain ⟨j, rfl⟩ : ∃ j, i = j + 1 := ⟨i - 1, by omega⟩
  have hl := run_last l j (by omega)
  have hn := run_len l (j + 1) (by omega)
  unfold Gm.timeB timeL
  rw [hn, hl]
  by_cases hj : j = 0
  · subst hj
    rw [if_pos rfl, if_pos rfl, getD_is l 1 hi, getD_is l 0 (by omega)]
  · obtain ⟨k, rfl⟩ : ∃ k, j = k + 1 := ⟨j - 1, by omega⟩
    rw [if_neg (by omega), if_neg (by omega)]
    have hg : (Gm.run (l.take (k + 1 + 1))).gap = Gm.gapOf l[k + 1].t (l[k]'(by omega)).t := by
      rw [run_succ l (k + 1) (by omega)]
      show Gm.gapOf l[k + 1].t (Gm.run (l.take (k + 1))).last.t = _
      rw [run_last l k (by omega)]
    rw [hg, show k + 1 + 1 - 1 = k + 1 by omega, show k + 1 + 1 - 2 = k by omega, getD_is l (k + 1 + 1) hi, getD_is l (k + 1) (by omega), getD_is l k (by omega)]
/-- the xor of neighbours -/
def xrL (l : List Smp) (i : Nat) : Nat := (l.getD i ⟨0, 0⟩).v ^^^ (l.getD (i - 1) ⟨0, 0⟩).v
theorem step_put (l : List Smp) (i : Nat) (h1 : 1 ≤ i) (hi : i < l.length) : (Gm.run (l.take (i + 1))).out = (Gm.run (l.take i)).out ++ timeL l i ++ Gm.numB (Gm.run (l.take i)).ws (Gm.run (l.take i)).we (xrL l i) ∧
    (Gm.run (l.take (i + 1))).ws = Gm.numS (Gm.run (l.take i)).ws (Gm.run (l.take i)).we (xrL l i) ∧ (Gm.run (l.take (i + 1))).we = Gm.numE (Gm.run (l.take i)).ws (Gm.run (l.take i)).we (xrL l i) := by
  have hn := run_len l i (by omega)
  have hx : xrL l i = l[i].v ^^^ (Gm.run (l.take i)).last.v := by
    obtain ⟨j, rfl⟩ : ∃ j, i = j + 1 := ⟨i - 1, by omega⟩
    unfold xrL
    rw [run_last l j (by omega), getD_is l (j + 1) hi, show j + 1 - 1 = j by omega, getD_is l j (by omega)]
  have ht := step_time l i h1 hi
  rw [run_succ l i hi, hx]
  refine ⟨?_, ?_, ?_⟩
  · show (Gm.run (l.take i)).out ++ Gm.bitsOf (Gm.run (l.take i)) l[i] = _
    unfold Gm.bitsOf
    rw [hn, if_neg (by omega), ht, List.append_assoc]
  · show (if (Gm.run (l.take i)).n = 0 then _ else _) = _
    rw [hn, if_neg (by omega)]
  · show (if (Gm.run (l.take i)).n = 0 then _ else _) = _
    rw [hn, if_neg (by omega)]
theorem timeL_len (l : List Smp) (i : Nat) : (timeL l i).length ≤ 80 := by
  unfold timeL
  split
  · exact vb_len _ (Gm.gapOf_lt _ _)
  · exact Nat.le_trans (stepB_len _) (by decide)
theorem win_le (l : List Smp) (hl : ∀ a ∈ l, Gm.OkS a) (i : Nat) : ((Gm.run (l.take i)).ws = 0 ∧ (Gm.run (l.take i)).we = 0) ∨ ((Gm.run (l.take i)).ws < (Gm.run (l.take i)).we ∧ (Gm.run (l.take i)).we ≤ 64 ∧ (Gm.run (l.take i)).ws ≤ 31) :=
  (Gm.inv_run (l.take i) (fun a ha => hl a (List.mem_of_mem_take ha))).win
theorem xrL_lt (l : List Smp) (hl : ∀ a ∈ l, Gm.OkS a) (i : Nat) (hi : i < l.length) : xrL l i < 18446744073709551616 := by
  unfold xrL
  rw [getD_is l i hi, getD_is l (i - 1) (by omega)]
  exact Gm.xor_lt64 (hl _ (List.getElem_mem _)).2.2 (hl _ (List.getElem_mem _)).2.2
theorem out_len (l : List Smp) (hl : ∀ a ∈ l, Gm.OkS a) (i : Nat) (hi : i ≤ l.length) : (Gm.run (l.take i)).out.length ≤ 160 * i := by
  induction i with
  | zero => exact Nat.le_refl 0
  | succ i ih =>
    by_cases h0 : i = 0
    · subst h0
      have h := (run_one l (by omega)).1
      have hk := hl l[0] (List.getElem_mem _)
      rw [show (0 : Nat) + 1 = 1 from rfl, h, List.length_append, B2.Bt.top_length]
      have := vb_len (B2.Bt.zz l[0].t) (B2.Bt.zz_lt _ hk.1 hk.2.1)
      omega
    · have h := (step_put l i (by omega) (by omega)).1
      rw [h, List.length_append, List.length_append]
      have h1 := timeL_len l i
      have h2 := numB_len (Gm.run (l.take i)).ws (Gm.run (l.take i)).we (xrL l i) (xrL_lt l hl i (by omega)) (win_le l hl i)
      have := ih (by omega)
      omega
/-- the document's bits behind a call; r: the struct; all of it the call's own -/
def Cs (w W : World) (r : Nat) (B : List Bool) : Prop := w.heap.size ≤ r ∧ Below w.heap.size w W ∧ ∃ g, w.heap.size ≤ g ∧ Rf W r g B 0
theorem Cs.below {w W W' : World} {r : Nat} {B : List Bool} (h : Cs w W r B) (hb : Below W.heap.size W W') : Cs w W' r B := by
  obtain ⟨h1, h2, g, h3, h4⟩ := h
  exact ⟨h1, h2.trans (hb.mono h2.size), g, h3, h4.below hb⟩
theorem Cs.post {w W W' : World} {r g : Nat} {B B' : List Bool} (h : Cs w W r B) (hg : w.heap.size ≤ g) (hp : RfPost W r g B' 0 W') : Cs w W' r B' := by
  obtain ⟨h1, h2, _⟩ := h
  obtain ⟨g', h3, h4, h5⟩ := hp
  have hs := h2.size
  exact ⟨h1, h2.trans (h5.below hs (by simp only [List.mem_cons, List.not_mem_nil, or_false]; rintro x (rfl | rfl) <;> assumption)), g', by omega, h3⟩
theorem cs_bit {w W : World} {r : Nat} {B : List Bool} (b : Bool) (h : Cs w W r B) (hB : B.length + 1 ≤ 1000000000) : Calls Tryz.prog 90 #[.pointer (some ⟨r, 0, none⟩), .bool b] W fun e w' => e = .returned (.tuple #[]) ∧ Cs w w' r (B ++ [b]) := by
  obtain ⟨g, hg, hR⟩ := h.2.2
  exact (B2.fbit_any r g B 0 b W hR hB).mono fun e w' ⟨h1, h2⟩ => ⟨h1, h.post hg h2⟩
theorem cs_bits {w W : World} {r : Nat} {B : List Bool} (v n : Nat) (hv : v < 18446744073709551616) (hn : n ≤ 64) (h : Cs w W r B) (hB : B.length + n ≤ 1000000000) : Calls Tryz.prog 88 #[.pointer (some ⟨r, 0, none⟩), .int .u64 ((v : Nat) : Int), .int .i64 ((n : Nat) : Int)] W fun e w' => e = .returned (.int .u16 0) ∧ Cs w w' r (B ++ B2.Bt.top v n) := by
  obtain ⟨g, hg, hR⟩ := h.2.2
  exact (B2.fbits_good r g B 0 v n hv hn W hR hB).mono fun e w' ⟨h1, h2⟩ => ⟨h1, h.post hg h2⟩
theorem cs_sgn {w W : World} {r : Nat} {B : List Bool} (v : Int) (hv1 : -9223372036854775808 ≤ v) (hv2 : v ≤ 9223372036854775807) (h : Cs w W r B) (hB : B.length + 80 ≤ 1000000000) : Calls Tryz.prog 87 #[.pointer (some ⟨r, 0, none⟩), .int .i64 v] W fun e w' => e = .returned (.tuple #[]) ∧ Cs w w' r (B ++ B2.Bt.vb (B2.Bt.zz v)) := by
  obtain ⟨g, hg, hR⟩ := h.2.2
  exact (B2.fputsgn_any r g B 0 v hv1 hv2 W hR hB).mono fun e w' ⟨h1, h2⟩ => ⟨h1, h.post hg h2⟩
theorem cs_time {w W : World} {r b o n cap i : Nat} {B : List Bool} (l : List Smp) (hn : l.length = n) (h1 : 1 ≤ i) (hi : i < n) (hn9 : n ≤ 1000000) (hB : B.length + 200 ≤ 1000000000) (q p0 p1 p2 c c0 c1 c2 o9 oa oc od : Nat) (HS : Sam w b o l) (HT : TabB w q p0 p1 p2 c c0 c1 c2 o9 oa oc od) (h : Cs w W r B) :
    Calls Tryz.prog 89 #[.pointer (some ⟨r, 0, none⟩), .slice (some ⟨b, o, none⟩) n cap, .int .i64 ((i : Nat) : Int)] W fun e w' => e = .returned (.tuple #[]) ∧ Cs w w' r (B ++ timeL l i) := by
  obtain ⟨g, hg, hR⟩ := h.2.2
  have hr := h.1
  have HS' := HS.below h.2.1
  have HT' := HT.below h.2.1
  obtain ⟨j, rfl⟩ : ∃ j, i = j + 1 := ⟨i - 1, by omega⟩
  by_cases hj : j = 0
  · subst hj
    exact (time_one r g b o n cap B l hn hi hB W hR HS').mono fun e w' ⟨h1, h2⟩ => ⟨h1, h.post hg h2⟩
  · obtain ⟨k, rfl⟩ : ∃ k, j = k + 1 := ⟨j - 1, by omega⟩
    have z0 := World.block_lt_of_cell? _ _ HT.g
    have z1 := World.block_lt_of_cell? _ _ HT.r.1
    have z2 := World.block_lt_of_cell? _ _ HT.t0.1
    have z3 := World.block_lt_of_cell? _ _ HT.t1.1
    have z4 := World.block_lt_of_cell? _ _ HT.t2.1
    have z0' : 0 < w.heap.size := z0
    have z1' : q < w.heap.size := z1
    have z2' : p0 < w.heap.size := z2
    have z3' : p1 < w.heap.size := z3
    have z4' : p2 < w.heap.size := z4
    exact (time_more r g b o n cap k B l hn hi hn9 hB q p0 p1 p2 c c0 c1 c2 o9 oa oc od W hR HS' HT' (by omega)).mono fun e w' ⟨h1, h2⟩ => ⟨h1, h.post hg h2⟩
end Go.Proofs.YtdlifcpdlbmijaaGreatDoor
namespace Go.Proofs.YtdlifcpdlbmijaaGreatDoor
set_option linter.unusedVariables false
set_option linter.unusedSimpArgs false
open Go.RowKit Go.PlainAid Go.Shelf
open B2 (Only Bys Row cellsOf owns_only)
open Gm (St Smp Chk)
attribute [local go_sem] Oper.semAt_some
/-- what holds between two parts -/
def EncI (l : List Smp) (n B N0 : Nat) (pre : List (Idx n)) (W : World) : Prop := N0 ≤ W.heap.size ∧ ∃ v cs ds, Boxed W B 23 v ∧ OwnC W N0 v cs ds ∧ cs.length = pre.length ∧ ∀ (i : Nat) (x : Idx n) (cc : Chk), pre[i]? = some x → cs[i]? = some cc → Gm.IsChk (Gm.grp l x.1) cc
theorem encI_own (l : List Smp) (n B N0 : Nat) : Own (EncI l n B N0) := fun s A W' row hs hg hr => by
  obtain ⟨h0, v, cs, ds, h1, h2, h3, h4⟩ := hs
  exact ⟨Nat.le_trans h0 hg.size, v, cs, ds, h1.kept hg (fun e' => by
    obtain ⟨o, ho, hc⟩ := hr _ e'.symm
    rw [show A.heap[B]? = _ from h1] at ho; cases ho; cases hc), h2.kept hg hr, h3, h4⟩
theorem stepIn_append_own {F : Fence} {fu : Nat} {P : Program} (w : World) {ops : Array Oper} {o : Oper} {a : Act} {K : Act → World → Prop} {Q : Exit → Act → World → Prop} {E : Prop}
    (hg : o.guard = none) (s x : Operand) (t : TypeId) (hop : o.op = Op.call { callee := Callee.builtin Builtin.append, args := #[s, x], argTypes := #[t, t] })
    (base : Nat) (e : TypeId) (i : TypeInfo) (z : Value) (size bytes : Nat) (h1 : P.underlying t = some (.slice e)) (h2 : P.info? e = some i) (h3 : i.zero = some z) (h4 : i.size = size) (h5 : i.bytes = bytes) (h6 : z.cells.size = size) (h7 : 0 < size)
    (v : Value) (k : Nat) (xs : List Value) (hs : a.eval s = v) (hown : w.ownsRow base e size v k xs) (ad : Addr) (m c : Nat) (news : List Value) (hx : a.eval x = .slice (some ad) m c) (hn : news.length = m * size)
    (hc : ∀ j u, news[j]? = some u → w.cell? (ad.add j) = some u) (h1c : ∀ u ∈ news, u.oneCell' = true) (b1 : k + m ≤ maxLen) (b2 : (k + m) * bytes ≤ 140737488355328) (b3 : base ≤ w.heap.size)
    (hK : ∀ v' w', w'.ownsRow base e size v' (k + m) (xs ++ news) → w.grownBy w' v.ownBlock → K (a.put o.dst v') w') : if Region.wanted o (yielded ops a.tmps) = true then Oper.wpIn F fu P o a w K Q else E := by
  have hw : Region.wanted o (yielded ops a.tmps) = true := by simp [Region.wanted, hg]
  rw [if_pos hw]
  obtain ⟨v', w', hrun, r1, r2, r3⟩ := run_append_own (P := P) w base t o.type e i z size bytes h1 h2 h3 h4 h5 h6 h7 v k xs hown ad m c news hn hc h1c b1 b2 b3
  unfold Oper.wpIn
  refine ⟨?_, ?_⟩
  · simp [Oper.about, hop, resolve, Target.leads, Sem.run_pure]
  · rw [Oper.semAt_plain F _ _ (by rw [hop]; intro c hc'; cases hc')]
    simp [execOp, hop, resolve, invoke, builtin, hs, hx, hrun, Result.andThen]
    exact hK v' w' r1 r2
theorem info73 : (Tryz.prog.info? 26).map (fun i => (i.zero, i.size, i.bytes)) = some (some (.agg #[.int .i64 0, .int .i64 0, .int .i64 0, .slice none 0 0]), 4, 48) := by kernel_rfl
theorem four_cells (w : World) (x y z u : Value) (t : TypeId) : ∀ j q, ([x, y, z, u] : List Value)[j]? = some q → (w.alloc (.cells #[x, y, z, u] t)).cell? ((⟨w.heap.size, 0, none⟩ : Addr).add j) = some q := by
  intro j q hj
  rw [B2.add_here, cell_of_row _ _ _ _ _ _ (heap_alloc_new w _), List.getElem?_toArray]
  exact hj
theorem boxed_below {W W' : World} {B : Nat} {t : TypeId} {v : Value} (h : Boxed W B t v) (hb : Below W.heap.size W W') : Boxed W' B t v := (hb.block B h.lt).trans h
theorem others_below {W W' : World} (hb : Below W.heap.size W W') : KeepsOthers W W' := ⟨hb.size, fun k o hk _ => (hb.block k (Array.getElem?_eq_some_iff.1 hk).1).trans hk⟩
theorem OwnC.base {w : World} {N M : Nat} {v : Value} {cs : List Chk} {ds : List Value} (H : OwnC w N v cs ds) (h : M ≤ N) : OwnC w M v cs ds :=
  ⟨⟨H.row.1, by
    rcases H.row.2 with h1 | ⟨g, c, cur, hv, hg, r⟩
    · exact .inl h1
    · exact .inr ⟨g, c, cur, hv, by omega, r⟩⟩, H.len, H.apart, fun i g hg => Nat.le_trans h (H.low i g hg), H.each⟩
theorem enc_of {l : List Smp} {n : Nat} {cs : List Chk} (hn : l.length = n) (hlen : cs.length = (allP n).length) (hall : ∀ (i : Nat) (x : Idx n) (cc : Chk), (allP n)[i]? = some x → cs[i]? = some cc → Gm.IsChk (Gm.grp l x.1) cc) : Gm.Enc l cs := by
  refine ⟨by rw [hlen, allP_len, hn], fun j hj => ?_⟩
  have hj2 : j < (allP n).length := by omega
  have h := hall j (allP n)[j] cs[j] (List.getElem?_eq_getElem hj2) (List.getElem?_eq_getElem hj)
  rw [allP_get] at h
  exact h
/-- behind a part more -/
theorem new_data {w : World} {g M bl cp : Nat} {ad : Option Addr} {bs : List Nat} (hRow : Row w g (.slice ad bs.length cp) bs) (hnw : ad = none ∨ M ≤ g) (hbl : bs.length = bl) : ∀ q, (Value.slice ad bl cp).ownBlock = some q → M ≤ q := by
  intro q hq
  rw [hbl] at hRow
  rcases hnw with h1 | h1
  · subst h1; cases hq
  · rcases hRow.2 with h2 | h2
    · rw [hq] at h2; cases h2
    · rw [hq] at h2; injection h2 with h2; omega
theorem enc_step {l : List Smp} {n B N0 m0 vc kk bl cp g6 c6 : Nat} {w W wr w5 w6 : World} {va ad : Option Addr} {cs : List Chk} {ds : List Value} {bs : List Nat} {pre : List (Idx n)} {x : Idx n} {s : St}
    (hI : Boxed W B 23 (.slice va m0 vc) ∧ OwnC W N0 (.slice va m0 vc) cs ds ∧ m0 = pre.length ∧ (∀ (i : Nat) (x : Idx n) (cc : Chk), pre[i]? = some x → cs[i]? = some cc → Gm.IsChk (Gm.grp l x.1) cc) ∧ Below w.heap.size w W) (hm : cs.length = m0)
    (hN : N0 = B + 3 ∧ N0 ≤ W.heap.size) (hB : w.heap.size ≤ B) (hO : Below W.heap.size W wr) (hs : s = Gm.run (Gm.grp l x.1))
    (hC : kk < 8 ∧ B2.Bt.Packs kk bs s.out ∧ w5.ownsRow 0 5 1 (.slice ad bs.length cp) bs.length (cellsOf bs) ∧ bs.length = bl ∧ Below wr.drew.heap.size wr.drew w5 ∧ ∀ q, (Value.slice ad bl cp).ownBlock = some q → wr.drew.heap.size ≤ q)
    (hA : w6.ownsRow N0 26 4 (.slice (some ⟨g6, 0, none⟩) (m0 + 1) c6) (m0 + 1) (chC cs ds ++ [.int .i64 s.frm, .int .i64 s.last.t, .int .i64 ((s.n : Nat) : Int), .slice ad bl cp]) ∧ (w5.alloc (.cells #[.int .i64 s.frm, .int .i64 s.last.t, .int .i64 ((s.n : Nat) : Int), .slice ad bl cp] 26)).grownBy w6 (Value.slice va m0 vc).ownBlock)
    (hX : Boxed w6 B 23 (.slice va m0 vc)) :
    KeepsOthers W (w6.setCell ⟨B, 0, none⟩ (.slice (some ⟨g6, 0, none⟩) (m0 + 1) c6)) ∧ KpS (B + 1) (B + 1 + 1) W (w6.setCell ⟨B, 0, none⟩ (.slice (some ⟨g6, 0, none⟩) (m0 + 1) c6)) ∧ EncI l n B N0 (pre ++ [x]) (w6.setCell ⟨B, 0, none⟩ (.slice (some ⟨g6, 0, none⟩) (m0 + 1) c6)) ∧ Below w.heap.size w (w6.setCell ⟨B, 0, none⟩ (.slice (some ⟨g6, 0, none⟩) (m0 + 1) c6)) := by
  obtain ⟨h1, h2, h30, h4, h5⟩ := hI
  have h3 : cs.length = pre.length := hm.trans h30
  obtain ⟨k1, k2, k3, k4, k5, k6⟩ := hC
  obtain ⟨a1, a2⟩ := hA
  have hb5 : Below W.heap.size W w5 := (hO.trans ((drew_below wr).mono hO.size)).trans (k5.mono (Nat.le_trans hO.size (Nat.le_refl _)))
  have hbA := (Below.refl w5.heap.size w5).alloc (Nat.le_refl _) (.cells #[.int .i64 s.frm, .int .i64 s.last.t, .int .i64 ((s.n : Nat) : Int), .slice ad bl cp] 26)
  have hbW := hb5.trans (hbA.mono hb5.size)
  have hrow : ∀ g, (Value.slice va m0 vc).ownBlock = some g → N0 ≤ g ∧ ∃ cur : Array Value, W.heap[g]? = some (.cells cur 26 (0, 0)) := fun g hg => by
    rcases h2.row.2 with ⟨hv, _⟩ | ⟨g2, c2, cur, hv, hN2, hh, _⟩
    · rw [hv] at hg; cases hg
    · rw [hv] at hg; injection hg with hg; have hg : g2 = g := hg; subst hg; exact ⟨hN2, cur, hh⟩
  have hsz := hbW.size
  have hs6 := a2.size
  generalize hWA : w5.alloc (.cells #[.int .i64 s.frm, .int .i64 s.last.t, .int .i64 ((s.n : Nat) : Int), .slice ad bl cp] 26) = WA at *
  have hcc := (h2.below hb5).snoc (c := ⟨s.frm, s.last.t, s.n, bs⟩) (ad := ad) (cap := cp) (len := bl) hbA k4.symm (by rw [← k4]; exact k3) k2.1 (by rw [hm]; exact a1) a2 hX (t := 23) ⟨by decide, by decide⟩ (fun i g hg e => by
    have e1 := k6 g e
    have e2 := h2.lt i g hg
    have e3 : wr.drew.heap.size = wr.heap.size := rfl
    have e4 := hO.size
    omega) (fun g e => by
    have e1 := k6 g e
    have e3 : wr.drew.heap.size = wr.heap.size := rfl
    have e4 := hO.size
    omega)
  refine ⟨?_, ⟨?_, ?_⟩, ⟨?_, _, cs ++ [⟨s.frm, s.last.t, s.n, bs⟩], _, hX.set _, hcc, by simp [h3], fun i y cc hy hcy => ?_⟩, ?_⟩
  · refine ((others_below hbW).trans (KeepsOthers.of_grownBy a2 fun j o ej hj => ?_)).trans (KeepsOthers.setCell _ _ _)
    obtain ⟨_, cur, hc⟩ := hrow j ej
    have h6 := (hbW.block j (Array.getElem?_eq_some_iff.1 hc).1).trans hc
    rw [hj] at h6
    injection h6 with h6
    rw [h6]; rfl
  · have e1 := hbW.block (B + 1) (by omega)
    have e2 := a2.block (B + 1) (by omega) (fun e => by have := (hrow _ e.symm).1; omega)
    exact (Below.heap_setCell _ _ _ (B + 1) (by show B + 1 ≠ B; omega)).trans (e2.trans e1)
  · have e1 := hbW.block (B + 1 + 1) (by omega)
    have e2 := a2.block (B + 1 + 1) (by omega) (fun e => by have := (hrow _ e.symm).1; omega)
    exact (Below.heap_setCell _ _ _ (B + 1 + 1) (by show B + 1 + 1 ≠ B; omega)).trans (e2.trans e1)
  · have := (KeepsWalks.setCell w6 ⟨B, 0, none⟩ (.slice (some ⟨g6, 0, none⟩) (m0 + 1) c6)).size
    omega
  · by_cases hi : i < pre.length
    · rw [List.getElem?_append_left hi] at hy
      rw [List.getElem?_append_left (by omega)] at hcy
      exact h4 i y cc hy hcy
    · have hil : i = pre.length := by
        have := (List.getElem?_eq_some_iff.1 hy).1
        simp at this
        omega
      subst hil
      rw [List.getElem?_append_right (Nat.le_refl _), Nat.sub_self] at hy
      rw [← h3, List.getElem?_append_right (Nat.le_refl _), Nat.sub_self] at hcy
      injection hy with hy
      injection hcy with hcy
      subst hy; subst hcy
      exact ⟨by rw [hs], by rw [hs], by rw [hs], kk, k1, by rw [← hs]; exact k2⟩
  · exact ((h5.trans (hbW.mono h5.size)).grown a2 (by have := h5.size; omega) (fun q e => by have := (hrow _ e).1; omega)).setCell (p := ⟨B, 0, none⟩) hB _
set_option maxRecDepth 100000 in
set_option maxHeartbeats 8000000 in
theorem encode_any (a : Option Addr) (n c : Nat) (l : List Smp) (hn : l.length = n) (hc : n ≤ c) (hR : Gm.Rising l) (w : World) (H : Sms w a l) (hT : TabAt w) :
    Calls Tryz.prog 6 #[.slice a n c] w fun e w' => ∃ v cs ds, e = .returned (.tuple #[v, .int .u16 0]) ∧ Gm.Enc l cs ∧ OwnC w' w.heap.size v cs ds ∧ Below w.heap.size w w' := by
  have hz : n ≤ 2000 := by rw [← hn]; exact hR.len
  have C0 := Lib.hid (contains_none a n c l hn (by omega) hR.inr w H)
  have HL := Lib.hid (And.intro H (And.intro hn (And.intro hR hT)))
  clear H hn hR hT
  refine (callsIn_wide (n := 8)).1 ?_
  refine callsIn_of_wp_marks Tryz.func6 rfl trivial ?_ rfl
  simp only [Tryz.ntmps6, List.size_toArray, List.length_cons, List.length_nil, Nat.reduceAdd, Nat.reduceSub, Array.replicate_succ, Array.replicate_zero, List.push_toArray, List.append_toArray, List.nil_append, List.cons_append]
  gi_wp2_with (refine ⟨trivial, ?_⟩; gi_at_call 21; refine (callsIn_wide.2 C0.out).mono ?_; rintro e w1 ⟨rfl, hb1⟩; have HB1 := Lib.hid hb1; clear hb1)
  gi_loopw [4] (fun i wr => ∃ k : Nat, 1 ≤ k ∧ k ≤ n + 1 ∧ i = .int .i64 (k : Nat) ∧ Hid (Below w.heap.size w wr)) (fun i _ => n + 1 - (intOf i).toNat)
  case atStart => exact ⟨1, by omega, by omega, by simp, HB1⟩
  case round =>
    obtain ⟨k, hk1, hk2, rfl, HB⟩ := hrel
    by_cases hlt : k < n
    · have da : decide ((k : Int) < (n : Int)) = true := decide_eq_true (by omega)
      have da2 : decide (k < n) = true := decide_eq_true hlt
      obtain ⟨q, rfl⟩ : ∃ q, k = q + 1 := ⟨k - 1, by omega⟩
      have hkl : q + 1 < l.length := by rw [HL.out.2.1]; exact hlt
      have hbd : Below w.heap.size w wr.drew := HB.out.trans ((drew_below wr).mono HB.out.size)
      obtain ⟨b1, o1, rfl, hl1, hc1⟩ := (HL.out.1.below hbd) (by intro e; rw [e] at hkl; simp at hkl)
      have p1 := (hc1 (q + 1) hkl).1
      have p2 := (hc1 q (by omega)).1
      have hup := HL.out.2.2.1.up q hkl
      obtain ⟨T1, hT1⟩ : ∃ T1, l[q + 1].t = T1 := ⟨_, rfl⟩
      obtain ⟨T0, hT0⟩ : ∃ T0, l[q].t = T0 := ⟨_, rfl⟩
      rw [hT1] at p1 hup
      rw [hT0] at p2 hup
      have dl : decide (T1 ≤ T0) = false := decide_eq_false (by omega)
      have hsub : ((q + 1 : Nat) : Int) - 1 = (q : Int) := by omega
      obtain ⟨k, hk⟩ : ∃ k, q + 1 = k := ⟨_, rfl⟩
      rw [hk] at p1 hsub da da2 hk1 hk2 hlt ⊢
      have HBD := Lib.hid hbd
      have hq0 : (0 : Int) ≤ (q : Int) := by omega
      have hqn : (q : Int) < (n : Int) := by omega
      clear hc1 hT1 hT0 hkl hbd hk hup
      gi_wp2
      gi_region
      all_goals gi_wp2
      all_goals exact ⟨⟨k + 1, by omega, by omega, by simp, HBD⟩, by simp [intOf]; omega⟩
    · have da : decide ((k : Int) < (n : Int)) = false := decide_eq_false (by omega)
      have da2 : decide (k < n) = false := decide_eq_false hlt
      gi_wp2_with (refine ⟨trivial, ?_⟩; gi_at_call 24; refine (parts_in Fence.wide _ trivial rfl a n c _).mono ?_; rintro e w2 ⟨rfl, rfl⟩)
      obtain ⟨wr0, hwr0⟩ : ∃ wr0, wr0 = wr := ⟨_, rfl⟩
      subst hwr0
      obtain ⟨b, off, ha⟩ : ∃ b off, 0 < n → a = some ⟨b, off, none⟩ := by
        by_cases h0 : 0 < n
        · obtain ⟨b, off, h1, _⟩ := HL.out.1 (by intro e; have := HL.out.2.1; rw [e] at this; simp at this; omega)
          exact ⟨b, off, fun _ => h1⟩
        · exact ⟨0, 0, fun h => absurd h h0⟩
      have hsz : (((wr0.alloc (.cells #[.slice none 0 0] 23)).alloc (.cells #[.slice a n c] 22)).alloc (.cells #[.int .i64 120] 3)).heap.size = wr0.heap.size + 3 := by simp
      have bB : Boxed (((wr0.alloc (.cells #[.slice none 0 0] 23)).alloc (.cells #[.slice a n c] 22)).alloc (.cells #[.int .i64 120] 3)) wr0.heap.size 23 (.slice none 0 0) := ((Boxed.new wr0 23 (.slice none 0 0)).alloc _).alloc _
      have hBs : (((wr0.alloc (.cells #[.slice none 0 0] 23)).alloc (.cells #[.slice a n c] 22)).alloc (.cells #[.int .i64 120] 3)).cell? ⟨wr0.heap.size + 1, 0, none⟩ = some (.slice a n c) := by
        have h := (Boxed.new (wr0.alloc (.cells #[.slice none 0 0] 23)) 22 (.slice a n c)).alloc (.cells #[.int .i64 120] 3)
        rw [show (wr0.alloc (.cells #[.slice none 0 0] 23)).heap.size = wr0.heap.size + 1 by simp] at h
        exact h.cell
      have hBn : (((wr0.alloc (.cells #[.slice none 0 0] 23)).alloc (.cells #[.slice a n c] 22)).alloc (.cells #[.int .i64 120] 3)).cell? ⟨wr0.heap.size + 1 + 1, 0, none⟩ = some (.int .i64 120) := by
        have h := Boxed.new ((wr0.alloc (.cells #[.slice none 0 0] 23)).alloc (.cells #[.slice a n c] 22)) 3 (.int .i64 120)
        rw [show ((wr0.alloc (.cells #[.slice none 0 0] 23)).alloc (.cells #[.slice a n c] 22)).heap.size = wr0.heap.size + 1 + 1 by simp] at h
        exact h.cell
      have hb0 : Below w.heap.size w (((wr0.alloc (.cells #[.slice none 0 0] 23)).alloc (.cells #[.slice a n c] 22)).alloc (.cells #[.int .i64 120] 3)) := ((HB.out.alloc HB.out.size _).alloc (by have := HB.out.size; simp; omega) _).alloc (by have := HB.out.size; simp; omega) _
      have hww := HB.out.size
      obtain ⟨W0, hW0⟩ : ∃ W0, (((wr0.alloc (.cells #[.slice none 0 0] 23)).alloc (.cells #[.slice a n c] 22)).alloc (.cells #[.int .i64 120] 3)) = W0 := ⟨_, rfl⟩
      rw [hW0] at bB hBs hBn hb0 hsz ⊢
      clear hW0
      have hI : OwnFrom W0.heap.size (fun (pre : List (Idx n)) W => EncI l n wr0.heap.size W0.heap.size pre W ∧ Below w.heap.size w W) :=
        OwnFrom.and (Own.from (encI_own l n wr0.heap.size W0.heap.size) _) (ownFrom_below (Nat.le_refl _) (by omega))
      refine wpIn_rangeFunc_ownF rfl (by omega) (gf := 74) (lb := #[.pointer (some ⟨wr0.heap.size + 1, 0, none⟩), .pointer (some ⟨wr0.heap.size + 1 + 1, 0, none⟩)]) rfl trivial (enters_of Tryz.func74 (by kernel_rfl) rfl)
        (parts_stops Fence.wide _ trivial rfl (by omega) (wr0.heap.size + 1) (wr0.heap.size + 1 + 1) c b off n a ha hc (by omega) W0 ⟨by omega, by omega⟩ hBs hBn)
        (fun h k => h.trans k) (fun W l' o o' hl _ _ _ => KpS.put W l' o' (by omega) (by omega)) (Below.refl _ _) (fun _ => rfl)
        (fun (pre : List (Idx n)) W => EncI l n wr0.heap.size W0.heap.size pre W ∧ Below w.heap.size w W)
        (fun _ _ _ => False) hI (fun c s W W' row h _ _ => h) ?start
        (fun x => { tmps := #[.slice a n c, undef, u2, u3, .int .i64 (k : Nat), .pointer (some ⟨wr0.heap.size, 0, none⟩), partV b off n (120 * x.1), undef, undef, undef, .slice a n c, .bool false, .int .i64 (k : Nat), .slice a n c, .int .i64 (n : Nat), .bool false, u16, u17, u18, u19, u20, u21, u22, u23, u24, u25, u26, u27, u28, u29, .slice a n c, .func (.func 74) #[] #[.pointer (some ⟨wr0.heap.size + 1, 0, none⟩), .pointer (some ⟨wr0.heap.size + 1 + 1, 0, none⟩)], partV b off n (120 * x.1), undef, undef, undef, undef, undef, undef, undef, undef, undef, undef, undef, undef, undef, undef, undef, undef, undef], defers := [] }) ?assign ?body ?done ?stop
      case start => exact ⟨⟨Nat.le_refl _, _, [], [], bB, OwnC.nil _ _, rfl, fun i x cc h => by simp at h⟩, hb0⟩
      case assign =>
        intro l' x W K hK
        gi_wp2
        exact hK
      case body =>
        rintro l' pre x W ⟨⟨hN0, v, cs, ds, hv, hC, hlen, hall⟩, hBW⟩ hpl
        have HPL := Lib.hid (show pre.length ≤ 2000 by rw [allP_len] at hpl; unfold Gm.cnt at hpl; omega)
        have HW0 := Lib.hid (And.intro hsz hN0)
        have HWW := Lib.hid hww
        clear hN0
        have hT := HL.out.2.2.2.below hBW HL.out.2.2.2.lt
        have CN := Lib.hid (own_new W hT)
        have HI := Lib.hid (And.intro hv (And.intro hC (And.intro hlen (And.intro hall hBW))))
        have hxn := x.2
        have ha2 := ha (by omega)
        subst ha2
        obtain ⟨s, hs⟩ : ∃ s, min 120 (n - 120 * x.1) = s := ⟨_, rfl⟩
        obtain ⟨i0, hi0⟩ : ∃ i0, 120 * x.1 = i0 := ⟨_, rfl⟩
        have hs0 : 1 ≤ 8 - 1 - 1 := by decide
        unfold partV
        rw [hi0] at hs hxn ⊢
        rw [hs]
        clear hv hC hlen hall hBW
        gi_wp2_with (refine ⟨trivial, ?_⟩; gi_at_call 25; refine (CallsIn.inRound l' (callsIn_wide.2 CN.out)).mono ?_; rintro e w2 ⟨aa, rfl, hO⟩; have HO := Lib.hid hO; clear hO CN)
        have HS := Lib.hid (And.intro hs hi0)
        have hsn : i0 + s ≤ n := by omega
        have hs120 : s ≤ 120 := by omega
        clear hs hi0
        gi_loopw [9, 36] (fun t9 ii wr2 => ∃ q : Nat, q ≤ s ∧ ii = .int .i64 (q : Nat) ∧ Hid (Own1 W wr2 (Gm.run ((Gm.grp l x.1).take q)) aa)) (fun _ ii _ => s - (intOf ii).toNat)
        case atStart => exact ⟨0, Nat.zero_le _, rfl, HO⟩
        case round =>
          clear HO
          obtain ⟨q, hq, rfl, HO⟩ := hrel
          by_cases hqs : q < s
          · have dq : decide ((q : Int) < (s : Int)) = true := decide_eq_true (by omega)
            have dq2 : decide (q < s) = true := decide_eq_true hqs
            have hql : i0 + q < l.length := by rw [HL.out.2.1]; omega
            have hbw2 := HI.out.2.2.2.2.trans ((HO.out.b).mono HI.out.2.2.2.2.size)
            obtain ⟨b3, o3, he3, hl3, hc3⟩ := (HL.out.1.below hbw2) (by intro e; rw [e] at hql; simp at hql)
            injection he3 with he3
            injection he3 with he3 he4
            subst he3
            subst he4
            obtain ⟨p1, p2⟩ := hc3 (i0 + q) hql
            rw [show off + (i0 + q) * 2 = off + i0 * 2 + q * 2 by omega] at p1 p2
            have hok := HL.out.2.2.1.ok _ (List.getElem_mem hql)
            obtain ⟨X, hX⟩ : ∃ X, l[i0 + q] = X := ⟨_, rfl⟩
            rw [hX] at p1 p2 hok
            have HT2 := Lib.hid (show (Gm.grp l x.1).take (q + 1) = (Gm.grp l x.1).take q ++ [X] by
              have h1 : (Gm.grp l x.1)[q]? = some X := by rw [Gm.grp_get _ _ _ (by omega), HS.out.2, List.getElem?_eq_getElem hql, hX]
              rw [List.take_add_one, h1]; rfl)
            have HOK := Lib.hid (And.intro hok (fun (y : Smp) (hy : y ∈ (Gm.grp l x.1).take q) => HL.out.2.2.1.ok y (Gm.grp_mem (List.mem_of_mem_take hy))))
            obtain ⟨XT, XV⟩ := X
            simp only at p1 p2
            have hA := (Below.refl wr.heap.size wr).alloc (Nat.le_refl _) (.cells #[.int .i64 XT, .int .u64 ((XV : Nat) : Int)] 79)
            have hlt : ((Gm.grp l x.1).take q).length ≤ q := by rw [List.length_take]; omega
            have CP := Lib.hid (own_put W (Gm.run ((Gm.grp l x.1).take q)) aa ⟨XT, XV⟩ HOK.out.1 (Gm.inv_run _ HOK.out.2) (by rw [Gm.run_n]; omega) (by
              have h1 := out_len ((Gm.grp l x.1).take q) HOK.out.2 _ (Nat.le_refl _)
              rw [List.take_length] at h1
              omega) _ (HO.out.below hA))
            rw [← Gm.run_snoc, ← HT2.out] at CP
            clear hc3 hX hok hbw2 hl3 hA hlt HO
            gi_wp2_with (refine ⟨trivial, ?_⟩; gi_at_call 26; refine (CallsIn.inRound l' (callsIn_wide.2 CP.out)).mono ?_; rintro e w5 ⟨rfl, hO5⟩; have HO5 := Lib.hid hO5; clear hO5 CP)
            go_roundw
            case rel => exact ⟨q + 1, by omega, by simp, HO5⟩
            case measure => simp [intOf]; omega
          · have hqe : q = s := by omega
            subst hqe
            have dq : decide ((q : Int) < (q : Int)) = false := by simp
            have dq2 : decide (q < q) = false := by simp
            have HG := Lib.hid (show (Gm.grp l x.1).take q = Gm.grp l x.1 by
              refine List.take_of_length_le ?_
              rw [Gm.grp_len, HL.out.2.1, HS.out.2, HS.out.1]; exact Nat.le_refl _)
            rw [HG.out] at HO
            -- REGION
            have hO9 := HO.out
            obtain ⟨i3, hi3, hx3, hy3, hz3⟩ := info_parts info73
            have HI3 := Lib.hid (And.intro hi3 (And.intro hx3 (And.intro hy3 hz3)))
            have hglen : (Gm.grp l x.1).length ≤ 120 := by rw [Gm.grp_len]; omega
            have CC := Lib.hid (own_chunk W (Gm.run (Gm.grp l x.1)) aa (by
              have h1 := out_len (Gm.grp l x.1) (fun y hy => HL.out.2.2.1.ok y (Gm.grp_mem hy)) _ (Nat.le_refl _)
              rw [List.take_length] at h1
              omega) wr.drew (hO9.below (drew_below wr)))
            obtain ⟨va, vc, rfl⟩ := HI.out.2.1.shape
            obtain ⟨m0, hm0⟩ : ∃ m0, cs.length = m0 := ⟨_, rfl⟩
            rw [hm0] at HI
            have HBX := Lib.hid (show Boxed wr.drew wr0.heap.size 23 (.slice va m0 vc) from boxed_below (boxed_below HI.out.1 hO9.b) (drew_below wr))
            have HM0 := Lib.hid (show m0 ≤ 2000 from by have := HPL.out; have := HI.out.2.2.1; omega)
            have hcb := HBX.out.cell
            have HMM := Lib.hid hm0
            have HRW := Lib.hid (show W.ownsRow W0.heap.size 26 4 (.slice va m0 vc) m0 (chC cs ds) from by have h := HI.out.2.1.row; rw [hm0] at h; exact h)
            clear hO9 hi3 hx3 hy3 hz3 hglen hm0
            gi_wp2
            refine wpIn_region_any (by kernel_rfl) ?_
            change wpAnyIn _ _ _ _ _ _ _ _ _ (World.drew _)
            refine wpAnyIn_ready (rs := [0, 1]) (by kernel_rfl) (by simp) ?_
            refine AllReadyIn.cons rfl (fun K hK => ?_) ?_
            · go_simp
              refine hK _ _ ?_
              clear hK K
              refine wpAnyIn_ready (rs := [1]) (by kernel_rfl) (by simp) ?_
              refine AllReadyIn.cons rfl (fun K hK => ?_) ?_
              · go_simp
                refine hK _ _ ?_
                clear hK K
                refine wpAnyIn_ready (rs := [2]) (by kernel_rfl) (by simp) ?_
                refine AllReadyIn.cons rfl (fun K hK => ?_) ?_
                · go_simp
                  refine ⟨trivial, ?_⟩
                  refine (CallsIn.inRound l' (callsIn_wide.2 CC.out)).mono ?_
                  rintro e w5 ⟨bs, kk, ad, cp, g, hkk, hPk, rfl, hRow, hnw, hb5⟩
                  obtain ⟨bl, hbl⟩ : ∃ bl, bs.length = bl := ⟨_, rfl⟩
                  have HCH := Lib.hid (And.intro hkk (And.intro hPk (And.intro hRow.1 (And.intro hbl (And.intro hb5 (new_data hRow hnw hbl))))))
                  have hbx := boxed_below HBX.out hb5
                  have hc5 := hbx.cell
                  have hc5a := (hbx.alloc (.cells #[.int .i64 (Gm.run (Gm.grp l x.1)).frm, .int .i64 (Gm.run (Gm.grp l x.1)).last.t, .int .i64 (((Gm.run (Gm.grp l x.1)).n : Nat) : Int), .slice ad bl cp] 26)).cell
                  rw [hbl]
                  unfold chV
                  clear hkk hPk hRow hb5 hbx hbl hnw
                  try simp only []
                  refine hK _ _ ?_
                  clear hK K
                  refine wpAnyIn_ready (rs := [3]) (by kernel_rfl) (by simp) ?_
                  refine AllReadyIn.cons rfl (fun K hK => ?_) ?_
                  · go_simp
                    refine hK _ _ ?_
                    clear hK K
                    refine wpAnyIn_ready (rs := [4]) (by kernel_rfl) (by simp) ?_
                    refine AllReadyIn.cons rfl (fun K hK => ?_) ?_
                    · refine stepIn_append_own _ rfl (.tmp 44) (.tmp 47) 23 rfl W0.heap.size 26 i3 (.agg #[.int .i64 0, .int .i64 0, .int .i64 0, .slice none 0 0]) 4 48 Tryz.underlying23 HI3.out.1 HI3.out.2.1 HI3.out.2.2.1 HI3.out.2.2.2 rfl (by decide) (.slice va m0 vc) m0 (chC cs ds) rfl ?ow ⟨w5.heap.size, 0, none⟩ 1 1 [.int .i64 (Gm.run (Gm.grp l x.1)).frm, .int .i64 (Gm.run (Gm.grp l x.1)).last.t, .int .i64 (((Gm.run (Gm.grp l x.1)).n : Nat) : Int), .slice ad bl cp] rfl rfl (four_cells w5 _ _ _ _ 26) (by simp [Value.oneCell']) ?b1 ?b2 ?b3 ?_
                      case ow => exact (owns_only HRW.out (Only.of_below ((HO.out.b.trans ((drew_below wr).mono HO.out.b.size)).trans (HCH.out.2.2.2.2.1.mono HO.out.b.size)) []) (fun _ _ => by simp)).alloc _
                      case b1 => have := HM0.out; unfold maxLen; omega
                      case b2 => have := HM0.out; omega
                      case b3 => have h1 := HO.out.b.size; have h2 := HCH.out.2.2.2.2.1.size; have h3 : wr.drew.heap.size = wr.heap.size := rfl; have h4 := HW0.out.2; simp; omega
                      intro v2 w6 hown6 hgr6
                      obtain ⟨g6, c6, rfl⟩ := ownsRow_succ hown6
                      have HA6 := Lib.hid (And.intro hown6 hgr6)
                      have hbx5 := (boxed_below HBX.out HCH.out.2.2.2.2.1).alloc (.cells #[.int .i64 (Gm.run (Gm.grp l x.1)).frm, .int .i64 (Gm.run (Gm.grp l x.1)).last.t, .int .i64 (((Gm.run (Gm.grp l x.1)).n : Nat) : Int), .slice ad bl cp] 26)
                      have hbx6 : Boxed w6 wr0.heap.size 23 (.slice va m0 vc) := hbx5.kept hgr6 (hbx5.not_row (by decide) ((owns_only HRW.out (Only.of_below ((HO.out.b.trans ((drew_below wr).mono HO.out.b.size)).trans (HCH.out.2.2.2.2.1.mono HO.out.b.size)) []) (fun _ _ => by simp)).alloc _))
                      have HX6 := Lib.hid hbx6
                      have hc6 := hbx6.cell
                      have hf6 := hbx6.frozen
                      clear hown6 hgr6 hbx5 hbx6
                      refine hK _ _ ?_
                      clear hK K
                      refine wpAnyIn_ready (rs := [5]) (by kernel_rfl) (by simp) ?_
                      refine AllReadyIn.cons rfl (fun K hK => ?_) ?_
                      · go_simp
                        refine hK _ _ ?_
                        clear hK K
                        refine wpAnyIn_done (by kernel_rfl) ?_ _
                        gi_wp2
                        exact enc_step HI.out HMM.out HW0.out HWW.out HO.out.b rfl HCH.out HA6.out HX6.out
                      exact AllReadyIn.nil
                    exact AllReadyIn.nil
                  exact AllReadyIn.nil
                exact AllReadyIn.nil
              exact AllReadyIn.nil
            refine AllReadyIn.cons rfl (fun K hK => ?_) ?_
            · go_simp
              refine hK _ _ ?_
              clear hK K
              refine wpAnyIn_ready (rs := [0, 2]) (by kernel_rfl) (by simp) ?_
              refine AllReadyIn.cons rfl (fun K hK => ?_) ?_
              · go_simp
                refine hK _ _ ?_
                clear hK K
                refine wpAnyIn_ready (rs := [2]) (by kernel_rfl) (by simp) ?_
                refine AllReadyIn.cons rfl (fun K hK => ?_) ?_
                · go_simp
                  refine ⟨trivial, ?_⟩
                  refine (CallsIn.inRound l' (callsIn_wide.2 CC.out)).mono ?_
                  rintro e w5 ⟨bs, kk, ad, cp, g, hkk, hPk, rfl, hRow, hnw, hb5⟩
                  obtain ⟨bl, hbl⟩ : ∃ bl, bs.length = bl := ⟨_, rfl⟩
                  have HCH := Lib.hid (And.intro hkk (And.intro hPk (And.intro hRow.1 (And.intro hbl (And.intro hb5 (new_data hRow hnw hbl))))))
                  have hbx := boxed_below HBX.out hb5
                  have hc5 := hbx.cell
                  have hc5a := (hbx.alloc (.cells #[.int .i64 (Gm.run (Gm.grp l x.1)).frm, .int .i64 (Gm.run (Gm.grp l x.1)).last.t, .int .i64 (((Gm.run (Gm.grp l x.1)).n : Nat) : Int), .slice ad bl cp] 26)).cell
                  rw [hbl]
                  unfold chV
                  clear hkk hPk hRow hb5 hbx hbl hnw
                  try simp only []
                  refine hK _ _ ?_
                  clear hK K
                  refine wpAnyIn_ready (rs := [3]) (by kernel_rfl) (by simp) ?_
                  refine AllReadyIn.cons rfl (fun K hK => ?_) ?_
                  · go_simp
                    refine hK _ _ ?_
                    clear hK K
                    refine wpAnyIn_ready (rs := [4]) (by kernel_rfl) (by simp) ?_
                    refine AllReadyIn.cons rfl (fun K hK => ?_) ?_
                    · refine stepIn_append_own _ rfl (.tmp 44) (.tmp 47) 23 rfl W0.heap.size 26 i3 (.agg #[.int .i64 0, .int .i64 0, .int .i64 0, .slice none 0 0]) 4 48 Tryz.underlying23 HI3.out.1 HI3.out.2.1 HI3.out.2.2.1 HI3.out.2.2.2 rfl (by decide) (.slice va m0 vc) m0 (chC cs ds) rfl ?ow ⟨w5.heap.size, 0, none⟩ 1 1 [.int .i64 (Gm.run (Gm.grp l x.1)).frm, .int .i64 (Gm.run (Gm.grp l x.1)).last.t, .int .i64 (((Gm.run (Gm.grp l x.1)).n : Nat) : Int), .slice ad bl cp] rfl rfl (four_cells w5 _ _ _ _ 26) (by simp [Value.oneCell']) ?b1 ?b2 ?b3 ?_
                      case ow => exact (owns_only HRW.out (Only.of_below ((HO.out.b.trans ((drew_below wr).mono HO.out.b.size)).trans (HCH.out.2.2.2.2.1.mono HO.out.b.size)) []) (fun _ _ => by simp)).alloc _
                      case b1 => have := HM0.out; unfold maxLen; omega
                      case b2 => have := HM0.out; omega
                      case b3 => have h1 := HO.out.b.size; have h2 := HCH.out.2.2.2.2.1.size; have h3 : wr.drew.heap.size = wr.heap.size := rfl; have h4 := HW0.out.2; simp; omega
                      intro v2 w6 hown6 hgr6
                      obtain ⟨g6, c6, rfl⟩ := ownsRow_succ hown6
                      have HA6 := Lib.hid (And.intro hown6 hgr6)
                      have hbx5 := (boxed_below HBX.out HCH.out.2.2.2.2.1).alloc (.cells #[.int .i64 (Gm.run (Gm.grp l x.1)).frm, .int .i64 (Gm.run (Gm.grp l x.1)).last.t, .int .i64 (((Gm.run (Gm.grp l x.1)).n : Nat) : Int), .slice ad bl cp] 26)
                      have hbx6 : Boxed w6 wr0.heap.size 23 (.slice va m0 vc) := hbx5.kept hgr6 (hbx5.not_row (by decide) ((owns_only HRW.out (Only.of_below ((HO.out.b.trans ((drew_below wr).mono HO.out.b.size)).trans (HCH.out.2.2.2.2.1.mono HO.out.b.size)) []) (fun _ _ => by simp)).alloc _))
                      have HX6 := Lib.hid hbx6
                      have hc6 := hbx6.cell
                      have hf6 := hbx6.frozen
                      clear hown6 hgr6 hbx5 hbx6
                      refine hK _ _ ?_
                      clear hK K
                      refine wpAnyIn_ready (rs := [5]) (by kernel_rfl) (by simp) ?_
                      refine AllReadyIn.cons rfl (fun K hK => ?_) ?_
                      · go_simp
                        refine hK _ _ ?_
                        clear hK K
                        refine wpAnyIn_done (by kernel_rfl) ?_ _
                        gi_wp2
                        exact enc_step HI.out HMM.out HW0.out HWW.out HO.out.b rfl HCH.out HA6.out HX6.out
                      exact AllReadyIn.nil
                    exact AllReadyIn.nil
                  exact AllReadyIn.nil
                exact AllReadyIn.nil
              refine AllReadyIn.cons rfl (fun K hK => ?_) ?_
              · go_simp
                refine ⟨trivial, ?_⟩
                refine (CallsIn.inRound l' (callsIn_wide.2 CC.out)).mono ?_
                rintro e w5 ⟨bs, kk, ad, cp, g, hkk, hPk, rfl, hRow, hnw, hb5⟩
                obtain ⟨bl, hbl⟩ : ∃ bl, bs.length = bl := ⟨_, rfl⟩
                have HCH := Lib.hid (And.intro hkk (And.intro hPk (And.intro hRow.1 (And.intro hbl (And.intro hb5 (new_data hRow hnw hbl))))))
                have hbx := boxed_below HBX.out hb5
                have hc5 := hbx.cell
                have hc5a := (hbx.alloc (.cells #[.int .i64 (Gm.run (Gm.grp l x.1)).frm, .int .i64 (Gm.run (Gm.grp l x.1)).last.t, .int .i64 (((Gm.run (Gm.grp l x.1)).n : Nat) : Int), .slice ad bl cp] 26)).cell
                rw [hbl]
                unfold chV
                clear hkk hPk hRow hb5 hbx hbl hnw
                try simp only []
                refine hK _ _ ?_
                clear hK K
                refine wpAnyIn_ready (rs := [0, 3]) (by kernel_rfl) (by simp) ?_
                refine AllReadyIn.cons rfl (fun K hK => ?_) ?_
                · go_simp
                  refine hK _ _ ?_
                  clear hK K
                  refine wpAnyIn_ready (rs := [3]) (by kernel_rfl) (by simp) ?_
                  refine AllReadyIn.cons rfl (fun K hK => ?_) ?_
                  · go_simp
                    refine hK _ _ ?_
                    clear hK K
                    refine wpAnyIn_ready (rs := [4]) (by kernel_rfl) (by simp) ?_
                    refine AllReadyIn.cons rfl (fun K hK => ?_) ?_
                    · refine stepIn_append_own _ rfl (.tmp 44) (.tmp 47) 23 rfl W0.heap.size 26 i3 (.agg #[.int .i64 0, .int .i64 0, .int .i64 0, .slice none 0 0]) 4 48 Tryz.underlying23 HI3.out.1 HI3.out.2.1 HI3.out.2.2.1 HI3.out.2.2.2 rfl (by decide) (.slice va m0 vc) m0 (chC cs ds) rfl ?ow ⟨w5.heap.size, 0, none⟩ 1 1 [.int .i64 (Gm.run (Gm.grp l x.1)).frm, .int .i64 (Gm.run (Gm.grp l x.1)).last.t, .int .i64 (((Gm.run (Gm.grp l x.1)).n : Nat) : Int), .slice ad bl cp] rfl rfl (four_cells w5 _ _ _ _ 26) (by simp [Value.oneCell']) ?b1 ?b2 ?b3 ?_
                      case ow => exact (owns_only HRW.out (Only.of_below ((HO.out.b.trans ((drew_below wr).mono HO.out.b.size)).trans (HCH.out.2.2.2.2.1.mono HO.out.b.size)) []) (fun _ _ => by simp)).alloc _
                      case b1 => have := HM0.out; unfold maxLen; omega
                      case b2 => have := HM0.out; omega
                      case b3 => have h1 := HO.out.b.size; have h2 := HCH.out.2.2.2.2.1.size; have h3 : wr.drew.heap.size = wr.heap.size := rfl; have h4 := HW0.out.2; simp; omega
                      intro v2 w6 hown6 hgr6
                      obtain ⟨g6, c6, rfl⟩ := ownsRow_succ hown6
                      have HA6 := Lib.hid (And.intro hown6 hgr6)
                      have hbx5 := (boxed_below HBX.out HCH.out.2.2.2.2.1).alloc (.cells #[.int .i64 (Gm.run (Gm.grp l x.1)).frm, .int .i64 (Gm.run (Gm.grp l x.1)).last.t, .int .i64 (((Gm.run (Gm.grp l x.1)).n : Nat) : Int), .slice ad bl cp] 26)
                      have hbx6 : Boxed w6 wr0.heap.size 23 (.slice va m0 vc) := hbx5.kept hgr6 (hbx5.not_row (by decide) ((owns_only HRW.out (Only.of_below ((HO.out.b.trans ((drew_below wr).mono HO.out.b.size)).trans (HCH.out.2.2.2.2.1.mono HO.out.b.size)) []) (fun _ _ => by simp)).alloc _))
                      have HX6 := Lib.hid hbx6
                      have hc6 := hbx6.cell
                      have hf6 := hbx6.frozen
                      clear hown6 hgr6 hbx5 hbx6
                      refine hK _ _ ?_
                      clear hK K
                      refine wpAnyIn_ready (rs := [5]) (by kernel_rfl) (by simp) ?_
                      refine AllReadyIn.cons rfl (fun K hK => ?_) ?_
                      · go_simp
                        refine hK _ _ ?_
                        clear hK K
                        refine wpAnyIn_done (by kernel_rfl) ?_ _
                        gi_wp2
                        exact enc_step HI.out HMM.out HW0.out HWW.out HO.out.b rfl HCH.out HA6.out HX6.out
                      exact AllReadyIn.nil
                    exact AllReadyIn.nil
                  exact AllReadyIn.nil
                refine AllReadyIn.cons rfl (fun K hK => ?_) ?_
                · go_simp
                  refine hK _ _ ?_
                  clear hK K
                  refine wpAnyIn_ready (rs := [0]) (by kernel_rfl) (by simp) ?_
                  refine AllReadyIn.cons rfl (fun K hK => ?_) ?_
                  · go_simp
                    refine hK _ _ ?_
                    clear hK K
                    refine wpAnyIn_ready (rs := [4]) (by kernel_rfl) (by simp) ?_
                    refine AllReadyIn.cons rfl (fun K hK => ?_) ?_
                    · refine stepIn_append_own _ rfl (.tmp 44) (.tmp 47) 23 rfl W0.heap.size 26 i3 (.agg #[.int .i64 0, .int .i64 0, .int .i64 0, .slice none 0 0]) 4 48 Tryz.underlying23 HI3.out.1 HI3.out.2.1 HI3.out.2.2.1 HI3.out.2.2.2 rfl (by decide) (.slice va m0 vc) m0 (chC cs ds) rfl ?ow ⟨w5.heap.size, 0, none⟩ 1 1 [.int .i64 (Gm.run (Gm.grp l x.1)).frm, .int .i64 (Gm.run (Gm.grp l x.1)).last.t, .int .i64 (((Gm.run (Gm.grp l x.1)).n : Nat) : Int), .slice ad bl cp] rfl rfl (four_cells w5 _ _ _ _ 26) (by simp [Value.oneCell']) ?b1 ?b2 ?b3 ?_
                      case ow => exact (owns_only HRW.out (Only.of_below ((HO.out.b.trans ((drew_below wr).mono HO.out.b.size)).trans (HCH.out.2.2.2.2.1.mono HO.out.b.size)) []) (fun _ _ => by simp)).alloc _
                      case b1 => have := HM0.out; unfold maxLen; omega
                      case b2 => have := HM0.out; omega
                      case b3 => have h1 := HO.out.b.size; have h2 := HCH.out.2.2.2.2.1.size; have h3 : wr.drew.heap.size = wr.heap.size := rfl; have h4 := HW0.out.2; simp; omega
                      intro v2 w6 hown6 hgr6
                      obtain ⟨g6, c6, rfl⟩ := ownsRow_succ hown6
                      have HA6 := Lib.hid (And.intro hown6 hgr6)
                      have hbx5 := (boxed_below HBX.out HCH.out.2.2.2.2.1).alloc (.cells #[.int .i64 (Gm.run (Gm.grp l x.1)).frm, .int .i64 (Gm.run (Gm.grp l x.1)).last.t, .int .i64 (((Gm.run (Gm.grp l x.1)).n : Nat) : Int), .slice ad bl cp] 26)
                      have hbx6 : Boxed w6 wr0.heap.size 23 (.slice va m0 vc) := hbx5.kept hgr6 (hbx5.not_row (by decide) ((owns_only HRW.out (Only.of_below ((HO.out.b.trans ((drew_below wr).mono HO.out.b.size)).trans (HCH.out.2.2.2.2.1.mono HO.out.b.size)) []) (fun _ _ => by simp)).alloc _))
                      have HX6 := Lib.hid hbx6
                      have hc6 := hbx6.cell
                      have hf6 := hbx6.frozen
                      clear hown6 hgr6 hbx5 hbx6
                      refine hK _ _ ?_
                      clear hK K
                      refine wpAnyIn_ready (rs := [5]) (by kernel_rfl) (by simp) ?_
                      refine AllReadyIn.cons rfl (fun K hK => ?_) ?_
                      · go_simp
                        refine hK _ _ ?_
                        clear hK K
                        refine wpAnyIn_done (by kernel_rfl) ?_ _
                        gi_wp2
                        exact enc_step HI.out HMM.out HW0.out HWW.out HO.out.b rfl HCH.out HA6.out HX6.out
                      exact AllReadyIn.nil
                    exact AllReadyIn.nil
                  exact AllReadyIn.nil
                exact AllReadyIn.nil
              exact AllReadyIn.nil
            exact AllReadyIn.nil
      case done =>
        rintro D ys W hD rfl ⟨⟨hN0, v, cs, ds, hv, hC, hlen, hall⟩, hBW⟩ hK
        have hc0 := hv.cell
        obtain ⟨va, vc, rfl⟩ := hC.shape
        rw [hlen] at hC hc0
        gi_wp2
        refine ⟨by simp, .inl ⟨_, _, rfl, run_takeDeferred hK, ?_⟩⟩
        exact ⟨_, results_tmp2 rfl _ _ _, .slice va (allP n).length vc, cs, ds, rfl, enc_of HL.out.2.1 hlen hall, OwnC.base (M := w.heap.size) (N := W0.heap.size) (hC.kept (grownBy_putObj' W D _) (fun r e => by cases e; exact ⟨_, hK, rfl⟩)) (by omega), hBW.trans (belowK_b (w := w) (Nat.le_refl _) W D _ _ (by omega) hK rfl rfl)⟩
      case stop =>
        rintro D c' pre W hD _ h _
        exact h.elim
end Go.Proofs.YtdlifcpdlbmijaaGreatDoor
namespace Go.Proofs.YtdlifcpdlbmijaaGreatDoor
set_option linter.unusedVariables false
set_option linter.unusedSimpArgs false
open Go.RowKit Go.PlainAid Go.Shelf
open B2 (Only Bys Row cellsOf)
open Gm (St Smp)
/-- the reader's cells -/
def rdC (s : Gm.Rd) (p : Nat) : Array Value := rowP s.n s.last.t s.last.v s.gap (.int .i64 ((s.ws : Nat) : Int)) (.int .i64 ((s.we : Nat) : Int)) (pt p) (.bool s.c.2)
/-- a reader of samples in memory: its block, its bits' reader, the bytes' block -/
structure Rdr (w : World) (a p g : Nat) (ds : List Nat) (s : Gm.Rd) : Prop where
  row : w.heap[a]? = some (.cells (rdC s p) 156 (0, 0))
  bits : ∃ at_, B2.Rd w p g ds at_ ∧ s.c.1 = (B2.Bt.unpack ds).drop at_
  ne : a ≠ p ∧ a ≠ g
theorem Rdr.lt {w : World} {a p g : Nat} {ds : List Nat} {s : Gm.Rd} (h : Rdr w a p g ds s) : a < w.heap.size ∧ p < w.heap.size ∧ g < w.heap.size := by
  obtain ⟨at_, h1, _⟩ := h.bits
  exact ⟨(Array.getElem?_eq_some_iff.1 h.row).1, h1.lt.1, h1.lt.2⟩
theorem Rdr.only {w w' : World} {a p g : Nat} {ds : List Nat} {s : Gm.Rd} (h : Rdr w a p g ds s) {S : List Nat} (ho : Only S w w') (h1 : a ∉ S) (h2 : p ∉ S) (h3 : g ∉ S) : Rdr w' a p g ds s := by
  obtain ⟨at_, k1, k2⟩ := h.bits
  exact ⟨(ho.block a (Array.getElem?_eq_some_iff.1 h.row).1 h1).trans h.row, ⟨at_, k1.only ho h2 h3, k2⟩, h.ne⟩
theorem Rdr.below {w w' : World} {a p g : Nat} {ds : List Nat} {s : Gm.Rd} (h : Rdr w a p g ds s) (hb : Below w.heap.size w w') : Rdr w' a p g ds s := h.only (Only.of_below hb []) (by simp) (by simp) (by simp)
/-- behind a call that reads -/
def RdrPost (w : World) (a p g : Nat) (ds : List Nat) (v : Value) (s : Gm.Rd) (e : Ending) (w' : World) : Prop := e = .returned v ∧ Rdr w' a p g ds s ∧ Only [a, p] w w'
theorem RdrPost.trans {w w1 w2 : World} {a p g : Nat} {ds : List Nat} {v : Value} {s : Gm.Rd} {e : Ending} (hO : Only [a, p] w w1) (h : RdrPost w1 a p g ds v s e w2) : RdrPost w a p g ds v s e w2 := ⟨h.1, h.2.1, hO.trans h.2.2 (fun _ hx => .inl hx)⟩
/-- the flag turned -/
theorem Rdr.flag {w : World} {a p g : Nat} {ds : List Nat} {s : Gm.Rd} (h : Rdr w a p g ds s) (b : Bool) : Rdr (w.setCell ⟨a, 7, none⟩ (.bool b)) a p g ds { s with c := (s.c.1, b) } := by
  obtain ⟨at_, k1, k2⟩ := h.bits
  have hl := h.lt
  have hn := h.ne
  refine ⟨?_, ⟨at_, k1.only ((Only.refl [a] w).setCell (p := ⟨a, 7, none⟩) (.inl (by simp)) _) (by simp; omega) (by simp; omega), k2⟩, h.ne⟩
  rw [heap_setCell_same _ _ _ _ _ _ h.row]
  rfl
set_option maxRecDepth 100000 in
theorem note_rdr (a p g x : Nat) (ds : List Nat) (s : Gm.Rd) (w : World) (H : Rdr w a p g ds s) :
    Calls Tryz.prog 118 #[pt a, .int .u16 ((x : Nat) : Int)] w (RdrPost w a p g ds (.tuple #[]) { s with c := (s.c.1, s.c.2 || decide (x ≠ 0)) }) := by
  have c7 : w.cell? ⟨a, 7, none⟩ = some (.bool s.c.2) := (cell_of_row _ _ 7 _ _ _ H.row).trans rfl
  have f7 : w.frozen? ⟨a, 7, none⟩ = false := frozen_of_row _ _ _ _ _ H.row
  have HF := Lib.hid (fun b => And.intro (H.flag b) ((Only.refl [a, p] w).setCell (p := ⟨a, 7, none⟩) (.inl (by simp)) (.bool b)))
  obtain ⟨q, hq⟩ : ∃ q, s.c.2 = q := ⟨_, rfl⟩
  rw [hq] at c7 ⊢
  clear hq H
  unfold pt at *
  cases q with
  | true =>
    go_enter Tryz.func118, Tryz.ntmps118
    go_wp2_with fail
    refine bodyPost_end (results_none rfl _ _ _) rfl ⟨rfl, ?_⟩
    exact HF.out true
  | false =>
    by_cases hx : x = 0
    · subst hx
      have d0 : (((0 : Nat) : Int) != 0) = false := by simp
      go_enter Tryz.func118, Tryz.ntmps118
      go_wp2_with fail
      refine bodyPost_end (results_none rfl _ _ _) rfl ⟨rfl, ?_⟩
      have h := HF.out false
      simpa using h
    · have d0 : ((x : Int) != 0) = true := by simp; omega
      have d1 : ¬ (x : Int) = 0 := by omega
      have hd : (false || decide (x ≠ 0)) = true := by simp; exact hx
      rw [hd]
      clear hd hx
      go_enter Tryz.func118, Tryz.ntmps118
      go_wp2_with fail
      refine bodyPost_end (results_none rfl _ _ _) rfl ⟨rfl, ?_⟩
      exact HF.out true
theorem rd_rb (S : List Bool) (q : Bool) (k : Nat) (hk : k ≤ 64) : (B2.Bt.rd S k).1 = (Gm.rb k (S, q)).1 ∧ S.drop (B2.Bt.rd S k).2.2 = (Gm.rb k (S, q)).2.1 ∧ (q || decide ((B2.Bt.rd S k).2.1 ≠ 0)) = (Gm.rb k (S, q)).2.2 := by
  unfold B2.Bt.rd Gm.rb
  rw [if_neg (by omega)]
  rw [show ((k : Nat) : Int).toNat = k by omega]
  by_cases h : S.length < k
  · simp [h]
  · simp [h]
set_option maxRecDepth 100000 in
theorem bits_rdr (a p g k : Nat) (ds : List Nat) (s : Gm.Rd) (hk : k ≤ 64) (hbd : ds.length ≤ 1000000000) (w : World) (H : Rdr w a p g ds s) :
    Calls Tryz.prog 121 #[pt a, .int .i64 ((k : Nat) : Int)] w (RdrPost w a p g ds (.int .u64 (((Gm.rb k s.c).1 : Nat) : Int)) { s with c := (Gm.rb k s.c).2 }) := by
  have c6 : w.cell? ⟨a, 6, none⟩ = some (pt p) := (cell_of_row _ _ 6 _ _ _ H.row).trans rfl
  obtain ⟨at_, h1, h2⟩ := H.bits
  have hL := H.lt
  have hN := H.ne
  obtain ⟨n, last, gap, ws, we, S, q⟩ := s
  simp only at h2
  subst h2
  obtain ⟨e1, e2, e3⟩ := rd_rb ((B2.Bt.unpack ds).drop at_) q k hk
  have CB := Lib.hid (B2.rbits_any p g ds at_ ((k : Nat) : Int) w h1 hbd)
  unfold B2.RbPost at CB
  have HH := Lib.hid H
  obtain ⟨V, hV⟩ : ∃ V, (B2.Bt.rd ((B2.Bt.unpack ds).drop at_) ((k : Nat) : Int)).1 = V := ⟨_, rfl⟩
  obtain ⟨X, hX⟩ : ∃ X, (B2.Bt.rd ((B2.Bt.unpack ds).drop at_) ((k : Nat) : Int)).2.1 = X := ⟨_, rfl⟩
  obtain ⟨Y, hY⟩ : ∃ Y, (B2.Bt.rd ((B2.Bt.unpack ds).drop at_) ((k : Nat) : Int)).2.2 = Y := ⟨_, rfl⟩
  rw [hV, hX, hY] at CB
  rw [hV] at e1
  rw [hY, List.drop_drop] at e2
  rw [hX] at e3
  have HE := Lib.hid (show (Gm.rb k ((B2.Bt.unpack ds).drop at_, q)) = (V, ((B2.Bt.unpack ds).drop (at_ + Y), q || decide (X ≠ 0))) from by
    rw [← Prod.eta (Gm.rb k ((B2.Bt.unpack ds).drop at_, q)), ← Prod.eta (Gm.rb k ((B2.Bt.unpack ds).drop at_, q)).2, ← e1, ← e2, ← e3])
  have HLN := Lib.hid (And.intro hL hN)
  rw [HE.out]
  clear e1 e2 e3 hV hX hY h1 H hL hN
  unfold pt at *
  go_enter Tryz.func121, Tryz.ntmps121
  go_wp2_with fail
  go_at_call 125
  refine CB.out.mono ?_
  rintro e w1 ⟨rfl, hR, hO⟩
  have hln := HLN.out
  have H1 : Rdr w1 a p g ds ⟨n, last, gap, ws, we, ((B2.Bt.unpack ds).drop (at_ + Y), q)⟩ :=
    ⟨(hO.block a hln.1.1 (by simp; omega)).trans HH.out.row, ⟨_, hR, rfl⟩, HH.out.ne⟩
  have CN := Lib.hid (note_rdr a p g X ds _ w1 H1)
  have HO := Lib.hid (show Only [a, p] w w1 from hO.mono (fun x hx => by simp at hx ⊢; exact .inr hx))
  clear hln hR hO H1 CB
  unfold pt at *
  go_wp2_with fail
  go_at_call 118
  refine CN.out.mono ?_
  rintro e w2 ⟨rfl, hR2, hO2⟩
  have HX := Lib.hid (And.intro hR2 (HO.out.trans hO2 (fun _ hx => .inl hx)))
  clear hR2 hO2 CN
  go_wp2_with fail
  go_ret
  exact ⟨rfl, HX.out.1, HX.out.2⟩
end Go.Proofs.YtdlifcpdlbmijaaGreatDoor
namespace Go.Proofs.YtdlifcpdlbmijaaGreatDoor
set_option linter.unusedVariables false
set_option linter.unusedSimpArgs false
open Go.RowKit Go.PlainAid Go.Shelf
open B2 (Only Bys Row cellsOf)
open Gm (St Smp)
theorem rb_lt (k : Nat) (c : Gm.Cx) (hk : k ≤ 64) : (Gm.rb k c).1 < 2 ^ k := by
  unfold Gm.rb
  split
  · exact Nat.two_pow_pos k
  · rename_i h
    have h1 := B2.Bt.val_lt (c.1.take k)
    rwa [List.length_take, Nat.min_eq_left (by omega)] at h1
/-- the window turned -/
theorem Rdr.win {w : World} {a p g : Nat} {ds : List Nat} {s : Gm.Rd} (h : Rdr w a p g ds s) (x y : Nat) : Rdr ((w.setCell ⟨a, 4, none⟩ (.int .i64 ((x : Nat) : Int))).setCell ⟨a, 5, none⟩ (.int .i64 ((y : Nat) : Int))) a p g ds { s with ws := x, we := y } ∧ Only [a, p] w ((w.setCell ⟨a, 4, none⟩ (.int .i64 ((x : Nat) : Int))).setCell ⟨a, 5, none⟩ (.int .i64 ((y : Nat) : Int))) := by
  obtain ⟨at_, k1, k2⟩ := h.bits
  have hl := h.lt
  have hn := h.ne
  have hO := ((Only.refl [a] w).setCell (p := ⟨a, 4, none⟩) (.inl (by simp)) (.int .i64 ((x : Nat) : Int))).setCell (p := ⟨a, 5, none⟩) (.inl (by simp)) (.int .i64 ((y : Nat) : Int))
  refine ⟨⟨?_, ⟨at_, k1.only hO (by simp; omega) (by simp; omega), k2⟩, h.ne⟩, hO.mono (fun q hq => by simp at hq ⊢; exact .inl hq)⟩
  rw [heap_setCell_same _ _ _ _ _ _ (heap_setCell_same _ _ _ _ _ _ h.row)]
  rfl
set_option maxHeartbeats 4000000 in
set_option maxRecDepth 100000 in
theorem openwin_rdr (a p g : Nat) (ds : List Nat) (s : Gm.Rd) (hbd : ds.length ≤ 1000000000) (w : World) (H : Rdr w a p g ds s) :
    Calls Tryz.prog 122 #[pt a] w fun e w' => e = .returned (.tuple #[]) ∧ Rdr w' a p g ds { s with ws := (Gm.rdWin s.ws s.we s.c).1, we := (Gm.rdWin s.ws s.we s.c).2.1, c := (Gm.rdWin s.ws s.we s.c).2.2 } ∧ ∀ S : List Nat, a ∈ S → p ∈ S → Only S w w' := by
  have C1 := bits_rdr a p g 5 ds s (by decide) hbd w H
  have b1 := rb_lt 5 s.c (by decide)
  have C2 := fun W (h : Rdr W a p g ds { s with c := (Gm.rb 5 s.c).2 }) => bits_rdr a p g 6 ds { s with c := (Gm.rb 5 s.c).2 } (by decide) hbd W h
  simp only at C2
  have b2 := rb_lt 6 (Gm.rb 5 s.c).2 (by decide)
  have HW := Lib.hid (show Gm.rdWin s.ws s.we s.c = (if 64 < (Gm.rb 5 s.c).1 + (Gm.rb 6 (Gm.rb 5 s.c).2).1 + 1 then (s.ws, s.we, ((Gm.rb 6 (Gm.rb 5 s.c).2).2.1, true)) else ((Gm.rb 5 s.c).1, (Gm.rb 5 s.c).1 + (Gm.rb 6 (Gm.rb 5 s.c).2).1 + 1, (Gm.rb 6 (Gm.rb 5 s.c).2).2)) from rfl)
  obtain ⟨A, hA⟩ : ∃ A, (Gm.rb 5 s.c).1 = A := ⟨_, rfl⟩
  obtain ⟨c1, hc1⟩ : ∃ c1, (Gm.rb 5 s.c).2 = c1 := ⟨_, rfl⟩
  rw [hA] at C1 b1
  rw [hc1] at C1 C2 b2
  have HW2 := HW.out
  rw [hA, hc1] at HW2
  obtain ⟨B, hB⟩ : ∃ B, (Gm.rb 6 c1).1 = B := ⟨_, rfl⟩
  obtain ⟨c2, hc2⟩ : ∃ c2, (Gm.rb 6 c1).2 = c2 := ⟨_, rfl⟩
  rw [hB] at C2 b2 HW2
  rw [hc2] at C2 HW2
  have hbA : A < 32 := b1
  have hbB : B < 64 := b2
  have HE := Lib.hid HW2
  have CC1 := Lib.hid C1
  have CC2 := Lib.hid C2
  simp only [Int.cast_ofNat_Int] at CC1 CC2
  obtain ⟨T, hT⟩ : ∃ T, Gm.rdWin s.ws s.we s.c = T := ⟨_, rfl⟩
  have HT := Lib.hid (hT.symm.trans HE.out)
  rw [hT]
  have HAL := Lib.hid H.lt
  clear C1 C2 HW HW2 hA hc1 hB hc2 b1 b2 H hT HE
  unfold pt at *
  go_enter Tryz.func122, Tryz.ntmps122
  go_wp2_with fail
  go_at_call 121
  refine CC1.out.mono ?_
  rintro e w1 ⟨rfl, hR1, hO1⟩
  have HO1 := Lib.hid (And.intro hO1 hR1.lt)
  have C2 := Lib.hid (CC2.out w1 hR1)
  clear hR1 hO1 CC1 CC2
  go_wp2_with fail
  go_at_call 121
  refine C2.out.mono ?_
  rintro e w2 ⟨rfl, hR2, hO2⟩
  have HR2 := Lib.hid hR2
  have HO2 := Lib.hid (HO1.out.1.trans hO2 (fun _ hx => .inl hx))
  obtain ⟨E, hE⟩ : ∃ E, A + B + 1 = E := ⟨_, rfl⟩
  have hEI : (A : Int) + (B : Int) + 1 = (E : Int) := by omega
  have hEI2 : (A : Int) + ((B : Int) + 1) = (E : Int) := by omega
  have hbx := heap_alloc_new w2 (.cells #[.int .i64 ((A : Nat) : Int), .int .i64 ((E : Nat) : Int)] 142)
  have hAl := (Below.refl w2.heap.size w2).alloc (Nat.le_refl _) (.cells #[.int .i64 ((A : Nat) : Int), .int .i64 ((E : Nat) : Int)] 142)
  have x0 : (w2.alloc (.cells #[.int .i64 ((A : Nat) : Int), .int .i64 ((E : Nat) : Int)] 142)).cell? ⟨w2.heap.size, 0, none⟩ = some (.int .i64 ((A : Nat) : Int)) := (cell_of_row _ _ 0 _ _ _ hbx).trans rfl
  have x1 : (w2.alloc (.cells #[.int .i64 ((A : Nat) : Int), .int .i64 ((E : Nat) : Int)] 142)).cell? ⟨w2.heap.size, 1, none⟩ = some (.int .i64 ((E : Nat) : Int)) := (cell_of_row _ _ 1 _ _ _ hbx).trans rfl
  have hR3 := hR2.below hAl
  have f7 : (w2.alloc (.cells #[.int .i64 ((A : Nat) : Int), .int .i64 ((E : Nat) : Int)] 142)).frozen? ⟨a, 7, none⟩ = false := frozen_of_row _ _ _ _ _ hR3.row
  have f4 : (w2.alloc (.cells #[.int .i64 ((A : Nat) : Int), .int .i64 ((E : Nat) : Int)] 142)).frozen? ⟨a, 4, none⟩ = false := frozen_of_row _ _ _ _ _ hR3.row
  have y4 : (w2.alloc (.cells #[.int .i64 ((A : Nat) : Int), .int .i64 ((E : Nat) : Int)] 142)).cell? ⟨a, 4, none⟩ = some (.int .i64 ((s.ws : Nat) : Int)) := (cell_of_row _ _ 4 _ _ _ hR3.row).trans rfl
  have y5 : (w2.alloc (.cells #[.int .i64 ((A : Nat) : Int), .int .i64 ((E : Nat) : Int)] 142)).cell? ⟨a, 5, none⟩ = some (.int .i64 ((s.we : Nat) : Int)) := (cell_of_row _ _ 5 _ _ _ hR3.row).trans rfl
  have y7 : (w2.alloc (.cells #[.int .i64 ((A : Nat) : Int), .int .i64 ((E : Nat) : Int)] 142)).cell? ⟨a, 7, none⟩ = some (.bool c2.2) := (cell_of_row _ _ 7 _ _ _ hR3.row).trans rfl
  have f5 : ((w2.alloc (.cells #[.int .i64 ((A : Nat) : Int), .int .i64 ((E : Nat) : Int)] 142)).setCell ⟨a, 4, none⟩ (.int .i64 ((A : Nat) : Int))).frozen? ⟨a, 5, none⟩ = false := by rw [World.frozen?_setCell]; exact frozen_of_row _ _ _ _ _ hR3.row
  have HR3 := Lib.hid hR3
  have HO3 := Lib.hid (HO2.out.trans (Only.of_below hAl [a, p]) (fun _ hx => .inl hx))
  clear hR2 hO2 C2 hbx hAl hR3
  by_cases h64 : 64 < E
  · have d0 : decide ((64 : Int) < (E : Int)) = true := by simp; omega
    have HTE := Lib.hid (show T = (s.ws, s.we, (c2.1, true)) by rw [HT.out, if_pos (by omega)])
    have HF := Lib.hid (And.intro (HR3.out.flag true) (HO3.out.setCell (p := ⟨a, 7, none⟩) (.inl (by simp)) (.bool true)))
    clear h64
    go_wp2_with fail
    refine bodyPost_ret (results_none rfl _ _ _) rfl ⟨rfl, by rw [HTE.out]; exact HF.out.1, fun S ha hp => HF.out.2.mono (fun x hx => ?_)⟩
    simp at hx
    rcases hx with rfl | rfl
    · exact ha
    · exact hp
  · have d0 : decide ((64 : Int) < (E : Int)) = false := by simp; omega
    have HTE := Lib.hid (show T = (A, E, c2) by rw [HT.out, if_neg (by omega), hE])
    obtain ⟨hw1, hw2⟩ := HR3.out.win A E
    have HF := Lib.hid (And.intro hw1 (HO3.out.trans hw2 (fun _ hx => .inl hx)))
    clear h64 hw1 hw2
    go_wp2_with fail
    refine bodyPost_end (results_none rfl _ _ _) rfl ⟨rfl, by rw [HTE.out]; exact HF.out.1, fun S ha hp => HF.out.2.mono (fun x hx => ?_)⟩
    simp at hx
    rcases hx with rfl | rfl
    · exact ha
    · exact hp
end Go.Proofs.YtdlifcpdlbmijaaGreatDoor
