/-
  WALKS: what the chapter's examples fix.
-/
import Derived.Test.YtiolghcjndoigaaGreatDoorPrs
import Derived.Test.YtiolghcjndoigaaGreatDoorPrt
import Derived.Test.YtiolghcjndoigaaGreatDoorSam
namespace Go.Proofs.YtiolghcjndoigaaGreatDoor
set_option linter.unusedVariables false
set_option linter.unusedSimpArgs false
open Go.RowKit Go.PlainAid Go.Shelf
/-- two lists that rise and are the same but for their order are the same -/
theorem rises_unique : ∀ (l m : List Lm.Lb), l.Perm m → risesB l = true → risesB m = true → l = m := by
  have head : ∀ (x : Lm.Lb) (l : List Lm.Lb), risesB (x :: l) = true → ∀ y ∈ l, Lm.strC x.1 y.1 < 0 := by
    intro x l
    induction l generalizing x with
    | nil => intro _ y hy; cases hy
    | cons z l ih =>
      intro h y hy
      rw [risesB, Bool.and_eq_true] at h
      have h1 := of_decide_eq_true h.1
      rcases List.mem_cons.1 hy with rfl | hy
      · exact h1
      · have h2 := ih z h.2 y hy
        have t := Lm.strC_lin.trans x.1 z.1 y.1 (by omega) (by omega)
        have s := Lm.strC_lin.same x.1 y.1
        by_cases e : Lm.strC x.1 y.1 = 0
        · exfalso
          have := s.1 e
          rw [← this] at h2
          have := Lm.strC_lin.anti x.1 z.1
          omega
        · omega
  have tail : ∀ (x : Lm.Lb) (l : List Lm.Lb), risesB (x :: l) = true → risesB l = true := by
    intro x l h
    cases l with
    | nil => rfl
    | cons y l => rw [risesB, Bool.and_eq_true] at h; exact h.2
  intro l
  induction l with
  | nil => intro m hp _ _; exact hp.nil_eq
  | cons x l ih =>
    intro m hp h1 h2
    cases m with
    | nil => exact absurd hp.length_eq (by simp)
    | cons y m =>
      have e : x = y := by
        have hx : x ∈ y :: m := hp.subset List.mem_cons_self
        have hy : y ∈ x :: l := hp.symm.subset List.mem_cons_self
        rcases List.mem_cons.1 hx with e | hx
        · exact e
        · rcases List.mem_cons.1 hy with e | hy
          · exact e.symm
          · have a := head x l h1 y hy
            have b := head y m h2 x hx
            have := Lm.strC_lin.anti x.1 y.1
            omega
      subst e
      rw [ih m ((List.perm_cons x).1 hp) (tail x l h1) (tail x m h2)]
/-- what it says of a list whose sorted one is known -/
theorem setis_of {l l' out : List Lm.Lb} {c : Nat} (h : SetIs l c out) (hb : l.any badB = false) (hp : l'.Perm l) (hr : risesB l' = true) (hf : (fullL l').length ≤ 64) (hd : ∀ m, m.Perm l → Rises m → risesB m = true) : c = 0 ∧ out = fullL l' := by
  rcases h with ⟨h, _⟩ | ⟨_, m, hm, hrm, h3⟩
  · rw [hb] at h; cases h
  · have e := hd m hm hrm
    have em : m = l' := rises_unique m l' (hm.trans hp.symm) e hr
    subst em
    rcases h3 with ⟨h, _⟩ | ⟨_, ⟨h, _⟩ | ⟨_, h, h2⟩⟩
    · rw [e] at h; cases h
    · omega
    · exact ⟨h, h2⟩
/-- names that are all different rise strictly once they are sorted -/
theorem rises_strict {l m : List Lm.Lb} (hd : (l.map Prod.fst).Nodup) (hp : m.Perm l) (hr : Rises m) : risesB m = true := by
  have hn : (m.map Prod.fst).Nodup := (hp.map Prod.fst).nodup_iff.2 hd
  rw [risesB_iff]
  intro i hi
  unfold Rises at hr
  rw [List.pairwise_iff_getElem] at hr
  have h1 := hr i (i + 1) (by omega) hi (by omega)
  have h2 := Lm.strC_lin.same m[i].1 m[i + 1].1
  unfold namC at h1
  by_cases e : Lm.strC m[i].1 m[i + 1].1 = 0
  · exfalso
    have e2 := h2.1 e
    rw [List.nodup_iff_pairwise_ne, List.pairwise_iff_getElem] at hn
    have := hn i (i + 1) (by simp; omega) (by simpa using hi) (by omega)
    simp only [List.getElem_map] at this
    exact this e2
  · omega
def lA : Lm.Lb := (⟨#[97]⟩, ⟨#[49]⟩)
def lB : Lm.Lb := (⟨#[98]⟩, ⟨#[50]⟩)
def lC : Lm.Lb := (⟨#[99]⟩, ⟨#[]⟩)
def lX : Lm.Lb := (⟨#[98]⟩, ⟨#[120]⟩)
theorem kset {c : Nat} {out : List Lm.Lb} (h : SetIs [lB, lA, lC] c out) : c = 0 ∧ out = [lA, lB] := by
  have := setis_of (l' := [lA, lB, lC]) h (by decide +kernel) (by decide +kernel) (by decide +kernel) (by decide +kernel) (fun m hp hr => rises_strict (by decide +kernel) hp hr)
  rw [show fullL [lA, lB, lC] = [lA, lB] by decide +kernel] at this
  exact this
theorem kset2 {c : Nat} {out : List Lm.Lb} (h : SetIs [lX, lA] c out) : c = 0 ∧ out = [lA, lX] := by
  have := setis_of (l' := [lA, lX]) h (by decide +kernel) (by decide +kernel) (by decide +kernel) (by decide +kernel) (fun m hp hr => rises_strict (by decide +kernel) hp hr)
  rw [show fullL [lA, lX] = [lA, lX] by decide +kernel] at this
  exact this
theorem kenc {c : Nat} {out : List Nat} (h : EncIs [lA] c out) : c = 0 ∧ out = [1, 1, 0, 97, 1, 0, 49] := by
  obtain ⟨hc, h⟩ := h
  have h0 : c = 0 := by
    rcases hc with ⟨h, _⟩ | ⟨_, h, _⟩ | ⟨_, _, ⟨_, h⟩ | ⟨h, _⟩⟩
    · simp at h
    · rw [show (([lA].any badB) || ([lA].any emptyB)) = false by decide +kernel] at h; cases h
    · exact h
    · cases h
  rcases h with ⟨_, h⟩ | ⟨h, _⟩
  · exact ⟨h0, h.trans (by decide +kernel)⟩
  · exact absurd h0 h
def kText : List Nat := [123, 32, 98, 61, 34, 120, 34, 44, 97, 61, 34, 49, 34, 44, 32, 125]
theorem kform : Form kText [lX, lA] := by
  have v1 : ValOk kText 4 [120] 7 := ⟨2, by unfold IsB; decide +kernel, by decide +kernel, Toks.cons 1 2 2 [120] [] (Tok.plain 120 (by decide +kernel) (by decide) (fun _ => by decide)) (Toks.nil 2 (by decide +kernel)), by decide +kernel⟩
  have v2 : ValOk kText 10 [49] 13 := ⟨2, by unfold IsB; decide +kernel, by decide +kernel, Toks.cons 1 2 2 [49] [] (Tok.plain 49 (by decide +kernel) (by decide) (fun _ => by decide)) (Toks.nil 2 (by decide +kernel)), by decide +kernel⟩
  have l1 : LabOk kText 2 lX 7 := ⟨1, 3, [120], by decide, by decide +kernel, by decide +kernel, by decide +kernel, by rw [show skipB kText (3 + 1) = 4 by decide +kernel]; exact v1, by decide +kernel⟩
  have l2 : LabOk kText 8 lA 13 := ⟨1, 9, [49], by decide, by decide +kernel, by decide +kernel, by decide +kernel, by rw [show skipB kText (9 + 1) = 10 by decide +kernel]; exact v2, by decide +kernel⟩
  refine ⟨by decide +kernel, ?_⟩
  rw [show skipB kText (skipB kText 0 + 1) = 2 by decide +kernel]
  refine Run.more 2 7 lX [lA] (by decide) (by decide +kernel) l1 (by decide +kernel) ?_
  rw [show skipB kText (7 + 1) = 8 by decide +kernel]
  refine Run.more 8 13 lA [] (by decide) (by decide +kernel) l2 (by decide +kernel) ?_
  rw [show skipB kText (13 + 1) = 15 by decide +kernel]
  exact Run.close 15 true (by decide +kernel) (by decide +kernel)
theorem kparse (w : World) : Calls Tryz.prog 34 #[.string ⟨#[123, 32, 98, 61, 34, 120, 34, 44, 97, 61, 34, 49, 34, 44, 32, 125]⟩] w fun e w' => ∃ v, e = .returned (.tuple #[v, .int .u16 0, .int .i64 0]) ∧ OwnL w' w.heap.size v [lA, lX] ∧ Below w.heap.size w w' := by
  refine (parse_ok kText [lX, lA] (by unfold IsB; decide +kernel) (by decide) kform w).mono ?_
  rintro e w' ⟨v, c, out, rfl, hs, ho, hb⟩
  obtain ⟨rfl, rfl⟩ := kset2 hs
  exact ⟨v, rfl, ho, hb⟩
theorem kprint : printS [lA, lX] = ⟨#[123, 97, 61, 34, 49, 34, 44, 32, 98, 61, 34, 120, 34, 125]⟩ := by decide +kernel
theorem labs_new (w : World) (l : List Lm.Lb) (h : l ≠ []) : Labs (w.alloc (.cells (l.flatMap enc2).toArray 94)) (some ⟨w.heap.size, 0, none⟩) l := fun _ => by
  refine ⟨w.heap.size, 0, rfl, by simp, fun i hi => ?_⟩
  obtain ⟨h1, h2⟩ := flat_get l i hi
  rw [Nat.zero_add, cell_of_row _ _ _ _ _ _ (heap_alloc_new w _), cell_of_row _ _ _ _ _ _ (heap_alloc_new w _), List.getElem?_toArray, List.getElem?_toArray]
  exact ⟨h1, h2⟩
set_option maxRecDepth 100000 in
set_option maxHeartbeats 4000000 in
theorem known_any (w : World) : Calls Tryz.prog 19 #[] w (Gives w (.bool true)) := by
  have C1 := Lib.hid (fun w => set_any (some ⟨w.heap.size, 0, none⟩) 3 [lB, lA, lC] (w.alloc (.cells ([lB, lA, lC].flatMap enc2).toArray 94)) (labs_new w _ (by simp)) (by decide))
  have C2 := Lib.hid (fun w => encode_any (some ⟨w.heap.size, 0, none⟩) 1 [lA] (w.alloc (.cells ([lA].flatMap enc2).toArray 94)) (labs_new w _ (by simp)) (by decide))
  have C3 := Lib.hid kparse
  have HA := Lib.hid (fun (w : World) (o : Obj) => (Below.refl w.heap.size w).alloc (Nat.le_refl _) o)
  go_enter Tryz.func19, Tryz.ntmps19
  go_wp2_with fail
  refine (C1.out _).mono ?_
  rintro e w1 ⟨v1, c, out, rfl, hs, ho, hb⟩
  obtain ⟨rfl, rfl⟩ := kset hs
  have B1 := Lib.hid ((HA.out w _).trans (hb.mono (HA.out w (.cells ([lB, lA, lC].flatMap enc2).toArray 94)).size))
  have O1 := Lib.hid (ho.lower (HA.out w (.cells ([lB, lA, lC].flatMap enc2).toArray 94)).size)
  obtain ⟨a1, c1, rfl⟩ := ownL_shape ho
  clear hs ho hb C1
  go_wp2_with fail
  refine (C2.out _).mono ?_
  rintro e w2 ⟨v2, c, out, rfl, hs, ho, _, hb⟩
  obtain ⟨rfl, rfl⟩ := kenc hs
  have hA := HA.out w1 (.cells ([lA].flatMap enc2).toArray 94)
  have hb2 := hA.trans (hb.mono hA.size)
  have B2 := Lib.hid (B1.out.trans (hb2.mono B1.out.size))
  have O2 := Lib.hid (O1.out.below hb2)
  have E2 := Lib.hid (ho.lower hA.size)
  obtain ⟨a2, c2, rfl⟩ := own_shape ho
  clear hs ho hb C2 hA hb2
  go_wp2_with fail
  refine (C3.out _).mono ?_
  rintro e w3 ⟨v3, rfl, ho, hb⟩
  have B3 := Lib.hid (B2.out.trans (hb.mono B2.out.size))
  have O3 := Lib.hid (O2.out.below hb)
  have E3 := Lib.hid (E2.out.below hb)
  have P3 := Lib.hid ho
  obtain ⟨a3, c3, rfl⟩ := ownL_shape ho
  clear ho hb C3
  obtain ⟨_, _, he, L3, _⟩ := O3.out.labs
  cases he
  have hA := HA.out w3 (.cells ([lA, lB].flatMap enc2).toArray 94)
  have C4 := Lib.hid (same_any a1 (some ⟨w3.heap.size, 0, none⟩) c1 2 [lA, lB] [lA, lB] (w3.alloc (.cells ([lA, lB].flatMap enc2).toArray 94)) (L3.below hA) (labs_new w3 _ (by simp)) (by decide))
  have HA4 := Lib.hid hA
  clear hA L3
  go_wp2_with fail
  refine C4.out.mono ?_
  rintro e w4 ⟨rfl, hb⟩
  have hb4 := HA4.out.trans (hb.mono HA4.out.size)
  have B4 := Lib.hid (B3.out.trans (hb4.mono B3.out.size))
  have P4 := Lib.hid (P3.out.below hb4)
  have E4 := Lib.hid (E3.out.below hb4)
  clear hb hb4
  have hcv : (convert 83 9 (.slice a2 7 c2)).run Tryz.prog w4 = .ok (.string ⟨#[1, 1, 0, 97, 1, 0, 49]⟩) w4 := conv_own E4.out (by unfold IsB; decide +kernel)
  obtain ⟨_, _, he, L4, _⟩ := P4.out.labs
  cases he
  have C5 := Lib.hid (print_any a3 c3 [lA, lX] w4 L4 (by unfold Few weigh; decide +kernel))
  rw [kprint] at C5
  clear L4
  go_wp2_with fail
  refine C5.out.mono ?_
  rintro e w5 ⟨rfl, hb⟩
  have B5 := Lib.hid (B4.out.trans (hb.mono B4.out.size))
  clear hb
  go_wp2
  go_ret
  exact ⟨rfl, B5.out⟩
end Go.Proofs.YtiolghcjndoigaaGreatDoor
