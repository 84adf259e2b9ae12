/-
  THE WALK of the book's look at all it has.
-/
import Derived.Test.YtimmlnfoabbbjaaBookD
import Derived.Test.YtimmlnfoabbbjaaNoneA
import Derived.Test.YtimmlnfoabbbjaaNoneB
namespace Go.Proofs.Ytimmlnfoabbbjaa
open Go.RowKit
theorem BookAt.outer {w : World} {pb h n : Nat} {X : Nat → Value} (H : BookAt w pb h n X) : ∃ a cap, w.heap[pb]? = some (.cells (bk (.slice a n cap)) 64 (0, 0)) ∧ Outer w a h n X := by
  obtain ⟨v, h1, h2, rfl, h4⟩ := H
  rcases h2.2 with ⟨rfl, rfl⟩ | ⟨g, cap, cur, hv, hg⟩
  · exact ⟨none, 0, h1, fun h0 => by omega⟩
  · have hc := h2.cells (g := g) (by rw [hv]; rfl)
    have hl := (h2.lt g (by rw [hv]; rfl)).2
    subst hv
    refine ⟨_, cap, h1, fun _ => ⟨rfl, hl, fun i hi => ?_⟩⟩
    have := hc i (X i) (by simp [hi])
    rw [add_here] at this
    exact this
theorem bk_cell {w : World} {pb : Nat} {v : Value} (h : w.heap[pb]? = some (.cells (bk v) 64 (0, 0))) (k : Nat) (hk : k < 31) : w.cell? ⟨pb, k + 1, none⟩ = some (.slice none 0 0) := by
  rw [cell_of_row _ _ _ _ _ _ h]; exact bk_rest v k hk
set_option maxRecDepth 100000 in
set_option maxHeartbeats 4000000 in
theorem own_any (pb h n N : Nat) (X : Nat → Value) (L : Nat → Nat) (w : World) (H : BookAt w pb h n X) (hpb : pb < N) (P : Places N w.heap.size h X) (hR : ∃ C, Lots w N X C ∧ ∀ j, (C j).length = L j) (hn : n ≤ 1000) (hL : ∀ j, L j ≤ 1000000) (hz : ∀ j, n ≤ j → L j = 0) :
    Calls Try.prog 15 #[.pointer (some ⟨pb, 0, none⟩)] w fun e w' => e = .returned (.bool true) ∧ Below N w w' := by
  obtain ⟨a, cap, hb, hO⟩ := H.outer
  have hpl := H.lt.1
  have c0 : w.cell? ⟨pb, 0, none⟩ = some (.slice a n cap) := by rw [cell_of_row _ _ _ _ _ _ hb]; rfl
  have HB := Lib.hid hb
  have HO := Lib.hid hO
  have HP := Lib.hid P
  have HR := Lib.hid hR
  have HL := Lib.hid hL
  have HZ := Lib.hid hz
  clear H hb hO P hR hL hz
  go_enter Try.func15, Try.ntmps15
  go_wp2_with fail
  refine (ownbytes_any a h n cap N X L _ HP.out HO.out HR.out hn HL.out HZ.out).mono ?_
  rintro e w1 ⟨rfl, hb1⟩
  have hbk : w1.heap[pb]? = some (.cells (bk (.slice a n cap)) 64 (0, 0)) := (hb1.block pb hpb).trans HB.out
  have hpl1 := (Array.getElem?_eq_some_iff.1 hbk).1
  have B1 := Lib.hid hb1
  have BK := Lib.hid hbk
  clear hb1 hbk c0
  have c1 : w1.cell? ⟨pb, 1, none⟩ = some (.slice none 0 0) := bk_cell BK.out 0 (by decide)
  go_wp2_with fail
  refine (own40 _).mono ?_
  rintro e wx ⟨rfl, hww⟩
  subst hww
  clear c1
  have c2 : w1.cell? ⟨pb, 2, none⟩ = some (.slice none 0 0) := bk_cell BK.out 1 (by decide)
  go_wp2_with fail
  refine (own41 _).mono ?_
  rintro e wx ⟨rfl, hww⟩
  subst hww
  clear c2
  have c3 : w1.cell? ⟨pb, 3, none⟩ = some (.slice none 0 0) := bk_cell BK.out 2 (by decide)
  go_wp2_with fail
  refine (own42 _).mono ?_
  rintro e wx ⟨rfl, hww⟩
  subst hww
  clear c3
  have c4 : w1.cell? ⟨pb, 4, none⟩ = some (.slice none 0 0) := bk_cell BK.out 3 (by decide)
  go_wp2_with fail
  refine (own43 _).mono ?_
  rintro e wx ⟨rfl, hww⟩
  subst hww
  clear c4
  have c5 : w1.cell? ⟨pb, 5, none⟩ = some (.slice none 0 0) := bk_cell BK.out 4 (by decide)
  go_wp2_with fail
  refine (own44 _).mono ?_
  rintro e wx ⟨rfl, hww⟩
  subst hww
  clear c5
  have c6 : w1.cell? ⟨pb, 6, none⟩ = some (.slice none 0 0) := bk_cell BK.out 5 (by decide)
  go_wp2_with fail
  refine (own45 _).mono ?_
  rintro e wx ⟨rfl, hww⟩
  subst hww
  clear c6
  have c7 : w1.cell? ⟨pb, 7, none⟩ = some (.slice none 0 0) := bk_cell BK.out 6 (by decide)
  go_wp2_with fail
  refine (own46 _).mono ?_
  rintro e wx ⟨rfl, hww⟩
  subst hww
  clear c7
  have c8 : w1.cell? ⟨pb, 8, none⟩ = some (.slice none 0 0) := bk_cell BK.out 7 (by decide)
  go_wp2_with fail
  refine (own47 _).mono ?_
  rintro e wx ⟨rfl, hww⟩
  subst hww
  clear c8
  have c9 : w1.cell? ⟨pb, 9, none⟩ = some (.slice none 0 0) := bk_cell BK.out 8 (by decide)
  go_wp2_with fail
  refine (own48 _).mono ?_
  rintro e wx ⟨rfl, hww⟩
  subst hww
  clear c9
  have c10 : w1.cell? ⟨pb, 10, none⟩ = some (.slice none 0 0) := bk_cell BK.out 9 (by decide)
  go_wp2_with fail
  refine (own49 _).mono ?_
  rintro e wx ⟨rfl, hww⟩
  subst hww
  clear c10
  have c11 : w1.cell? ⟨pb, 11, none⟩ = some (.slice none 0 0) := bk_cell BK.out 10 (by decide)
  go_wp2_with fail
  refine (own50 _).mono ?_
  rintro e wx ⟨rfl, hww⟩
  subst hww
  clear c11
  have c12 : w1.cell? ⟨pb, 12, none⟩ = some (.slice none 0 0) := bk_cell BK.out 11 (by decide)
  go_wp2_with fail
  refine (own51 _).mono ?_
  rintro e wx ⟨rfl, hww⟩
  subst hww
  clear c12
  have c13 : w1.cell? ⟨pb, 13, none⟩ = some (.slice none 0 0) := bk_cell BK.out 12 (by decide)
  go_wp2_with fail
  refine (own52 _).mono ?_
  rintro e wx ⟨rfl, hww⟩
  subst hww
  clear c13
  have c14 : w1.cell? ⟨pb, 14, none⟩ = some (.slice none 0 0) := bk_cell BK.out 13 (by decide)
  go_wp2_with fail
  refine (own53 _).mono ?_
  rintro e wx ⟨rfl, hww⟩
  subst hww
  clear c14
  have c15 : w1.cell? ⟨pb, 15, none⟩ = some (.slice none 0 0) := bk_cell BK.out 14 (by decide)
  go_wp2_with fail
  refine (own54 _).mono ?_
  rintro e wx ⟨rfl, hww⟩
  subst hww
  clear c15
  have c16 : w1.cell? ⟨pb, 16, none⟩ = some (.slice none 0 0) := bk_cell BK.out 15 (by decide)
  go_wp2_with fail
  refine (own55 _).mono ?_
  rintro e wx ⟨rfl, hww⟩
  subst hww
  clear c16
  have c17 : w1.cell? ⟨pb, 17, none⟩ = some (.slice none 0 0) := bk_cell BK.out 16 (by decide)
  go_wp2_with fail
  refine (own56 _).mono ?_
  rintro e wx ⟨rfl, hww⟩
  subst hww
  clear c17
  have c18 : w1.cell? ⟨pb, 18, none⟩ = some (.slice none 0 0) := bk_cell BK.out 17 (by decide)
  go_wp2_with fail
  refine (own57 _).mono ?_
  rintro e wx ⟨rfl, hww⟩
  subst hww
  clear c18
  have c19 : w1.cell? ⟨pb, 19, none⟩ = some (.slice none 0 0) := bk_cell BK.out 18 (by decide)
  go_wp2_with fail
  refine (own58 _).mono ?_
  rintro e wx ⟨rfl, hww⟩
  subst hww
  clear c19
  have c20 : w1.cell? ⟨pb, 20, none⟩ = some (.slice none 0 0) := bk_cell BK.out 19 (by decide)
  go_wp2_with fail
  refine (own59 _).mono ?_
  rintro e wx ⟨rfl, hww⟩
  subst hww
  clear c20
  have c21 : w1.cell? ⟨pb, 21, none⟩ = some (.slice none 0 0) := bk_cell BK.out 20 (by decide)
  go_wp2_with fail
  refine (own60 _).mono ?_
  rintro e wx ⟨rfl, hww⟩
  subst hww
  clear c21
  have c22 : w1.cell? ⟨pb, 22, none⟩ = some (.slice none 0 0) := bk_cell BK.out 21 (by decide)
  go_wp2_with fail
  refine (own61 _).mono ?_
  rintro e wx ⟨rfl, hww⟩
  subst hww
  clear c22
  have c23 : w1.cell? ⟨pb, 23, none⟩ = some (.slice none 0 0) := bk_cell BK.out 22 (by decide)
  go_wp2_with fail
  refine (own62 _).mono ?_
  rintro e wx ⟨rfl, hww⟩
  subst hww
  clear c23
  have c24 : w1.cell? ⟨pb, 24, none⟩ = some (.slice none 0 0) := bk_cell BK.out 23 (by decide)
  go_wp2_with fail
  refine (own63 _).mono ?_
  rintro e wx ⟨rfl, hww⟩
  subst hww
  clear c24
  have c25 : w1.cell? ⟨pb, 25, none⟩ = some (.slice none 0 0) := bk_cell BK.out 24 (by decide)
  go_wp2_with fail
  refine (own64 _).mono ?_
  rintro e wx ⟨rfl, hww⟩
  subst hww
  clear c25
  have c26 : w1.cell? ⟨pb, 26, none⟩ = some (.slice none 0 0) := bk_cell BK.out 25 (by decide)
  go_wp2_with fail
  refine (own65 _).mono ?_
  rintro e wx ⟨rfl, hww⟩
  subst hww
  clear c26
  have c27 : w1.cell? ⟨pb, 27, none⟩ = some (.slice none 0 0) := bk_cell BK.out 26 (by decide)
  go_wp2_with fail
  refine (own66 _).mono ?_
  rintro e wx ⟨rfl, hww⟩
  subst hww
  clear c27
  have c28 : w1.cell? ⟨pb, 28, none⟩ = some (.slice none 0 0) := bk_cell BK.out 27 (by decide)
  go_wp2_with fail
  refine (own67 _).mono ?_
  rintro e wx ⟨rfl, hww⟩
  subst hww
  clear c28
  have c29 : w1.cell? ⟨pb, 29, none⟩ = some (.slice none 0 0) := bk_cell BK.out 28 (by decide)
  go_wp2_with fail
  refine (own68 _).mono ?_
  rintro e w2 ⟨rfl, hb2⟩
  have B2 := Lib.hid (B1.out.trans (hb2.mono (Nat.le_trans HP.out.nm (Below.size B1.out))))
  replace BK := Lib.hid ((hb2.block pb hpl1).trans BK.out)
  clear hb2 c29
  have c30 : w2.cell? ⟨pb, 30, none⟩ = some (.slice none 0 0) := bk_cell BK.out 29 (by decide)
  go_wp2_with fail
  refine (own69 _).mono ?_
  rintro e wx ⟨rfl, hww⟩
  subst hww
  clear c30
  have c31 : w2.cell? ⟨pb, 31, none⟩ = some (.slice none 0 0) := bk_cell BK.out 30 (by decide)
  go_wp2_with fail
  refine (own70 _).mono ?_
  rintro e wx ⟨rfl, hww⟩
  subst hww
  clear c31
  go_wp2
  go_ret
  exact ⟨rfl, B2.out⟩
end Go.Proofs.Ytimmlnfoabbbjaa
