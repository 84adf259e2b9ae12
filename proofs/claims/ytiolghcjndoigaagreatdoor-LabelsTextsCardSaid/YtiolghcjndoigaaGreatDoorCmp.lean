/-
  WALKS: labels against each other: by their names, by names and values; the library's comparison of lists; Cmp.
-/
import Derived.Test.YtiolghcjndoigaaGreatDoorBase
import Derived.Test.YtiolghcjndoigaaGreatDoorShA
import Derived.Test.YtiolghcjndoigaaGreatDoorLma
namespace Go.Proofs.YtiolghcjndoigaaGreatDoor
set_option linter.unusedVariables false
set_option linter.unusedSimpArgs false
open Go.RowKit Go.PlainAid
theorem cmp_bytes : ∀ a b : List UInt8, Lib.compareBytes a b = Lm.lexC Lm.byC a b
  | [], [] => rfl
  | [], _ :: _ => rfl
  | _ :: _, [] => rfl
  | x :: a, y :: b => by
    unfold Lib.compareBytes Lm.lexC
    have hh := Lm.byC_lin.same x y
    rw [cmp_bytes a b]
    unfold Lm.byC at *
    split
    · simp
    · split
      · simp
      · simp
theorem strcmp_any (a b : ByteArray) (w : World) : Calls Tryz.prog 111 #[.string a, .string b] w fun e w' => e = .returned (.int .i64 (Lm.strC a b)) ∧ w' = w := by
  have h := Tryz.strings_Compare a b w
  rw [cmp_bytes] at h
  exact h
/-- both labels laid in blocks of their own -/
def laid2 (w : World) (x y : Lm.Lb) : World := (w.alloc (.cells #[.string x.1, .string x.2] 94)).alloc (.cells #[.string y.1, .string y.2] 94)
theorem laid2_below (w : World) (x y : Lm.Lb) : Below w.heap.size w (laid2 w x y) := ((Below.refl _ w).alloc (Nat.le_refl _) _).alloc (by simp) _
theorem byname_any (x y : Lm.Lb) (w : World) : Calls Tryz.prog 110 #[.agg #[.string x.1, .string x.2], .agg #[.string y.1, .string y.2]] w fun e w' => e = .returned (.int .i64 (Lm.strC x.1 y.1)) ∧ w' = laid2 w x y := by
  have C := Lib.hid (fun w => strcmp_any x.1 y.1 w)
  obtain ⟨r, hr⟩ : ∃ r, Lm.strC x.1 y.1 = r := ⟨_, rfl⟩
  rw [hr] at C ⊢
  go_enter Tryz.func110, Tryz.ntmps110
  go_wp2_with (go_at_call 111; refine (C.out _).mono ?_; rintro e w' ⟨rfl, rfl⟩)
  go_ret
  exact ⟨rfl, rfl⟩
theorem laid2_cells (w : World) (x y : Lm.Lb) : (laid2 w x y).cell? ⟨w.heap.size, 0, none⟩ = some (.string x.1) ∧ (laid2 w x y).cell? ⟨w.heap.size, 1, none⟩ = some (.string x.2) ∧ (laid2 w x y).cell? ⟨w.heap.size + 1, 0, none⟩ = some (.string y.1) ∧ (laid2 w x y).cell? ⟨w.heap.size + 1, 1, none⟩ = some (.string y.2) := by
  have h1 : (laid2 w x y).heap[w.heap.size]? = some (.cells #[.string x.1, .string x.2] 94 (0, 0)) := (Below.heap_alloc _ _ _ (by simp)).trans (heap_alloc_new w _)
  have h2 : (laid2 w x y).heap[w.heap.size + 1]? = some (.cells #[.string y.1, .string y.2] 94 (0, 0)) := by
    have := heap_alloc_new (w.alloc (.cells #[.string x.1, .string x.2] 94)) (.cells #[.string y.1, .string y.2] 94)
    rwa [World.size_alloc] at this
  exact ⟨by rw [cell_of_row _ _ _ _ _ _ h1]; rfl, by rw [cell_of_row _ _ _ _ _ _ h1]; rfl, by rw [cell_of_row _ _ _ _ _ _ h2]; rfl, by rw [cell_of_row _ _ _ _ _ _ h2]; rfl⟩
/-- by names, then by values -/
theorem byboth_any (x y : Lm.Lb) (w : World) : Calls Tryz.prog 55 #[.agg #[.string x.1, .string x.2], .agg #[.string y.1, .string y.2]] w (Gives w (.int .i64 (Lm.labC x y))) := by
  have C := Lib.hid (fun w => byname_any x y w)
  have C2 := Lib.hid (fun w => strcmp_any x.2 y.2 w)
  have e0 : Lm.labC x y = if Lm.strC x.1 y.1 = 0 then Lm.strC x.2 y.2 else Lm.strC x.1 y.1 := rfl
  obtain ⟨R, hR⟩ : ∃ R, Lm.labC x y = R := ⟨_, rfl⟩
  rw [hR] at e0 ⊢
  obtain ⟨r, hr⟩ : ∃ r, Lm.strC x.1 y.1 = r := ⟨_, rfl⟩
  obtain ⟨r2, hr2⟩ : ∃ r, Lm.strC x.2 y.2 = r := ⟨_, rfl⟩
  rw [hr, hr2] at e0
  rw [hr] at C
  rw [hr2] at C2
  have E0 := Lib.hid e0
  clear e0
  obtain ⟨h1, h2, h3, h4⟩ := laid2_cells w x y
  have HB := laid2_below w x y
  change Below w.heap.size w ((w.alloc (.cells #[.string x.1, .string x.2] 94)).alloc (.cells #[.string y.1, .string y.2] 94)) at HB
  change World.cell? ((w.alloc (.cells #[.string x.1, .string x.2] 94)).alloc (.cells #[.string y.1, .string y.2] 94)) _ = _ at h1 h2 h3 h4
  obtain ⟨W, hW⟩ : ∃ W, (w.alloc (.cells #[.string x.1, .string x.2] 94)).alloc (.cells #[.string y.1, .string y.2] 94) = W := ⟨_, rfl⟩
  have E1 := Lib.hid hW
  rw [hW] at h1 h2 h3 h4 HB
  have L := Lib.hid (laid2_below W x y)
  have hs : W.heap.size = w.heap.size + 2 := by rw [← hW]; simp
  have HBB := Lib.hid (HB.trans ((laid2_below W x y).mono HB.size))
  have g1 := ((laid2_below W x y).cell (p := ⟨w.heap.size, 0, none⟩) (by show w.heap.size < _; omega)).trans h1
  have g2 := ((laid2_below W x y).cell (p := ⟨w.heap.size, 1, none⟩) (by show w.heap.size < _; omega)).trans h2
  have g3 := ((laid2_below W x y).cell (p := ⟨w.heap.size + 1, 0, none⟩) (by show w.heap.size + 1 < _; omega)).trans h3
  have g4 := ((laid2_below W x y).cell (p := ⟨w.heap.size + 1, 1, none⟩) (by show w.heap.size + 1 < _; omega)).trans h4
  obtain ⟨V, hV⟩ : ∃ V, laid2 W x y = V := ⟨_, rfl⟩
  rw [hV] at g1 g2 g3 g4 HBB
  have EV := Lib.hid hV
  have F := Lib.hid (And.intro g1 (And.intro g2 (And.intro g3 g4)))
  clear HB h1 h2 h3 h4 hs hW hR hr hr2 g1 g2 g3 g4 hV L
  go_enter Tryz.func55, Tryz.ntmps55
  go_wp2_with fail
  refine (C.out _).mono ?_
  rintro e w1 ⟨rfl, hw1⟩
  rw [E1.out, EV.out] at hw1
  subst hw1
  obtain ⟨g1, g2, g3, g4⟩ := F.out
  by_cases h0 : r = 0
  · subst h0
    have e : R = r2 := by rw [E0.out, if_pos rfl]
    subst e
    go_wp2_with (go_at_call 111; refine (C2.out _).mono ?_; rintro e w' ⟨rfl, rfl⟩)
    go_ret
    exact ⟨rfl, HBB.out⟩
  · have e : R = r := by rw [E0.out, if_neg h0]
    subst e
    go_wp2
    go_ret
    exact ⟨rfl, HBB.out⟩
/-- a list of labels as a slice -/
def Labs (w : World) (a : Option Addr) (l : List Lm.Lb) : Prop :=
  l ≠ [] → ∃ b off, a = some ⟨b, off, none⟩ ∧ b < w.heap.size ∧ ∀ i (h : i < l.length), w.cell? ⟨b, off + i * 2, none⟩ = some (.string l[i].1) ∧ w.cell? ⟨b, off + i * 2 + 1, none⟩ = some (.string l[i].2)
theorem Labs.mono {w w' : World} {a : Option Addr} {l : List Lm.Lb} (h : Labs w a l) {B : Nat} (hB : w.heap.size ≤ B) (hb : Below B w w') : Labs w' a l := fun hn => by
  obtain ⟨b, off, ha, hlt, hc⟩ := h hn
  refine ⟨b, off, ha, Nat.lt_of_lt_of_le hlt (Nat.le_trans (Nat.le_refl _) hb.size), fun i hi => ?_⟩
  obtain ⟨k1, k2⟩ := hc i hi
  exact ⟨(hb.cell (p := ⟨b, off + i * 2, none⟩) (by show b < B; omega)).trans k1, (hb.cell (p := ⟨b, off + i * 2 + 1, none⟩) (by show b < B; omega)).trans k2⟩
theorem Labs.below {w w' : World} {a : Option Addr} {l : List Lm.Lb} (h : Labs w a l) (hb : Below w.heap.size w w') : Labs w' a l := h.mono (Nat.le_refl _) hb
/-- the order of the rests decides -/
theorem labsC_step {x y : Lm.Lb} {a b : List Lm.Lb} (h : Lm.labC x y = 0) : Lm.labsC (x :: a) (y :: b) = Lm.labsC a b := by
  unfold Lm.labsC
  rw [Lm.lexC, if_pos h]
theorem labsC_stop {x y : Lm.Lb} {a b : List Lm.Lb} (h : ¬ Lm.labC x y = 0) : Lm.labsC (x :: a) (y :: b) = Lm.labC x y := by
  unfold Lm.labsC
  rw [Lm.lexC, if_neg h]
theorem eg55 : ∀ args w, (callFunc 55 args).run Tryz.prog w = .ok (.enter 55 args) w := enters_of Tryz.func55 (by kernel_rfl) rfl
/-- the library's comparison of lists -/
theorem comparefunc_any (a1 a2 : Option Addr) (c1 c2 : Nat) (l m : List Lm.Lb) (w : World) (H1 : Labs w a1 l) (H2 : Labs w a2 m) (hz : l.length ≤ maxLen) : Calls Tryz.prog 54 #[.slice a1 l.length c1, .slice a2 m.length c2, .func (.func 55) #[] #[]] w (Gives w (.int .i64 (Lm.labsC l m))) := by
  have HL := Lib.hid H1
  have HM := Lib.hid H2
  have C := Lib.hid byboth_any
  clear H1 H2
  obtain ⟨n, hn⟩ : ∃ n, l.length = n := ⟨_, rfl⟩
  obtain ⟨k2, hk2⟩ : ∃ n, m.length = n := ⟨_, rfl⟩
  have HN := Lib.hid hn
  have HK := Lib.hid hk2
  have hz' : n ≤ 9223372036854775807 := by rw [← hn]; exact hz
  rw [hn, hk2]
  clear hn hk2 hz
  go_enter Tryz.func54, Tryz.ntmps54
  go_wp2
  go_loopw [13] (fun i wr => ∃ k : Nat, k ≤ n ∧ k ≤ k2 ∧ i = .int .i64 k ∧ Hid (Below w.heap.size w wr) ∧ Hid (Lm.labsC l m = Lm.labsC (l.drop k) (m.drop k))) (fun i _ => (n - (intOf i).toNat))
  case atStart => exact ⟨0, Nat.zero_le _, Nat.zero_le _, rfl, Lib.hid (Below.refl _ _), Lib.hid rfl⟩
  case round =>
    obtain ⟨k, hk1, hk3, rfl, HB, HE⟩ := hrel
    have L1 := HL.out.below HB.out
    have L2 := HM.out.below HB.out
    by_cases hkn : k < n
    · have da : decide ((k : Int) < (n : Int)) = true := decide_eq_true (by omega)
      have da2 : decide (k < n) = true := decide_eq_true hkn
      have hkl : k < l.length := by rw [HN.out]; exact hkn
      obtain ⟨x, hx⟩ : ∃ x, l[k] = x := ⟨_, rfl⟩
      have dl : l.drop k = x :: l.drop (k + 1) := by rw [← hx]; exact List.drop_eq_getElem_cons hkl
      obtain ⟨b1, o1, rfl, hb1, hc1⟩ := L1 (by intro e; rw [e] at hkl; simp at hkl)
      obtain ⟨p1, p2⟩ := hc1 k hkl
      rw [hx] at p1 p2
      by_cases hk2 : k < k2
      · have db : decide ((k : Int) ≥ (k2 : Int)) = false := decide_eq_false (by omega)
        have db2 : decide ((k2 : Int) ≤ (k : Int)) = false := decide_eq_false (by omega)
        have db3 : decide (k2 ≤ k) = false := decide_eq_false (by omega)
        have hkm : k < m.length := by rw [HK.out]; exact hk2
        obtain ⟨y, hy⟩ : ∃ y, m[k] = y := ⟨_, rfl⟩
        have dm : m.drop k = y :: m.drop (k + 1) := by rw [← hy]; exact List.drop_eq_getElem_cons hkm
        obtain ⟨b2, o2, rfl, hb2, hc2⟩ := L2 (by intro e; rw [e] at hkm; simp at hkm)
        obtain ⟨q1, q2⟩ := hc2 k hkm
        rw [hy] at q1 q2
        have CC := Lib.hid (C.out x y)
        have E := Lib.hid (show Lm.labsC l m = if Lm.labC x y = 0 then Lm.labsC (l.drop (k + 1)) (m.drop (k + 1)) else Lm.labC x y by
          rw [HE.out, dl, dm]
          split
          · rename_i h; exact labsC_step h
          · rename_i h; exact labsC_stop h)
        obtain ⟨r, hr⟩ : ∃ r, Lm.labC x y = r := ⟨_, rfl⟩
        rw [hr] at CC E
        have eg := eg55
        clear hx hy dl dm hc1 hc2 L1 L2 hr C
        go_wp2_with fail
        refine (CC.out _).mono ?_
        rintro e w1 ⟨rfl, hb⟩
        have HB1 := Lib.hid (HB.out.trans ((((Below.refl _ wr).alloc (Nat.le_refl _) _).alloc (by simp) _).trans (hb.mono (by simp only [World.size_alloc]; omega)) |>.mono HB.out.size))
        clear hb
        by_cases h0 : r = 0
        · subst h0
          have E2 := E.out
          rw [if_pos rfl] at E2
          have E3 := Lib.hid E2
          clear E2 E
          go_wp2
          go_roundw
          case rel => exact ⟨k + 1, by omega, by omega, by simp, HB1, E3⟩
          case measure => simp [intOf]; omega
        · have E2 := E.out
          rw [if_neg h0] at E2
          have E3 := Lib.hid E2
          clear E2 E
          go_wp2
          go_ret
          exact ⟨congrArg (fun x => Ending.returned (.int .i64 x)) E3.out.symm, HB1.out⟩
      · have db : decide ((k : Int) ≥ (k2 : Int)) = true := decide_eq_true (by omega)
        have db2 : decide ((k2 : Int) ≤ (k : Int)) = true := decide_eq_true (by omega)
        have db3 : decide (k2 ≤ k) = true := decide_eq_true (by omega)
        have dm : m.drop k = [] := List.drop_eq_nil_of_le (by rw [HK.out]; omega)
        have E := Lib.hid (show Lm.labsC l m = 1 by rw [HE.out, dl, dm]; rfl)
        clear hx dl dm hc1 L2 C
        go_wp2
        go_ret
        exact ⟨congrArg (fun x => Ending.returned (.int .i64 x)) E.out.symm, (HB.out.alloc HB.out.size _)⟩
    · have hk : k = n := by omega
      subst hk
      have da : decide ((k : Int) < (k : Int)) = false := decide_eq_false (by omega)
      have da2 : decide (k < k) = false := decide_eq_false (by omega)
      have dl : l.drop k = [] := List.drop_eq_nil_of_le (by rw [HN.out]; omega)
      clear C L1 L2
      by_cases hk2 : k < k2
      · have db : decide ((k : Int) < (k2 : Int)) = true := decide_eq_true (by omega)
        have db2 : decide (k < k2) = true := decide_eq_true hk2
        have hkm : k < m.length := by rw [HK.out]; exact hk2
        have E := Lib.hid (show Lm.labsC l m = -1 by
          rw [HE.out, dl, List.drop_eq_getElem_cons hkm]; rfl)
        clear dl
        go_wp2
        go_ret
        exact ⟨congrArg (fun x => Ending.returned (.int .i64 x)) E.out.symm, HB.out⟩
      · have db : decide ((k : Int) < (k2 : Int)) = false := decide_eq_false (by omega)
        have db2 : decide (k < k2) = false := decide_eq_false hk2
        have dm : m.drop k = [] := List.drop_eq_nil_of_le (by rw [HK.out]; omega)
        have E := Lib.hid (show Lm.labsC l m = 0 by rw [HE.out, dl, dm]; rfl)
        clear dl dm
        go_wp2
        go_ret
        exact ⟨congrArg (fun x => Ending.returned (.int .i64 x)) E.out.symm, HB.out⟩
/-- Cmp -/
theorem cmp_any (a1 a2 : Option Addr) (c1 c2 : Nat) (l m : List Lm.Lb) (w : World) (H1 : Labs w a1 l) (H2 : Labs w a2 m) (hz : l.length ≤ maxLen) : Calls Tryz.prog 13 #[.slice a1 l.length c1, .slice a2 m.length c2] w (Gives w (.int .i64 (Lm.labsC l m))) := by
  have C := Lib.hid (comparefunc_any a1 a2 c1 c2 l m w H1 H2 hz)
  obtain ⟨r, hr⟩ : ∃ r, Lm.labsC l m = r := ⟨_, rfl⟩
  rw [hr] at C ⊢
  clear H1 H2 hz
  obtain ⟨n, hn⟩ : ∃ n, l.length = n := ⟨_, rfl⟩
  obtain ⟨k, hk⟩ : ∃ n, m.length = n := ⟨_, rfl⟩
  rw [hn, hk] at C ⊢
  go_enter Tryz.func13, Tryz.ntmps13
  go_wp2_with (go_at_call 54; refine C.out.mono ?_; rintro e w' ⟨rfl, hb⟩)
  go_ret
  exact ⟨rfl, hb⟩
end Go.Proofs.YtiolghcjndoigaaGreatDoor
