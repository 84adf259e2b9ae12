/-
  WALKS: the reference: Set, walked.
-/
import Derived.Test.YtiolghcjndoigaaGreatDoorRis
import Derived.Test.YtiolghcjndoigaaGreatDoorLes
import Derived.Test.YtiolghcjndoigaaGreatDoorRck
namespace Go.Proofs.YtiolghcjndoigaaGreatDoor
set_option linter.unusedVariables false
set_option linter.unusedSimpArgs false
open Go.RowKit Go.PlainAid Go.Shelf
theorem toList_eqb (x y : ByteArray) : (x.toList == y.toList) = decide (x = y) := by
  have := toList_iff x y
  by_cases e : x = y
  · rw [decide_eq_true e, e]; simp
  · rw [decide_eq_false e]; simpa using fun h => e (this.1 h)
set_option maxHeartbeats 2000000 in
theorem rcmp_any (a1 a2 : Option Addr) (c1 c2 : Nat) (l m : List Lm.Lb) (w : World) (H1 : Labs w a1 l) (H2 : Labs w a2 m) (hz : l.length ≤ maxLen) : Calls Tryz.prog 21 #[.slice a1 l.length c1, .slice a2 m.length c2] w (Gives w (.int .i64 (Lm.labsC l m))) := by
  have HL := Lib.hid H1
  have HM := Lib.hid H2
  clear H1 H2
  obtain ⟨n, hn⟩ : ∃ n, l.length = n := ⟨_, rfl⟩
  obtain ⟨k2, hk2⟩ : ∃ n, m.length = n := ⟨_, rfl⟩
  have HN := Lib.hid hn
  have HK := Lib.hid hk2
  have hz' : n ≤ 9223372036854775807 := by rw [← hn]; exact hz
  rw [hn, hk2]
  clear hn hk2 hz
  go_enter Tryz.func21, Tryz.ntmps21
  go_wp2
  go_loopw [5] (fun i wr => ∃ k : Nat, k ≤ n ∧ k ≤ k2 ∧ i = .int .i64 k ∧ Hid (Below w.heap.size w wr) ∧ Hid (Lm.labsC l m = Lm.labsC (l.drop k) (m.drop k))) (fun i _ => (n - (intOf i).toNat))
  case atStart => exact ⟨0, Nat.zero_le _, Nat.zero_le _, rfl, Lib.hid (Below.refl _ _), Lib.hid rfl⟩
  case round =>
    obtain ⟨k, hk1, hk3, rfl, HB, HE⟩ := hrel
    have L1 := HL.out.below HB.out
    have L2 := HM.out.below HB.out
    by_cases hkn : k < n
    · have da : decide ((k : Int) < (n : Int)) = true := decide_eq_true (by omega)
      have da2 : decide (k < n) = true := decide_eq_true hkn
      have hkl : k < l.length := by rw [HN.out]; exact hkn
      obtain ⟨⟨x1, x2⟩, hx⟩ : ∃ x, l[k] = x := ⟨_, rfl⟩
      have dl : l.drop k = (x1, x2) :: l.drop (k + 1) := by rw [← hx]; exact List.drop_eq_getElem_cons hkl
      obtain ⟨b1, o1, rfl, hb1, hc1⟩ := L1 (by intro e; rw [e] at hkl; simp at hkl)
      obtain ⟨p1, p2⟩ := hc1 k hkl
      rw [hx] at p1 p2
      simp only at p1 p2
      by_cases hk2 : k < k2
      · have db : decide ((k : Int) < (k2 : Int)) = true := decide_eq_true (by omega)
        have db2 : decide (k < k2) = true := decide_eq_true hk2
        have hkm : k < m.length := by rw [HK.out]; exact hk2
        obtain ⟨⟨y1, y2⟩, hy⟩ : ∃ y, m[k] = y := ⟨_, rfl⟩
        have dm : m.drop k = (y1, y2) :: m.drop (k + 1) := by rw [← hy]; exact List.drop_eq_getElem_cons hkm
        obtain ⟨b2, o2, rfl, hb2, hc2⟩ := L2 (by intro e; rw [e] at hkm; simp at hkm)
        obtain ⟨q1, q2⟩ := hc2 k hkm
        rw [hy] at q1 q2
        simp only at q1 q2
        have E := Lib.hid (show Lm.labsC l m = if Lm.labC (x1, x2) (y1, y2) = 0 then Lm.labsC (l.drop (k + 1)) (m.drop (k + 1)) else Lm.labC (x1, x2) (y1, y2) by
          rw [HE.out, dl, dm]
          split
          · rename_i h; exact labsC_step h
          · rename_i h; exact labsC_stop h)
        have EC := Lib.hid (show Lm.labC (x1, x2) (y1, y2) = if Lm.strC x1 y1 = 0 then Lm.strC x2 y2 else Lm.strC x1 y1 from rfl)
        have f1 := less_strC x1 y1
        have f2 := less_strC x2 y2
        have g1 := toList_eqb x1 y1
        have s1 := Lm.strC_lin.same x1 y1
        have s2 := Lm.strC_lin.same x2 y2
        have lo1 := Lm.strC_lin.lo x1 y1
        have hi1 := Lm.strC_lin.hi x1 y1
        have lo2 := Lm.strC_lin.lo x2 y2
        have hi2 := Lm.strC_lin.hi x2 y2
        have i1 : (k : Int) < (n : Int) := by omega
        have i2 : (k : Int) < (k2 : Int) := by omega
        clear hx hy dl dm hc1 hc2 L1 L2
        have hne := fun W => neq94 (x1, x2) (y1, y2) W
        simp only at hne
        by_cases c1' : Lm.strC x1 y1 < 0
        · rw [decide_eq_true c1'] at f1
          have EX := Lib.hid (show Lm.labsC l m = -1 by rw [E.out, EC.out, if_neg (by omega), if_neg (by omega)]; omega)
          clear s1 s2 lo1 hi1 lo2 hi2 f2 hne c1'
          go_wp2_with (go_quiet (fail))
          go_ret
          exact ⟨congrArg (fun x => Ending.returned (.int .i64 x)) EX.out.symm, (by have := HB.out; exact ⟨this.os, this.tape, this.output, this.size, this.block⟩)⟩
        · rw [decide_eq_false c1'] at f1
          by_cases c2' : Lm.strC x1 y1 = 0
          · have e1 := s1.1 c2'
            subst e1
            have ga : x1.toList = x1.toList := rfl
            rw [decide_eq_true rfl] at g1
            by_cases c3' : Lm.strC x2 y2 < 0
            · rw [decide_eq_true c3'] at f2
              have EX := Lib.hid (show Lm.labsC l m = -1 by rw [E.out, EC.out, if_pos c2', if_neg (by omega)]; omega)
              clear s1 s2 lo1 hi1 lo2 hi2 hne c1' c2' c3'
              go_wp2_with (go_quiet (fail))
              go_ret
              exact ⟨congrArg (fun x => Ending.returned (.int .i64 x)) EX.out.symm, (by have := HB.out; exact ⟨this.os, this.tape, this.output, this.size, this.block⟩)⟩
            · rw [decide_eq_false c3'] at f2
              by_cases c4' : Lm.strC x2 y2 = 0
              · have e2 := s2.1 c4'
                subst e2
                have hd : (!decide ((x1, x2) = (x1, x2))) = false := by rw [decide_eq_true rfl]; rfl
                rw [hd] at hne
                have EX := Lib.hid (show Lm.labsC l m = Lm.labsC (l.drop (k + 1)) (m.drop (k + 1)) by rw [E.out, EC.out, if_pos c2', if_pos c4'])
                clear s1 s2 lo1 hi1 lo2 hi2 c1' c2' c3' c4' hd
                go_wp2_with (go_quiet (fail))
                go_roundw
                case rel => exact ⟨k + 1, by omega, by omega, by simp, Lib.hid (by have := HB.out; exact ⟨this.os, this.tape, this.output, this.size, this.block⟩), EX⟩
                case measure => simp [intOf]; omega
              · have hd : (!decide ((x1, x2) = (x1, y2))) = true := by rw [decide_eq_false (fun h => c4' (s2.2 (congrArg Prod.snd h)))]; rfl
                rw [hd] at hne
                have EX := Lib.hid (show Lm.labsC l m = 1 by rw [E.out, EC.out, if_pos c2', if_neg c4']; omega)
                clear s1 s2 lo1 hi1 lo2 hi2 c1' c2' c3' c4' hd
                go_wp2_with (go_quiet (fail))
                go_ret
                exact ⟨congrArg (fun x => Ending.returned (.int .i64 x)) EX.out.symm, (by have := HB.out; exact ⟨this.os, this.tape, this.output, this.size, this.block⟩)⟩
          · have hnx : ¬ x1 = y1 := fun h => c2' (s1.2 h)
            have ga : ¬ x1.toList = y1.toList := fun e => hnx ((toList_iff x1 y1).1 e)
            rw [decide_eq_false hnx] at g1
            have hd : (!decide ((x1, x2) = (y1, y2))) = true := by rw [decide_eq_false (fun h => hnx (congrArg Prod.fst h))]; rfl
            rw [hd] at hne
            have EX := Lib.hid (show Lm.labsC l m = 1 by rw [E.out, EC.out, if_neg c2', if_neg c2']; omega)
            clear s1 s2 lo1 hi1 lo2 hi2 c1' c2' f2 hnx hd
            go_wp2_with (go_quiet (fail))
            go_ret
            exact ⟨congrArg (fun x => Ending.returned (.int .i64 x)) EX.out.symm, (by have := HB.out; exact ⟨this.os, this.tape, this.output, this.size, this.block⟩)⟩
      · have hkk : k = k2 := by omega
        have db : decide ((k : Int) < (k2 : Int)) = false := decide_eq_false (by omega)
        have db2 : decide (k < k2) = false := decide_eq_false hk2
        have dm : m.drop k = [] := List.drop_eq_nil_of_le (by rw [HK.out]; omega)
        have E := Lib.hid (show Lm.labsC l m = 1 by rw [HE.out, dl, dm]; rfl)
        have dc : decide ((n : Int) < (k2 : Int)) = false := decide_eq_false (by omega)
        have dc2 : decide (n < k2) = false := decide_eq_false (by omega)
        have dd : decide ((n : Int) > (k2 : Int)) = true := decide_eq_true (by omega)
        have dd2 : decide ((k2 : Int) < (n : Int)) = true := decide_eq_true (by omega)
        have dd3 : decide (k2 < n) = true := decide_eq_true (by omega)
        clear hx dl dm hc1 L2
        go_wp2
        go_ret
        exact ⟨congrArg (fun x => Ending.returned (.int .i64 x)) E.out.symm, HB.out⟩
    · have hk : k = n := by omega
      subst hk
      have da : decide ((k : Int) < (k : Int)) = false := decide_eq_false (by omega)
      have da2 : decide (k < k) = false := decide_eq_false (by omega)
      have dl : l.drop k = [] := List.drop_eq_nil_of_le (by rw [HN.out]; omega)
      clear L1 L2
      by_cases hk2 : k < k2
      · have db : decide ((k : Int) < (k2 : Int)) = true := decide_eq_true (by omega)
        have db2 : decide (k < k2) = true := decide_eq_true hk2
        have hkm : k < m.length := by rw [HK.out]; exact hk2
        have E := Lib.hid (show Lm.labsC l m = -1 by
          rw [HE.out, dl, List.drop_eq_getElem_cons hkm]; rfl)
        clear dl
        go_wp2
        go_ret
        exact ⟨congrArg (fun x => Ending.returned (.int .i64 x)) E.out.symm, HB.out⟩
      · have hkk : k = k2 := by omega
        subst hkk
        have dd : decide ((k : Int) > (k : Int)) = false := decide_eq_false (by omega)
        have dm : m.drop k = [] := List.drop_eq_nil_of_le (by rw [HK.out]; omega)
        have E := Lib.hid (show Lm.labsC l m = 0 by rw [HE.out, dl, dm]; rfl)
        clear dl dm
        go_wp2
        go_ret
        exact ⟨congrArg (fun x => Ending.returned (.int .i64 x)) E.out.symm, HB.out⟩
end Go.Proofs.YtiolghcjndoigaaGreatDoor
namespace Go.Proofs.YtiolghcjndoigaaGreatDoor
set_option linter.unusedVariables false
set_option linter.unusedSimpArgs false
open Go.RowKit Go.PlainAid Go.Shelf
/-- a label at its place -/
def insL (x : Lm.Lb) : List Lm.Lb → List Lm.Lb
  | [] => [x]
  | y :: t => if Lm.strC y.1 x.1 ≤ 0 then y :: insL x t else x :: y :: t
theorem labs_drop (a : Option Addr) (n c k : Nat) (hk : k ≤ n) (hc : n ≤ c) :
    ∃ a', (∀ w, (Instr.slice 22 (.slice a n c) (some (.int .i64 ((k : Nat) : Int))) none none).run Tryz.prog w = .ok (.slice a' (n - k) (c - k)) w) ∧ (a = none → a' = none) ∧ (∀ ad, a = some ad → ∃ ad', a' = some ad') ∧ ∀ w (l : List Lm.Lb), l.length = n → Labs w a l → Labs w a' (l.drop k) := by
  refine ⟨if c = k then a else a.map (·.add (k * 2)), fun w => ?_, fun h => ?_, fun ad h => ?_, fun w l hl H hn => ?_⟩
  · rw [run_slice_l w 22 a n c (show Tryz.prog.underlying 22 = some (.slice (Tryz.prog.elem 22)) by kernel_rfl) .i64 (k : Int) (by omega) (by omega)]
    rw [show (sizeOf (Tryz.prog.elem 22)).run Tryz.prog w = .ok 2 w by kernel_rfl]
    rfl
  · subst h; split <;> rfl
  · subst h
    split
    · exact ⟨_, rfl⟩
    · exact ⟨_, rfl⟩
  · have h1 : k < l.length := by
      refine Decidable.by_contra fun h => hn (List.drop_eq_nil_of_le (by omega))
    obtain ⟨b, off, rfl, hlt, hcl⟩ := H (by intro e; rw [e] at h1; simp at h1)
    rw [if_neg (by omega)]
    refine ⟨b, off + k * 2, congrArg some (add_at b off (k * 2)), hlt, fun i hi => ?_⟩
    rw [List.length_drop] at hi
    have := hcl (k + i) (by omega)
    rw [List.getElem_drop, Nat.add_assoc, show k * 2 + i * 2 = (k + i) * 2 by omega]
    exact this
set_option maxRecDepth 100000 in
set_option maxHeartbeats 4000000 in
theorem rinto_some (ad : Addr) (c : Nat) (l : List Lm.Lb) (x : Lm.Lb) (w : World) (H : Labs w (some ad) l) (hz : l.length ≤ 100000) (hc : l.length ≤ c) :
    Calls Tryz.prog 57 #[.slice (some ad) l.length c, .agg #[.string x.1, .string x.2]] w fun e w' => ∃ v, e = .returned v ∧ OwnL w' w.heap.size v (insL x l) ∧ Below w.heap.size w w' := by
  obtain ⟨i0, hi, hz0, hz1, hz2⟩ := info_parts info94
  obtain ⟨x1, x2⟩ := x
  simp only
  have hA : Below w.heap.size w (w.alloc (.cells #[.string x1, .string x2] 94)) := (Below.refl _ w).alloc (Nat.le_refl _) _
  have HA := Lib.hid hA
  have HL := Lib.hid (H.below hA)
  have HX := Lib.hid (show (w.alloc (.cells #[.string x1, .string x2] 94)).cell? ⟨w.heap.size, 0, none⟩ = some (.string x1) ∧ (w.alloc (.cells #[.string x1, .string x2] 94)).cell? ⟨w.heap.size, 1, none⟩ = some (.string x2) from by
    rw [cell_of_row _ _ _ _ _ _ (heap_alloc_new w _), cell_of_row _ _ _ _ _ _ (heap_alloc_new w _)]
    exact ⟨rfl, rfl⟩)
  obtain ⟨w0, hw0⟩ : ∃ w0, w.alloc (.cells #[.string x1, .string x2] 94) = w0 := ⟨_, rfl⟩
  have hsz0 : w0.heap.size = w.heap.size + 1 := by rw [← hw0]; simp
  obtain ⟨n, hn⟩ : ∃ n, l.length = n := ⟨_, rfl⟩
  have HN := Lib.hid hn
  rw [hn] at hz hc ⊢
  rw [hw0] at HA HL HX
  clear H hn hA
  go_enter Tryz.func57, Tryz.ntmps57
  go_wp2
  clear hw0
  go_loopw [5, 6] (fun v i wr => ∃ k : Nat, k ≤ n ∧ i = .int .i64 (k : Nat) ∧ Hid (OwnL wr w0.heap.size v (l.take k)) ∧ Hid (Below w0.heap.size w0 wr) ∧ Hid (insL (x1, x2) l = l.take k ++ insL (x1, x2) (l.drop k))) (fun _ i _ => n - (intOf i).toNat)
  case atStart => exact ⟨0, Nat.zero_le _, rfl, Lib.hid (World.ownsRow_nil _ _ _ _), Lib.hid (Below.refl _ _), Lib.hid rfl⟩
  case round =>
    obtain ⟨k, hk, rfl, HO, HB, HE⟩ := hrel
    obtain ⟨av, cv, rfl⟩ := ownL_shape HO.out
    have hkt : (l.take k).length = k := by rw [List.length_take, HN.out]; omega
    have HKT := Lib.hid hkt
    rw [hkt] at HO ⊢
    clear hkt
    by_cases hkn : k < n
    · have da : decide ((k : Int) < (n : Int)) = true := decide_eq_true (by omega)
      have da2 : decide (k < n) = true := decide_eq_true hkn
      have i1 : (k : Int) < (n : Int) := by omega
      have hkl : k < l.length := by rw [HN.out]; exact hkn
      obtain ⟨b1, o1, had, hb1, hc1⟩ := (HL.out.below HB.out) (by intro e; rw [e] at hkl; simp at hkl)
      cases had
      obtain ⟨p1, p2⟩ := hc1 k hkl
      obtain ⟨⟨y1, y2⟩, hy⟩ : ∃ x, l[k] = x := ⟨_, rfl⟩
      rw [hy] at p1 p2
      simp only at p1 p2
      obtain ⟨z1, z2⟩ := HX.out
      have q1 := (HB.out.cell (p := ⟨w.heap.size, 0, none⟩) (by simp; omega)).trans z1
      have hl := less_strC y1 x1
      have hq := toList_eqb y1 x1
      have hs := Lm.strC_lin.same y1 x1
      have dk : l.drop k = (y1, y2) :: l.drop (k + 1) := by rw [← hy]; exact List.drop_eq_getElem_cons hkl
      have HP := Lib.hid (show ∀ wq, Below wr.heap.size wr wq → wq.cell? ⟨b1, o1 + k * 2, none⟩ = some (.string y1) ∧ wq.cell? ⟨b1, o1 + k * 2 + 1, none⟩ = some (.string y2) from fun wq hb => ⟨(hb.cell (p := ⟨b1, o1 + k * 2, none⟩) hb1).trans p1, (hb.cell (p := ⟨b1, o1 + k * 2 + 1, none⟩) hb1).trans p2⟩)
      clear z1 z2 hc1
      by_cases hr : Lm.strC y1 x1 ≤ 0
      · have hor : (Op.bytesLess y1.toList x1.toList || y1.toList == x1.toList) = true := by
          rw [hl, hq]
          by_cases e : Lm.strC y1 x1 < 0
          · rw [decide_eq_true e]; rfl
          · rw [decide_eq_true (hs.1 (by omega)), Bool.or_true]
        have HT := Lib.hid (show l.take (k + 1) = l.take k ++ [(y1, y2)] by rw [List.take_succ_eq_append_getElem hkl, hy])
        have HE2 := Lib.hid (show insL (x1, x2) l = l.take (k + 1) ++ insL (x1, x2) (l.drop (k + 1)) by
          rw [HE.out, dk, HT.out, insL, if_pos hr, List.append_assoc]; rfl)
        clear hl hq hs hy dk
        go_wp2_with fail
        go_quiet (fail)
        obtain ⟨w1, hw1⟩ : ∃ w1, wr.drewN nq = w1 := ⟨_, rfl⟩
        have BQ : Below wr.heap.size wr w1 := by rw [← hw1]; exact below_drewN (Below.refl _ _) _
        rw [hw1]
        clear hw1
        have B1 := Lib.hid (HB.out.trans (BQ.mono HB.out.size))
        have O1 := Lib.hid (HO.out.below BQ)
        have hw1s : w0.heap.size ≤ w1.heap.size := B1.out.size
        have HON1 : Hid (∀ o : Obj, (w1.alloc o).ownsRow w0.heap.size 94 2 (.slice av k cv) k ((l.take k).flatMap enc2)) := Lib.hid (fun o => by
          have h := O1.out.below ((Below.refl w1.heap.size w1).alloc (Nat.le_refl _) o)
          unfold OwnL at h
          rw [HKT.out] at h
          exact h)
        have HOB := Lib.hid (ownL_block O1.out)
        obtain ⟨m1, m2⟩ := HP.out w1 BQ
        clear BQ p1 p2 q1
        go_wp2_with (first
          | (at_builtin; refine wpList_append_own _ rfl (.tmp 21) (.tmp 26) 22 rfl w0.heap.size 94 i0 (.agg #[.string ⟨#[]⟩, .string ⟨#[]⟩]) 2 32 Tryz.underlying22 hi hz0 hz1 hz2 rfl (by decide) (.slice av k cv) k ((l.take k).flatMap enc2) rfl (HON1.out _) ⟨w1.heap.size, 0, none⟩ 1 1 (enc2 (y1, y2)) rfl rfl (two_new w1 (y1, y2)) (by simp [Value.oneCell', enc2]) (by unfold maxLen; omega) (by omega) (by simp; omega) ?_; intro v5 w5 hown5 hgr5 hne5
             have g1 : OwnL w5 w0.heap.size v5 (l.take k ++ [(y1, y2)]) := (by unfold OwnL; rw [List.length_append, List.flatMap_append, HKT.out]; simpa using hown5)
             have hbA : Below w1.heap.size w1 (w1.alloc (.cells #[.string y1, .string y2] 94)) := (Below.refl _ w1).alloc (Nat.le_refl _) _
             have B5 := Lib.hid ((B1.out.trans (hbA.mono hw1s)).grown hgr5 (by simp; omega) (fun j hj => HOB.out j hj))
             have O5 := Lib.hid g1
             obtain ⟨a5, c5, rfl⟩ := ownL_shape g1
             have hk5 : (l.take k ++ [(y1, y2)]).length = k + 1 := by rw [List.length_append, HKT.out]; rfl
             rw [hk5] at O5 ⊢
             clear hown5 hgr5 hne5 g1 hbA)
          | fail)
        go_roundw
        case rel => exact ⟨k + 1, by omega, by simp, Lib.hid (by rw [HT.out]; exact O5.out), B5, HE2⟩
        case measure => simp [intOf]; omega
      · rw [decide_eq_false (by omega)] at hl
        rw [decide_eq_false (fun e => by have := hs.2 e; omega)] at hq
        have HI := Lib.hid (show insL (x1, x2) l = (l.take k ++ [(x1, x2)]) ++ l.drop k by
          rw [HE.out, dk, insL, if_neg hr, List.append_assoc]; rfl)
        clear hs hy dk hr
        obtain ⟨a', hs, hn1, hn2, hld⟩ := labs_drop (some ⟨b1, o1, none⟩) n c k hk hc
        obtain ⟨ad', rfl⟩ := hn2 _ rfl
        have HLD := Lib.hid hld
        obtain ⟨m, hm⟩ : ∃ m, n - k = m := ⟨_, rfl⟩
        obtain ⟨cm, hcm⟩ : ∃ m, c - k = m := ⟨_, rfl⟩
        have HMM := Lib.hid hm
        have HDL := Lib.hid (show ((l.drop k).flatMap enc2).length = m * 2 by rw [flat2_len, List.length_drop, HN.out, hm])
        have hnk : m ≤ n := by omega
        rw [hm, hcm] at hs
        have hkc : k ≤ c := by omega
        clear hn1 hn2 hld hm hcm
        go_wp2_with fail
        go_quiet (fail)
        obtain ⟨w1, hw1⟩ : ∃ w1, wr.drewN nq = w1 := ⟨_, rfl⟩
        have BQ : Below wr.heap.size wr w1 := by rw [← hw1]; exact below_drewN (Below.refl _ _) _
        rw [hw1]
        clear hw1
        have B1 := Lib.hid (HB.out.trans (BQ.mono HB.out.size))
        have O1 := Lib.hid (HO.out.below BQ)
        have hw1s : w0.heap.size ≤ w1.heap.size := B1.out.size
        have HON1 : Hid (∀ o : Obj, (w1.alloc o).ownsRow w0.heap.size 94 2 (.slice av k cv) k ((l.take k).flatMap enc2)) := Lib.hid (fun o => by
          have h := O1.out.below ((Below.refl w1.heap.size w1).alloc (Nat.le_refl _) o)
          unfold OwnL at h
          rw [HKT.out] at h
          exact h)
        have HOB := Lib.hid (ownL_block O1.out)
        clear BQ
        obtain ⟨bx1, bx2⟩ := HX.out
        have by1 := (B1.out.cell (p := ⟨w.heap.size, 0, none⟩) (by simp; omega)).trans bx1
        have by2 := (B1.out.cell (p := ⟨w.heap.size, 1, none⟩) (by simp; omega)).trans bx2
        clear bx1 bx2
        go_wp2_with (first
          | (at_builtin; refine wpList_append_own _ rfl (.tmp 30) (.tmp 32) 22 rfl w0.heap.size 94 i0 (.agg #[.string ⟨#[]⟩, .string ⟨#[]⟩]) 2 32 Tryz.underlying22 hi hz0 hz1 hz2 rfl (by decide) (.slice av k cv) k ((l.take k).flatMap enc2) rfl (HON1.out _) ⟨w1.heap.size, 0, none⟩ 1 1 (enc2 (x1, x2)) rfl rfl (two_new w1 (x1, x2)) (by simp [Value.oneCell', enc2]) (by unfold maxLen; omega) (by omega) (by simp; omega) ?_; intro v5 w5 hown5 hgr5 hne5
             have g1 : OwnL w5 w0.heap.size v5 (l.take k ++ [(x1, x2)]) := (by unfold OwnL; rw [List.length_append, List.flatMap_append, HKT.out]; simpa using hown5)
             have hbA : Below w1.heap.size w1 (w1.alloc (.cells #[.string x1, .string x2] 94)) := (Below.refl _ w1).alloc (Nat.le_refl _) _
             have B5 := Lib.hid ((B1.out.trans (hbA.mono hw1s)).grown hgr5 (by simp; omega) (fun j hj => HOB.out j hj))
             obtain ⟨a5, c5, rfl⟩ := ownL_shape g1
             have hk5 : (l.take k ++ [(x1, x2)]).length = k + 1 := by rw [List.length_append, HKT.out]; rfl
             have HOB5 := Lib.hid (ownL_block g1)
             have HON5 : Hid (w5.ownsRow w0.heap.size 94 2 (.slice a5 (k + 1) c5) (k + 1) ((l.take k ++ [(x1, x2)]).flatMap enc2)) := Lib.hid (by have h := g1; unfold OwnL at h; rw [hk5] at h; exact h)
             have HLN := Lib.hid (labs_news (HLD.out w5 l HN.out (HL.out.below B5.out)))
             have hw5s : w0.heap.size ≤ w5.heap.size := B5.out.size
             rw [hk5] at HOB5 ⊢
             clear hown5 hgr5 hne5 g1 hbA by1 by2)
          | (at_builtin; refine wpList_append_own _ rfl (.tmp 34) (.tmp 37) 22 rfl w0.heap.size 94 i0 (.agg #[.string ⟨#[]⟩, .string ⟨#[]⟩]) 2 32 Tryz.underlying22 hi hz0 hz1 hz2 rfl (by decide) (.slice a5 (k + 1) c5) (k + 1) ((l.take k ++ [(x1, x2)]).flatMap enc2) rfl HON5.out ad' m cm ((l.drop k).flatMap enc2) rfl HDL.out HLN.out (enc2_one _) (by unfold maxLen; omega) (by omega) hw5s ?_; intro v6 w6 hown6 hgr6 hne6
             have hk6 : ((l.take k ++ [(x1, x2)]) ++ l.drop k).length = k + 1 + m := by rw [List.length_append, hk5, List.length_drop, HN.out, HMM.out]
             have g2 : OwnL w6 w0.heap.size v6 ((l.take k ++ [(x1, x2)]) ++ l.drop k) := (by unfold OwnL; rw [hk6, List.flatMap_append]; exact hown6)
             have O6 := Lib.hid g2
             have B6 := Lib.hid (B5.out.grown hgr6 hw5s (fun j hj => HOB5.out j hj))
             clear hown6 hgr6 hne6 g2)
          | fail)
        go_ret
        exact ⟨_, rfl, by rw [HI.out]; exact O6.out.lower (by omega), HA.out.trans (B6.out.mono (by omega))⟩
    · have hkn2 : k = n := by omega
      have da : decide ((k : Int) < (n : Int)) = false := decide_eq_false (by omega)
      have da2 : decide (k < n) = false := decide_eq_false hkn
      have HI := Lib.hid (show insL (x1, x2) l = (l.take k ++ [(x1, x2)]) ++ l.drop k by
        rw [HE.out, List.drop_eq_nil_of_le (by rw [HN.out]; omega), List.append_nil]; rfl)
      obtain ⟨a', hs, hn1, hn2, hld⟩ := labs_drop (some ad) n c k hk hc
      obtain ⟨ad', rfl⟩ := hn2 ad rfl
      have HLD := Lib.hid hld
      obtain ⟨m, hm⟩ : ∃ m, n - k = m := ⟨_, rfl⟩
      obtain ⟨cm, hcm⟩ : ∃ m, c - k = m := ⟨_, rfl⟩
      have HMM := Lib.hid hm
      have HDL := Lib.hid (show ((l.drop k).flatMap enc2).length = m * 2 by rw [flat2_len, List.length_drop, HN.out, hm])
      have hnk : m ≤ n := by omega
      rw [hm, hcm] at hs
      have hkc : k ≤ c := by omega
      clear hn1 hn2 hld hm hcm hkn2
      go_wp2_with fail
      go_quiet (fail)
      obtain ⟨w1, hw1⟩ : ∃ w1, wr.drewN nq = w1 := ⟨_, rfl⟩
      have BQ : Below wr.heap.size wr w1 := by rw [← hw1]; exact below_drewN (Below.refl _ _) _
      rw [hw1]
      clear hw1
      have B1 := Lib.hid (HB.out.trans (BQ.mono HB.out.size))
      have O1 := Lib.hid (HO.out.below BQ)
      have hw1s : w0.heap.size ≤ w1.heap.size := B1.out.size
      have HON1 : Hid (∀ o : Obj, (w1.alloc o).ownsRow w0.heap.size 94 2 (.slice av k cv) k ((l.take k).flatMap enc2)) := Lib.hid (fun o => by
        have h := O1.out.below ((Below.refl w1.heap.size w1).alloc (Nat.le_refl _) o)
        unfold OwnL at h
        rw [HKT.out] at h
        exact h)
      have HOB := Lib.hid (ownL_block O1.out)
      clear BQ
      obtain ⟨bx1, bx2⟩ := HX.out
      have by1 := (B1.out.cell (p := ⟨w.heap.size, 0, none⟩) (by simp; omega)).trans bx1
      have by2 := (B1.out.cell (p := ⟨w.heap.size, 1, none⟩) (by simp; omega)).trans bx2
      clear bx1 bx2
      go_wp2_with (first
        | (at_builtin; refine wpList_append_own _ rfl (.tmp 30) (.tmp 32) 22 rfl w0.heap.size 94 i0 (.agg #[.string ⟨#[]⟩, .string ⟨#[]⟩]) 2 32 Tryz.underlying22 hi hz0 hz1 hz2 rfl (by decide) (.slice av k cv) k ((l.take k).flatMap enc2) rfl (HON1.out _) ⟨w1.heap.size, 0, none⟩ 1 1 (enc2 (x1, x2)) rfl rfl (two_new w1 (x1, x2)) (by simp [Value.oneCell', enc2]) (by unfold maxLen; omega) (by omega) (by simp; omega) ?_; intro v5 w5 hown5 hgr5 hne5
           have g1 : OwnL w5 w0.heap.size v5 (l.take k ++ [(x1, x2)]) := (by unfold OwnL; rw [List.length_append, List.flatMap_append, HKT.out]; simpa using hown5)
           have hbA : Below w1.heap.size w1 (w1.alloc (.cells #[.string x1, .string x2] 94)) := (Below.refl _ w1).alloc (Nat.le_refl _) _
           have B5 := Lib.hid ((B1.out.trans (hbA.mono hw1s)).grown hgr5 (by simp; omega) (fun j hj => HOB.out j hj))
           obtain ⟨a5, c5, rfl⟩ := ownL_shape g1
           have hk5 : (l.take k ++ [(x1, x2)]).length = k + 1 := by rw [List.length_append, HKT.out]; rfl
           have HOB5 := Lib.hid (ownL_block g1)
           have HON5 : Hid (w5.ownsRow w0.heap.size 94 2 (.slice a5 (k + 1) c5) (k + 1) ((l.take k ++ [(x1, x2)]).flatMap enc2)) := Lib.hid (by have h := g1; unfold OwnL at h; rw [hk5] at h; exact h)
           have HLN := Lib.hid (labs_news (HLD.out w5 l HN.out (HL.out.below B5.out)))
           have hw5s : w0.heap.size ≤ w5.heap.size := B5.out.size
           rw [hk5] at HOB5 ⊢
           clear hown5 hgr5 hne5 g1 hbA by1 by2)
        | (at_builtin; refine wpList_append_own _ rfl (.tmp 34) (.tmp 37) 22 rfl w0.heap.size 94 i0 (.agg #[.string ⟨#[]⟩, .string ⟨#[]⟩]) 2 32 Tryz.underlying22 hi hz0 hz1 hz2 rfl (by decide) (.slice a5 (k + 1) c5) (k + 1) ((l.take k ++ [(x1, x2)]).flatMap enc2) rfl HON5.out ad' m cm ((l.drop k).flatMap enc2) rfl HDL.out HLN.out (enc2_one _) (by unfold maxLen; omega) (by omega) hw5s ?_; intro v6 w6 hown6 hgr6 hne6
           have hk6 : ((l.take k ++ [(x1, x2)]) ++ l.drop k).length = k + 1 + m := by rw [List.length_append, hk5, List.length_drop, HN.out, HMM.out]
           have g2 : OwnL w6 w0.heap.size v6 ((l.take k ++ [(x1, x2)]) ++ l.drop k) := (by unfold OwnL; rw [hk6, List.flatMap_append]; exact hown6)
           have O6 := Lib.hid g2
           have B6 := Lib.hid (B5.out.grown hgr6 hw5s (fun j hj => HOB5.out j hj))
           clear hown6 hgr6 hne6 g2)
        | fail)
      go_ret
      exact ⟨_, rfl, by rw [HI.out]; exact O6.out.lower (by omega), HA.out.trans (B6.out.mono (by omega))⟩
end Go.Proofs.YtiolghcjndoigaaGreatDoor
namespace Go.Proofs.YtiolghcjndoigaaGreatDoor
set_option linter.unusedVariables false
set_option linter.unusedSimpArgs false
open Go.RowKit Go.PlainAid Go.Shelf
set_option maxRecDepth 100000 in
set_option maxHeartbeats 2000000 in
theorem rinto_nil (x : Lm.Lb) (w : World) :
    Calls Tryz.prog 57 #[.slice none 0 0, .agg #[.string x.1, .string x.2]] w fun e w' => ∃ v, e = .returned v ∧ OwnL w' w.heap.size v [x] ∧ Below w.heap.size w w' := by
  obtain ⟨i0, hi, hz0, hz1, hz2⟩ := info_parts info94
  obtain ⟨a', hs, hn1, _, _⟩ := labs_drop none 0 0 0 (Nat.le_refl _) (Nat.le_refl _)
  rw [hn1 rfl] at hs
  have hs' : ∀ w, (Instr.slice 22 (.slice none 0 0) (some (.int .i64 0)) none none).run Tryz.prog w = .ok (.slice none 0 0) w := hs
  obtain ⟨x1, x2⟩ := x
  simp only
  have hA : Below w.heap.size w (w.alloc (.cells #[.string x1, .string x2] 94)) := (Below.refl _ w).alloc (Nat.le_refl _) _
  have HA := Lib.hid hA
  have HX := Lib.hid (show (w.alloc (.cells #[.string x1, .string x2] 94)).cell? ⟨w.heap.size, 0, none⟩ = some (.string x1) ∧ (w.alloc (.cells #[.string x1, .string x2] 94)).cell? ⟨w.heap.size, 1, none⟩ = some (.string x2) from by
    rw [cell_of_row _ _ _ _ _ _ (heap_alloc_new w _), cell_of_row _ _ _ _ _ _ (heap_alloc_new w _)]
    exact ⟨rfl, rfl⟩)
  obtain ⟨w0, hw0⟩ : ∃ w0, w.alloc (.cells #[.string x1, .string x2] 94) = w0 := ⟨_, rfl⟩
  have hsz0 : w0.heap.size = w.heap.size + 1 := by rw [← hw0]; simp
  rw [hw0] at HA HX
  clear hA hs hn1
  go_enter Tryz.func57, Tryz.ntmps57
  go_wp2
  clear hw0
  go_loopw [5, 6] (fun v i wr => v = .slice none 0 0 ∧ i = .int .i64 0 ∧ Hid (Below w0.heap.size w0 wr)) (fun _ i _ => 0)
  case atStart => exact ⟨rfl, rfl, Lib.hid (Below.refl _ _)⟩
  case round =>
    obtain ⟨rfl, rfl, HB⟩ := hrel
    go_wp2_with fail
    go_quiet (fail)
    obtain ⟨w1, hw1⟩ : ∃ w1, wr.drewN nq = w1 := ⟨_, rfl⟩
    have BQ : Below wr.heap.size wr w1 := by rw [← hw1]; exact below_drewN (Below.refl _ _) _
    rw [hw1]
    clear hw1
    have B1 := Lib.hid (HB.out.trans (BQ.mono HB.out.size))
    have hw1s : w0.heap.size ≤ w1.heap.size := B1.out.size
    clear BQ
    obtain ⟨bx1, bx2⟩ := HX.out
    have by1 := (B1.out.cell (p := ⟨w.heap.size, 0, none⟩) (by simp; omega)).trans bx1
    have by2 := (B1.out.cell (p := ⟨w.heap.size, 1, none⟩) (by simp; omega)).trans bx2
    clear bx1 bx2
    go_wp2_with (first
      | (at_builtin; refine wpList_append_own _ rfl (.tmp 30) (.tmp 32) 22 rfl w0.heap.size 94 i0 (.agg #[.string ⟨#[]⟩, .string ⟨#[]⟩]) 2 32 Tryz.underlying22 hi hz0 hz1 hz2 rfl (by decide) (.slice none 0 0) 0 [] rfl (World.ownsRow_nil _ _ _ _) ⟨w1.heap.size, 0, none⟩ 1 1 (enc2 (x1, x2)) rfl rfl (two_new w1 (x1, x2)) (by simp [Value.oneCell', enc2]) (by unfold maxLen; omega) (by omega) (by simp; omega) ?_; intro v5 w5 hown5 hgr5 hne5
         have g1 : OwnL w5 w0.heap.size v5 [(x1, x2)] := (by unfold OwnL; simpa using hown5)
         have hbA : Below w1.heap.size w1 (w1.alloc (.cells #[.string x1, .string x2] 94)) := (Below.refl _ w1).alloc (Nat.le_refl _) _
         have B5 := Lib.hid ((B1.out.trans (hbA.mono hw1s)).grown hgr5 (by simp; omega) (fun j hj => by cases hj))
         have O5 := Lib.hid g1
         obtain ⟨a5, c5, rfl⟩ := ownL_shape g1
         have HON5 : Hid (w5.ownsRow w0.heap.size 94 2 (.slice a5 1 c5) 1 (enc2 (x1, x2))) := Lib.hid (by have h := g1; unfold OwnL at h; simpa using h)
         clear hown5 hgr5 hne5 g1 hbA by1 by2)
      | (at_builtin; refine wpList_append_own_none rfl (.tmp 34) (.tmp 37) 22 rfl w0.heap.size 94 i0 2 Tryz.underlying22 hi (.slice a5 1 c5) 1 (enc2 (x1, x2)) rfl HON5.out rfl ?_)
      | fail)
    go_ret
    exact ⟨_, rfl, O5.out.lower (by omega), HA.out.trans (B5.out.mono (by omega))⟩
theorem rinto_any (a : Option Addr) (c : Nat) (l : List Lm.Lb) (x : Lm.Lb) (w : World) (base : Nat) (H : OwnL w base (.slice a l.length c) l) (hz : l.length ≤ 100000) :
    Calls Tryz.prog 57 #[.slice a l.length c, .agg #[.string x.1, .string x.2]] w fun e w' => ∃ v, e = .returned v ∧ OwnL w' w.heap.size v (insL x l) ∧ Below w.heap.size w w' := by
  obtain ⟨a', c', hv, hL, _⟩ := H.labs
  cases hv
  cases a with
  | none =>
    have hl : l = [] := by
      refine Decidable.by_contra fun hn => ?_
      obtain ⟨b, off, e, _⟩ := hL hn
      cases e
    subst hl
    have hc : c = 0 := by
      obtain ⟨_, h2⟩ := H
      rcases h2 with ⟨hv, _⟩ | ⟨g, cap, cur, hv, _⟩
      · cases hv; rfl
      · cases hv
    subst hc
    exact rinto_nil x w
  | some ad =>
    have hc : l.length ≤ c := by
      obtain ⟨_, h2⟩ := H
      rcases h2 with ⟨hv, _⟩ | ⟨g, cap, cur, hv, _, _, h3, _⟩
      · cases hv
      · cases hv; exact h3
    exact rinto_some ad c l x w hL hz hc
end Go.Proofs.YtiolghcjndoigaaGreatDoor
namespace Go.Proofs.YtiolghcjndoigaaGreatDoor
set_option linter.unusedVariables false
set_option linter.unusedSimpArgs false
open Go.RowKit Go.PlainAid Go.Shelf
theorem insL_perm (x : Lm.Lb) : ∀ s : List Lm.Lb, (insL x s).Perm (x :: s)
  | [] => List.Perm.refl _
  | y :: t => by
    unfold insL
    split
    · exact (List.Perm.cons y (insL_perm x t)).trans (List.Perm.swap x y t)
    · exact List.Perm.refl _
theorem insL_rises (x : Lm.Lb) : ∀ s : List Lm.Lb, Rises s → Rises (insL x s)
  | [], _ => List.pairwise_singleton _ _
  | y :: t, h => by
    obtain ⟨h1, h2⟩ := List.pairwise_cons.1 h
    unfold insL
    split
    · rename_i hy
      refine List.pairwise_cons.2 ⟨fun z hz => ?_, insL_rises x t h2⟩
      rcases List.mem_cons.1 ((insL_perm x t).subset hz) with rfl | hz
      · exact hy
      · exact h1 z hz
    · rename_i hy
      have hx : Lm.strC x.1 y.1 ≤ 0 := by have := Lm.strC_lin.anti x.1 y.1; omega
      refine List.pairwise_cons.2 ⟨fun z hz => ?_, h⟩
      rcases List.mem_cons.1 hz with rfl | hz
      · exact hx
      · exact Lm.strC_lin.trans _ _ _ hx (h1 z hz)
/-- the labels that have a value, each put at its place -/
def insAll (l : List Lm.Lb) : List Lm.Lb := (fullL l).foldl (fun s x => insL x s) []
theorem fold_ok : ∀ (l s : List Lm.Lb), Rises s → Rises (l.foldl (fun s x => insL x s) s) ∧ (l.foldl (fun s x => insL x s) s).Perm (l ++ s)
  | [], s, h => ⟨h, List.Perm.refl _⟩
  | x :: l, s, h => by
    obtain ⟨h1, h2⟩ := fold_ok l (insL x s) (insL_rises x s h)
    refine ⟨h1, h2.trans ?_⟩
    exact ((List.Perm.append_left l (insL_perm x s)).trans List.perm_middle)
theorem insAll_ok (l : List Lm.Lb) : Rises (insAll l) ∧ (insAll l).Perm (fullL l) := by
  have h := fold_ok (fullL l) [] List.Pairwise.nil
  rw [List.append_nil] at h
  exact h
theorem insAll_snoc (l : List Lm.Lb) (x : Lm.Lb) : insAll (l ++ [x]) = if emptyB x = true then insAll l else insL x (insAll l) := by
  unfold insAll fullL
  rw [List.filter_append, List.foldl_append]
  cases h : emptyB x with
  | true => simp [List.filter, h]
  | false => simp [List.filter, h]
/-- what the chapter says of a list that is to be a set, by definition -/
def SetN (l : List Lm.Lb) (c : Nat) (out : List Lm.Lb) : Prop :=
  if l.any badB = true then c = 70 ∧ out = [] else if twiceB l = true then c = 71 ∧ out = [] else if 64 < (insAll l).length then c = 72 ∧ out = [] else c = 0 ∧ out = insAll l
theorem setn_of {l out : List Lm.Lb} {c : Nat} (h : SetIs l c out) : SetN l c out := by
  unfold SetN
  rcases h with ⟨h1, h2⟩ | ⟨h1, l', hp, hr, h2⟩
  · rw [if_pos h1]; exact h2
  · rw [if_neg (by rw [h1]; simp)]
    rcases h2 with ⟨h3, h4⟩ | ⟨h3, h4⟩
    · have ht : twiceB l = true := by
        refine twice_yes ((twice_iff l).2 fun hd => ?_)
        have := rises_strict hd hp hr
        rw [this] at h3
        cases h3
      rw [if_pos ht]; exact h4
    · have hd : (l.map Prod.fst).Nodup := (hp.map Prod.fst).nodup_iff.1 (rises_nodup h3)
      rw [twice_no (fun ht => (twice_iff l).1 ht hd), if_neg (by simp)]
      obtain ⟨i1, i2⟩ := insAll_ok l
      have hdf : ((fullL l).map Prod.fst).Nodup := by
        unfold fullL
        exact hd.sublist ((List.filter_sublist).map _)
      have hpf : (fullL l').Perm (fullL l) := hp.filter _
      have hrf : Rises (fullL l') := List.Pairwise.filter _ hr
      have e : insAll l = fullL l' := rises_unique _ _ (i2.trans hpf.symm) (rises_strict hdf i2 i1) (rises_strict hdf hpf hrf)
      rw [e]
      rcases h4 with ⟨h5, h6⟩ | ⟨h5, h6⟩
      · rw [if_pos h5]; exact h6
      · rw [if_neg (by omega)]; exact h6
theorem setn_one {l o1 o2 : List Lm.Lb} {c1 c2 : Nat} (h : SetN l c1 o1) (k : SetN l c2 o2) : c1 = c2 ∧ o1 = o2 := by
  unfold SetN at h k
  split at h
  · rename_i hh; rw [if_pos hh] at k; exact ⟨by omega, by rw [h.2, k.2]⟩
  · rename_i hh
    rw [if_neg hh] at k
    split at h
    · rename_i hh; rw [if_pos hh] at k; exact ⟨by omega, by rw [h.2, k.2]⟩
    · rename_i hh
      rw [if_neg hh] at k
      split at h
      · rename_i hh; rw [if_pos hh] at k; exact ⟨by omega, by rw [h.2, k.2]⟩
      · rename_i hh; rw [if_neg hh] at k; exact ⟨by omega, by rw [h.2, k.2]⟩
def RSetPost (w : World) (l : List Lm.Lb) (e : Ending) (w' : World) : Prop := ∃ v c out, e = .returned (.tuple #[v, .int .u16 ((c : Nat) : Int)]) ∧ SetN l c out ∧ OwnL w' w.heap.size v out ∧ Below w.heap.size w w'
end Go.Proofs.YtiolghcjndoigaaGreatDoor
namespace Go.Proofs.YtiolghcjndoigaaGreatDoor
set_option linter.unusedVariables false
set_option linter.unusedSimpArgs false
open Go.RowKit Go.PlainAid Go.Shelf
set_option maxRecDepth 100000 in
set_option maxHeartbeats 4000000 in
theorem rset_any (a : Option Addr) (c : Nat) (l : List Lm.Lb) (w : World) (H : Labs w a l) (hz : l.length ≤ 100000) : Calls Tryz.prog 16 #[.slice a l.length c] w (RSetPost w l) := by
  have CT := Lib.hid (fun w H => rtwice_any a c l w H (by unfold maxLen; omega))
  have CN := Lib.hid rname_any
  have CI := Lib.hid rinto_any
  have HL := Lib.hid H
  obtain ⟨n, hn⟩ : ∃ n, l.length = n := ⟨_, rfl⟩
  have HN := Lib.hid hn
  rw [hn] at CT hz ⊢
  clear H hn
  go_enter Tryz.func16, Tryz.ntmps16
  go_wp2
  go_loopw [4] (fun i wr => ∃ k : Nat, k ≤ n ∧ i = .int .i64 k ∧ Hid (Below w.heap.size w wr) ∧ Hid (∀ j (h : j < l.length), j < k → badB l[j] = false)) (fun i _ => (n - (intOf i).toNat))
  case atStart => exact ⟨0, by omega, rfl, Lib.hid (Below.refl _ _), Lib.hid (fun j h hj => by omega)⟩
  case round =>
    obtain ⟨k, hk1, rfl, HB, HT⟩ := hrel
    by_cases hkn : k < n
    · have da : decide ((k : Int) < (n : Int)) = true := decide_eq_true (by omega)
      have da2 : decide (k < n) = true := decide_eq_true hkn
      have hkl : k < l.length := by rw [HN.out]; exact hkn
      obtain ⟨b1, o1, rfl, hb1, hc1⟩ := (HL.out.below HB.out) (by intro e; rw [e] at hkl; simp at hkl)
      obtain ⟨p1, p2⟩ := hc1 k hkl
      obtain ⟨⟨x, y⟩, hx⟩ : ∃ x, l[k] = x := ⟨_, rfl⟩
      rw [hx] at p1 p2
      simp only at p1 p2
      have HIN := Lib.hid (show badB (x, y) = true → SetN l 70 [] by
        intro h
        have hm : (x, y) ∈ l := by rw [← hx]; exact List.getElem_mem hkl
        unfold SetN
        rw [if_pos (List.any_eq_true.2 ⟨_, hm, h⟩)]
        exact ⟨rfl, rfl⟩)
      have HNX := Lib.hid (show badB (x, y) = false → ∀ j (h : j < l.length), j < k + 1 → badB l[j] = false by
        intro h1 j hj hjk
        by_cases e : j = k
        · subst e
          rw [hx]; exact h1
        · exact HT.out j hj (by omega))
      have EB := Lib.hid (show badB (x, y) = (!nameB x || decide (1024 < y.size)) from rfl)
      have C1 := Lib.hid (fun w => CN.out x w)
      clear hx hc1 HT hkl
      by_cases hnx : nameB x = true
      · rw [hnx] at C1
        by_cases hs : 1024 < y.size
        · have E := Lib.hid (HIN.out (by rw [EB.out, decide_eq_true hs, Bool.or_true]))
          have e1 : decide ((y.size : Int) > 1024) = true := decide_eq_true (by omega)
          have e2 : decide ((1024 : Int) < (y.size : Int)) = true := decide_eq_true (by omega)
          have e3 : decide (1024 < y.size) = true := decide_eq_true (by omega)
          clear hnx
          go_wp2_with (go_at_call 37; refine (C1.out _).mono ?_; rintro e w' ⟨rfl, rfl⟩)
          go_returns
          exact ⟨.slice none 0 0, 70, [], rfl, E.out, OwnL.nil _ _, HB.out⟩
        · have HT2 := Lib.hid (HNX.out (by rw [EB.out, hnx, decide_eq_false hs]; rfl))
          have e1 : decide ((y.size : Int) > 1024) = false := decide_eq_false (by omega)
          have e2 : decide ((1024 : Int) < (y.size : Int)) = false := decide_eq_false (by omega)
          have e3 : decide (1024 < y.size) = false := decide_eq_false (by omega)
          clear hnx
          go_wp2_with (go_at_call 37; refine (C1.out _).mono ?_; rintro e w' ⟨rfl, rfl⟩)
          go_roundw
          case rel => exact ⟨k + 1, by omega, by simp, HB, HT2⟩
          case measure => simp [intOf]; omega
      · have hnx2 : nameB x = false := by simpa using hnx
        rw [hnx2] at C1
        have E := Lib.hid (HIN.out (by rw [EB.out, hnx2]; rfl))
        clear hnx hnx2
        go_wp2_with (go_at_call 37; refine (C1.out _).mono ?_; rintro e w' ⟨rfl, rfl⟩)
        go_returns
        exact ⟨.slice none 0 0, 70, [], rfl, E.out, OwnL.nil _ _, HB.out⟩
    · have hkk : k = n := by omega
      subst hkk
      have da : decide ((k : Int) < (k : Int)) = false := decide_eq_false (by omega)
      have da2 : decide (k < k) = false := decide_eq_false (by omega)
      have dm : decide ((k : Int) > 100000) = false := decide_eq_false (by omega)
      have dm2 : decide ((100000 : Int) < (k : Int)) = false := decide_eq_false (by omega)
      have dm3 : decide (100000 < k) = false := decide_eq_false (by omega)
      have HK2 := Lib.hid (show ∀ (c : Nat) (out : List Lm.Lb), (if twiceB l = true then c = 71 ∧ out = [] else if 64 < (insAll l).length then c = 72 ∧ out = [] else c = 0 ∧ out = insAll l) → SetN l c out from fun c out h => by
        have h1 : l.any badB = false := any_of (fun x hx => by
          obtain ⟨i, hi, rfl⟩ := List.getElem_of_mem hx
          exact HT.out i hi (by have := HN.out; omega))
        unfold SetN
        rw [if_neg (by rw [h1]; simp)]
        exact h)
      clear HT
      obtain ⟨T, hT⟩ : ∃ T, twiceB l = T := ⟨_, rfl⟩
      rw [hT] at CT
      simp only [hT] at HK2
      clear hT
      go_wp2_with fail
      refine (CT.out _ (HL.out.below HB.out)).mono ?_
      rintro e w2 ⟨rfl, hb⟩
      have HB2 := Lib.hid (HB.out.trans (hb.mono HB.out.size))
      clear hb
      cases T with
      | true =>
        have E := Lib.hid (HK2.out 71 [] (by rw [if_pos rfl]; exact ⟨rfl, rfl⟩))
        go_wp2
        go_returns
        exact ⟨.slice none 0 0, 71, [], rfl, E.out, OwnL.nil _ _, HB2.out⟩
      | false =>
        have HK3 := Lib.hid (show ∀ (c : Nat) (out : List Lm.Lb), (if 64 < (insAll l).length then c = 72 ∧ out = [] else c = 0 ∧ out = insAll l) → SetN l c out from fun c out h => HK2.out c out (by rw [if_neg (by simp)]; exact h))
        clear HK2
        go_wp2
        go_loopw [7, 8] (fun v i wr => ∃ (j : Nat) (s : List Lm.Lb), j ≤ k ∧ i = .int .i64 (j : Nat) ∧ Hid (OwnL wr w.heap.size v s) ∧ Hid (s = insAll (l.take j)) ∧ Hid (s.length ≤ j) ∧ Hid (Below w.heap.size w wr)) (fun _ i _ => (k - (intOf i).toNat))
        case atStart => exact ⟨0, [], Nat.zero_le _, rfl, Lib.hid (World.ownsRow_nil _ _ _ _), Lib.hid rfl, Lib.hid (Nat.le_refl _), HB2⟩
        case round =>
          obtain ⟨j, s, hj1, rfl, HO, HE, HS, HB3⟩ := hrel
          by_cases hjk : j < k
          · have db : decide ((j : Int) < (k : Int)) = true := decide_eq_true (by omega)
            have db2 : decide (j < k) = true := decide_eq_true hjk
            have hkl : j < l.length := by rw [HN.out]; exact hjk
            obtain ⟨b1, o1, rfl, hb1, hc1⟩ := (HL.out.below HB3.out) (by intro e; rw [e] at hkl; simp at hkl)
            obtain ⟨p1, p2⟩ := hc1 j hkl
            obtain ⟨⟨x, y⟩, hx⟩ : ∃ x, l[j] = x := ⟨_, rfl⟩
            rw [hx] at p1 p2
            simp only at p1 p2
            have HI := Lib.hid (show insAll (l.take (j + 1)) = if emptyB (x, y) = true then s else insL (x, y) s by
              rw [List.take_succ_eq_append_getElem hkl, hx, insAll_snoc, ← HE.out])
            have EE := Lib.hid (show emptyB (x, y) = decide (y = ⟨#[]⟩) from rfl)
            clear hx hc1 hkl
            obtain ⟨av, cv, rfl⟩ := ownL_shape HO.out
            by_cases hy : y = ⟨#[]⟩
            · have h2 : y.toList = [] := by rw [hy, ByteArray.toList_eq]
              have h3 : y.toList.isEmpty = true := by rw [h2]; rfl
              have HI2 := Lib.hid (show s = insAll (l.take (j + 1)) by rw [HI.out, EE.out, decide_eq_true hy, if_pos rfl])
              obtain ⟨ns, hns⟩ : ∃ m, s.length = m := ⟨_, rfl⟩
              have HNS := Lib.hid hns
              rw [hns] at HO ⊢
              clear hy hns
              go_wp2
              go_roundw
              case rel => exact ⟨j + 1, s, by omega, by simp, HO, HI2, Lib.hid (by have := HS.out; omega), HB3⟩
              case measure => simp [intOf]; omega
            · have h2 : ¬ y.toList = [] := fun e => hy ((toList_iff _ _).1 (by rw [e, ByteArray.toList_eq]))
              have h3 : y.toList.isEmpty = false := by cases hh : y.toList with
                | nil => exact absurd hh h2
                | cons => rfl
              have HI2 := Lib.hid (show insL (x, y) s = insAll (l.take (j + 1)) by rw [HI.out, EE.out, decide_eq_false hy, if_neg (by simp)])
              have C2 := Lib.hid (CI.out av cv s (x, y) wr w.heap.size HO.out (by have := HS.out; omega))
              have HLN := Lib.hid (show (insL (x, y) s).length ≤ j + 1 by rw [(insL_perm (x, y) s).length_eq, List.length_cons]; have := HS.out; omega)
              simp only at C2
              obtain ⟨ns, hns⟩ : ∃ m, s.length = m := ⟨_, rfl⟩
              rw [hns] at C2 ⊢
              clear hy hns
              go_wp2_with fail
              refine C2.out.mono ?_
              rintro e w3 ⟨v3, rfl, ho, hb⟩
              have O3 := Lib.hid (ho.lower HB3.out.size)
              have B4 := Lib.hid (HB3.out.trans (hb.mono HB3.out.size))
              obtain ⟨a3, c3, rfl⟩ := ownL_shape ho
              obtain ⟨n3, hn3⟩ : ∃ m, (insL (x, y) s).length = m := ⟨_, rfl⟩
              rw [hn3] at O3 ⊢
              clear ho hb hn3
              go_wp2
              go_roundw
              case rel => exact ⟨j + 1, insL (x, y) s, by omega, by simp, O3, HI2, HLN, B4⟩
              case measure => simp [intOf]; omega
          · have hjk2 : j = k := by omega
            have HJ := Lib.hid hjk2
            have db : decide ((j : Int) < (k : Int)) = false := decide_eq_false (by omega)
            have db2 : decide (j < k) = false := decide_eq_false hjk
            have HEL := Lib.hid (show insAll l = s by
              have h : l.take j = l := by rw [HJ.out, ← HN.out]; exact List.take_length
              rw [HE.out, h])
            obtain ⟨av, cv, rfl⟩ := ownL_shape HO.out
            obtain ⟨ns, hns⟩ : ∃ m, s.length = m := ⟨_, rfl⟩
            have HNS := Lib.hid hns
            rw [hns] at HO ⊢
            clear hns hjk2
            by_cases h64 : 64 < ns
            · have E := Lib.hid (HK3.out 72 [] (by rw [HEL.out, HNS.out, if_pos h64]; exact ⟨rfl, rfl⟩))
              have d1 : decide ((ns : Int) > 64) = true := decide_eq_true (by omega)
              have d2 : decide ((64 : Int) < (ns : Int)) = true := decide_eq_true (by omega)
              have d3 : decide (64 < ns) = true := decide_eq_true (by omega)
              go_wp2
              go_returns
              exact ⟨.slice none 0 0, 72, [], rfl, E.out, OwnL.nil _ _, HB3.out⟩
            · have E := Lib.hid (HK3.out 0 s (by rw [HEL.out, HNS.out, if_neg h64]; exact ⟨rfl, rfl⟩))
              have d1 : decide ((ns : Int) > 64) = false := decide_eq_false (by omega)
              have d2 : decide ((64 : Int) < (ns : Int)) = false := decide_eq_false (by omega)
              have d3 : decide (64 < ns) = false := decide_eq_false (by omega)
              go_wp2
              go_returns
              exact ⟨.slice av ns cv, 0, s, rfl, E.out, HO.out, HB3.out⟩
end Go.Proofs.YtiolghcjndoigaaGreatDoor
