/-
  WHAT CAME IN, with the sizes of its names: a list of labels, a list of names.
-/
import Derived.Test.YtiolghcjndoigaaGreatDoorRsf
import Derived.Test.YtiolghcjndoigaaGreatDoorBck
import Derived.Test.YtiolghcjndoigaaGreatDoorPrt
import Derived.Deep.Slices
import Derived.Deep.Strs
import Derived.SliceStrings
namespace Go.Proofs.YtiolghcjndoigaaGreatDoor
set_option linter.unusedVariables false
set_option linter.unusedSimpArgs false
open Go.RowKit Go.PlainAid Go.Shelf
/-- texts in a slice -/
def Strs (w : World) (a : Option Addr) (ss : List ByteArray) : Prop :=
  ss ≠ [] → ∃ b off, a = some ⟨b, off, none⟩ ∧ b < w.heap.size ∧ ∀ i (h : i < ss.length), w.cell? ⟨b, off + i, none⟩ = some (.string ss[i])
theorem Strs.below {w w' : World} {a : Option Addr} {ss : List ByteArray} (h : Strs w a ss) (hb : Below w.heap.size w w') : Strs w' a ss := fun hn => by
  obtain ⟨b, off, ha, hlt, hc⟩ := h hn
  exact ⟨b, off, ha, Nat.lt_of_lt_of_le hlt hb.size, fun i hi => (hb.cell (p := ⟨b, off + i, none⟩) hlt).trans (hc i hi)⟩
def hasB (ss : List ByteArray) (s : ByteArray) : Bool := ss.any fun x => decide (x = s)
set_option maxHeartbeats 1000000 in
theorem rhas_any (a : Option Addr) (c : Nat) (ss : List ByteArray) (s : ByteArray) (w : World) (H : Strs w a ss) (hz : ss.length ≤ maxLen) : Calls Tryz.prog 97 #[.slice a ss.length c, .string s] w (Gives w (.bool (hasB ss s))) := by
  have HL := Lib.hid H
  obtain ⟨R, hR⟩ : ∃ R, hasB ss s = R := ⟨_, rfl⟩
  have HR := Lib.hid (show R = ss.any fun x => decide (x = s) by rw [← hR]; rfl)
  obtain ⟨n, hn⟩ : ∃ n, ss.length = n := ⟨_, rfl⟩
  have HN := Lib.hid hn
  have hz' : n ≤ 9223372036854775807 := by rw [← hn]; exact hz
  rw [hn, hR]
  clear H hz hn hR
  go_enter Tryz.func97, Tryz.ntmps97
  go_wp2
  go_loopw [5] (fun i wr => ∃ k : Nat, k ≤ n ∧ i = .int .i64 k ∧ Hid (Below w.heap.size w wr) ∧ Hid (∀ j (h : j < ss.length), j < k → ss[j] ≠ s)) (fun i _ => (n - (intOf i).toNat))
  case atStart => exact ⟨0, by omega, rfl, Lib.hid (Below.refl _ _), Lib.hid (fun j h hj => by omega)⟩
  case round =>
    obtain ⟨k, hk1, rfl, HB, HT⟩ := hrel
    by_cases hkn : k < n
    · have da : decide ((k : Int) < (n : Int)) = true := decide_eq_true (by omega)
      have da2 : decide (k < n) = true := decide_eq_true hkn
      have i1 : (k : Int) < (n : Int) := by omega
      have hkl : k < ss.length := by rw [HN.out]; exact hkn
      obtain ⟨b1, o1, rfl, hb1, hc1⟩ := (HL.out.below HB.out) (by intro e; rw [e] at hkl; simp at hkl)
      have p1 := hc1 k hkl
      obtain ⟨x, hx⟩ : ∃ x, ss[k] = x := ⟨_, rfl⟩
      rw [hx] at p1
      by_cases e : x = s
      · have hq : x.toList = s.toList := by rw [e]
        have hq2 : (x.toList == s.toList) = true := by rw [toList_eqb, decide_eq_true e]
        have E := Lib.hid (show R = true by rw [HR.out]; exact List.any_eq_true.2 ⟨x, by rw [← hx]; exact List.getElem_mem hkl, decide_eq_true e⟩)
        clear hx hc1 e hkl
        go_wp2
        go_ret
        exact ⟨congrArg (fun x => Ending.returned (.bool x)) E.out.symm, HB.out⟩
      · have hq : ¬ x.toList = s.toList := fun h => e ((toList_iff x s).1 h)
        have hq2 : (x.toList == s.toList) = false := by rw [toList_eqb, decide_eq_false e]
        have HT2 := Lib.hid (show ∀ j (h : j < ss.length), j < k + 1 → ss[j] ≠ s by
          intro j hj hjk
          by_cases e2 : j = k
          · subst e2
            rw [hx]; exact e
          · exact HT.out j hj (by omega))
        clear hx hc1 e
        go_wp2
        go_roundw
        case rel => exact ⟨k + 1, by omega, by simp, HB, HT2⟩
        case measure => simp [intOf]; omega
    · have da : decide ((k : Int) < (n : Int)) = false := decide_eq_false (by omega)
      have da2 : decide (k < n) = false := decide_eq_false hkn
      have E := Lib.hid (show R = false by
        rw [HR.out]
        exact any_of (fun x hx => by
          obtain ⟨j, hj, rfl⟩ := List.getElem_of_mem hx
          exact decide_eq_false (HT.out j hj (by have := HN.out; omega))))
      go_wp2
      go_ret
      exact ⟨congrArg (fun x => Ending.returned (.bool x)) E.out.symm, HB.out⟩
set_option maxRecDepth 100000 in
set_option maxHeartbeats 2000000 in
theorem rkeep_any (a an : Option Addr) (c cn : Nat) (l : List Lm.Lb) (ss : List ByteArray) (w : World) (H : Labs w a l) (HS : Strs w an ss) (hz : l.length ≤ 100000) (hs : ss.length ≤ maxLen) :
    Calls Tryz.prog 31 #[.slice a l.length c, .slice an ss.length cn] w fun e w' => ∃ v, e = .returned v ∧ OwnL w' w.heap.size v (l.filter fun x => hasB ss x.1) ∧ Below w.heap.size w w' := by
  obtain ⟨i0, hi, hz0, hz1, hz2⟩ := info_parts info94
  have HL := Lib.hid H
  have HSS := Lib.hid HS
  have CH := Lib.hid (fun s w H => rhas_any an cn ss s w H hs)
  obtain ⟨n, hn⟩ : ∃ n, l.length = n := ⟨_, rfl⟩
  obtain ⟨ns, hns⟩ : ∃ n, ss.length = n := ⟨_, rfl⟩
  have HN := Lib.hid hn
  rw [hns] at CH
  rw [hn] at hz
  rw [hn, hns]
  clear H HS hn hns hs
  go_enter Tryz.func31, Tryz.ntmps31
  go_wp2
  go_loopw [5, 6] (fun v i wr => ∃ (k : Nat) (s : List Lm.Lb), k ≤ n ∧ i = .int .i64 (k : Nat) ∧ Hid (OwnL wr w.heap.size v s) ∧ Hid (s = (l.take k).filter fun x => hasB ss x.1) ∧ Hid (s.length ≤ k) ∧ Hid (Below w.heap.size w wr)) (fun _ i _ => n - (intOf i).toNat)
  case atStart => exact ⟨0, [], Nat.zero_le _, rfl, Lib.hid (World.ownsRow_nil _ _ _ _), Lib.hid rfl, Lib.hid (Nat.le_refl _), Lib.hid (Below.refl _ _)⟩
  case round =>
    obtain ⟨k, s, hk, rfl, HO, HE, HSL, HB⟩ := hrel
    obtain ⟨av, cv, rfl⟩ := ownL_shape HO.out
    obtain ⟨m, hm⟩ : ∃ m, s.length = m := ⟨_, rfl⟩
    have HM := Lib.hid hm
    have hmk : m ≤ k := by rw [← hm]; exact HSL.out
    rw [hm] at HO ⊢
    clear hm
    by_cases hkn : k < n
    · have da : decide ((k : Int) < (n : Int)) = true := decide_eq_true (by omega)
      have da2 : decide (k < n) = true := decide_eq_true hkn
      have i1 : (k : Int) < (n : Int) := by omega
      have hkl : k < l.length := by rw [HN.out]; exact hkn
      obtain ⟨b1, o1, rfl, hb1, hc1⟩ := (HL.out.below HB.out) (by intro e; rw [e] at hkl; simp at hkl)
      obtain ⟨p1, p2⟩ := hc1 k hkl
      obtain ⟨⟨y1, y2⟩, hy⟩ : ∃ x, l[k] = x := ⟨_, rfl⟩
      rw [hy] at p1 p2
      simp only at p1 p2
      have HP := Lib.hid (show ∀ wq, Below wr.heap.size wr wq → wq.cell? ⟨b1, o1 + k * 2, none⟩ = some (.string y1) ∧ wq.cell? ⟨b1, o1 + k * 2 + 1, none⟩ = some (.string y2) from fun wq hb => ⟨(hb.cell (p := ⟨b1, o1 + k * 2, none⟩) hb1).trans p1, (hb.cell (p := ⟨b1, o1 + k * 2 + 1, none⟩) hb1).trans p2⟩)
      have HF := Lib.hid (show ((l.take (k + 1)).filter fun x => hasB ss x.1) = s ++ (if hasB ss y1 = true then [(y1, y2)] else []) by
        rw [List.take_succ_eq_append_getElem hkl, hy, List.filter_append, HE.out]
        congr 1
        cases h : hasB ss y1 <;> simp [List.filter, h])
      have C1 := Lib.hid (CH.out y1 wr (HSS.out.below HB.out))
      obtain ⟨r, hr⟩ : ∃ r, hasB ss y1 = r := ⟨_, rfl⟩
      rw [hr] at C1 HF
      clear hc1 hy hr hkl
      go_wp2_with fail
      refine C1.out.mono ?_
      rintro e w1 ⟨rfl, hb⟩
      obtain ⟨m1, m2⟩ := HP.out w1 hb
      have B1 := Lib.hid (HB.out.trans (hb.mono HB.out.size))
      have O1 := Lib.hid (HO.out.below hb)
      have hw1s : w.heap.size ≤ w1.heap.size := B1.out.size
      have HON1 : Hid (∀ o : Obj, (w1.alloc o).ownsRow w.heap.size 94 2 (.slice av m cv) m (s.flatMap enc2)) := Lib.hid (fun o => by
        have h := O1.out.below ((Below.refl w1.heap.size w1).alloc (Nat.le_refl _) o)
        unfold OwnL at h
        rw [HM.out] at h
        exact h)
      have HOB := Lib.hid (ownL_block O1.out)
      clear hb p1 p2
      cases r with
      | true =>
        have HF2 := Lib.hid (show s ++ [(y1, y2)] = (l.take (k + 1)).filter fun x => hasB ss x.1 by rw [HF.out, if_pos rfl])
        clear HF
        go_wp2_with (first
          | (at_builtin; refine wpList_append_own _ rfl (.tmp 22) (.tmp 27) 22 rfl w.heap.size 94 i0 (.agg #[.string ⟨#[]⟩, .string ⟨#[]⟩]) 2 32 Tryz.underlying22 hi hz0 hz1 hz2 rfl (by decide) (.slice av m cv) m (s.flatMap enc2) rfl (HON1.out _) ⟨w1.heap.size, 0, none⟩ 1 1 (enc2 (y1, y2)) rfl rfl (two_new w1 (y1, y2)) (by simp [Value.oneCell', enc2]) (by unfold maxLen; omega) (by omega) (by simp; omega) ?_; intro v5 w5 hown5 hgr5 hne5
             have g1 : OwnL w5 w.heap.size v5 (s ++ [(y1, y2)]) := (by unfold OwnL; rw [List.length_append, List.flatMap_append, HM.out]; simpa using hown5)
             have hbA : Below w1.heap.size w1 (w1.alloc (.cells #[.string y1, .string y2] 94)) := (Below.refl _ w1).alloc (Nat.le_refl _) _
             have B5 := Lib.hid ((B1.out.trans (hbA.mono hw1s)).grown hgr5 (by simp; omega) (fun j hj => HOB.out j hj))
             have O5 := Lib.hid g1
             obtain ⟨a5, c5, rfl⟩ := ownL_shape g1
             have hk5 : (s ++ [(y1, y2)]).length = m + 1 := by rw [List.length_append, HM.out]; rfl
             have HL5 := Lib.hid (show (s ++ [(y1, y2)]).length ≤ k + 1 by rw [hk5]; omega)
             rw [hk5] at O5 ⊢
             clear hown5 hgr5 hne5 g1 hbA hk5)
          | fail)
        go_roundw
        case rel => exact ⟨k + 1, s ++ [(y1, y2)], by omega, by simp, O5, HF2, HL5, B5⟩
        case measure => simp [intOf]; omega
      | false =>
        have HF2 := Lib.hid (show s = (l.take (k + 1)).filter fun x => hasB ss x.1 by rw [HF.out, if_neg (by simp), List.append_nil])
        clear HF
        have O2 := Lib.hid (show OwnL w1 w.heap.size (.slice av m cv) s from O1.out)
        go_wp2
        go_roundw
        case rel => exact ⟨k + 1, s, by omega, by simp, O2, HF2, Lib.hid (by have := HSL.out; omega), B1⟩
        case measure => simp [intOf]; omega
    · have hkn2 : k = n := by omega
      have HFN := Lib.hid (show s = l.filter fun x => hasB ss x.1 by
        have h : l.take k = l := by rw [hkn2, ← HN.out]; exact List.take_length
        rw [HE.out, h])
      have da : decide ((k : Int) < (n : Int)) = false := decide_eq_false (by omega)
      have da2 : decide (k < n) = false := decide_eq_false hkn
      clear hkn2
      go_wp2
      go_ret
      exact ⟨_, rfl, by rw [← HFN.out]; exact HO.out, HB.out⟩
set_option maxRecDepth 100000 in
set_option maxHeartbeats 2000000 in
theorem rwithout_any (a an : Option Addr) (c cn : Nat) (l : List Lm.Lb) (ss : List ByteArray) (w : World) (H : Labs w a l) (HS : Strs w an ss) (hz : l.length ≤ 100000) (hs : ss.length ≤ maxLen) :
    Calls Tryz.prog 32 #[.slice a l.length c, .slice an ss.length cn] w fun e w' => ∃ v, e = .returned v ∧ OwnL w' w.heap.size v (l.filter fun x => !hasB ss x.1) ∧ Below w.heap.size w w' := by
  obtain ⟨i0, hi, hz0, hz1, hz2⟩ := info_parts info94
  have HL := Lib.hid H
  have HSS := Lib.hid HS
  have CH := Lib.hid (fun s w H => rhas_any an cn ss s w H hs)
  obtain ⟨n, hn⟩ : ∃ n, l.length = n := ⟨_, rfl⟩
  obtain ⟨ns, hns⟩ : ∃ n, ss.length = n := ⟨_, rfl⟩
  have HN := Lib.hid hn
  rw [hns] at CH
  rw [hn] at hz
  rw [hn, hns]
  clear H HS hn hns hs
  go_enter Tryz.func32, Tryz.ntmps32
  go_wp2
  go_loopw [5, 6] (fun v i wr => ∃ (k : Nat) (s : List Lm.Lb), k ≤ n ∧ i = .int .i64 (k : Nat) ∧ Hid (OwnL wr w.heap.size v s) ∧ Hid (s = (l.take k).filter fun x => !hasB ss x.1) ∧ Hid (s.length ≤ k) ∧ Hid (Below w.heap.size w wr)) (fun _ i _ => n - (intOf i).toNat)
  case atStart => exact ⟨0, [], Nat.zero_le _, rfl, Lib.hid (World.ownsRow_nil _ _ _ _), Lib.hid rfl, Lib.hid (Nat.le_refl _), Lib.hid (Below.refl _ _)⟩
  case round =>
    obtain ⟨k, s, hk, rfl, HO, HE, HSL, HB⟩ := hrel
    obtain ⟨av, cv, rfl⟩ := ownL_shape HO.out
    obtain ⟨m, hm⟩ : ∃ m, s.length = m := ⟨_, rfl⟩
    have HM := Lib.hid hm
    have hmk : m ≤ k := by rw [← hm]; exact HSL.out
    rw [hm] at HO ⊢
    clear hm
    by_cases hkn : k < n
    · have da : decide ((k : Int) < (n : Int)) = true := decide_eq_true (by omega)
      have da2 : decide (k < n) = true := decide_eq_true hkn
      have i1 : (k : Int) < (n : Int) := by omega
      have hkl : k < l.length := by rw [HN.out]; exact hkn
      obtain ⟨b1, o1, rfl, hb1, hc1⟩ := (HL.out.below HB.out) (by intro e; rw [e] at hkl; simp at hkl)
      obtain ⟨p1, p2⟩ := hc1 k hkl
      obtain ⟨⟨y1, y2⟩, hy⟩ : ∃ x, l[k] = x := ⟨_, rfl⟩
      rw [hy] at p1 p2
      simp only at p1 p2
      have HP := Lib.hid (show ∀ wq, Below wr.heap.size wr wq → wq.cell? ⟨b1, o1 + k * 2, none⟩ = some (.string y1) ∧ wq.cell? ⟨b1, o1 + k * 2 + 1, none⟩ = some (.string y2) from fun wq hb => ⟨(hb.cell (p := ⟨b1, o1 + k * 2, none⟩) hb1).trans p1, (hb.cell (p := ⟨b1, o1 + k * 2 + 1, none⟩) hb1).trans p2⟩)
      have HF := Lib.hid (show ((l.take (k + 1)).filter fun x => !hasB ss x.1) = s ++ (if hasB ss y1 = false then [(y1, y2)] else []) by
        rw [List.take_succ_eq_append_getElem hkl, hy, List.filter_append, HE.out]
        congr 1
        cases h : hasB ss y1 <;> simp [List.filter, h])
      have C1 := Lib.hid (CH.out y1 wr (HSS.out.below HB.out))
      obtain ⟨r, hr⟩ : ∃ r, hasB ss y1 = r := ⟨_, rfl⟩
      rw [hr] at C1 HF
      clear hc1 hy hr hkl
      go_wp2_with fail
      refine C1.out.mono ?_
      rintro e w1 ⟨rfl, hb⟩
      obtain ⟨m1, m2⟩ := HP.out w1 hb
      have B1 := Lib.hid (HB.out.trans (hb.mono HB.out.size))
      have O1 := Lib.hid (HO.out.below hb)
      have hw1s : w.heap.size ≤ w1.heap.size := B1.out.size
      have HON1 : Hid (∀ o : Obj, (w1.alloc o).ownsRow w.heap.size 94 2 (.slice av m cv) m (s.flatMap enc2)) := Lib.hid (fun o => by
        have h := O1.out.below ((Below.refl w1.heap.size w1).alloc (Nat.le_refl _) o)
        unfold OwnL at h
        rw [HM.out] at h
        exact h)
      have HOB := Lib.hid (ownL_block O1.out)
      clear hb p1 p2
      cases r with
      | false =>
        have HF2 := Lib.hid (show s ++ [(y1, y2)] = (l.take (k + 1)).filter fun x => !hasB ss x.1 by rw [HF.out, if_pos rfl])
        clear HF
        go_wp2_with (first
          | (at_builtin; refine wpList_append_own _ rfl (.tmp 23) (.tmp 28) 22 rfl w.heap.size 94 i0 (.agg #[.string ⟨#[]⟩, .string ⟨#[]⟩]) 2 32 Tryz.underlying22 hi hz0 hz1 hz2 rfl (by decide) (.slice av m cv) m (s.flatMap enc2) rfl (HON1.out _) ⟨w1.heap.size, 0, none⟩ 1 1 (enc2 (y1, y2)) rfl rfl (two_new w1 (y1, y2)) (by simp [Value.oneCell', enc2]) (by unfold maxLen; omega) (by omega) (by simp; omega) ?_; intro v5 w5 hown5 hgr5 hne5
             have g1 : OwnL w5 w.heap.size v5 (s ++ [(y1, y2)]) := (by unfold OwnL; rw [List.length_append, List.flatMap_append, HM.out]; simpa using hown5)
             have hbA : Below w1.heap.size w1 (w1.alloc (.cells #[.string y1, .string y2] 94)) := (Below.refl _ w1).alloc (Nat.le_refl _) _
             have B5 := Lib.hid ((B1.out.trans (hbA.mono hw1s)).grown hgr5 (by simp; omega) (fun j hj => HOB.out j hj))
             have O5 := Lib.hid g1
             obtain ⟨a5, c5, rfl⟩ := ownL_shape g1
             have hk5 : (s ++ [(y1, y2)]).length = m + 1 := by rw [List.length_append, HM.out]; rfl
             have HL5 := Lib.hid (show (s ++ [(y1, y2)]).length ≤ k + 1 by rw [hk5]; omega)
             rw [hk5] at O5 ⊢
             clear hown5 hgr5 hne5 g1 hbA hk5)
          | fail)
        go_roundw
        case rel => exact ⟨k + 1, s ++ [(y1, y2)], by omega, by simp, O5, HF2, HL5, B5⟩
        case measure => simp [intOf]; omega
      | true =>
        have HF2 := Lib.hid (show s = (l.take (k + 1)).filter fun x => !hasB ss x.1 by rw [HF.out, if_neg (by simp), List.append_nil])
        clear HF
        have O2 := Lib.hid (show OwnL w1 w.heap.size (.slice av m cv) s from O1.out)
        go_wp2
        go_roundw
        case rel => exact ⟨k + 1, s, by omega, by simp, O2, HF2, Lib.hid (by have := HSL.out; omega), B1⟩
        case measure => simp [intOf]; omega
    · have hkn2 : k = n := by omega
      have HFN := Lib.hid (show s = l.filter fun x => !hasB ss x.1 by
        have h : l.take k = l := by rw [hkn2, ← HN.out]; exact List.take_length
        rw [HE.out, h])
      have da : decide ((k : Int) < (n : Int)) = false := decide_eq_false (by omega)
      have da2 : decide (k < n) = false := decide_eq_false hkn
      clear hkn2
      go_wp2
      go_ret
      exact ⟨_, rfl, by rw [← HFN.out]; exact HO.out, HB.out⟩
end Go.Proofs.YtiolghcjndoigaaGreatDoor
namespace Go.Proofs.YtiolghcjndoigaaGreatDoor
set_option linter.unusedVariables false
set_option linter.unusedSimpArgs false
open Go.RowKit Go.PlainAid Go.Shelf
/-- a label's value -/
def getL (s : ByteArray) : List Lm.Lb → ByteArray
  | [] => ⟨#[]⟩
  | x :: t => if x.1 = s then x.2 else getL s t
set_option maxHeartbeats 1000000 in
theorem rget_any (a : Option Addr) (c : Nat) (l : List Lm.Lb) (s : ByteArray) (w : World) (H : Labs w a l) (hz : l.length ≤ maxLen) : Calls Tryz.prog 33 #[.slice a l.length c, .string s] w (Gives w (.string (getL s l))) := by
  have HL := Lib.hid H
  have HR := Lib.hid (show getL s l = getL s (l.drop 0) by rw [List.drop_zero])
  obtain ⟨R, hR⟩ : ∃ R, getL s l = R := ⟨_, rfl⟩
  obtain ⟨n, hn⟩ : ∃ n, l.length = n := ⟨_, rfl⟩
  have HN := Lib.hid hn
  have hz' : n ≤ 9223372036854775807 := by rw [← hn]; exact hz
  rw [hR] at HR
  rw [hn, hR]
  clear H hz hn hR
  go_enter Tryz.func33, Tryz.ntmps33
  go_wp2
  go_loopw [5] (fun i wr => ∃ k : Nat, k ≤ n ∧ i = .int .i64 k ∧ Hid (Below w.heap.size w wr) ∧ Hid (R = getL s (l.drop k))) (fun i _ => (n - (intOf i).toNat))
  case atStart => exact ⟨0, by omega, rfl, Lib.hid (Below.refl _ _), HR⟩
  case round =>
    obtain ⟨k, hk1, rfl, HB, HT⟩ := hrel
    by_cases hkn : k < n
    · have da : decide ((k : Int) < (n : Int)) = true := decide_eq_true (by omega)
      have da2 : decide (k < n) = true := decide_eq_true hkn
      have i1 : (k : Int) < (n : Int) := by omega
      have hkl : k < l.length := by rw [HN.out]; exact hkn
      obtain ⟨b1, o1, rfl, hb1, hc1⟩ := (HL.out.below HB.out) (by intro e; rw [e] at hkl; simp at hkl)
      obtain ⟨p1, p2⟩ := hc1 k hkl
      obtain ⟨⟨x, y⟩, hx⟩ : ∃ x, l[k] = x := ⟨_, rfl⟩
      have HD := Lib.hid (show l.drop k = (x, y) :: l.drop (k + 1) by rw [← hx]; exact List.drop_eq_getElem_cons hkl)
      rw [hx] at p1 p2
      simp only at p1 p2
      clear hx hc1 hkl
      by_cases e : x = s
      · have hq : x.toList = s.toList := by rw [e]
        have hq2 : (x.toList == s.toList) = true := by rw [toList_eqb, decide_eq_true e]
        have E := Lib.hid (show R = y by rw [HT.out, HD.out, getL, if_pos e])
        clear e
        go_wp2
        go_ret
        exact ⟨congrArg (fun x => Ending.returned (.string x)) E.out.symm, HB.out⟩
      · have hq : ¬ x.toList = s.toList := fun h => e ((toList_iff x s).1 h)
        have hq2 : (x.toList == s.toList) = false := by rw [toList_eqb, decide_eq_false e]
        have HT2 := Lib.hid (show R = getL s (l.drop (k + 1)) by rw [HT.out, HD.out, getL, if_neg e])
        clear e
        go_wp2
        go_roundw
        case rel => exact ⟨k + 1, by omega, by simp, HB, HT2⟩
        case measure => simp [intOf]; omega
    · have da : decide ((k : Int) < (n : Int)) = false := decide_eq_false (by omega)
      have da2 : decide (k < n) = false := decide_eq_false hkn
      have E := Lib.hid (show R = ⟨#[]⟩ by rw [HT.out, List.drop_eq_nil_of_le (by rw [HN.out]; omega)]; rfl)
      go_wp2
      go_ret
      exact ⟨congrArg (fun x => Ending.returned (.string x)) E.out.symm, HB.out⟩
set_option maxHeartbeats 1000000 in
theorem get_any (a : Option Addr) (c : Nat) (l : List Lm.Lb) (s : ByteArray) (w : World) (H : Labs w a l) (hz : l.length ≤ maxLen) : Calls Tryz.prog 27 #[.slice a l.length c, .string s] w (Gives w (.string (getL s l))) := by
  have HL := Lib.hid H
  have HR := Lib.hid (show getL s l = getL s (l.drop 0) by rw [List.drop_zero])
  obtain ⟨R, hR⟩ : ∃ R, getL s l = R := ⟨_, rfl⟩
  obtain ⟨n, hn⟩ : ∃ n, l.length = n := ⟨_, rfl⟩
  have HN := Lib.hid hn
  have hz' : n ≤ 9223372036854775807 := by rw [← hn]; exact hz
  rw [hR] at HR
  rw [hn, hR]
  clear H hz hn hR
  go_enter Tryz.func27, Tryz.ntmps27
  go_wp2
  go_loopw [9] (fun i wr => ∃ k : Nat, k ≤ n ∧ i = .int .i64 k ∧ Hid (Below w.heap.size w wr) ∧ Hid (R = getL s (l.drop k))) (fun i _ => (n - (intOf i).toNat))
  case atStart => exact ⟨0, by omega, rfl, Lib.hid (Below.refl _ _), HR⟩
  case round =>
    obtain ⟨k, hk1, rfl, HB, HT⟩ := hrel
    by_cases hkn : k < n
    · have da : decide ((k : Int) < (n : Int)) = true := decide_eq_true (by omega)
      have da2 : decide (k < n) = true := decide_eq_true hkn
      have i1 : (k : Int) < (n : Int) := by omega
      have hkl : k < l.length := by rw [HN.out]; exact hkn
      obtain ⟨b1, o1, rfl, hb1, hc1⟩ := (HL.out.below HB.out) (by intro e; rw [e] at hkl; simp at hkl)
      obtain ⟨p1, p2⟩ := hc1 k hkl
      obtain ⟨⟨x, y⟩, hx⟩ : ∃ x, l[k] = x := ⟨_, rfl⟩
      have HD := Lib.hid (show l.drop k = (x, y) :: l.drop (k + 1) by rw [← hx]; exact List.drop_eq_getElem_cons hkl)
      rw [hx] at p1 p2
      simp only at p1 p2
      have HBA := Lib.hid (HB.out.alloc HB.out.size (.cells #[.string x, .string y] 94))
      clear hx hc1 hkl
      by_cases e : x = s
      · have hq : x.toList = s.toList := by rw [e]
        have hq2 : (x.toList == s.toList) = true := by rw [toList_eqb, decide_eq_true e]
        have E := Lib.hid (show R = y by rw [HT.out, HD.out, getL, if_pos e])
        clear e
        go_wp2
        go_ret
        exact ⟨congrArg (fun x => Ending.returned (.string x)) E.out.symm, HBA.out⟩
      · have hq : ¬ x.toList = s.toList := fun h => e ((toList_iff x s).1 h)
        have hq2 : (x.toList == s.toList) = false := by rw [toList_eqb, decide_eq_false e]
        have HT2 := Lib.hid (show R = getL s (l.drop (k + 1)) by rw [HT.out, HD.out, getL, if_neg e])
        clear e
        go_wp2
        go_roundw
        case rel => exact ⟨k + 1, by omega, by simp, HBA, HT2⟩
        case measure => simp [intOf]; omega
    · have da : decide ((k : Int) < (n : Int)) = false := decide_eq_false (by omega)
      have da2 : decide (k < n) = false := decide_eq_false hkn
      have E := Lib.hid (show R = ⟨#[]⟩ by rw [HT.out, List.drop_eq_nil_of_le (by rw [HN.out]; omega)]; rfl)
      go_wp2
      go_ret
      exact ⟨congrArg (fun x => Ending.returned (.string x)) E.out.symm, HB.out⟩
end Go.Proofs.YtiolghcjndoigaaGreatDoor
namespace Go.Proofs.YtiolghcjndoigaaGreatDoor
set_option linter.unusedVariables false
set_option linter.unusedSimpArgs false
open Go.RowKit Go.PlainAid
private theorem grown_below {B : Nat} {w0 w w' : World} {g : Nat} (h : Below B w0 w) (hg : w.grownBy w' (some g)) (hB : B ≤ w.heap.size) (hr : B ≤ g) : Below B w0 w' := h.grown hg hB (fun k hk => by cases hk; exact hr)
private theorem grown_below0 {B : Nat} {w0 w w' : World} (h : Below B w0 w) (hg : w.grownBy w' none) (hB : B ≤ w.heap.size) : Below B w0 w' := h.grown hg hB (fun k hk => by cases hk)
def txs (ss : List ByteArray) : List Value := ss.map Value.string
theorem txs_length (ss : List ByteArray) : (txs ss).length = ss.length := by simp [txs]
theorem txs_one (ss : List ByteArray) : ∀ u ∈ txs ss, u.oneCell' = true := by
  intro u hu
  obtain ⟨c, _, rfl⟩ := List.mem_map.1 hu
  rfl
theorem txs_get (ss : List ByteArray) (i : Nat) (h : i < ss.length) : (txs ss)[i]? = some (.string ss[i]) := by simp [txs, h]
theorem Strs.cells {w : World} {ad : Addr} {ss : List ByteArray} (h : Strs w (some ad) ss) : ∀ j u, (txs ss)[j]? = some u → w.cell? (ad.add j) = some u := by
  intro j u hu
  have hj : j < ss.length := by
    have := (List.getElem?_eq_some_iff.1 hu).1
    rwa [txs_length] at this
  obtain ⟨b, off, e, _, hc⟩ := h (by intro e; rw [e] at hj; simp at hj)
  cases e
  rw [add_at, hc j hj]
  rw [txs_get ss j hj] at hu
  exact hu
def ownerT : ByteArray := ⟨#[116, 104, 101, 32, 111, 119, 110, 101, 114, 39, 115]⟩
def LentT (w : World) (g : Nat) (ss : List ByteArray) : Prop := w.heap[g]? = some (.cells (txs (ss ++ [ownerT, ownerT])).toArray 9 (0, 0))
def LentTPost (w : World) (ss : List ByteArray) (e : Ending) (w' : World) : Prop :=
  ∃ g, w.heap.size ≤ g ∧ e = .returned (.slice (some ⟨g, 0, none⟩) ss.length (ss.length + 2)) ∧ LentT w' g ss ∧ Below w.heap.size w w'
theorem lentt_of_owns {w : World} {base g n : Nat} {xs : List Value} (h : w.ownsRow base 9 1 (.slice (some ⟨g, 0, none⟩) n n) n xs) : w.heap[g]? = some (.cells xs.toArray 9 (0, 0)) := by
  obtain ⟨hl, h2⟩ := h
  rcases h2 with ⟨h0, _⟩ | ⟨g', cap, cur, hv, _, hg, _, _, hcs, ht⟩
  · cases h0
  · cases hv
    rw [hg]
    have : cur.toList = xs := by rw [← ht, List.take_of_length_le (by simp; omega)]
    rw [← this]
theorem markst_at (W : World) : ∀ (j : Nat) (u : Value), (txs [ownerT, ownerT])[j]? = some u → (W.alloc (.cells #[.string ⟨#[116, 104, 101, 32, 111, 119, 110, 101, 114, 39, 115]⟩, .string ⟨#[116, 104, 101, 32, 111, 119, 110, 101, 114, 39, 115]⟩] 9)).cell? ((⟨W.heap.size, 0, none⟩ : Addr).add j) = some u := by
  intro j u hu
  rw [add_here, cell_of_row _ _ _ _ _ _ (heap_alloc_new W _)]
  rw [show (#[Value.string ⟨#[116, 104, 101, 32, 111, 119, 110, 101, 114, 39, 115]⟩, .string ⟨#[116, 104, 101, 32, 111, 119, 110, 101, 114, 39, 115]⟩] : Array Value) = (txs [ownerT, ownerT]).toArray from rfl, List.getElem?_toArray]
  exact hu
set_option maxRecDepth 100000 in
set_option maxHeartbeats 1000000 in
theorem lentt_any (a : Option Addr) (ss : List ByteArray) (cap : Nat) (w : World) (H : Strs w a ss) (hc0 : a = none → cap = 0) (hsm : ss.length ≤ 100000) :
    Calls Tryz.prog 23 #[.slice a ss.length cap] w (LentTPost w ss) := by
  obtain ⟨i0, hi, hz0, hz1, hz2⟩ := info_parts info9
  have A1 := Lib.hid H
  have HF := Lib.hid (txs_length ss)
  have HONE := Lib.hid (txs_one ss)
  clear H
  unfold LentTPost
  cases a with
  | none =>
    obtain rfl : cap = 0 := hc0 rfl
    have hbs : ss = [] := by
      refine Decidable.by_contra fun hn => ?_
      obtain ⟨b, off, e, _⟩ := A1.out hn
      cases e
    subst hbs
    clear hc0 hsm
    go_enter Tryz.func23, Tryz.ntmps23
    go_wp2_with (first | (at_make; refine wpList_make_own _ rfl _ _ 69 rfl w.heap.size 9 i0 (.string ⟨#[]⟩) 1 Tryz.underlying69 hi hz0 hz1 .i64 .i64 _ 2 rfl rfl (by rfl) (by rw [hz2]; omega) (by unfold maxLen; omega) (Nat.le_refl _) ?_; intro w1 hown1 hgr1) | (at_builtin; refine wpList_append_own_none rfl (.tmp 8) (.tmp 9) 69 rfl w.heap.size 9 i0 1 Tryz.underlying69 hi _ 0 [] rfl hown1 rfl ?_) | (at_builtin; refine wpList_append_own_spare _ rfl (.tmp 11) (.tmp 12) 69 rfl w.heap.size 9 i0 1 Tryz.underlying69 hi hz1 w.heap.size 0 2 [] rfl (hown1.alloc _) ⟨w1.heap.size, 0, none⟩ 2 2 (txs [ownerT, ownerT]) rfl rfl (markst_at w1) (txs_one _) (by omega) ?_; intro w3 hown3 hgr3))
    go_ret
    have hz1' : w.heap.size ≤ w1.heap.size := hgr1.size
    exact ⟨w.heap.size, Nat.le_refl _, rfl, lentt_of_owns hown3, grown_below ((grown_below0 (Below.refl _ _) hgr1 (Nat.le_refl _)).alloc hz1' _) hgr3 (by simp; omega) (Nat.le_refl _)⟩
  | some ad =>
    clear hc0
    obtain ⟨n, hn⟩ : ∃ n, ss.length = n := ⟨_, rfl⟩
    have HN := Lib.hid hn
    rw [hn] at hsm ⊢
    clear hn
    go_enter Tryz.func23, Tryz.ntmps23
    go_wp2_with (first | (at_make; refine wpList_make_own _ rfl _ _ 69 rfl w.heap.size 9 i0 (.string ⟨#[]⟩) 1 Tryz.underlying69 hi hz0 hz1 .i64 .i64 _ (n + 2) rfl rfl (by simp) (by rw [hz2]; omega) (by unfold maxLen; omega) (Nat.le_refl _) ?_; intro w1 hown1 hgr1; have HB1 := Lib.hid (grown_below0 (Below.refl _ _) hgr1 (Nat.le_refl _)); have hsz : w.heap.size ≤ w1.heap.size := hgr1.size; clear hgr1) | (at_builtin; refine wpList_append_own_spare _ rfl (.tmp 8) (.tmp 9) 69 rfl w.heap.size 9 i0 1 Tryz.underlying69 hi hz1 w.heap.size 0 (n + 2) [] rfl hown1 ad n cap (txs ss) rfl (by rw [HF.out, HN.out, Nat.mul_one]) ((A1.out.below HB1.out).cells) HONE.out (by omega) ?_; intro w2 hown2 hgr2; have hsz2 : w.heap.size ≤ w2.heap.size := Nat.le_trans hsz hgr2.size; have HB2 := Lib.hid (grown_below HB1.out hgr2 hsz (Nat.le_refl _)); clear hgr2 hown1; simp only [Nat.zero_add, List.nil_append] at hown2) | (at_builtin; refine wpList_append_own_spare _ rfl (.tmp 11) (.tmp 12) 69 rfl w.heap.size 9 i0 1 Tryz.underlying69 hi hz1 w.heap.size n (n + 2) (txs ss) rfl (hown2.alloc _) ⟨w2.heap.size, 0, none⟩ 2 2 (txs [ownerT, ownerT]) rfl rfl (markst_at w2) (txs_one _) (by omega) ?_; intro w3 hown3 hgr3))
    go_ret
    refine ⟨w.heap.size, Nat.le_refl _, rfl, ?_, grown_below (HB2.out.alloc hsz2 _) hgr3 (by simp; omega) (Nat.le_refl _)⟩
    unfold LentT
    rw [lentt_of_owns hown3]
    simp [txs]
theorem LentT.below {w w' : World} {g : Nat} {l : List ByteArray} (h : LentT w g l) (hb : Below w.heap.size w w') : LentT w' g l := (hb.block g (Array.getElem?_eq_some_iff.1 h).1).trans h
theorem LentT.strs {w : World} {g : Nat} {ss : List ByteArray} (h : LentT w g ss) : Strs w (some ⟨g, 0, none⟩) ss := fun _ => by
  refine ⟨g, 0, rfl, (Array.getElem?_eq_some_iff.1 h).1, fun i hi => ?_⟩
  rw [Nat.zero_add, cell_of_row _ _ _ _ _ _ h, List.getElem?_toArray]
  unfold txs
  rw [List.getElem?_map, List.getElem?_append_left hi, List.getElem?_eq_getElem hi]
  rfl
/-- while it is written over -/
def SpoiltT (w : World) (g L : Nat) (wr : World) : Prop := (∃ cur, wr.heap[g]? = some (.cells cur 9 (0, 0)) ∧ cur.size = L) ∧ Only [g] w wr
theorem SpoiltT.cell {w wr : World} {g L k : Nat} (h : SpoiltT w g L wr) (hk : k < L) : (∃ u, wr.cell? ⟨g, k, none⟩ = some u) ∧ wr.frozen? ⟨g, k, none⟩ = false ∧ ∀ u, SpoiltT w g L (wr.setCell ⟨g, k, none⟩ u) := by
  obtain ⟨⟨cur, h1, h2⟩, h3⟩ := h
  refine ⟨⟨cur[k]'(by omega), ?_⟩, frozen_of_row _ _ _ _ _ h1, fun u => ⟨⟨_, heap_setCell_same _ _ _ _ _ _ h1, by simpa using h2⟩, h3.setCell (p := ⟨g, k, none⟩) (.inl (by simp)) u⟩⟩
  rw [cell_of_row _ _ _ _ _ _ h1, Array.getElem?_eq_getElem (by omega)]
set_option maxRecDepth 100000 in
set_option maxHeartbeats 800000 in
theorem spoilt_any (g n L : Nat) (w : World) (hnL : n ≤ L) (hL : L ≤ 1000000) (cur : Array Value) (h1 : w.heap[g]? = some (.cells cur 9 (0, 0))) (h2 : cur.size = L) :
    Calls Tryz.prog 29 #[.slice (some ⟨g, 0, none⟩) n L] w fun e w' => e = .returned (.tuple #[]) ∧ Only [g] w w' := by
  have H0 := Lib.hid (show SpoiltT w g L w from ⟨⟨cur, h1, h2⟩, Only.refl _ _⟩)
  clear h1 h2
  go_enter Tryz.func29, Tryz.ntmps29
  go_wp2
  go_loopw [3] (fun i wr => ∃ k : Nat, k ≤ L ∧ i = .int .i64 (k : Nat) ∧ Hid (SpoiltT w g L wr)) (fun i _ => L - (intOf i).toNat)
  case atStart => exact ⟨0, Nat.zero_le _, rfl, H0⟩
  case round =>
    obtain ⟨k, hk, rfl, HS⟩ := hrel
    by_cases hlt : k < L
    · obtain ⟨⟨u, hc⟩, hf, hset⟩ := HS.out.cell hlt
      have HN := Lib.hid (hset (.string ⟨#[115, 112, 111, 105, 108, 116]⟩))
      have hi : (k : Int) < (L : Int) := by omega
      have hd : decide ((k : Int) < (L : Int)) = true := by simp; omega
      clear hset
      go_wp2
      go_roundw
      case rel => exact ⟨k + 1, by omega, by go_num, HN⟩
      case measure => simp [intOf]; omega
    · obtain rfl : k = L := by omega
      go_wp2
      go_end0
      exact ⟨rfl, HS.out.2⟩
end Go.Proofs.YtiolghcjndoigaaGreatDoor
namespace Go.Proofs.YtiolghcjndoigaaGreatDoor
set_option linter.unusedVariables false
set_option linter.unusedSimpArgs false
open Go.RowKit Go.PlainAid
set_option maxHeartbeats 1000000 in
theorem sametexts_any (a a2 : Option Addr) (ss : List ByteArray) (cap cap2 : Nat) (w : World) (H : Strs w a ss) (H2 : Strs w a2 ss) (hz : ss.length ≤ maxLen) :
    Calls Tryz.prog 96 #[.slice a ss.length cap, .slice a2 ss.length cap2] w (Gives w (.bool true)) := by
  have A1 := Lib.hid H
  have A2 := Lib.hid H2
  obtain ⟨n, hn⟩ : ∃ n, ss.length = n := ⟨_, rfl⟩
  have HN := Lib.hid hn
  have hz' : n ≤ 9223372036854775807 := by rw [← hn]; exact hz
  rw [hn]
  clear H H2 hz hn
  go_enter Tryz.func96, Tryz.ntmps96
  go_wp2
  go_loopw [5] (fun i wr => ∃ k : Nat, k ≤ n ∧ i = .int .i64 k ∧ Hid (Below w.heap.size w wr)) (fun i _ => n - (intOf i).toNat)
  case atStart => exact ⟨0, Nat.zero_le _, rfl, Lib.hid (Below.refl _ _)⟩
  case round =>
    obtain ⟨k, hk, rfl, HB⟩ := hrel
    by_cases hlt : k < n
    · have hkl : k < ss.length := by rw [HN.out]; exact hlt
      obtain ⟨b, off, rfl, hb, hc⟩ := (A1.out.below HB.out) (by intro e; rw [e] at hkl; simp at hkl)
      obtain ⟨b2, off2, rfl, hb2, hc2⟩ := (A2.out.below HB.out) (by intro e; rw [e] at hkl; simp at hkl)
      have p1 := hc k hkl
      have p2 := hc2 k hkl
      obtain ⟨x, hx⟩ : ∃ x, ss[k] = x := ⟨_, rfl⟩
      rw [hx] at p1 p2
      have hi : (k : Int) < (n : Int) := by omega
      have hd : decide ((k : Int) < (n : Int)) = true := decide_eq_true hi
      have hd2 : decide (k < n) = true := decide_eq_true hlt
      have hq : (x.toList == x.toList) = true := by simp
      clear hc hc2 hx hkl
      go_wp2_with (go_quiet (fail))
      go_roundw
      case rel => exact ⟨k + 1, by omega, by simp, Lib.hid (by have := HB.out; exact ⟨this.os, this.tape, this.output, this.size, this.block⟩)⟩
      case measure => simp [intOf]; omega
    · have hd : decide ((k : Int) < (n : Int)) = false := decide_eq_false (by omega)
      have hd2 : decide (k < n) = false := decide_eq_false hlt
      go_wp2
      go_ret
      exact ⟨rfl, HB.out⟩
theorem LentT.mark {w : World} {g : Nat} {ss : List ByteArray} (h : LentT w g ss) : w.cell? ⟨g, ss.length, none⟩ = some (.string ownerT) ∧ w.cell? ⟨g, ss.length + 1, none⟩ = some (.string ownerT) := by
  rw [cell_of_row _ _ _ _ _ _ h, cell_of_row _ _ _ _ _ _ h, List.getElem?_toArray, List.getElem?_toArray]
  constructor <;> simp [txs]
set_option maxRecDepth 100000 in
set_option maxHeartbeats 1000000 in
theorem wholet_any (g : Nat) (a : Option Addr) (ss : List ByteArray) (cap : Nat) (w : World) (L : LentT w g ss) (H : Strs w a ss) (hsm : ss.length ≤ 100000) :
    Calls Tryz.prog 28 #[.slice (some ⟨g, 0, none⟩) ss.length (ss.length + 2), .slice a ss.length cap] w (Gives w (.bool true)) := by
  obtain ⟨m1, m2⟩ := L.mark
  have C := Lib.hid (sametexts_any _ a ss (ss.length + 2) cap w L.strs H (by unfold maxLen; omega))
  obtain ⟨n, hn⟩ : ∃ n, ss.length = n := ⟨_, rfl⟩
  rw [hn] at m1 m2 C hsm ⊢
  simp only [ownerT] at m1 m2
  clear L H hn
  go_enter Tryz.func28, Tryz.ntmps28
  go_wp2_with (go_at_call 96; refine C.out.mono ?_; rintro e w' ⟨rfl, hb⟩; have HB := Lib.hid hb; clear hb)
  go_ret
  exact ⟨rfl, HB.out⟩
end Go.Proofs.YtiolghcjndoigaaGreatDoor
namespace Go.Proofs.YtiolghcjndoigaaGreatDoor
set_option linter.unusedVariables false
set_option linter.unusedSimpArgs false
open Go.RowKit Go.ChangeShapes Go.WideShapes
theorem two_listz {cs : List Value} (h : cs.length = 2) : ∃ c0 c1, cs = [c0, c1] := by
  rcases cs with _ | ⟨c0, _ | ⟨c1, _ | ⟨c2, t⟩⟩⟩
  · cases h
  · cases h
  · exact ⟨c0, c1, rfl⟩
  · simp at h
theorem one9z : Tryz.prog.cellsOf 9 = 1 := by kernel_rfl
theorem two94z : Tryz.prog.cellsOf 94 = 2 := by kernel_rfl
theorem lab_cellz {H : Type} {enc : TypeId × Value → H} {w : World} {base fuel : Nat} {spare : Nat → Bool} {held : Bool} {cs : List Value} {a : Addr} {d : DataW H} {pl : List MemPlace}
    (hc : w.cells? base a 2 = some cs) (ht : DataW.trod enc Tryz.prog w base spare held fuel 94 cs = some (d, pl)) :
    ∃ x : Lm.Lb, w.cell? (a.add 0) = some (.string x.1) ∧ w.cell? (a.add 1) = some (.string x.2) ∧ x.1.size ≤ maxLen := by
  obtain ⟨ys, n, _, _, _, hyl, hf⟩ := DataW.trod_struct Tryz.underlying94 ht
  obtain ⟨_, hcl, hat⟩ := World.cells?_some hc
  obtain ⟨c0, c1, rfl⟩ := two_listz hcl
  have t0 : DataW.trod enc Tryz.prog w base spare held n 9 (([c0, c1].drop 0).take (Tryz.prog.cellsOf 9)) = ys[0]? := hf 0 _ rfl
  have t1 : DataW.trod enc Tryz.prog w base spare held n 9 (([c0, c1].drop 1).take (Tryz.prog.cellsOf 9)) = ys[1]? := hf 1 _ rfl
  have y0 : ys[0]? = some (ys[0]'(by rw [hyl]; decide)) := List.getElem?_eq_getElem _
  have y1 : ys[1]? = some (ys[1]'(by rw [hyl]; decide)) := List.getElem?_eq_getElem _
  rw [y0, one9z] at t0
  rw [y1, one9z] at t1
  obtain ⟨s0, e0, _, z0⟩ := DataW.trod_string Tryz.underlying9 t0
  obtain ⟨s1, e1, _⟩ := DataW.trod_string Tryz.underlying9 t1
  have a0 : c0 = .string s0 := by simpa using e0
  have a1 : c1 = .string s1 := by simpa using e1
  subst a0 a1
  exact ⟨(s0, s1), hat 0 (by decide), hat 1 (by decide), z0⟩
theorem labz_of_trod {H : Type} {enc : TypeId × Value → H} {w : World} {base fuel : Nat} {spare : Nat → Bool} {held : Bool} {a : Option Addr} {len cap : Nat} {x : DataW H × List MemPlace}
    (h : DataW.trod enc Tryz.prog w base spare held fuel 22 [.slice a len cap] = some x) : ∃ l : List Lm.Lb, l.length = len ∧ len ≤ maxLen ∧ Labs w a l ∧ (∀ x ∈ l, x.1.size ≤ maxLen) ∧ (a = none → cap = 0) := by
  rcases Go.Deep.open_slice Tryz.underlying22 h with ⟨hcs, _⟩ | ⟨ad, l, c, m, n, D, Pl, hcs, _, hl, hm, hmm, _, hi⟩
  · simp at hcs
    obtain ⟨rfl, rfl, rfl⟩ := hcs
    exact ⟨[], rfl, Nat.zero_le _, fun h => absurd rfl h, fun x hx => by simp at hx, fun _ => rfl⟩
  · simp at hcs
    obtain ⟨rfl, rfl, rfl⟩ := hcs
    have hlm : len ≤ m := by rw [hmm]; split <;> omega
    have hone : ∀ i, i < len → ∃ o : Lm.Lb, w.cell? ((ad.add (i * 2)).add 0) = some (.string o.1) ∧ w.cell? ((ad.add (i * 2)).add 1) = some (.string o.2) ∧ o.1.size ≤ maxLen := by
      intro i hil
      obtain ⟨cs', hc, ht⟩ := hi i (by omega)
      rw [two94z] at hc
      exact lab_cellz hc ht
    have hall : ∀ k, k ≤ len → ∃ os : List Lm.Lb, os.length = k ∧ ∀ i (hi : i < os.length), w.cell? ((ad.add (i * 2)).add 0) = some (.string os[i].1) ∧ w.cell? ((ad.add (i * 2)).add 1) = some (.string os[i].2) ∧ os[i].1.size ≤ maxLen := by
      intro k hk
      induction k with
      | zero => exact ⟨[], rfl, fun i hi => absurd hi (by simp)⟩
      | succ k ih =>
        obtain ⟨os, hl, ho⟩ := ih (by omega)
        obtain ⟨o, h1⟩ := hone k (by omega)
        refine ⟨os ++ [o], by simp [hl], fun i hi => ?_⟩
        by_cases hik : i < os.length
        · rw [List.getElem_append_left hik]; exact ho i hik
        · have : i = k := by simp [hl] at hi; omega
          subst this
          have e : (os ++ [o])[i] = o := by rw [List.getElem_append_right (by omega)]; simp [hl]
          rw [e]; exact h1
    obtain ⟨os, hl2, ho⟩ := hall len (Nat.le_refl _)
    refine ⟨os, hl2, Nat.le_trans hl hm, fun hn => ?_, fun x hx => ?_, fun h => by cases h⟩
    · have h0 : 0 < os.length := List.length_pos_iff.2 hn
      obtain ⟨b, off, spot⟩ := ad
      have hc0 := (ho 0 h0).1
      have hspot : spot = none := by simpa [Addr.add] using World.cell?_spot hc0
      subst hspot
      refine ⟨b, off, rfl, ?_, fun i hi => ?_⟩
      · have := World.block_lt_of_cell? _ _ hc0
        simpa [Addr.add] using this
      · obtain ⟨k1, k2, _⟩ := ho i hi
        rw [add_at, add_at] at k1 k2
        exact ⟨k1, k2⟩
    · obtain ⟨i, hi, rfl⟩ := List.getElem_of_mem hx
      exact (ho i hi).2.2
theorem strz_of_trod {H : Type} {enc : TypeId × Value → H} {w : World} {base fuel : Nat} {spare : Nat → Bool} {held : Bool} {a : Option Addr} {len cap : Nat} {x : DataW H × List MemPlace}
    (h : DataW.trod enc Tryz.prog w base spare held fuel 69 [.slice a len cap] = some x) : ∃ ss : List ByteArray, ss.length = len ∧ len ≤ maxLen ∧ Strs w a ss ∧ (∀ x ∈ ss, x.size ≤ maxLen) ∧ (a = none → cap = 0) := by
  rcases Go.ChangeShapes.open_strings Tryz.underlying69 Tryz.underlying9 one9z h with ⟨hcs, _⟩ | ⟨ad, l, c, ss, hcs, _, hl, hm, hsl, _, hc, hz⟩
  · simp at hcs
    obtain ⟨rfl, rfl, rfl⟩ := hcs
    exact ⟨[], rfl, Nat.zero_le _, fun h => absurd rfl h, fun x hx => by simp at hx, fun _ => rfl⟩
  · simp at hcs
    obtain ⟨rfl, rfl, rfl⟩ := hcs
    have hlm : len ≤ ss.length := by rw [hsl]; split <;> omega
    refine ⟨ss.take len, by rw [List.length_take]; omega, Nat.le_trans hl hm, fun hn => ?_, fun x hx => hz x (List.mem_of_mem_take hx), fun h => by cases h⟩
    have h0 : 0 < (ss.take len).length := List.length_pos_iff.2 hn
    have h0' : 0 < ss.length := by rw [List.length_take] at h0; omega
    obtain ⟨b, off, spot⟩ := ad
    have hc0 := hc 0 h0'
    have hspot : spot = none := by simpa [Addr.add] using World.cell?_spot hc0
    subst hspot
    refine ⟨b, off, rfl, ?_, fun i hi => ?_⟩
    · have := World.block_lt_of_cell? _ _ hc0
      simpa [Addr.add] using this
    · have hi2 : i < ss.length := by rw [List.length_take] at hi; omega
      have := hc i hi2
      rw [add_at] at this
      rw [this, List.getElem_take, List.getD_eq_getElem?_getD, List.getElem?_eq_getElem hi2]
      rfl
end Go.Proofs.YtiolghcjndoigaaGreatDoor
