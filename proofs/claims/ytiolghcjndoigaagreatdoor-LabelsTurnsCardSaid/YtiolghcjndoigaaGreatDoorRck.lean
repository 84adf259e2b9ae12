/-
  WALKS: the reference: is it a set.
-/
import Derived.Test.YtiolghcjndoigaaGreatDoorRtw
import Derived.Test.YtiolghcjndoigaaGreatDoorRnm
import Derived.Test.YtiolghcjndoigaaGreatDoorBck
namespace Go.Proofs.YtiolghcjndoigaaGreatDoor
set_option linter.unusedVariables false
set_option linter.unusedSimpArgs false
open Go.RowKit Go.PlainAid Go.Shelf
/-- what the chapter says of a list, by definition -/
def chkN (l : List Lm.Lb) : Nat :=
  if 64 < l.length then 72 else if (l.any badB || l.any emptyB) = true then 70 else if twiceB l = true then 71 else if risesB l = true then 0 else 70
theorem chk_same {l : List Lm.Lb} {c : Nat} (h : CheckIs l c) : c = chkN l := by
  unfold chkN
  rcases h with ⟨h1, h⟩ | ⟨h1, h2, h⟩ | ⟨h1, h2, h3⟩
  · rw [if_pos h1]; exact h
  · rw [if_neg (by omega), if_pos h2]; exact h
  · rw [if_neg (by omega), if_neg (by rw [h2]; simp)]
    rcases h3 with ⟨h4, h⟩ | ⟨h4, l', hp, hr, h5⟩
    · rw [twice_no (fun ht => (twice_iff l).1 ht (rises_nodup h4)), if_neg (by simp), if_pos h4]; exact h
    · rcases h5 with ⟨h6, h⟩ | ⟨h6, h⟩
      · rw [twice_no (fun ht => (twice_iff l).1 ht ((hp.map Prod.fst).nodup_iff.1 (rises_nodup h6))), if_neg (by simp), if_neg (by rw [h4]; simp)]; exact h
      · have ht : twiceB l = true := by
          refine twice_yes ((twice_iff l).2 fun hd => ?_)
          have := rises_strict hd hp hr
          rw [this] at h6
          cases h6
        rw [if_pos ht]; exact h
theorem chk_le (l : List Lm.Lb) : chkN l ≤ 72 := by unfold chkN; (repeat' split) <;> omega
set_option maxHeartbeats 2000000 in
theorem rcheck_any (a : Option Addr) (c : Nat) (l : List Lm.Lb) (w : World) (H : Labs w a l) (hz : l.length ≤ maxLen) : Calls Tryz.prog 20 #[.slice a l.length c] w (Gives w (.int .u16 ((chkN l : Nat) : Int))) := by
  have CT := Lib.hid (fun w H => rtwice_any a c l w H hz)
  have CN := Lib.hid rname_any
  have HL := Lib.hid H
  have HI := Lib.hid (risesB_iff l)
  have HK := Lib.hid (show chkN l = if 64 < l.length then 72 else if (l.any badB || l.any emptyB) = true then 70 else if twiceB l = true then 71 else if risesB l = true then 0 else 70 from rfl)
  obtain ⟨R, hR⟩ : ∃ R, chkN l = R := ⟨_, rfl⟩
  rw [hR] at HK ⊢
  obtain ⟨n, hn⟩ : ∃ n, l.length = n := ⟨_, rfl⟩
  have HN := Lib.hid hn
  have hz' : n ≤ 9223372036854775807 := by rw [← hn]; exact hz
  rw [hn] at HK CT ⊢
  clear H hz hn hR
  by_cases h64 : 64 < n
  · have E := Lib.hid (show R = 72 by rw [HK.out, if_pos h64])
    have d : decide ((n : Int) > 64) = true := decide_eq_true (by omega)
    have d2 : decide ((64 : Int) < (n : Int)) = true := decide_eq_true (by omega)
    have d3 : decide (64 < n) = true := decide_eq_true (by omega)
    go_enter Tryz.func20, Tryz.ntmps20
    go_wp2
    go_ret
    exact ⟨by rw [E.out]; rfl, Below.refl _ _⟩
  have d1 : decide ((n : Int) > 64) = false := decide_eq_false (by omega)
  have d2 : decide ((64 : Int) < (n : Int)) = false := decide_eq_false (by omega)
  have d3 : decide (64 < n) = false := decide_eq_false (by omega)
  have HK2 := Lib.hid (show R = if (l.any badB || l.any emptyB) = true then 70 else if twiceB l = true then 71 else if risesB l = true then 0 else 70 by rw [HK.out, if_neg h64])
  clear HK
  go_enter Tryz.func20, Tryz.ntmps20
  go_wp2
  go_loopw [3] (fun i wr => ∃ k : Nat, k ≤ n ∧ i = .int .i64 k ∧ Hid (Below w.heap.size w wr) ∧ Hid (∀ j (h : j < l.length), j < k → badB l[j] = false ∧ emptyB l[j] = false)) (fun i _ => (n - (intOf i).toNat))
  case atStart => exact ⟨0, by omega, rfl, Lib.hid (Below.refl _ _), Lib.hid (fun j h hj => by omega)⟩
  case round =>
    obtain ⟨k, hk1, rfl, HB, HT⟩ := hrel
    by_cases hkn : k < n
    · have da : decide ((k : Int) < (n : Int)) = true := decide_eq_true (by omega)
      have da2 : decide (k < n) = true := decide_eq_true hkn
      have hkl : k < l.length := by rw [HN.out]; exact hkn
      obtain ⟨b1, o1, rfl, hb1, hc1⟩ := (HL.out.below HB.out) (by intro e; rw [e] at hkl; simp at hkl)
      obtain ⟨p1, p2⟩ := hc1 k hkl
      obtain ⟨⟨x, y⟩, hx⟩ : ∃ x, l[k] = x := ⟨_, rfl⟩
      rw [hx] at p1 p2
      simp only at p1 p2
      have HIN := Lib.hid (show ((badB (x, y) = true ∨ emptyB (x, y) = true) → R = 70) by
        intro h
        have hm : (x, y) ∈ l := by rw [← hx]; exact List.getElem_mem hkl
        rw [HK2.out, if_pos]
        rw [Bool.or_eq_true]
        exact h.imp (fun h => List.any_eq_true.2 ⟨_, hm, h⟩) (fun h => List.any_eq_true.2 ⟨_, hm, h⟩))
      have HNX := Lib.hid (show badB (x, y) = false → emptyB (x, y) = false → ∀ j (h : j < l.length), j < k + 1 → badB l[j] = false ∧ emptyB l[j] = false by
        intro h1 h2 j hj hjk
        by_cases e : j = k
        · subst e
          rw [hx]; exact ⟨h1, h2⟩
        · exact HT.out j hj (by omega))
      have EB := Lib.hid (show badB (x, y) = (!nameB x || decide (1024 < y.size)) from rfl)
      have EE := Lib.hid (show emptyB (x, y) = decide (y = ⟨#[]⟩) from rfl)
      have C1 := Lib.hid (fun w => CN.out x w)
      clear hx hc1 HT hkl
      by_cases hnx : nameB x = true
      · rw [hnx] at C1
        by_cases hy : y = ⟨#[]⟩
        · have E := Lib.hid (HIN.out (.inr (by rw [EE.out, decide_eq_true hy])))
          have h2 : y.toList = [] := by rw [hy, ByteArray.toList_eq]
          have h3 : y.toList.isEmpty = true := by rw [h2]; rfl
          clear hy hnx
          go_wp2_with (go_at_call 37; refine (C1.out _).mono ?_; rintro e w' ⟨rfl, rfl⟩)
          go_ret
          exact ⟨by rw [E.out]; rfl, HB.out⟩
        · have h2 : ¬ y.toList = [] := fun e => hy ((toList_iff _ _).1 (by rw [e, ByteArray.toList_eq]))
          have h3 : y.toList.isEmpty = false := by cases hh : y.toList with
            | nil => exact absurd hh h2
            | cons => rfl
          by_cases hs : 1024 < y.size
          · have E := Lib.hid (HIN.out (.inl (by rw [EB.out, decide_eq_true hs, Bool.or_true])))
            have e1 : decide ((y.size : Int) > 1024) = true := decide_eq_true (by omega)
            have e2 : decide ((1024 : Int) < (y.size : Int)) = true := decide_eq_true (by omega)
            have e3 : decide (1024 < y.size) = true := decide_eq_true (by omega)
            clear hy hnx
            go_wp2_with (go_at_call 37; refine (C1.out _).mono ?_; rintro e w' ⟨rfl, rfl⟩)
            go_ret
            exact ⟨by rw [E.out]; rfl, HB.out⟩
          · have HT2 := Lib.hid (HNX.out (by rw [EB.out, hnx, decide_eq_false hs]; rfl) (by rw [EE.out, decide_eq_false hy]))
            have e1 : decide ((y.size : Int) > 1024) = false := decide_eq_false (by omega)
            have e2 : decide ((1024 : Int) < (y.size : Int)) = false := decide_eq_false (by omega)
            have e3 : decide (1024 < y.size) = false := decide_eq_false (by omega)
            clear hy hnx
            go_wp2_with (go_at_call 37; refine (C1.out _).mono ?_; rintro e w' ⟨rfl, rfl⟩)
            go_roundw
            case rel => exact ⟨k + 1, by omega, by simp, HB, HT2⟩
            case measure => simp [intOf]; omega
      · have hnx2 : nameB x = false := by simpa using hnx
        rw [hnx2] at C1
        have E := Lib.hid (HIN.out (.inl (by rw [EB.out, hnx2]; rfl)))
        clear hnx hnx2
        go_wp2_with (go_at_call 37; refine (C1.out _).mono ?_; rintro e w' ⟨rfl, rfl⟩)
        go_ret
        exact ⟨by rw [E.out]; rfl, HB.out⟩
    · have hkk : k = n := by omega
      subst hkk
      have da : decide ((k : Int) < (k : Int)) = false := decide_eq_false (by omega)
      have da2 : decide (k < k) = false := decide_eq_false (by omega)
      have HK3 := Lib.hid (show R = if twiceB l = true then 71 else if risesB l = true then 0 else 70 by
        have h1 : l.any badB = false := any_of (fun x hx => by
          obtain ⟨i, hi, rfl⟩ := List.getElem_of_mem hx
          exact (HT.out i hi (by have := HN.out; omega)).1)
        have h2 : l.any emptyB = false := any_of (fun x hx => by
          obtain ⟨i, hi, rfl⟩ := List.getElem_of_mem hx
          exact (HT.out i hi (by have := HN.out; omega)).2)
        rw [HK2.out, if_neg (by rw [h1, h2]; simp)])
      clear HT HK2
      obtain ⟨T, hT⟩ : ∃ T, twiceB l = T := ⟨_, rfl⟩
      rw [hT] at HK3 CT
      clear hT
      go_wp2_with fail
      refine (CT.out _ (HL.out.below HB.out)).mono ?_
      rintro e w2 ⟨rfl, hb⟩
      have HB2 := Lib.hid (HB.out.trans (hb.mono HB.out.size))
      clear hb
      cases T with
      | true =>
        have E := Lib.hid (show R = 71 by rw [HK3.out, if_pos rfl])
        go_wp2
        go_ret
        exact ⟨by rw [E.out]; rfl, HB2.out⟩
      | false =>
        have HK4 := Lib.hid (show R = if risesB l = true then 0 else 70 by rw [HK3.out, if_neg (by simp)])
        clear HK3
        go_wp2
        go_loopw [6] (fun i wr => ∃ j : Nat, (j + 1 ≤ k ∨ j = 0) ∧ i = .int .i64 ((j : Int) + 1) ∧ Hid (Below w.heap.size w wr) ∧ Hid (∀ i (h : i + 1 < l.length), i < j → Lm.strC l[i].1 l[i + 1].1 < 0)) (fun i _ => (k + 1 - (intOf i).toNat))
        case atStart => exact ⟨0, .inr rfl, rfl, HB2, Lib.hid (fun j h hj => by omega)⟩
        case round =>
          obtain ⟨j, hj1, rfl, HB3, HT⟩ := hrel
          by_cases hjk : j + 1 < k
          · have db : decide ((j : Int) + 1 < (k : Int)) = true := decide_eq_true (by omega)
            have db2 : decide (j + 1 < k) = true := decide_eq_true hjk
            have hkl : j + 1 < l.length := by rw [HN.out]; exact hjk
            obtain ⟨b1, o1, rfl, hb1, hc1⟩ := (HL.out.below HB3.out) (by intro e; rw [e] at hkl; simp at hkl)
            obtain ⟨p1, p2⟩ := hc1 j (by omega)
            obtain ⟨q1, q2⟩ := hc1 (j + 1) hkl
            obtain ⟨x, hx⟩ : ∃ x, l[j].1 = x := ⟨_, rfl⟩
            obtain ⟨y, hy⟩ : ∃ x, l[j + 1].1 = x := ⟨_, rfl⟩
            rw [hx] at p1
            rw [hy] at q1
            have hl := less_strC y x
            have hq : (y.toList == x.toList) = decide (y = x) := by
              have := toList_iff y x
              by_cases e : y = x
              · rw [decide_eq_true e, e]; simp
              · rw [decide_eq_false e]; simpa using fun h => e (this.1 h)
            have hs := Lm.strC_lin.same y x
            have ha := Lm.strC_lin.anti y x
            have hw1 : wrap64 ((j : Int) + 1 - 1) = (j : Int) := by rw [wrap64_small (by omega) (by omega)]; omega
            have hw2 : IntKind.i64.wrap ((j : Int) + 1 - 1) = (j : Int) := by rw [IntKind.wrap_i64]; omega
            have i0 : j < k := by omega
            have i1 : (j : Int) < (k : Int) := by omega
            by_cases hr : Lm.strC x y < 0
            · rw [decide_eq_false (by omega)] at hl
              rw [decide_eq_false (fun e => by have := hs.2 e; omega)] at hq
              have HT2 := Lib.hid (show ∀ i (h : i + 1 < l.length), i < j + 1 → Lm.strC l[i].1 l[i + 1].1 < 0 by
                intro i hi hik
                by_cases e : i = j
                · subst e
                  rw [hx, hy]; exact hr
                · exact HT.out i hi (by omega))
              clear hs ha hr hx hy hc1 p2 q2
              go_wp2_with (go_quiet (fail))
              go_roundw
              case rel => exact ⟨j + 1, by omega, by simp, Lib.hid (by have := HB3.out; exact ⟨this.os, this.tape, this.output, this.size, this.block⟩), HT2⟩
              case measure => simp [intOf]; omega
            · have E := Lib.hid (show R = 70 by
                have h0 : risesB l = false := by
                  cases hh : risesB l with
                  | false => rfl
                  | true =>
                    have := HI.out.1 hh j hkl
                    rw [hx, hy] at this
                    exact absurd this hr
                rw [HK4.out, h0, if_neg (by simp)])
              have hor : (Op.bytesLess y.toList x.toList || y.toList == x.toList) = true := by
                rw [hl, hq]
                by_cases e : Lm.strC y x < 0
                · rw [decide_eq_true e]; rfl
                · rw [decide_eq_true (hs.1 (by omega)), Bool.or_true]
              clear hs ha hr hx hy hc1 p2 q2 hl hq
              go_wp2_with (go_quiet (fail))
              go_ret
              exact ⟨by rw [E.out]; rfl, (by have := HB3.out; exact ⟨this.os, this.tape, this.output, this.size, this.block⟩)⟩
          · have db : decide ((j : Int) + 1 < (k : Int)) = false := decide_eq_false (by omega)
            have db2 : decide (j + 1 < k) = false := decide_eq_false (by omega)
            have E := Lib.hid (show R = 0 by
              have h0 : risesB l = true := HI.out.2 (fun i hi => HT.out i hi (by have := HN.out; omega))
              rw [HK4.out, h0, if_pos rfl])
            go_wp2
            go_ret
            exact ⟨by rw [E.out]; rfl, HB3.out⟩
end Go.Proofs.YtiolghcjndoigaaGreatDoor
