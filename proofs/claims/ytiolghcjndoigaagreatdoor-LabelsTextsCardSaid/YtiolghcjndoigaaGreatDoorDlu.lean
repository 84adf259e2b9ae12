/-
  WALKS: the library's DeleteFunc on labels.
-/
import Derived.Test.YtiolghcjndoigaaGreatDoorDlt
namespace Go.Proofs.YtiolghcjndoigaaGreatDoor
set_option linter.unusedVariables false
set_option linter.unusedSimpArgs false
open Go.RowKit Go.PlainAid Go.Shelf
/-- what is left of a list of the call's own -/
def KeptL (w : World) (base : Nat) (l' : List Lm.Lb) (e : Ending) (w' : World) : Prop := ∃ v, e = .returned v ∧ OwnL w' base v l' ∧ Below base w w'
theorem front_step {w : World} {g n i j : Nat} {F : List Lm.Lb} {x : Lm.Lb} (hF : Front w g F) (hi : F.length = i) (h1 : (w.cell? ⟨g, i * 2, none⟩).isSome = true) (h2 : (w.cell? ⟨g, i * 2 + 1, none⟩).isSome = true) :
    Front ((w.setCell ⟨g, i * 2, none⟩ (.string x.1)).setCell ⟨g, i * 2 + 1, none⟩ (.string x.2)) g (F ++ [x]) := by
  intro t ht
  rw [List.length_append, List.length_singleton] at ht
  by_cases he : t < F.length
  · obtain ⟨c1, c2⟩ := hF t he
    rw [List.getElem_append_left he, cell_other _ _ _ _ _ (by omega), cell_other _ _ _ _ _ (by omega), cell_other _ _ _ _ _ (by omega), cell_other _ _ _ _ _ (by omega)]
    exact ⟨c1, c2⟩
  · have : t = i := by omega
    subst this
    have e : (F ++ [x])[t]'(by rw [List.length_append, List.length_singleton]; omega) = x := by rw [List.getElem_append_right (by omega)]; simp [hi]
    rw [e]
    refine ⟨?_, ?_⟩
    · rw [cell_other _ _ _ _ _ (by omega)]
      exact World.cell?_setCell_same' _ _ _ h1
    · exact World.cell?_setCell_same' _ _ _ (by rw [cell_other _ _ _ _ _ (by omega)]; exact h2)
set_option maxHeartbeats 4000000 in
set_option maxRecDepth 100000 in
theorem delete_any (p : Lm.Lb → Bool) (gf : Nat) (eg : ∀ args w, (callFunc gf args).run Tryz.prog w = .ok (.enter gf args) w) (hp : ∀ (x : Lm.Lb) (W : World), Calls Tryz.prog gf #[.agg #[.string x.1, .string x.2]] W (Gives W (.bool (p x)))) (base : Nat) (v : Value) (l : List Lm.Lb) (w : World) (h : OwnL w base v l) (hz : l.length ≤ maxLen) (hbw : base ≤ w.heap.size) :
    Calls Tryz.prog 52 #[v, .func (.func gf) #[] #[]] w (KeptL w base (l.filter fun x => !p x)) := by
  obtain ⟨a, cap, rfl, hL, hg⟩ := h.labs
  have CI := Lib.hid (index_any p gf eg hp a cap l w hL hz)
  rcases idx_spec p l with ⟨e1, hall⟩ | ⟨k0, hk0, e1, ht, hall⟩
  · have hfil : (l.filter fun x => !p x) = l := List.filter_eq_self.2 (fun x hx => by rw [hall x hx]; rfl)
    rw [hfil]
    rw [e1] at CI
    have HO := Lib.hid h
    have HR := Lib.hid hbw
    obtain ⟨n, hn⟩ : ∃ n, l.length = n := ⟨_, rfl⟩
    rw [hn] at CI HO ⊢
    clear h hbw hL hg hall e1 hfil hp eg hn hz
    go_enter Tryz.func52, Tryz.ntmps52
    go_wp2_with (go_at_call 90; refine CI.out.mono ?_; rintro e w' ⟨rfl, hb⟩)
    go_ret
    exact ⟨_, rfl, HO.out.below hb, hb.mono HR.out⟩
  · have hn0 : l ≠ [] := by intro e; rw [e] at hk0; simp at hk0
    obtain ⟨g, rfl, hbg⟩ := hg hn0
    obtain ⟨b', off', ha, hlt, hcs⟩ := hL hn0
    cases ha
    have hrow : RowG w g cap ∧ l.length ≤ cap ∧ cap ≤ maxLen := by
      rcases h.2 with ⟨e, _⟩ | ⟨g2, c2, cur, e, hg2, hcur, h3, h4, h5, _⟩
      · cases e
      · cases e
        exact ⟨⟨cur, hcur, h5⟩, h3, h4⟩
    obtain ⟨hR, hcap, hmx⟩ := hrow
    have hfront : Front w g l := fun t ht => by
      have := hcs t ht
      rw [Nat.zero_add] at this
      exact this
    rw [e1] at CI
    obtain ⟨n, hn⟩ : ∃ n, l.length = n := ⟨_, rfl⟩
    have HN := Lib.hid hn
    have hz' : n ≤ 9223372036854775807 := by rw [← hn]; exact hz
    rw [hn] at CI hcap hk0 ⊢
    have HW := Lib.hid hR
    have HF := Lib.hid hfront
    have HP := Lib.hid hp
    have HB := Lib.hid hbw
    have HK := Lib.hid (And.intro ht hall)
    have hne : ((k0 : Int) == -1) = false := beq_eq_false_iff_ne.2 (by omega)
    have hne2 : ¬ ((k0 : Int) = -1) := by omega
    have hk1 : wrap64 ((k0 : Int) + 1) = ((k0 + 1 : Nat) : Int) := by rw [wrap64_small (by omega) (by omega)]; omega
    have hgw := hR.lt
    have HMX := Lib.hid hmx
    clear h hbw hL hg hall e1 hp hn hz hR hfront ht hcs hlt hn0 hmx
    go_enter Tryz.func52, Tryz.ntmps52
    go_wp2_with (go_at_call 90; refine CI.out.mono ?_; rintro e w1 ⟨rfl, hb⟩; have B1 := Lib.hid hb; clear hb)
    go_loopw [5, 6] (fun s5 s6 wr => ∃ (i j : Nat), s5 = .int .i64 i ∧ s6 = .int .i64 j ∧ i < j ∧ j ≤ n ∧ Hid (RowG wr g cap) ∧ Hid (Below base w wr) ∧ Hid (w.heap.size ≤ wr.heap.size) ∧ Hid (((l.take j).filter fun x => !p x).length = i ∧ Front wr g ((l.take j).filter fun x => !p x)) ∧ Hid (∀ t (h : t < l.length), j ≤ t → wr.cell? ⟨g, t * 2, none⟩ = some (.string l[t].1) ∧ wr.cell? ⟨g, t * 2 + 1, none⟩ = some (.string l[t].2)))
      (fun _ s6 _ => n - (intOf s6).toNat)
    case atStart =>
      have hfil : (l.take (k0 + 1)).filter (fun x => !p x) = l.take k0 := by
        have hk := HN.out
        rw [List.take_succ_eq_append_getElem (by omega), List.filter_append, List.filter_eq_self.2 (fun x hx => by rw [HK.out.2 x hx]; rfl)]
        simp [HK.out.1]
      refine ⟨k0, k0 + 1, rfl, by simp, by omega, by omega, Lib.hid (HW.out.below B1.out hgw), Lib.hid (B1.out.mono HB.out), Lib.hid B1.out.size, Lib.hid ?_, Lib.hid ?_⟩
      · rw [hfil]
        have hk := HN.out
        refine ⟨by rw [List.length_take]; omega, fun t ht => ?_⟩
        rw [List.length_take] at ht
        obtain ⟨c1, c2⟩ := HF.out t (by omega)
        rw [List.getElem_take]
        exact ⟨(B1.out.cell (p := ⟨g, t * 2, none⟩) hgw).trans c1, (B1.out.cell (p := ⟨g, t * 2 + 1, none⟩) hgw).trans c2⟩
      · intro t ht _
        obtain ⟨c1, c2⟩ := HF.out t ht
        exact ⟨(B1.out.cell (p := ⟨g, t * 2, none⟩) hgw).trans c1, (B1.out.cell (p := ⟨g, t * 2 + 1, none⟩) hgw).trans c2⟩
    case round =>
      obtain ⟨i, j, rfl, rfl, hij, hjn, HRW, HBW, HSZ, HA, HL2⟩ := hrel
      by_cases hlt : j < n
      · have da : decide ((j : Int) < (n : Int)) = true := decide_eq_true (by omega)
        have da2 : decide (j < n) = true := decide_eq_true hlt
        have hjl : j < l.length := by rw [HN.out]; exact hlt
        obtain ⟨x, hx⟩ : ∃ x, l[j] = x := ⟨_, rfl⟩
        obtain ⟨p1, p2⟩ := HL2.out j hjl (Nat.le_refl _)
        rw [hx] at p1 p2
        have CP := Lib.hid (HP.out x)
        have HT := Lib.hid (show l.take (j + 1) = l.take j ++ [x] by rw [← hx]; exact List.take_succ_eq_append_getElem hjl)
        obtain ⟨q, hq⟩ : ∃ q, p x = q := ⟨_, rfl⟩
        have HQ := Lib.hid hq
        rw [hq] at CP
        have egf := eg
        clear hx hq
        go_wp2_with fail
        refine (CP.out _).mono ?_
        rintro e w2 ⟨rfl, hb⟩
        have hbA : Below wr.heap.size wr w2 := ((Below.refl _ wr).alloc (Nat.le_refl _) _).trans (hb.mono (by simp))
        have y1 : w2.cell? ⟨wr.heap.size, 0, none⟩ = some (.string x.1) := (hb.cell (p := ⟨wr.heap.size, 0, none⟩) (by simp)).trans (by rw [cell_of_row _ _ _ _ _ _ (heap_alloc_new wr _)]; rfl)
        have y2 : w2.cell? ⟨wr.heap.size, 1, none⟩ = some (.string x.2) := (hb.cell (p := ⟨wr.heap.size, 1, none⟩) (by simp)).trans (by rw [cell_of_row _ _ _ _ _ _ (heap_alloc_new wr _)]; rfl)
        have hgr := HRW.out.lt
        have HR2 := Lib.hid (HRW.out.below hbA hgr)
        have HB2 := Lib.hid (HBW.out.trans (hbA.mono (Nat.le_trans HB.out HBW.out.size)))
        have HS2 := Lib.hid (Nat.le_trans HSZ.out hbA.size)
        have HL3 := Lib.hid (show ∀ t (h : t < l.length), j + 1 ≤ t → w2.cell? ⟨g, t * 2, none⟩ = some (.string l[t].1) ∧ w2.cell? ⟨g, t * 2 + 1, none⟩ = some (.string l[t].2) from fun t ht hjt => by
          obtain ⟨c1, c2⟩ := HL2.out t ht (by omega)
          exact ⟨(hbA.cell (p := ⟨g, t * 2, none⟩) hgr).trans c1, (hbA.cell (p := ⟨g, t * 2 + 1, none⟩) hgr).trans c2⟩)
        have HA2 := Lib.hid (show ((l.take j).filter fun x => !p x).length = i ∧ Front w2 g ((l.take j).filter fun x => !p x) from ⟨HA.out.1, fun t ht => by
          obtain ⟨c1, c2⟩ := HA.out.2 t ht
          exact ⟨(hbA.cell (p := ⟨g, t * 2, none⟩) hgr).trans c1, (hbA.cell (p := ⟨g, t * 2 + 1, none⟩) hgr).trans c2⟩⟩)
        clear hb hbA p1 p2 HL2 HA HRW HBW HSZ
        cases q with
        | true =>
          have HA3 := Lib.hid (show ((l.take (j + 1)).filter fun x => !p x).length = i ∧ Front w2 g ((l.take (j + 1)).filter fun x => !p x) by
            rw [HT.out, List.filter_append]
            simp only [List.filter_cons, HQ.out, List.filter_nil]
            simpa using HA2.out)
          go_wp2
          go_roundw
          case rel => exact ⟨i, j + 1, rfl, by simp, by omega, by omega, HR2, HB2, HS2, HA3, HL3⟩
          case measure => simp [intOf]; omega
        | false =>
          obtain ⟨o1, ho1⟩ := Option.isSome_iff_exists.1 (HR2.out.some (i * 2) (by omega))
          obtain ⟨o2, ho2⟩ := Option.isSome_iff_exists.1 (HR2.out.some (i * 2 + 1) (by omega))
          have f1 := HR2.out.fz (i * 2)
          have f2 := HR2.out.fz (i * 2 + 1)
          have HA3 := Lib.hid (show ((l.take (j + 1)).filter fun x => !p x).length = i + 1 ∧ Front ((w2.setCell ⟨g, i * 2, none⟩ (.string x.1)).setCell ⟨g, i * 2 + 1, none⟩ (.string x.2)) g ((l.take (j + 1)).filter fun x => !p x) by
            rw [HT.out, List.filter_append]
            simp only [List.filter_cons, HQ.out, List.filter_nil, Bool.not_false, if_true]
            refine ⟨by rw [List.length_append, HA2.out.1]; rfl, front_step (n := n) (j := j) HA2.out.2 HA2.out.1 (by rw [ho1]; rfl) (by rw [ho2]; rfl)⟩)
          have HL4 := Lib.hid (show ∀ t (h : t < l.length), j + 1 ≤ t → ((w2.setCell ⟨g, i * 2, none⟩ (.string x.1)).setCell ⟨g, i * 2 + 1, none⟩ (.string x.2)).cell? ⟨g, t * 2, none⟩ = some (.string l[t].1) ∧ ((w2.setCell ⟨g, i * 2, none⟩ (.string x.1)).setCell ⟨g, i * 2 + 1, none⟩ (.string x.2)).cell? ⟨g, t * 2 + 1, none⟩ = some (.string l[t].2) from fun t ht hjt => by
            obtain ⟨c1, c2⟩ := HL3.out t ht hjt
            rw [cell_other _ _ _ _ _ (by omega), cell_other _ _ _ _ _ (by omega), cell_other _ _ _ _ _ (by omega), cell_other _ _ _ _ _ (by omega)]
            exact ⟨c1, c2⟩)
          have HR3 := Lib.hid ((HR2.out.set (i * 2) (.string x.1)).set (i * 2 + 1) (.string x.2))
          have HB3 := Lib.hid ((HB2.out.setCell (p := ⟨g, i * 2, none⟩) hbg (.string x.1)).setCell (p := ⟨g, i * 2 + 1, none⟩) hbg (.string x.2))
          have HS3 := Lib.hid (show w.heap.size ≤ ((w2.setCell ⟨g, i * 2, none⟩ (.string x.1)).setCell ⟨g, i * 2 + 1, none⟩ (.string x.2)).heap.size by simpa [World.setCell] using HS2.out)
          go_wp2
          go_roundw
          case rel => exact ⟨i + 1, j + 1, by simp, by simp, by omega, by omega, HR3, HB3, HS3, HA3, HL4⟩
          case measure => simp [intOf]; omega
      · have hjn2 : j = n := by omega
        subst hjn2
        have da : decide ((j : Int) < (j : Int)) = false := decide_eq_false (by omega)
        have da2 : decide (j < j) = false := decide_eq_false (by omega)
        have hcl : ∀ ty, (Builtin.clear_ #[22] ty #[.slice (some ⟨g, i * 2, none⟩) (j - i) (cap - i)]).run Tryz.prog wr = .ok (.tuple #[]) (wr.setCells g (i * 2) (List.replicate ((j - i) * 2) zstr)) := fun ty => clear_two wr ty g (i * 2) (j - i) (cap - i) (by omega) (fun t ht => HRW.out.some _ (by omega)) (fun t => HRW.out.fz t)
        have HFin := Lib.hid (show OwnL (wr.setCells g (i * 2) (List.replicate ((j - i) * 2) zstr)) base (.slice (some ⟨g, 0, none⟩) i cap) (l.filter fun x => !p x) ∧ Below base w (wr.setCells g (i * 2) (List.replicate ((j - i) * 2) zstr)) by
          have e : l.take j = l := by rw [← HN.out]; exact List.take_length
          have hA := HA.out
          rw [e] at hA
          refine ⟨?_, below_sets hbg _ _ HBW.out⟩
          have := own_front (base := base) (cap := cap) (HRW.out.sets (List.replicate ((j - i) * 2) zstr) (i * 2)) (fun t ht => by
            obtain ⟨c1, c2⟩ := hA.2 t ht
            rw [World.cell?_setCells_out _ _ _ _ _ (fun _ _ => .inl (by show t * 2 < i * 2; omega)), World.cell?_setCells_out _ _ _ _ _ (fun _ _ => .inl (by show t * 2 + 1 < i * 2; omega))]
            exact ⟨c1, c2⟩) hbg (by omega) HMX.out
          rw [hA.1] at this
          exact this)
        go_wp2
        go_ret
        exact ⟨_, rfl, HFin.out.1, HFin.out.2⟩
end Go.Proofs.YtiolghcjndoigaaGreatDoor
