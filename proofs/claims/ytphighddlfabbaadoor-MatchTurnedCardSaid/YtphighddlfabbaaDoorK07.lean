/-
  PACKED: WaM, WaN, RxH, WaO
-/
import Derived.Test.YtphighddlfabbaaDoorK06
import Derived.Laws.AppendOwnNone
import Derived.Deep.Cut
namespace Go.Proofs.YtphighddlfabbaaDoor
set_option linter.unusedVariables false
set_option linter.unusedSimpArgs false
open Go.RowKit Go.PlainAid Go.Shelf
open Rx (Set4 RS)
mutual
/-- trees whose rows fit -/
def sizeOk : Rx.Node → Prop
  | .byte _ => True
  | .edge _ => True
  | .seq ks => ks.length ≤ 1000 ∧ ng (.seq ks) ≤ 100000 ∧ sizeAllOk ks
  | .alt ks => ks.length ≤ 1000 ∧ ng (.alt ks) ≤ 100000 ∧ sizeAllOk ks
  | .group _ t => ng t + 1 ≤ 100000 ∧ sizeOk t
  | .count _ _ _ _ t => sizeOk t
def sizeAllOk : List Rx.Node → Prop
  | [] => True
  | t :: ts => sizeOk t ∧ sizeAllOk ts
end
theorem sizeAll_mem : ∀ ks, sizeAllOk ks → ∀ t ∈ ks, sizeOk t
  | [], _, _, h => by cases h
  | t :: ts, h, u, hu => by
    unfold sizeAllOk at h
    rcases List.mem_cons.1 hu with rfl | hu
    · exact h.1
    · exact sizeAll_mem ts h.2 u hu
theorem infoI : (Tryd.prog.info? 3).map (fun i => (i.zero, i.size, i.bytes)) = some (some (.int .i64 0), 1, 8) := by kernel_rfl
theorem ownI_grow {w2 : World} {base : Nat} {v2 : Value} {ds es : List Nat} (h : w2.ownsRow base 3 1 v2 (ds.length + es.length) (cellsI ds ++ cellsI es)) : OwnI w2 base v2 (ds ++ es) := by
  unfold OwnI
  rw [List.length_append, cellsI_append]
  exact h
/-- one round's rows -/
theorem Es.two {w wk : World} {L : List (Nat × Array Value)} {p : Nat × Array Value} (h : Es w wk (p :: L)) : Es w wk L := ⟨h.below, fun q hq => h.rows q (List.mem_cons_of_mem _ hq)⟩
set_option maxHeartbeats 2000000 in
set_option maxRecDepth 100000 in
theorem em_seq (S : Nat → Prop) (ks : List Rx.Node) (k b : Nat) (hk : k < 4) (hlen : ks.length ≤ 1000) (hng : ngAll ks ≤ 100000) (w : World) (H : IsN w S (.seq ks) b)
    (C : ∀ t ∈ ks, ∀ i w1, IsN w1 S t i → Calls Tryd.prog 70 #[ptr i, .int .u8 ((k : Nat) : Int)] w1 (EmP w1 (Rx.emptyAt t k))) :
    Calls Tryd.prog 70 #[ptr b, .int .u8 ((k : Nat) : Int)] w (EmP w (Rx.emptySeq ks k [])) := by
  unfold IsN at H
  obtain ⟨hS, kv, hrow, hkv0⟩ := H
  have hkv : KidV w S ks kv := hkv0
  have hlt := (Array.getElem?_eq_some_iff.1 hrow).1
  have hN0 : w.cell? ⟨b, 0, none⟩ = some (.int .u8 2) := by rw [cell_of_row _ _ 0 _ _ _ hrow]; rfl
  have hN12 : w.cell? ⟨b, 12, none⟩ = some kv := by rw [cell_of_row _ _ 12 _ _ _ hrow]; rfl
  obtain ⟨ka, kc, rfl, HK⟩ := hkv.shape
  have E0 := Lib.hid (((Es.start w).lay (emC false (.slice none 0 0))).lay (emC true (.slice none 0 0)))
  have ES00 := E0.out
  unfold emC at E0
  have c0 : ((w.alloc (.cells #[.bool false, .slice none 0 0] 112)).alloc (.cells #[.bool true, .slice none 0 0] 112)).cell? ⟨b, 0, none⟩ = some (.int .u8 2) := (E0.out.below.cell (p := ⟨b, 0, none⟩) hlt).trans hN0
  have c12 : ((w.alloc (.cells #[.bool false, .slice none 0 0] 112)).alloc (.cells #[.bool true, .slice none 0 0] 112)).cell? ⟨b, 12, none⟩ = some (.slice ka ks.length kc) := (E0.out.below.cell (p := ⟨b, 12, none⟩) hlt).trans hN12
  have HKD := Lib.hid (fun j (hj : j < ks.length) => show ∃ i, (∃ g, ka = some ⟨g, 0, none⟩ ∧ w.cell? ⟨g, j, none⟩ = some (ptr i)) ∧ IsN w S ks[j] i from by obtain ⟨g, i, h1, h2, h3⟩ := HK j hj; exact ⟨i, ⟨g, h1, h2⟩, h3⟩)
  have HKW := Lib.hid (fun j i (h : ∃ g, ka = some ⟨g, 0, none⟩ ∧ w.cell? ⟨g, j, none⟩ = some (ptr i)) w1 (hb : Below w.heap.size w w1) => show ∃ g, ka = some ⟨g, 0, none⟩ ∧ w1.cell? ⟨g, j, none⟩ = some (ptr i) from by
    obtain ⟨g, h1, h2⟩ := h
    refine ⟨g, h1, (hb.cell (p := ⟨g, j, none⟩) ?_).trans h2⟩
    rcases Nat.lt_or_ge g w.heap.size with q | q
    · exact q
    · simp [World.cell?, Array.getElem?_eq_none q] at h2)
  obtain ⟨⟨rb, rg⟩, hr⟩ : ∃ r, Rx.emptySeq ks k [] = r := ⟨_, rfl⟩
  have CC := Lib.hid C
  have HDR := Lib.hid (fun j hj g => emptySeq_drop ks j hj k g)
  have HNG := Lib.hid (fun j hj => ngAll_drop ks j hj)
  rw [hr]
  obtain ⟨L, hL⟩ : ∃ L, ks.length = L := ⟨_, rfl⟩
  have HLE := Lib.hid hL
  obtain ⟨i0, hi, hz0, hz1, hz2⟩ := info_parts infoI
  obtain ⟨GS0, hGS⟩ : ∃ g : List Nat, g = [] := ⟨_, rfl⟩
  obtain ⟨V0, hV0⟩ : ∃ v : Value, v = .slice none 0 0 := ⟨_, rfl⟩
  obtain ⟨X, hX⟩ : ∃ X, w.heap.size + 1 = X := ⟨_, rfl⟩
  have HX := Lib.hid hX
  have ES0 := Lib.hid (show Es w ((w.alloc (.cells #[.bool false, .slice none 0 0] 112)).alloc (.cells #[.bool true, .slice none 0 0] 112)) [(X, emC true V0), (w.heap.size, emC false (.slice none 0 0))] by rw [hV0, ← hX]; have := ES00; rw [World.size_alloc] at this; exact this)
  have OS0 := Lib.hid (show OwnI ((w.alloc (.cells #[.bool false, .slice none 0 0] 112)).alloc (.cells #[.bool true, .slice none 0 0] 112)) w.heap.size V0 GS0 by rw [hV0, hGS]; exact OwnI.nil _ _)
  have H0 := Lib.hid (show Rx.emptySeq (ks.drop 0) k GS0 = (rb, rg) by rw [hGS]; exact hr)
  have HB0 := Lib.hid (show GS0.length + ngAll (ks.drop 0) ≤ 100000 by rw [hGS]; simpa using hng)
  rw [hL] at c12 hlen
  unfold ptr
  clear hrow hkv hkv0 HK hS C hr hL hN0 hN12 hGS hV0 ES00 hng
  go_enter Tryd.func70, Tryd.ntmps70
  go_wp2
  clear hX
  have HN0 : w.heap.size ≠ X := by have := HX.out; omega
  go_loopw [52] (fun i wr => ∃ (j : Nat) (gs : List Nat) (v5 : Value), j ≤ L ∧ i = .int .i64 ((j : Nat) : Int) ∧ Hid (Es w wr [(X, emC true v5), (w.heap.size, emC false (.slice none 0 0))]) ∧ Hid (OwnI wr w.heap.size v5 gs) ∧ Hid (Rx.emptySeq (ks.drop j) k gs = (rb, rg)) ∧ Hid (gs.length + ngAll (ks.drop j) ≤ 100000)) (fun i _ => L - (intOf i).toNat)
  case atStart => exact ⟨0, GS0, V0, Nat.zero_le _, rfl, ES0, OS0, H0, HB0⟩
  case round =>
    obtain ⟨j, gs, v5, hj, rfl, HE, HOW, HR, HBD⟩ := hrel
    obtain ⟨a5, c5, rfl⟩ := HOW.out.shape
    by_cases hlt2 : j < L
    · have hd : decide (j < L) = true := decide_eq_true hlt2
      have hjk : j < ks.length := by have := HLE.out; omega
      obtain ⟨i, hi1, hi2⟩ := HKD.out j hjk
      obtain ⟨g, hg1, cj⟩ := HKW.out j i hi1 wr HE.out.below
      first | subst hg1 | (injection hg1 with hg1; injection hg1 with hg1; subst hg1)
      have C1 := Lib.hid (CC.out ks[j] (List.getElem_mem hjk) i wr (hi2.below HE.out.below))
      have hstep := HDR.out j hjk gs
      have hngs := HNG.out j hjk
      have hen := empty_ng k ks[j]
      rw [HR.out] at hstep
      obtain ⟨⟨q, gs2⟩, hq⟩ : ∃ r, Rx.emptyAt ks[j] k = r := ⟨_, rfl⟩
      rw [hq] at C1 hstep hen
      have HST := Lib.hid hstep
      have HBN := Lib.hid (show gs.length + gs2.length + ngAll (ks.drop (j + 1)) ≤ 100000 by have := HBD.out; simp only at hen; omega)
      unfold ptr at C1 cj
      clear hi1 hi2 hstep hq hjk hen hngs HBD
      go_wp2_with fail
      refine C1.out.mono ?_
      rintro e w3 ⟨v, rfl, hb, ho⟩
      have ho : OwnI w3 wr.heap.size v gs2 := ho
      obtain ⟨a, c, rfl⟩ := ho.shape
      have E4 := Lib.hid ((HE.out.next hb).lay (emC q (.slice a gs2.length c)))
      have hsz3 := HE.out.below.size
      have OW := Lib.hid ((ho.below ((Below.refl _ _).alloc (Nat.le_refl _) (.cells (emC q (.slice a gs2.length c)) 112))).lower hsz3)
      have OG := Lib.hid ((HOW.out.below hb).below ((Below.refl _ _).alloc (Nat.le_refl _) (.cells (emC q (.slice a gs2.length c)) 112)))
      have HW3 := Lib.hid (Nat.le_trans hsz3 (Nat.le_trans hb.size (Nat.le_succ w3.heap.size)))
      unfold emC at E4 OW OG
      clear hb ho cj hsz3
      cases q with
      | true =>
        have hq2 := HST.out
        rw [if_pos rfl] at hq2
        have HN := Lib.hid hq2.symm
        have hb1 := HBN.out
        have hgl : gs.length + gs2.length ≤ 100000 := by omega
        have hcase := OW.out.2
        by_cases hnil : a = none
        · subst hnil
          obtain ⟨hg0, hc0⟩ : gs2.length = 0 ∧ c = 0 := by
            rcases hcase with ⟨h, h0⟩ | ⟨g, cap, cur, h, _⟩
            · injection h with h1 h2 h3; exact ⟨h0, h3⟩
            · cases h
          have hg2 : gs2 = [] := List.eq_nil_of_length_eq_zero hg0
          subst hg2
          subst hc0
          have OA := Lib.hid (show OwnI (w3.alloc (.cells #[.bool true, .slice none 0 0] 112)) w.heap.size (.slice a5 gs.length c5) (gs ++ []) by rw [List.append_nil]; exact OG.out)
          have ES := Lib.hid (show Es w (w3.alloc (.cells #[.bool true, .slice none 0 0] 112)) [(X, emC true (.slice a5 gs.length c5)), (w.heap.size, emC false (.slice none 0 0))] from E4.out.two)
          have ET := Lib.hid (ES.out.set X true (.slice a5 gs.length c5) (.slice a5 gs.length c5) (by simp))
          have ET2 := Lib.hid (show Es w ((w3.alloc (.cells #[.bool true, .slice none 0 0] 112)).setCell ⟨X, 1, none⟩ (.slice a5 gs.length c5)) [(X, emC true (.slice a5 gs.length c5)), (w.heap.size, emC false (.slice none 0 0))] by have := ET.out; simpa [HN0] using this)
          have OT := Lib.hid (OA.out.move (w' := (w3.alloc (.cells #[.bool true, .slice none 0 0] 112)).setCell ⟨X, 1, none⟩ (.slice a5 gs.length c5)) (fun k hk => heap_setCell_other _ _ _ _ (by
            have hne := OA.out.ne (E4.out.at X #[.bool true, .slice a5 gs.length c5] (by simp))
            first | (intro e; exact hne (hk.trans (congrArg some e))) | (intro e; exact hne (hk.trans (congrArg some e.symm))))))
          have HBO := Lib.hid (show (gs ++ []).length + ngAll (ks.drop (j + 1)) ≤ 100000 by rw [List.append_nil]; simpa using HBN.out)
          clear hcase hg0
          have cX : (w3.alloc (.cells #[.bool true, .slice none 0 0] 112)).cell? ⟨X, 1, none⟩ = some (.slice a5 gs.length c5) := (cell_of_row _ _ 1 _ _ _ (ES.out.at X (emC true (.slice a5 gs.length c5)) (by simp))).trans rfl
          have fX : (w3.alloc (.cells #[.bool true, .slice none 0 0] 112)).frozen? ⟨X, 1, none⟩ = false := frozen_of_row _ _ _ _ _ (ES.out.at X (emC true (.slice a5 gs.length c5)) (by simp))
          go_wp2_with (at_builtin; refine wpList_append_own_none rfl (.tmp 64) (.tmp 66) 85 rfl w.heap.size 3 i0 1 Tryd.underlying85 hi (.slice a5 gs.length c5) gs.length (cellsI gs) rfl OG.out rfl ?_)
          go_roundw
          case rel => exact ⟨j + 1, gs ++ [], .slice a5 gs.length c5, by omega, by go_num, ET2, OT, HN, HBO⟩
          case measure => simp [intOf]; omega
        · obtain ⟨ga, hga⟩ : ∃ g, a = some ⟨g, 0, none⟩ := by
            rcases hcase with ⟨h, h0⟩ | ⟨g, cap, cur, h, _⟩
            · injection h with h1 h2 h3; exact absurd h1 hnil
            · injection h with h1 h2 h3; exact ⟨g, h1⟩
          subst hga
          have hsrc : ∀ u v, (cellsI gs2)[u]? = some v → (w3.alloc (.cells #[.bool true, .slice (some ⟨ga, 0, none⟩) gs2.length c] 112)).cell? ((⟨ga, 0, none⟩ : Addr).add u) = some v := by
            by_cases he : gs2 = []
            · subst he; intro u v h; simp [cellsI] at h
            · obtain ⟨g, c', h1, h2⟩ := OW.out.src he
              injection h1 with h1 _ _
              injection h1 with h1
              injection h1 with h1
              subst h1
              exact h2
          have HSRC := Lib.hid hsrc
          clear hcase hnil hsrc
          have ES := Lib.hid (show Es w (w3.alloc (.cells #[.bool true, .slice (some ⟨ga, 0, none⟩) gs2.length c] 112)) [(X, emC true (.slice a5 gs.length c5)), (w.heap.size, emC false (.slice none 0 0))] from E4.out.two)
          have cX : (w3.alloc (.cells #[.bool true, .slice (some ⟨ga, 0, none⟩) gs2.length c] 112)).cell? ⟨X, 1, none⟩ = some (.slice a5 gs.length c5) := (cell_of_row _ _ 1 _ _ _ (ES.out.at X (emC true (.slice a5 gs.length c5)) (by simp))).trans rfl
          have HFIN := Lib.hid (fun (v2 : Value) w2 (O2 : OwnI w2 w.heap.size v2 (gs ++ gs2)) (E2 : Es w w2 [(X, emC true (.slice a5 gs.length c5)), (w.heap.size, emC false (.slice none 0 0))]) => show Es w (w2.setCell ⟨X, 1, none⟩ v2) [(X, emC true v2), (w.heap.size, emC false (.slice none 0 0))] ∧ OwnI (w2.setCell ⟨X, 1, none⟩ v2) w.heap.size v2 (gs ++ gs2) from
            ⟨by have := E2.set X true (.slice a5 gs.length c5) v2 (by simp); simpa [HN0] using this,
             O2.move (fun k hk => heap_setCell_other _ _ _ _ (by
              have hne := O2.ne (E2.at X (emC true (.slice a5 gs.length c5)) (by simp))
              first | (intro e; exact hne (hk.trans (congrArg some e))) | (intro e; exact hne (hk.trans (congrArg some e.symm)))))⟩)
          have HCX := Lib.hid (fun w2 (E2 : Es w w2 [(X, emC true (.slice a5 gs.length c5)), (w.heap.size, emC false (.slice none 0 0))]) => show w2.cell? ⟨X, 1, none⟩ = some (.slice a5 gs.length c5) from (cell_of_row w2 X 1 _ _ _ (E2.at X (emC true (.slice a5 gs.length c5)) (by simp))).trans rfl)
          have HFX := Lib.hid (fun w2 (E2 : Es w w2 [(X, emC true (.slice a5 gs.length c5)), (w.heap.size, emC false (.slice none 0 0))]) => show w2.frozen? ⟨X, 1, none⟩ = false from frozen_of_row _ _ _ _ _ (E2.at X (emC true (.slice a5 gs.length c5)) (by simp)))
          have HLN := Lib.hid (show (cellsI gs2).length = gs2.length * 1 by rw [cellsI_length, Nat.mul_one])
          have HMX := Lib.hid (show gs.length + gs2.length ≤ maxLen ∧ (gs.length + gs2.length) * 8 ≤ 140737488355328 from ⟨by unfold maxLen; omega, by omega⟩)
          have HSZ := Lib.hid (show w.heap.size ≤ (w3.alloc (.cells #[.bool true, .slice (some ⟨ga, 0, none⟩) gs2.length c] 112)).heap.size by have := HW3.out; simp; exact this)
          have HBO := Lib.hid (show (gs ++ gs2).length + ngAll (ks.drop (j + 1)) ≤ 100000 by rw [List.length_append]; exact HBN.out)
          go_wp2_with (at_builtin; refine wpList_append_own _ rfl (.tmp 64) (.tmp 66) 85 rfl w.heap.size 3 i0 (.int .i64 0) 1 8 Tryd.underlying85 hi hz0 hz1 hz2 rfl (by decide) (.slice a5 gs.length c5) gs.length (cellsI gs) rfl OG.out ⟨ga, 0, none⟩ gs2.length c (cellsI gs2) rfl HLN.out HSRC.out (cellsI_one _) HMX.out.1 HMX.out.2 HSZ.out ?_; intro v2 w2 hown2 hgr2 hne2; have O2 := ownI_grow hown2; obtain ⟨a2, c2, hv2⟩ := O2.shape; rw [List.length_append] at hv2; subst hv2; have E2 := ES.out.grown OG.out hgr2; have FIN := Lib.hid (HFIN.out _ _ O2 E2); have cX2 := HCX.out w2 E2; have fX2 := HFX.out w2 E2; clear hown2 hgr2 hne2 O2 E2)
          go_roundw
          case rel => exact ⟨j + 1, gs ++ gs2, _, by omega, by go_num, Lib.hid FIN.out.1, Lib.hid FIN.out.2, HN, HBO⟩
          case measure => simp [intOf]; omega
      | false =>
        obtain ⟨rfl, rfl⟩ : rb = false ∧ rg = [] := by
          have hq2 := HST.out
          rw [if_neg (by simp)] at hq2
          cases hq2
          exact ⟨rfl, rfl⟩
        have h5 : (w3.alloc (.cells #[.bool false, .slice a gs2.length c] 112)).heap[w.heap.size]? = some (.cells (emC false (.slice none 0 0)) 112 (0, 0)) := E4.out.at w.heap.size (emC false (.slice none 0 0)) (by simp [emC])
        have E6 := Lib.hid (E4.out.row w.heap.size (emC false (.slice none 0 0)) (emC false (.slice none 0 0)) (by simp [emC]))
        go_upto_region 19 with (fail)
        go_wp2_with (refine wpList_store_row rfl 112 (.tmp 4) (.tmp 62) rfl w.heap.size (emC false (.slice none 0 0)) rfl rfl 112 (emC false (.slice none 0 0)) h5 (by kernel_rfl) rfl emC_one ?_)
        refine bodyPost_ret (v := .agg (emC false (.slice none 0 0))) ?_ ?_ ?_
        · exact results_cell_row rfl _ _ w.heap.size 112 (emC false (.slice none 0 0)) (0, 0) _ rfl (E6.out.at _ _ (by simp)) Tryd.underlying112 rfl (by kernel_rfl)
        · rfl
        · exact ⟨_, rfl, E6.out.below, OwnI.nil _ _⟩
    · obtain rfl : j = L := by omega
      have hd : decide (j < j) = false := decide_eq_false (by omega)
      obtain ⟨rfl, rfl⟩ : rb = true ∧ gs = rg := by
        have hq2 := HR.out
        rw [← HLE.out, List.drop_length] at hq2
        have hq3 : (true, gs) = (rb, rg) := hq2
        cases hq3
        exact ⟨rfl, rfl⟩
      have hX5 : wr.heap[X]? = some (.cells (emC true (.slice a5 gs.length c5)) 112 (0, 0)) := HE.out.at X _ (by simp)
      have h5 : wr.heap[w.heap.size]? = some (.cells (emC false (.slice none 0 0)) 112 (0, 0)) := HE.out.at w.heap.size _ (by simp)
      have E6 := Lib.hid (HE.out.row w.heap.size (emC false (.slice none 0 0)) (emC true (.slice a5 gs.length c5)) (by simp))
      have OW2 := Lib.hid (HOW.out.move (w' := wr.setRow w.heap.size (emC true (.slice a5 gs.length c5))) (fun k hk => by
        unfold World.setRow
        simp only
        rw [Array.getElem?_modify, if_neg (fun e => HOW.out.ne h5 (hk.trans (congrArg some (by first | exact e | exact e.symm))))]))
      go_upto_region 22 with (fail)
      go_wp2_with (first | (refine wpList_load_row rfl 112 (.tmp 5) rfl X rfl 112 (emC true (.slice a5 gs.length c5)) (0, 0) _ hX5 Tryd.underlying112 rfl (by kernel_rfl) ?_) | (refine wpList_store_row rfl 112 (.tmp 4) (.tmp 70) rfl w.heap.size (emC true (.slice a5 gs.length c5)) rfl rfl 112 (emC false (.slice none 0 0)) h5 (by kernel_rfl) rfl emC_one ?_))
      refine bodyPost_ret (v := .agg (emC true (.slice a5 gs.length c5))) ?_ ?_ ?_
      · exact results_cell_row rfl _ _ w.heap.size 112 (emC true (.slice a5 gs.length c5)) (0, 0) _ rfl (E6.out.at _ _ (by simp)) Tryd.underlying112 rfl (by kernel_rfl)
      · rfl
      · exact ⟨_, rfl, E6.out.below, OW2.out⟩
set_option maxHeartbeats 2000000 in
set_option maxRecDepth 100000 in
theorem em_group (S : Nat → Prop) (n : Nat) (t : Rx.Node) (k b : Nat) (hk : k < 4) (hng : ng t + 1 ≤ 100000) (w : World) (H : IsN w S (.group n t) b)
    (C : ∀ u ∈ [t], ∀ i w1, IsN w1 S u i → Calls Tryd.prog 70 #[ptr i, .int .u8 ((k : Nat) : Int)] w1 (EmP w1 (Rx.emptyAt u k))) :
    Calls Tryd.prog 70 #[ptr b, .int .u8 ((k : Nat) : Int)] w (EmP w (Rx.emptySeq [t] k [n])) := by
  unfold IsN at H
  obtain ⟨hS, kg, kcur, ki, hrow, hSg, hkg, hk0, hki⟩ := H
  obtain ⟨ks, hks⟩ : ∃ ks, [t] = ks := ⟨_, rfl⟩
  have hkv : KidV w S ks (.slice (some ⟨kg, 0, none⟩) ks.length 1) := by rw [← hks]; exact .inr ⟨kg, 0, kcur, rfl, hSg, hkg, by unfold KidsIn KidsIn; exact ⟨⟨ki, hk0, hki⟩, trivial⟩⟩
  have hlt := (Array.getElem?_eq_some_iff.1 hrow).1
  have hN0 : w.cell? ⟨b, 0, none⟩ = some (.int .u8 4) := by rw [cell_of_row _ _ 0 _ _ _ hrow]; rfl
  have hN6 : w.cell? ⟨b, 6, none⟩ = some (.int .i64 ((n : Nat) : Int)) := by rw [cell_of_row _ _ 6 _ _ _ hrow]; rfl
  have hN12 : w.cell? ⟨b, 12, none⟩ = some (.slice (some ⟨kg, 0, none⟩) ks.length 1) := by rw [cell_of_row _ _ 12 _ _ _ hrow, ← hks]; rfl
  obtain ⟨ka, kc, hkav, HK⟩ := hkv.shape
  obtain ⟨rfl, rfl⟩ : ka = some ⟨kg, 0, none⟩ ∧ kc = 1 := by injection hkav with h1 h2 h3; exact ⟨h1.symm, h3.symm⟩
  have E0 := Lib.hid (((Es.start w).lay (emC false (.slice none 0 0))).lay (emC true (.slice none 0 0)))
  have E1 := Lib.hid ((((Es.start w).lay (emC false (.slice none 0 0))).lay (emC true (.slice (some ⟨w.heap.size + 1 + 1, 0, none⟩) 1 1))).next ((Below.refl _ _).alloc (Nat.le_refl _) (.cells #[.int .i64 ((n : Nat) : Int)] 3)))
  unfold emC at E0 E1
  have c0 : ((w.alloc (.cells #[.bool false, .slice none 0 0] 112)).alloc (.cells #[.bool true, .slice none 0 0] 112)).cell? ⟨b, 0, none⟩ = some (.int .u8 4) := (E0.out.below.cell (p := ⟨b, 0, none⟩) hlt).trans hN0
  have c6 : ((w.alloc (.cells #[.bool false, .slice none 0 0] 112)).alloc (.cells #[.bool true, .slice none 0 0] 112)).cell? ⟨b, 6, none⟩ = some (.int .i64 ((n : Nat) : Int)) := (E0.out.below.cell (p := ⟨b, 6, none⟩) hlt).trans hN6
  have c12 : (((w.alloc (.cells #[.bool false, .slice none 0 0] 112)).alloc (.cells #[.bool true, .slice (some ⟨w.heap.size + 1 + 1, 0, none⟩) 1 1] 112)).alloc (.cells #[.int .i64 ((n : Nat) : Int)] 3)).cell? ⟨b, 12, none⟩ = some (.slice (some ⟨kg, 0, none⟩) ks.length 1) := (E1.out.below.cell (p := ⟨b, 12, none⟩) hlt).trans hN12
  have HKD := Lib.hid (fun j (hj : j < ks.length) => show ∃ i, (∃ g, (some ⟨kg, 0, none⟩ : Option Addr) = some ⟨g, 0, none⟩ ∧ w.cell? ⟨g, j, none⟩ = some (ptr i)) ∧ IsN w S ks[j] i from by obtain ⟨g, i, h1, h2, h3⟩ := HK j hj; exact ⟨i, ⟨g, h1, h2⟩, h3⟩)
  have HKW := Lib.hid (fun j i (h : ∃ g, (some ⟨kg, 0, none⟩ : Option Addr) = some ⟨g, 0, none⟩ ∧ w.cell? ⟨g, j, none⟩ = some (ptr i)) w1 (hb : Below w.heap.size w w1) => show ∃ g, (some ⟨kg, 0, none⟩ : Option Addr) = some ⟨g, 0, none⟩ ∧ w1.cell? ⟨g, j, none⟩ = some (ptr i) from by
    obtain ⟨g, h1, h2⟩ := h
    refine ⟨g, h1, (hb.cell (p := ⟨g, j, none⟩) ?_).trans h2⟩
    rcases Nat.lt_or_ge g w.heap.size with q | q
    · exact q
    · simp [World.cell?, Array.getElem?_eq_none q] at h2)
  obtain ⟨⟨rb, rg⟩, hr⟩ : ∃ r, Rx.emptySeq ks k [n] = r := ⟨_, rfl⟩
  have hngk : ngAll ks = ng t := by rw [← hks]; unfold ngAll ngAll; rfl
  have C' : ∀ u ∈ ks, ∀ i w1, IsN w1 S u i → Calls Tryd.prog 70 #[ptr i, .int .u8 ((k : Nat) : Int)] w1 (EmP w1 (Rx.emptyAt u k)) := by rw [← hks]; exact C
  have hlen1 : ks.length = 1 := by rw [← hks]; rfl
  have CC := Lib.hid C'
  have HDR := Lib.hid (fun j hj g => emptySeq_drop ks j hj k g)
  have HNG := Lib.hid (fun j hj => ngAll_drop ks j hj)
  rw [hks, hr]
  obtain ⟨L, hL⟩ : ∃ L, ks.length = L := ⟨_, rfl⟩
  have HLE := Lib.hid hL
  obtain ⟨i0, hi, hz0, hz1, hz2⟩ := info_parts infoI
  obtain ⟨GS0, hGS⟩ : ∃ g : List Nat, g = [n] := ⟨_, rfl⟩
  obtain ⟨V0, hV0⟩ : ∃ v : Value, v = .slice (some ⟨w.heap.size + 1 + 1, 0, none⟩) 1 1 := ⟨_, rfl⟩
  obtain ⟨X, hX⟩ : ∃ X, w.heap.size + 1 = X := ⟨_, rfl⟩
  have HX := Lib.hid hX
  have ES0 := Lib.hid (show Es w (((w.alloc (.cells #[.bool false, .slice none 0 0] 112)).alloc (.cells #[.bool true, .slice (some ⟨w.heap.size + 1 + 1, 0, none⟩) 1 1] 112)).alloc (.cells #[.int .i64 ((n : Nat) : Int)] 3)) [(X, emC true V0), (w.heap.size, emC false (.slice none 0 0))] by rw [hV0, ← hX]; have := E1.out; rw [World.size_alloc] at this; exact this)
  have OS0 := Lib.hid (show OwnI (((w.alloc (.cells #[.bool false, .slice none 0 0] 112)).alloc (.cells #[.bool true, .slice (some ⟨w.heap.size + 1 + 1, 0, none⟩) 1 1] 112)).alloc (.cells #[.int .i64 ((n : Nat) : Int)] 3)) w.heap.size V0 GS0 by
    rw [hV0, hGS]
    refine ⟨rfl, .inr ⟨w.heap.size + 1 + 1, 1, #[.int .i64 ((n : Nat) : Int)], rfl, by omega, ?_, Nat.le_refl _, by decide, rfl, rfl⟩⟩
    have := heap_alloc_new ((w.alloc (.cells #[.bool false, .slice none 0 0] 112)).alloc (.cells #[.bool true, .slice (some ⟨w.heap.size + 1 + 1, 0, none⟩) 1 1] 112)) (.cells #[.int .i64 ((n : Nat) : Int)] 3)
    rw [World.size_alloc, World.size_alloc] at this
    exact this)
  have H0 := Lib.hid (show Rx.emptySeq (ks.drop 0) k GS0 = (rb, rg) by rw [hGS]; exact hr)
  have HB0 := Lib.hid (show GS0.length + ngAll (ks.drop 0) ≤ 100000 by rw [hGS]; show 1 + ngAll ks ≤ 100000; omega)
  have HE1 := Lib.hid hX
  rw [hL] at c12 hlen1
  rw [HE1.out] at c12 ES0 OS0
  unfold ptr
  clear hrow hkv HK hS C C' hr hL hN0 hN6 hN12 hGS hV0 hng hngk hks hkg hk0 hki hSg hkav
  go_enter Tryd.func70, Tryd.ntmps70
  go_wp2
  clear hX
  have HN0 : w.heap.size ≠ X := by have := HX.out; omega
  go_loopw [52] (fun i wr => ∃ (j : Nat) (gs : List Nat) (v5 : Value), j ≤ L ∧ i = .int .i64 ((j : Nat) : Int) ∧ Hid (Es w wr [(X, emC true v5), (w.heap.size, emC false (.slice none 0 0))]) ∧ Hid (OwnI wr w.heap.size v5 gs) ∧ Hid (Rx.emptySeq (ks.drop j) k gs = (rb, rg)) ∧ Hid (gs.length + ngAll (ks.drop j) ≤ 100000)) (fun i _ => L - (intOf i).toNat)
  case atStart => exact ⟨0, GS0, V0, Nat.zero_le _, rfl, ES0, OS0, H0, HB0⟩
  case round =>
    obtain ⟨j, gs, v5, hj, rfl, HE, HOW, HR, HBD⟩ := hrel
    obtain ⟨a5, c5, rfl⟩ := HOW.out.shape
    by_cases hlt2 : j < L
    · have hd : decide (j < L) = true := decide_eq_true hlt2
      have hjk : j < ks.length := by have := HLE.out; omega
      obtain ⟨i, hi1, hi2⟩ := HKD.out j hjk
      obtain ⟨g, hg1, cj⟩ := HKW.out j i hi1 wr HE.out.below
      first | subst hg1 | (injection hg1 with hg1; injection hg1 with hg1; subst hg1)
      have C1 := Lib.hid (CC.out ks[j] (List.getElem_mem hjk) i wr (hi2.below HE.out.below))
      have hstep := HDR.out j hjk gs
      have hngs := HNG.out j hjk
      have hen := empty_ng k ks[j]
      rw [HR.out] at hstep
      obtain ⟨⟨q, gs2⟩, hq⟩ : ∃ r, Rx.emptyAt ks[j] k = r := ⟨_, rfl⟩
      rw [hq] at C1 hstep hen
      have HST := Lib.hid hstep
      have HBN := Lib.hid (show gs.length + gs2.length + ngAll (ks.drop (j + 1)) ≤ 100000 by have := HBD.out; simp only at hen; omega)
      unfold ptr at C1 cj
      clear hi1 hi2 hstep hq hjk hen hngs HBD
      go_wp2_with fail
      refine C1.out.mono ?_
      rintro e w3 ⟨v, rfl, hb, ho⟩
      have ho : OwnI w3 wr.heap.size v gs2 := ho
      obtain ⟨a, c, rfl⟩ := ho.shape
      have E4 := Lib.hid ((HE.out.next hb).lay (emC q (.slice a gs2.length c)))
      have hsz3 := HE.out.below.size
      have OW := Lib.hid ((ho.below ((Below.refl _ _).alloc (Nat.le_refl _) (.cells (emC q (.slice a gs2.length c)) 112))).lower hsz3)
      have OG := Lib.hid ((HOW.out.below hb).below ((Below.refl _ _).alloc (Nat.le_refl _) (.cells (emC q (.slice a gs2.length c)) 112)))
      have HW3 := Lib.hid (Nat.le_trans hsz3 (Nat.le_trans hb.size (Nat.le_succ w3.heap.size)))
      unfold emC at E4 OW OG
      clear hb ho cj hsz3
      cases q with
      | true =>
        have hq2 := HST.out
        rw [if_pos rfl] at hq2
        have HN := Lib.hid hq2.symm
        have hb1 := HBN.out
        have hgl : gs.length + gs2.length ≤ 100000 := by omega
        have hcase := OW.out.2
        by_cases hnil : a = none
        · subst hnil
          obtain ⟨hg0, hc0⟩ : gs2.length = 0 ∧ c = 0 := by
            rcases hcase with ⟨h, h0⟩ | ⟨g, cap, cur, h, _⟩
            · injection h with h1 h2 h3; exact ⟨h0, h3⟩
            · cases h
          have hg2 : gs2 = [] := List.eq_nil_of_length_eq_zero hg0
          subst hg2
          subst hc0
          have OA := Lib.hid (show OwnI (w3.alloc (.cells #[.bool true, .slice none 0 0] 112)) w.heap.size (.slice a5 gs.length c5) (gs ++ []) by rw [List.append_nil]; exact OG.out)
          have ES := Lib.hid (show Es w (w3.alloc (.cells #[.bool true, .slice none 0 0] 112)) [(X, emC true (.slice a5 gs.length c5)), (w.heap.size, emC false (.slice none 0 0))] from E4.out.two)
          have ET := Lib.hid (ES.out.set X true (.slice a5 gs.length c5) (.slice a5 gs.length c5) (by simp))
          have ET2 := Lib.hid (show Es w ((w3.alloc (.cells #[.bool true, .slice none 0 0] 112)).setCell ⟨X, 1, none⟩ (.slice a5 gs.length c5)) [(X, emC true (.slice a5 gs.length c5)), (w.heap.size, emC false (.slice none 0 0))] by have := ET.out; simpa [HN0] using this)
          have OT := Lib.hid (OA.out.move (w' := (w3.alloc (.cells #[.bool true, .slice none 0 0] 112)).setCell ⟨X, 1, none⟩ (.slice a5 gs.length c5)) (fun k hk => heap_setCell_other _ _ _ _ (by
            have hne := OA.out.ne (E4.out.at X #[.bool true, .slice a5 gs.length c5] (by simp))
            first | (intro e; exact hne (hk.trans (congrArg some e))) | (intro e; exact hne (hk.trans (congrArg some e.symm))))))
          have HBO := Lib.hid (show (gs ++ []).length + ngAll (ks.drop (j + 1)) ≤ 100000 by rw [List.append_nil]; simpa using HBN.out)
          clear hcase hg0
          have cX : (w3.alloc (.cells #[.bool true, .slice none 0 0] 112)).cell? ⟨X, 1, none⟩ = some (.slice a5 gs.length c5) := (cell_of_row _ _ 1 _ _ _ (ES.out.at X (emC true (.slice a5 gs.length c5)) (by simp))).trans rfl
          have fX : (w3.alloc (.cells #[.bool true, .slice none 0 0] 112)).frozen? ⟨X, 1, none⟩ = false := frozen_of_row _ _ _ _ _ (ES.out.at X (emC true (.slice a5 gs.length c5)) (by simp))
          go_wp2_with (at_builtin; refine wpList_append_own_none rfl (.tmp 64) (.tmp 66) 85 rfl w.heap.size 3 i0 1 Tryd.underlying85 hi (.slice a5 gs.length c5) gs.length (cellsI gs) rfl OG.out rfl ?_)
          go_roundw
          case rel => exact ⟨j + 1, gs ++ [], .slice a5 gs.length c5, by omega, by go_num, ET2, OT, HN, HBO⟩
          case measure => simp [intOf]; omega
        · obtain ⟨ga, hga⟩ : ∃ g, a = some ⟨g, 0, none⟩ := by
            rcases hcase with ⟨h, h0⟩ | ⟨g, cap, cur, h, _⟩
            · injection h with h1 h2 h3; exact absurd h1 hnil
            · injection h with h1 h2 h3; exact ⟨g, h1⟩
          subst hga
          have hsrc : ∀ u v, (cellsI gs2)[u]? = some v → (w3.alloc (.cells #[.bool true, .slice (some ⟨ga, 0, none⟩) gs2.length c] 112)).cell? ((⟨ga, 0, none⟩ : Addr).add u) = some v := by
            by_cases he : gs2 = []
            · subst he; intro u v h; simp [cellsI] at h
            · obtain ⟨g, c', h1, h2⟩ := OW.out.src he
              injection h1 with h1 _ _
              injection h1 with h1
              injection h1 with h1
              subst h1
              exact h2
          have HSRC := Lib.hid hsrc
          clear hcase hnil hsrc
          have ES := Lib.hid (show Es w (w3.alloc (.cells #[.bool true, .slice (some ⟨ga, 0, none⟩) gs2.length c] 112)) [(X, emC true (.slice a5 gs.length c5)), (w.heap.size, emC false (.slice none 0 0))] from E4.out.two)
          have cX : (w3.alloc (.cells #[.bool true, .slice (some ⟨ga, 0, none⟩) gs2.length c] 112)).cell? ⟨X, 1, none⟩ = some (.slice a5 gs.length c5) := (cell_of_row _ _ 1 _ _ _ (ES.out.at X (emC true (.slice a5 gs.length c5)) (by simp))).trans rfl
          have HFIN := Lib.hid (fun (v2 : Value) w2 (O2 : OwnI w2 w.heap.size v2 (gs ++ gs2)) (E2 : Es w w2 [(X, emC true (.slice a5 gs.length c5)), (w.heap.size, emC false (.slice none 0 0))]) => show Es w (w2.setCell ⟨X, 1, none⟩ v2) [(X, emC true v2), (w.heap.size, emC false (.slice none 0 0))] ∧ OwnI (w2.setCell ⟨X, 1, none⟩ v2) w.heap.size v2 (gs ++ gs2) from
            ⟨by have := E2.set X true (.slice a5 gs.length c5) v2 (by simp); simpa [HN0] using this,
             O2.move (fun k hk => heap_setCell_other _ _ _ _ (by
              have hne := O2.ne (E2.at X (emC true (.slice a5 gs.length c5)) (by simp))
              first | (intro e; exact hne (hk.trans (congrArg some e))) | (intro e; exact hne (hk.trans (congrArg some e.symm)))))⟩)
          have HCX := Lib.hid (fun w2 (E2 : Es w w2 [(X, emC true (.slice a5 gs.length c5)), (w.heap.size, emC false (.slice none 0 0))]) => show w2.cell? ⟨X, 1, none⟩ = some (.slice a5 gs.length c5) from (cell_of_row w2 X 1 _ _ _ (E2.at X (emC true (.slice a5 gs.length c5)) (by simp))).trans rfl)
          have HFX := Lib.hid (fun w2 (E2 : Es w w2 [(X, emC true (.slice a5 gs.length c5)), (w.heap.size, emC false (.slice none 0 0))]) => show w2.frozen? ⟨X, 1, none⟩ = false from frozen_of_row _ _ _ _ _ (E2.at X (emC true (.slice a5 gs.length c5)) (by simp)))
          have HLN := Lib.hid (show (cellsI gs2).length = gs2.length * 1 by rw [cellsI_length, Nat.mul_one])
          have HMX := Lib.hid (show gs.length + gs2.length ≤ maxLen ∧ (gs.length + gs2.length) * 8 ≤ 140737488355328 from ⟨by unfold maxLen; omega, by omega⟩)
          have HSZ := Lib.hid (show w.heap.size ≤ (w3.alloc (.cells #[.bool true, .slice (some ⟨ga, 0, none⟩) gs2.length c] 112)).heap.size by have := HW3.out; simp; exact this)
          have HBO := Lib.hid (show (gs ++ gs2).length + ngAll (ks.drop (j + 1)) ≤ 100000 by rw [List.length_append]; exact HBN.out)
          go_wp2_with (at_builtin; refine wpList_append_own _ rfl (.tmp 64) (.tmp 66) 85 rfl w.heap.size 3 i0 (.int .i64 0) 1 8 Tryd.underlying85 hi hz0 hz1 hz2 rfl (by decide) (.slice a5 gs.length c5) gs.length (cellsI gs) rfl OG.out ⟨ga, 0, none⟩ gs2.length c (cellsI gs2) rfl HLN.out HSRC.out (cellsI_one _) HMX.out.1 HMX.out.2 HSZ.out ?_; intro v2 w2 hown2 hgr2 hne2; have O2 := ownI_grow hown2; obtain ⟨a2, c2, hv2⟩ := O2.shape; rw [List.length_append] at hv2; subst hv2; have E2 := ES.out.grown OG.out hgr2; have FIN := Lib.hid (HFIN.out _ _ O2 E2); have cX2 := HCX.out w2 E2; have fX2 := HFX.out w2 E2; clear hown2 hgr2 hne2 O2 E2)
          go_roundw
          case rel => exact ⟨j + 1, gs ++ gs2, _, by omega, by go_num, Lib.hid FIN.out.1, Lib.hid FIN.out.2, HN, HBO⟩
          case measure => simp [intOf]; omega
      | false =>
        obtain ⟨rfl, rfl⟩ : rb = false ∧ rg = [] := by
          have hq2 := HST.out
          rw [if_neg (by simp)] at hq2
          cases hq2
          exact ⟨rfl, rfl⟩
        have h5 : (w3.alloc (.cells #[.bool false, .slice a gs2.length c] 112)).heap[w.heap.size]? = some (.cells (emC false (.slice none 0 0)) 112 (0, 0)) := E4.out.at w.heap.size (emC false (.slice none 0 0)) (by simp [emC])
        have E6 := Lib.hid (E4.out.row w.heap.size (emC false (.slice none 0 0)) (emC false (.slice none 0 0)) (by simp [emC]))
        go_upto_region 19 with (fail)
        go_wp2_with (refine wpList_store_row rfl 112 (.tmp 4) (.tmp 62) rfl w.heap.size (emC false (.slice none 0 0)) rfl rfl 112 (emC false (.slice none 0 0)) h5 (by kernel_rfl) rfl emC_one ?_)
        refine bodyPost_ret (v := .agg (emC false (.slice none 0 0))) ?_ ?_ ?_
        · exact results_cell_row rfl _ _ w.heap.size 112 (emC false (.slice none 0 0)) (0, 0) _ rfl (E6.out.at _ _ (by simp)) Tryd.underlying112 rfl (by kernel_rfl)
        · rfl
        · exact ⟨_, rfl, E6.out.below, OwnI.nil _ _⟩
    · obtain rfl : j = L := by omega
      have hd : decide (j < j) = false := decide_eq_false (by omega)
      obtain ⟨rfl, rfl⟩ : rb = true ∧ gs = rg := by
        have hq2 := HR.out
        rw [← HLE.out, List.drop_length] at hq2
        have hq3 : (true, gs) = (rb, rg) := hq2
        cases hq3
        exact ⟨rfl, rfl⟩
      have hX5 : wr.heap[X]? = some (.cells (emC true (.slice a5 gs.length c5)) 112 (0, 0)) := HE.out.at X _ (by simp)
      have h5 : wr.heap[w.heap.size]? = some (.cells (emC false (.slice none 0 0)) 112 (0, 0)) := HE.out.at w.heap.size _ (by simp)
      have E6 := Lib.hid (HE.out.row w.heap.size (emC false (.slice none 0 0)) (emC true (.slice a5 gs.length c5)) (by simp))
      have OW2 := Lib.hid (HOW.out.move (w' := wr.setRow w.heap.size (emC true (.slice a5 gs.length c5))) (fun k hk => by
        unfold World.setRow
        simp only
        rw [Array.getElem?_modify, if_neg (fun e => HOW.out.ne h5 (hk.trans (congrArg some (by first | exact e | exact e.symm))))]))
      go_upto_region 22 with (fail)
      go_wp2_with (first | (refine wpList_load_row rfl 112 (.tmp 5) rfl X rfl 112 (emC true (.slice a5 gs.length c5)) (0, 0) _ hX5 Tryd.underlying112 rfl (by kernel_rfl) ?_) | (refine wpList_store_row rfl 112 (.tmp 4) (.tmp 70) rfl w.heap.size (emC true (.slice a5 gs.length c5)) rfl rfl 112 (emC false (.slice none 0 0)) h5 (by kernel_rfl) rfl emC_one ?_))
      refine bodyPost_ret (v := .agg (emC true (.slice a5 gs.length c5))) ?_ ?_ ?_
      · exact results_cell_row rfl _ _ w.heap.size 112 (emC true (.slice a5 gs.length c5)) (0, 0) _ rfl (E6.out.at _ _ (by simp)) Tryd.underlying112 rfl (by kernel_rfl)
      · rfl
      · exact ⟨_, rfl, E6.out.below, OW2.out⟩
theorem emp_eq {w : World} {r r' : Bool × List Nat} (h : r = r') {e : Ending} {w' : World} (k : EmP w r e w') : EmP w r' e w' := h ▸ k
/-- how the empty text fits any part -/
theorem em_any (S : Nat → Prop) (k : Nat) (hk : k < 4) : ∀ t, sizeOk t → ∀ b w, IsN w S t b → Calls Tryd.prog 70 #[ptr b, .int .u8 ((k : Nat) : Int)] w (EmP w (Rx.emptyAt t k)) := by
  intro t
  induction t using Rx.Node.ind with
  | h1 x => intro _ b w H; exact em_byte S x k b hk w H
  | h2 e => intro _ b w H; exact em_edge S e k b hk w H
  | h3 ks ih =>
    intro hs b w H
    rw [show Rx.emptyAt (.seq ks) k = Rx.emptySeq ks k [] by rw [Rx.emptyAt]]
    unfold sizeOk at hs
    exact em_seq S ks k b hk hs.1 (by rw [← ng_seq]; exact hs.2.1) w H (fun t ht i w1 h => ih t ht (sizeAll_mem ks hs.2.2 t ht) i w1 h)
  | h4 ks ih =>
    intro hs b w H
    rw [show Rx.emptyAt (.alt ks) k = Rx.emptyAlt ks k by rw [Rx.emptyAt]]
    unfold sizeOk at hs
    exact em_alt S ks k b hk w H (fun w1 h => eb_any S ks k b hk hs.1 w1 h (fun t ht i w2 h2 => ih t ht (sizeAll_mem ks hs.2.2 t ht) i w2 h2))
  | h5 n t ih =>
    intro hs b w H
    unfold sizeOk at hs
    rw [show Rx.emptyAt (.group n t) k = Rx.emptySeq [t] k [n] by rw [Rx.emptyAt, Rx.emptySeq]; split <;> rfl]
    exact em_group S n t k b hk hs.1 w H (fun u hu i w1 h => by rw [List.mem_singleton.1 hu] at h ⊢; exact ih hs.2 i w1 h)
  | h6 l m p z t ih =>
    intro hs b w H
    unfold sizeOk at hs
    exact em_count S l m p z t k b hk w H (fun w1 h => et_any S l m p z t k b hk w1 h (fun i w2 h2 => ih hs i w2 h2))
end Go.Proofs.YtphighddlfabbaaDoor
namespace Go.Proofs.YtphighddlfabbaaDoor
set_option linter.unusedVariables false
set_option linter.unusedSimpArgs false
open Go.RowKit Go.PlainAid Go.Shelf
open Rx (Set4 RS)
/-- the first places are told -/
structure EsAt (w wr : World) (B : Nat) (t : Rx.Node) (ec : Array Value) (k : Nat) : Prop where
  row : wr.heap[B]? = some (.cells ec 124 (0, 0))
  size : ec.size = 8
  below : Below w.heap.size w wr
  told : ∀ j, j < k → ec[2 * j]? = some (.bool (Rx.emptyAt t j).1) ∧ ∃ a c, ec[2 * j + 1]? = some (.slice a (Rx.emptyAt t j).2.length c)
theorem EsAt.step {w wr : World} {B : Nat} {t : Rx.Node} {ec : Array Value} {k : Nat} (h : EsAt w wr B t ec k) (hB : w.heap.size ≤ B) (hk : k < 4) (a : Option Addr) (c : Nat) :
    EsAt w ((wr.setCell ⟨B, k * 2, none⟩ (.bool (Rx.emptyAt t k).1)).setCell ⟨B, k * 2 + 1, none⟩ (.slice a (Rx.emptyAt t k).2.length c)) B t ((ec.setIfInBounds (k * 2) (.bool (Rx.emptyAt t k).1)).setIfInBounds (k * 2 + 1) (.slice a (Rx.emptyAt t k).2.length c)) (k + 1) := by
  refine ⟨?_, by simp [h.size], (h.below.setCell hB _).setCell hB _, fun j hj => ?_⟩
  · rw [heap_setCell_same _ _ _ _ _ _ (heap_setCell_same _ _ _ _ _ _ h.row)]
  · simp only [Array.getElem?_setIfInBounds, Array.size_setIfInBounds, h.size]
    by_cases e : j = k
    · subst e
      have h1 : ¬ (j * 2 + 1 = 2 * j) := by omega
      have h2 : j * 2 = 2 * j := by omega
      refine ⟨by simp [h1, h2]; omega, a, c, by simp [h2]; omega⟩
    · obtain ⟨g1, a', c', g2⟩ := h.told j (by omega)
      have h1 : ¬ (k * 2 + 1 = 2 * j) := by omega
      have h2 : ¬ (k * 2 = 2 * j) := by omega
      have h3 : ¬ (k * 2 + 1 = 2 * j + 1) := by omega
      have h4 : ¬ (k * 2 = 2 * j + 1) := by omega
      exact ⟨by simp [h1, h2, g1], a', c', by simp [h2, h4, g2]⟩
def EmRes (w : World) (t : Rx.Node) (e : Ending) (w' : World) : Prop := ∃ em, e = .returned em ∧ Below w.heap.size w w' ∧ EmAt w' (Fresh w.heap.size) t em
set_option maxHeartbeats 2000000 in
set_option maxRecDepth 100000 in
theorem emptiness_any (S : Nat → Prop) (t : Rx.Node) (ht : sizeOk t) (b : Nat) (w : World) (H : IsN w S t b) :
    Calls Tryd.prog 61 #[ptr b] w (EmRes w t) := by
  have HC := Lib.hid (fun k hk w1 (hb : Below w.heap.size w w1) => em_any S k hk t ht b w1 (H.below hb))
  have h0 := Lib.hid (show EsAt w (w.alloc (.cells #[.bool false, .slice none 0 0, .bool false, .slice none 0 0, .bool false, .slice none 0 0, .bool false, .slice none 0 0] 124)) w.heap.size t #[.bool false, .slice none 0 0, .bool false, .slice none 0 0, .bool false, .slice none 0 0, .bool false, .slice none 0 0] 0 from
    ⟨heap_alloc_new w _, rfl, (Below.refl _ _).alloc (Nat.le_refl _) _, fun j hj => by omega⟩)
  unfold ptr at HC ⊢
  clear H ht
  obtain ⟨B, hB⟩ : ∃ B, w.heap.size = B := ⟨_, rfl⟩
  have HB := Lib.hid hB
  rw [hB] at h0
  go_enter Tryd.func61, Tryd.ntmps61
  go_wp2
  go_loopw [5] (fun i wr => ∃ (k : Nat) (ec : Array Value), k ≤ 4 ∧ i = .int .i64 ((k : Nat) : Int) ∧ Hid (EsAt w wr B t ec k)) (fun i _ => 4 - (intOf i).toNat)
  case atStart => exact ⟨0, _, Nat.zero_le _, rfl, h0⟩
  case round =>
    obtain ⟨k, ec, hk, rfl, HE⟩ := hrel
    by_cases hlt : k < 4
    · have hd : decide ((k : Int) < 4) = true := by simp; omega
      have C1 := Lib.hid (HC.out k hlt wr HE.out.below)
      obtain ⟨⟨q, gs⟩, hq⟩ : ∃ r, Rx.emptyAt t k = r := ⟨_, rfl⟩
      have HST := Lib.hid (fun w' (h : EsAt w w' B t ec k) a c => h.step (by rw [HB.out]; exact Nat.le_refl _) hlt a c)
      have hu : IntKind.u8.wrap ((k : Nat) : Int) = ((k : Nat) : Int) := by rw [IntKind.wrap_u8]; omega
      rw [hq] at C1 HST
      clear hq
      go_wp2_with fail
      refine C1.out.mono ?_
      rintro e w3 ⟨v, rfl, hb, ho⟩
      have ho : OwnI w3 wr.heap.size v gs := ho
      obtain ⟨a, c, rfl⟩ := ho.shape
      have hBl := (Array.getElem?_eq_some_iff.1 HE.out.row).1
      have E3 : EsAt w w3 B t ec k := ⟨(hb.block B hBl).trans HE.out.row, HE.out.size, HE.out.below.trans (hb.mono HE.out.below.size), HE.out.told⟩
      have E4 := Lib.hid (HST.out w3 E3 a c)
      have hs := E3.size
      have x0 : w3.cell? ⟨B, k * 2, none⟩ = some (ec[k * 2]'(by omega)) := by rw [cell_of_row _ _ _ _ _ _ E3.row]; exact Array.getElem?_eq_getElem _
      have y0 : w3.frozen? ⟨B, k * 2, none⟩ = false := frozen_of_row _ _ _ _ _ E3.row
      have r1 := heap_setCell_same w3 B (k * 2) _ _ (.bool q) E3.row
      have x1 : (w3.setCell ⟨B, k * 2, none⟩ (.bool q)).cell? ⟨B, k * 2 + 1, none⟩ = some (ec[k * 2 + 1]'(by omega)) := by
        rw [cell_of_row _ _ _ _ _ _ r1, Array.getElem?_setIfInBounds, if_neg (by omega)]; exact Array.getElem?_eq_getElem _
      have y1 : (w3.setCell ⟨B, k * 2, none⟩ (.bool q)).frozen? ⟨B, k * 2 + 1, none⟩ = false := frozen_of_row _ _ _ _ _ r1
      clear hb ho E3 r1
      go_wp2
      go_roundw
      case rel => exact ⟨k + 1, _, by omega, by go_num, E4⟩
      case measure => simp [intOf]; omega
    · obtain rfl : k = 4 := by omega
      have hd : decide (((4 : Nat) : Int) < 4) = false := rfl
      go_wp2
      go_ret
      exact ⟨ptr B, rfl, HE.out.below, B, ec, rfl, by rw [← HB.out]; exact Nat.le_refl _, HE.out.row, fun j hj => HE.out.told j hj⟩
end Go.Proofs.YtphighddlfabbaaDoor
namespace Go.Proofs.YtphighddlfabbaaDoor
set_option linter.unusedVariables false
set_option linter.unusedSimpArgs false
open Rx (Set4 RS)
def Inv (bs : List Nat) (st : RS) : Prop := st.at' ≤ bs.length ∧ st.groups ≤ st.at' ∧ st.nested ≤ st.at' ∧ st.deepest ≤ st.at'
theorem Inv.to {bs : List Nat} {st : RS} (h : Inv bs st) {p : Nat} (hp : st.at' ≤ p) (hl : p ≤ bs.length) : Inv bs (st.to p) := by
  obtain ⟨_, h2, h3, h4⟩ := h
  exact ⟨hl, by show st.groups ≤ p; omega, by show st.nested ≤ p; omega, by show st.deepest ≤ p; omega⟩
mutual
/-- counts are bounded -/
def Bd : Rx.Node → Prop
  | .byte _ => True
  | .edge _ => True
  | .seq ks => BdAll ks
  | .alt ks => BdAll ks
  | .group _ t => Bd t
  | .count l m _ _ t => l ≤ 1000 ∧ (∀ M, m = some M → l ≤ M ∧ M ≤ 1000) ∧ Bd t
def BdAll : List Rx.Node → Prop
  | [] => True
  | t :: ts => Bd t ∧ BdAll ts
end
/-- what is so of a tree that was read between these counts of groups -/
structure Good (g g' : Nat) (t : Rx.Node) : Prop where
  wf : Rx.Wf t
  size : sizeOk t
  ng : ng t + g ≤ g'
  bd : Bd t
structure PF (bs : List Nat) (st : RS) (r : Option Rx.Node × RS) : Prop where
  inv : Inv bs r.2
  ge : st.at' ≤ r.2.at'
  gr : st.groups ≤ r.2.groups
  ok : ∀ t, r.1 = some t → r.2.nested = st.nested ∧ Good st.groups r.2.groups t
theorem PF.fail {bs : List Nat} {st st' : RS} (h : Inv bs st') (h1 : st.at' ≤ st'.at') (h2 : st.groups ≤ st'.groups) : PF bs st (none, st') := ⟨h, h1, h2, fun t h => by cases h⟩
theorem Good.byte (g : Nat) (x : Set4) : Good g g (.byte x) := ⟨by unfold Rx.Wf; trivial, by unfold sizeOk; trivial, by unfold YtphighddlfabbaaDoor.ng; omega, by unfold Bd; trivial⟩
theorem Good.edge (g e : Nat) : Good g g (.edge e) := ⟨by unfold Rx.Wf; trivial, by unfold sizeOk; trivial, by unfold YtphighddlfabbaaDoor.ng; omega, by unfold Bd; trivial⟩
theorem ofSet_pf {bs : List Nat} {st : RS} (h : Inv bs st) (r : Option Set4 × Nat) (h1 : st.at' ≤ r.2) (h2 : r.2 ≤ bs.length) : PF bs st (Rx.ofSet st r) := by
  refine ⟨h.to h1 h2, h1, Nat.le_refl _, fun t ht => ?_⟩
  unfold Rx.ofSet at ht
  rcases r with ⟨_ | x, q⟩
  · cases ht
  · cases ht; exact ⟨rfl, Good.byte _ _⟩
theorem poe_ge (bs : List Nat) (p : Nat) : p ≤ (Rx.plainOrEscape bs p).2 := by
  have pe : ∀ e q, q ≤ (Rx.peEnd bs e q).2 := by
    intro e q
    unfold Rx.peEnd
    split
    · exact Nat.le_refl _
    · by_cases k : (if e = true then Rx.meaning ‹Nat› else Set4.only ‹Nat›).isNone = true
      · simp only [k, if_true]; exact Nat.le_refl _
      · simp only [k, if_false]; exact Nat.le_succ _
  unfold Rx.plainOrEscape
  split
  · have := pe true (p + 1); omega
  · exact pe false p
theorem item_ge (bs : List Nat) (p : Nat) : p ≤ (Rx.item bs p).2 := by
  unfold Rx.item
  split
  · exact Nat.le_refl _
  · exact poe_ge bs p
theorem items_ge (bs : List Nat) (f p : Nat) : p ≤ (Rx.items sg bs f p).2 := by
  have h1 := item_ge bs p
  unfold Rx.items
  split
  · unfold Rx.stray; split
    · exact Nat.le_succ _
    · exact Nat.le_refl _
  · split
    · rename_i hi; rw [hi] at h1; exact h1
    · rename_i x q hi
      rw [hi] at h1
      simp only at h1
      split
      · exact h1
      · split
        · have h2 := item_ge bs (q + 1)
          unfold Rx.range2
          split
          · rename_i hi2; rw [hi2] at h2; simp only at h2 ⊢; omega
          · rename_i y q2 hi2
            rw [hi2] at h2
            simp only at h2
            split
            · show p ≤ q + 1; omega
            · split
              · show p ≤ q + 1; omega
              · show p ≤ q2; omega
        · exact h1
theorem classLoop_ge (bs : List Nat) (f : Nat) : ∀ n x p, p ≤ (Rx.classLoop sg bs f n x p).2
  | 0, x, p => Nat.le_refl _
  | n + 1, x, p => by
    unfold Rx.classLoop
    split
    · exact Nat.le_succ _
    · have h := items_ge bs f p
      split
      · rename_i hi; rw [hi] at h; exact h
      · rename_i y q hi
        rw [hi] at h
        simp only at h
        have := classLoop_ge bs f n (x.join y) q
        omega
theorem classSet_facts (bs : List Nat) (p : Nat) (hp : p < bs.length) : p ≤ (Rx.classSet sg bs p).2 ∧ (Rx.classSet sg bs p).2 ≤ bs.length := by
  unfold Rx.classSet
  split
  · rename_i k
    have h1 := isAt_lt k
    have h2 := classLoop_ge bs (p + 2) (bs.length + 1) Set4.none (p + 2)
    have h3 := classLoop_le bs (p + 2) (bs.length + 1) Set4.none (p + 2) (by omega)
    exact ⟨by simp only; omega, h3⟩
  · have h2 := classLoop_ge bs (p + 1) (bs.length + 1) Set4.none (p + 1)
    have h3 := classLoop_le bs (p + 1) (bs.length + 1) Set4.none (p + 1) (by omega)
    exact ⟨by omega, h3⟩
theorem next_lt {bs : List Nat} {p : Nat} {l : List Nat} (h : Rx.isNext bs p l = true) : p < bs.length := by
  unfold Rx.isNext at h
  split at h
  · cases h
  · rename_i c hc; exact (List.getElem?_eq_some_iff.1 hc).1
theorem bounds_ge (bs : List Nat) (p : Nat) : p ≤ (Rx.bounds bs p).2 := by
  have n1 : ∀ q, q ≤ (Rx.number bs q).2.2 := fun q => digs_ge bs 4 q 0
  have be : ∀ l m q, q ≤ (Rx.boundsEnd bs l m q).2 := by
    intro l m q; unfold Rx.boundsEnd; split
    · exact Nat.le_succ _
    · exact Nat.le_refl _
  have h1 := n1 p
  unfold Rx.bounds
  split
  · split
    · unfold Rx.bounds2
      split
      · have := be (Rx.number bs p).1 none ((Rx.number bs p).2.2 + 1); omega
      · have h2 := n1 ((Rx.number bs p).2.2 + 1)
        split
        · have := be (Rx.number bs p).1 (some (Rx.number bs ((Rx.number bs p).2.2 + 1)).1) (Rx.number bs ((Rx.number bs p).2.2 + 1)).2.2; omega
        · show p ≤ (Rx.number bs ((Rx.number bs p).2.2 + 1)).2.2; omega
    · have := be (Rx.number bs p).1 (some (Rx.number bs p).1) (Rx.number bs p).2.2; omega
  · exact h1
theorem bounds_ok (bs : List Nat) (p l : Nat) (m : Option Nat) (h : (Rx.bounds bs p).1 = some (l, m)) : l ≤ 1000 ∧ ∀ M, m = some M → l ≤ M ∧ M ≤ 1000 := by
  have n1 : ∀ q, (Rx.number bs q).2.1 = true → (Rx.number bs q).1 ≤ 1000 := by
    intro q hq
    unfold Rx.number at hq ⊢
    simp only [Bool.and_eq_true, decide_eq_true_eq] at hq
    exact hq.2
  have be : ∀ l' m' q, (Rx.boundsEnd bs l' m' q).1 = some (l, m) → l' = l ∧ m' = m := by
    intro l' m' q h; unfold Rx.boundsEnd at h; split at h
    · cases h; exact ⟨rfl, rfl⟩
    · cases h
  unfold Rx.bounds at h
  split at h
  · rename_i hn
    have hb := n1 p hn
    split at h
    · unfold Rx.bounds2 at h
      split at h
      · obtain ⟨rfl, rfl⟩ := be _ _ _ h; exact ⟨hb, fun M e => by cases e⟩
      · split at h
        · rename_i h2
          simp only [Bool.and_eq_true, decide_eq_true_eq] at h2
          obtain ⟨rfl, rfl⟩ := be _ _ _ h
          exact ⟨hb, fun M e => by cases e; exact ⟨h2.2, n1 _ h2.1⟩⟩
        · cases h
    · obtain ⟨rfl, rfl⟩ := be _ _ _ h; exact ⟨hb, fun M e => by cases e; exact ⟨Nat.le_refl _, hb⟩⟩
  · cases h
theorem lazyEnd_pf (bs : List Nat) (st : RS) (l : Nat) (m : Option Nat) (p : Bool) (t : Rx.Node) (h : Inv bs st) (g0 : Nat) (ht : Good g0 st.groups t) (hl : l ≤ 1000) (hm : ∀ M, m = some M → l ≤ M ∧ M ≤ 1000) (hp : p = true → l = 1 ∧ m = none) :
    Inv bs (Rx.lazyEnd bs st l m p t).2 ∧ st.at' ≤ (Rx.lazyEnd bs st l m p t).2.at' ∧ (Rx.lazyEnd bs st l m p t).2.groups = st.groups ∧ (Rx.lazyEnd bs st l m p t).2.nested = st.nested ∧ ∀ u, (Rx.lazyEnd bs st l m p t).1 = some u → Good g0 st.groups u := by
  have hg : ∀ z, Good g0 st.groups (.count l m p z t) := fun z => ⟨by rw [Rx.Wf]; exact ⟨ht.wf, fun M e => (hm M e).1, hp⟩, by unfold sizeOk; exact ht.size, by rw [ng_count]; exact ht.ng, by rw [Bd]; exact ⟨hl, hm, ht.bd⟩⟩
  unfold Rx.lazyEnd
  split
  · rename_i k
    exact ⟨h.to (Nat.le_succ _) (isAt_lt k), Nat.le_succ _, rfl, rfl, fun u e => by cases e; exact hg true⟩
  · exact ⟨h, Nat.le_refl _, rfl, rfl, fun u e => by cases e; exact hg false⟩
theorem countOf_pf (bs : List Nat) (t : Rx.Node) (st : RS) (h : Inv bs st) (g0 : Nat) (ht : Good g0 st.groups t) :
    Inv bs (Rx.countOf bs t st).2 ∧ st.at' ≤ (Rx.countOf bs t st).2.at' ∧ (Rx.countOf bs t st).2.groups = st.groups ∧ (Rx.countOf bs t st).2.nested = st.nested ∧ ∀ u, (Rx.countOf bs t st).1 = some u → Good g0 st.groups u := by
  have one : ∀ c, Rx.isAt bs st.at' c = true → Inv bs (st.to (st.at' + 1)) := fun c k => h.to (Nat.le_succ _) (isAt_lt k)
  have lift : ∀ {q : Nat} {l m p}, st.at' ≤ q → Inv bs (st.to q) → l ≤ 1000 → (∀ M, m = some M → l ≤ M ∧ M ≤ 1000) → (p = true → l = 1 ∧ m = none) → Inv bs (Rx.lazyEnd bs (st.to q) l m p t).2 ∧ st.at' ≤ (Rx.lazyEnd bs (st.to q) l m p t).2.at' ∧ (Rx.lazyEnd bs (st.to q) l m p t).2.groups = st.groups ∧ (Rx.lazyEnd bs (st.to q) l m p t).2.nested = st.nested ∧ ∀ u, (Rx.lazyEnd bs (st.to q) l m p t).1 = some u → Good g0 st.groups u := by
    intro q l m p hq hi hl hm hp
    obtain ⟨a, b, c, d, e⟩ := lazyEnd_pf bs (st.to q) l m p t hi g0 ht hl hm hp
    exact ⟨a, Nat.le_trans hq b, c, d, e⟩
  unfold Rx.countOf
  split
  · rename_i k; exact lift (Nat.le_succ _) (one _ k) (by omega) (fun M e => by cases e) (fun e => by cases e)
  split
  · rename_i k; exact lift (Nat.le_succ _) (one _ k) (by omega) (fun M e => by cases e) (fun _ => ⟨rfl, rfl⟩)
  split
  · rename_i k; exact lift (Nat.le_succ _) (one _ k) (by omega) (fun M e => by cases e; omega) (fun e => by cases e)
  split
  · rename_i k
    have h1 := bounds_ge bs (st.at' + 1)
    have h2 := bounds_le bs (st.at' + 1) (isAt_lt k)
    have h3 := bounds_ok bs (st.at' + 1)
    split
    · rename_i q hb
      rw [hb] at h1 h2
      simp only at h1 h2
      exact ⟨h.to (by omega) h2, by show st.at' ≤ q; omega, rfl, rfl, fun u e => by cases e⟩
    · rename_i l m q hb
      rw [hb] at h1 h2 h3
      simp only at h1 h2
      have h4 := h3 l m rfl
      exact lift (by omega) (h.to (by omega) h2) h4.1 h4.2 (fun e => by cases e)
  · exact ⟨h, Nat.le_refl _, rfl, rfl, fun u e => by cases e; exact ht⟩
/-- what the pattern's reader owes -/
def PFF (bs : List Nat) (f : Rx.PatF) : Prop := ∀ st, Inv bs st → PF bs st (f st)
theorem paren_pf {bs : List Nat} (hl : bs.length ≤ 500) {f : Rx.PatF} (hf : PFF bs f) (st : RS) (h : Inv bs st) (h40 : Rx.isNext bs st.at' [40] = true) : PF bs st (Rx.paren f bs st) ∧ (∀ t, (Rx.paren f bs st).1 = some t → st.at' < (Rx.paren f bs st).2.at') := by
  have hlt := next_lt h40
  obtain ⟨i1, i2, i3, i4⟩ := h
  have fin : ∀ (num : Nat) (s1 : RS), s1.at' ≤ bs.length → st.at' < s1.at' → Inv bs (Rx.deeper s1) → s1.nested = st.nested → (num = 0 → s1.groups = st.groups) → (0 < num → s1.groups = st.groups + 1) →
      PF bs st (Rx.parenEnd bs num (f (Rx.deeper s1))) ∧ (∀ t, (Rx.parenEnd bs num (f (Rx.deeper s1))).1 = some t → st.at' < (Rx.parenEnd bs num (f (Rx.deeper s1))).2.at') := by
    intro num s1 hs1 hs2 hi hn hg0 hg1
    have pf := hf _ hi
    have hgs : st.groups ≤ s1.groups := by
      rcases Nat.eq_zero_or_pos num with e | e
      · rw [hg0 e]; exact Nat.le_refl _
      · rw [hg1 e]; exact Nat.le_succ _
    rcases hr : f (Rx.deeper s1) with ⟨_ | t, s2⟩
    · rw [hr] at pf
      unfold Rx.parenEnd
      have h1 : s1.at' ≤ s2.at' := pf.ge
      have h2 : s1.groups ≤ s2.groups := pf.gr
      exact ⟨PF.fail pf.inv (by omega) (by omega), fun t h => by cases h⟩
    · rw [hr] at pf
      have h1 : s1.at' ≤ s2.at' := pf.ge
      have h2 : s1.groups ≤ s2.groups := pf.gr
      obtain ⟨hne, hgd⟩ := pf.ok t rfl
      have hne : s2.nested = s1.nested + 1 := hne
      have hgd : Good s1.groups s2.groups t := hgd
      obtain ⟨j1, j2, j3, j4⟩ := pf.inv
      simp only at j1 j2 j3 j4
      unfold Rx.parenEnd
      simp only
      split
      · rename_i k
        have k1 := isAt_lt k
        refine ⟨⟨⟨k1, by show s2.groups ≤ s2.at' + 1; omega, by show s2.nested - 1 ≤ s2.at' + 1; omega, by show s2.deepest ≤ s2.at' + 1; omega⟩, by show st.at' ≤ s2.at' + 1; omega, by show st.groups ≤ s2.groups; omega, fun u hu => ⟨by show s2.nested - 1 = st.nested; omega, ?_⟩⟩, fun u hu => by show st.at' < s2.at' + 1; omega⟩
        simp only [Option.some.injEq] at hu
        subst hu
        show Good st.groups s2.groups _
        split
        · rename_i hpos
          have hg := hg1 hpos
          have hng := hgd.ng
          exact ⟨by rw [Rx.Wf]; exact hgd.wf, by unfold sizeOk; exact ⟨by omega, hgd.size⟩, by rw [ng_group]; omega, by rw [Bd]; exact hgd.bd⟩
        · rename_i hpos
          have hg := hg0 (by omega)
          rw [← hg]; exact hgd
      · exact ⟨PF.fail ⟨j1, j2, j3, j4⟩ (by show st.at' ≤ s2.at'; omega) (by show st.groups ≤ s2.groups; omega), fun t h => by cases h⟩
  unfold Rx.paren
  split
  · rename_i k
    have k1 := isAt_lt k
    split
    · rename_i k2
      have k3 := isAt_lt k2
      refine fin 0 (st.to (st.at' + 3)) (by show st.at' + 3 ≤ _; omega) (by show st.at' < st.at' + 3; omega) ⟨by show st.at' + 3 ≤ _; omega, by show st.groups ≤ st.at' + 3; omega, by show st.nested + 1 ≤ st.at' + 3; omega, by show max st.deepest (st.nested + 1) ≤ st.at' + 3; omega⟩ rfl (fun _ => rfl) (fun h => by omega)
    · exact ⟨PF.fail (Inv.to ⟨i1, i2, i3, i4⟩ (by omega) (by omega)) (by show st.at' ≤ st.at' + 2; omega) (Nat.le_refl _), fun t h => by cases h⟩
  · refine fin (st.groups + 1) { st.to (st.at' + 1) with groups := st.groups + 1 } (by show st.at' + 1 ≤ _; omega) (by show st.at' < st.at' + 1; omega) ⟨by show st.at' + 1 ≤ _; omega, by show st.groups + 1 ≤ st.at' + 1; omega, by show st.nested + 1 ≤ st.at' + 1; omega, by show max st.deepest (st.nested + 1) ≤ st.at' + 1; omega⟩ rfl (fun h => by omega) (fun _ => rfl)
theorem classLoop_adv (bs : List Nat) (f n : Nat) (x : Set4) (p : Nat) : ∀ y, (Rx.classLoop sg bs f n x p).1 = some y → p < (Rx.classLoop sg bs f n x p).2 := by
  intro y h
  cases n with
  | zero => cases h
  | succ n =>
    unfold Rx.classLoop at h ⊢
    split
    · exact Nat.lt_succ_self _
    · rename_i k
      rw [if_neg k] at h
      have h1 := items_ge bs f p
      split
      · rename_i hi; rw [hi] at h; cases h
      · rename_i z q hi
        rw [hi] at h h1
        have h2 := classLoop_ge bs f n (x.join z) q
        have h3 : p < q := by
          have hp : p ≤ bs.length ∨ bs.length < p := by omega
          rcases hp with hp | hp
          · have := (items_facts bs f p hp).2 z (by rw [hi]); rw [hi] at this; exact this.2
          · -- beyond the end nothing is read
            exfalso
            have hn : bs[p]? = none := List.getElem?_eq_none (by omega)
            unfold Rx.items at hi
            split at hi
            · cases hi
            · have : Rx.item bs p = (none, p) := by
                unfold Rx.item Rx.isNext
                rw [hn]
                simp only [Bool.false_eq_true, if_false]
                unfold Rx.plainOrEscape Rx.isAt
                rw [hn]
                simp only [reduceCtorEq, decide_false, Bool.false_eq_true, if_false]
                unfold Rx.peEnd
                rw [hn]
              rw [this] at hi
              cases hi
        have h2 := h2
        omega
theorem atom_pf {bs : List Nat} (hl : bs.length ≤ 500) {f : Rx.PatF} (hf : PFF bs f) (st : RS) (h : Inv bs st) (hgo : Rx.goesOn bs st.at' = true) : PF bs st (Rx.atom sg f bs st) ∧ (∀ t, (Rx.atom sg f bs st).1 = some t → st.at' < (Rx.atom sg f bs st).2.at') := by
  have one : ∀ c, Rx.isAt bs st.at' c = true → Inv bs (st.to (st.at' + 1)) := fun c k => h.to (Nat.le_succ _) (isAt_lt k)
  unfold Rx.atom
  split
  · exact ⟨PF.fail h (Nat.le_refl _) (Nat.le_refl _), fun t h => by cases h⟩
  split
  · rename_i k; exact paren_pf hl hf st h k
  split
  · rename_i k
    have hc := classSet_facts bs st.at' (next_lt k)
    refine ⟨ofSet_pf h _ hc.1 hc.2, fun t ht => ?_⟩
    unfold Rx.ofSet at ht ⊢
    show st.at' < (Rx.classSet sg bs st.at').2
    rcases hq : (Rx.classSet sg bs st.at').1 with _ | x
    · rw [hq] at ht; cases ht
    · unfold Rx.classSet at hq ⊢
      split
      · rename_i k2
        rw [if_pos k2] at hq
        simp only at hq ⊢
        rcases hq3 : (Rx.classLoop sg bs (st.at' + 2) (bs.length + 1) Set4.none (st.at' + 2)).1 with _ | y
        · rw [hq3] at hq; cases hq
        · have := classLoop_adv _ _ _ _ _ y hq3; omega
      · rename_i k2
        rw [if_neg k2] at hq
        have := classLoop_adv _ _ _ _ _ x hq; omega
  split
  · rename_i k; exact ⟨⟨one _ k, Nat.le_succ _, Nat.le_refl _, fun t ht => by cases ht; exact ⟨rfl, Good.edge _ _⟩⟩, fun t _ => Nat.lt_succ_self _⟩
  split
  · rename_i k; exact ⟨⟨one _ k, Nat.le_succ _, Nat.le_refl _, fun t ht => by cases ht; exact ⟨rfl, Good.edge _ _⟩⟩, fun t _ => Nat.lt_succ_self _⟩
  split
  · rename_i k; exact ⟨⟨one _ k, Nat.le_succ _, Nat.le_refl _, fun t ht => by cases ht; exact ⟨rfl, Good.byte _ _⟩⟩, fun t _ => Nat.lt_succ_self _⟩
  · refine ⟨ofSet_pf h _ (poe_ge bs _) (poe_le bs _ h.1), fun t ht => ?_⟩
    unfold Rx.ofSet at ht ⊢
    show st.at' < (Rx.plainOrEscape bs st.at').2
    rcases hq : (Rx.plainOrEscape bs st.at').1 with _ | x
    · rw [hq] at ht; cases ht
    · exact poe_adv bs _ x hq
theorem Good.up {g g' g'' : Nat} {t : Rx.Node} (h : Good g g' t) (k : g' ≤ g'') : Good g g'' t := ⟨h.wf, h.size, Nat.le_trans h.ng k, h.bd⟩
theorem piece_pf {bs : List Nat} (hl : bs.length ≤ 500) {f : Rx.PatF} (hf : PFF bs f) (st : RS) (h : Inv bs st) (hgo : Rx.goesOn bs st.at' = true) : PF bs st (Rx.piece sg f bs st) ∧ (∀ t, (Rx.piece sg f bs st).1 = some t → st.at' < (Rx.piece sg f bs st).2.at') := by
  obtain ⟨pf, adv⟩ := atom_pf hl hf st h hgo
  unfold Rx.piece
  split
  · rename_i st1 ha; rw [ha] at pf; exact ⟨pf, fun t h => by cases h⟩
  · rename_i t st1 ha
    rw [ha] at pf adv
    obtain ⟨hn, hg⟩ := pf.ok t rfl
    have hadv := adv t rfl
    simp only at hn hg hadv
    obtain ⟨a, b, c, d, e⟩ := countOf_pf bs t st1 pf.inv st.groups hg
    exact ⟨⟨a, by omega, by rw [c]; exact pf.gr, fun u hu => ⟨d.trans hn, by rw [c]; exact e u hu⟩⟩, fun u _ => by omega⟩
/-- a row of kids that was read -/
structure GoodL (g g' : Nat) (ks : List Rx.Node) : Prop where
  wf : Rx.WfAll ks
  size : sizeAllOk ks
  ng : ngAll ks + g ≤ g'
  bd : BdAll ks
theorem GoodL.nil (g : Nat) : GoodL g g [] := ⟨by unfold Rx.WfAll; trivial, by unfold sizeAllOk; trivial, by unfold ngAll; omega, by unfold BdAll; trivial⟩
theorem GoodL.snoc {g g' g'' : Nat} {ks : List Rx.Node} {t : Rx.Node} (h : GoodL g g' ks) (k : Good g' g'' t) : GoodL g g'' (ks ++ [t]) := by
  obtain ⟨h1, h2, h3, h4⟩ := h
  refine ⟨?_, ?_, ?_, ?_⟩
  · clear h2 h3 h4
    induction ks with
    | nil => unfold Rx.WfAll Rx.WfAll; exact ⟨k.wf, trivial⟩
    | cons u us ih => unfold Rx.WfAll at h1; rw [List.cons_append]; unfold Rx.WfAll; exact ⟨h1.1, ih h1.2⟩
  · clear h1 h3 h4
    induction ks with
    | nil => unfold sizeAllOk sizeAllOk; exact ⟨k.size, trivial⟩
    | cons u us ih => unfold sizeAllOk at h2; rw [List.cons_append]; unfold sizeAllOk; exact ⟨h2.1, ih h2.2⟩
  · have : ngAll (ks ++ [t]) = ngAll ks + YtphighddlfabbaaDoor.ng t := by
      clear h1 h2 h3 h4
      induction ks with
      | nil => rw [List.nil_append, ngAll, ngAll, ngAll]; omega
      | cons u us ih => rw [List.cons_append, ngAll, ngAll, ih]; omega
    have := k.ng
    omega
  · clear h1 h2 h3
    induction ks with
    | nil => unfold BdAll BdAll; exact ⟨k.bd, trivial⟩
    | cons u us ih => unfold BdAll at h4; rw [List.cons_append]; unfold BdAll; exact ⟨h4.1, ih h4.2⟩
theorem branchLoop_pf {bs : List Nat} (hl : bs.length ≤ 500) {f : Rx.PatF} (hf : PFF bs f) (g0 : Nat) : ∀ n ks st, Inv bs st → GoodL g0 st.groups ks → ks.length ≤ st.at' →
    Inv bs (Rx.branchLoop sg f bs n ks st).2 ∧ st.at' ≤ (Rx.branchLoop sg f bs n ks st).2.at' ∧ st.groups ≤ (Rx.branchLoop sg f bs n ks st).2.groups ∧ ∀ us, (Rx.branchLoop sg f bs n ks st).1 = some us → (Rx.branchLoop sg f bs n ks st).2.nested = st.nested ∧ GoodL g0 (Rx.branchLoop sg f bs n ks st).2.groups us ∧ us.length ≤ (Rx.branchLoop sg f bs n ks st).2.at'
  | 0, ks, st, h, hk, hn => ⟨h, Nat.le_refl _, Nat.le_refl _, fun us e => by cases e⟩
  | n + 1, ks, st, h, hk, hn => by
    unfold Rx.branchLoop
    split
    · rename_i hgo
      obtain ⟨pf, adv⟩ := piece_pf hl hf st h hgo
      split
      · rename_i st1 hp; rw [hp] at pf; exact ⟨pf.inv, pf.ge, pf.gr, fun us e => by cases e⟩
      · rename_i t st1 hp
        rw [hp] at pf adv
        obtain ⟨hne, hg⟩ := pf.ok t rfl
        have hadv := adv t rfl
        have h1 := pf.ge
        have h2 := pf.gr
        simp only at hne hg hadv h1 h2
        obtain ⟨a, b, c, d⟩ := branchLoop_pf hl hf g0 n (ks ++ [t]) st1 pf.inv (hk.snoc hg) (by rw [List.length_append]; simp only [List.length_cons, List.length_nil]; omega)
        exact ⟨a, by omega, by omega, fun us e => ⟨(d us e).1.trans hne, (d us e).2⟩⟩
    · exact ⟨h, Nat.le_refl _, Nat.le_refl _, fun us e => by cases e; exact ⟨rfl, hk, hn⟩⟩
theorem branch_pf {bs : List Nat} (hl : bs.length ≤ 500) {f : Rx.PatF} (hf : PFF bs f) (st : RS) (h : Inv bs st) : PF bs st (Rx.branch sg f bs st) := by
  obtain ⟨a, b, c, d⟩ := branchLoop_pf hl hf st.groups (bs.length + 1) [] st h (GoodL.nil _) (Nat.zero_le _)
  unfold Rx.branch
  split
  · rename_i st1 hb; rw [hb] at a b c; exact PF.fail a b c
  · rename_i ks st1 hb
    rw [hb] at a b c d
    simp only at a b c d
    obtain ⟨d1, d2, d3⟩ := d ks rfl
    have ha := a.1
    exact ⟨a, b, c, fun t ht => by cases ht; exact ⟨d1, ⟨by unfold Rx.Wf; exact d2.wf, by unfold sizeOk; exact ⟨by omega, by rw [ng_seq]; have := d2.ng; have := a.2.1; omega, d2.size⟩, by rw [ng_seq]; exact d2.ng, by unfold Bd; exact d2.bd⟩⟩⟩
theorem patLoop_pf {bs : List Nat} (hl : bs.length ≤ 500) {f : Rx.PatF} (hf : PFF bs f) (g0 : Nat) : ∀ n ks st, Inv bs st → GoodL g0 st.groups ks → ks.length ≤ st.at' →
    Inv bs (Rx.patLoop sg f bs n ks st).2 ∧ st.at' ≤ (Rx.patLoop sg f bs n ks st).2.at' ∧ st.groups ≤ (Rx.patLoop sg f bs n ks st).2.groups ∧ ∀ u, (Rx.patLoop sg f bs n ks st).1 = some u → (Rx.patLoop sg f bs n ks st).2.nested = st.nested ∧ Good g0 (Rx.patLoop sg f bs n ks st).2.groups u
  | 0, ks, st, h, hk, hn => ⟨h, Nat.le_refl _, Nat.le_refl _, fun us e => by cases e⟩
  | n + 1, ks, st, h, hk, hn => by
    have pf := branch_pf hl hf st h
    unfold Rx.patLoop
    split
    · rename_i st1 hb; rw [hb] at pf; exact ⟨pf.inv, pf.ge, pf.gr, fun u e => by cases e⟩
    · rename_i t st1 hb
      rw [hb] at pf
      obtain ⟨hne, hg⟩ := pf.ok t rfl
      have h1 := pf.ge
      have h2 := pf.gr
      have hinv := pf.inv
      simp only at hne hg h1 h2 hinv
      have hk2 := hk.snoc hg
      have hl2 : (ks ++ [t]).length = ks.length + 1 := by simp
      split
      · rename_i k
        obtain ⟨a, b, c, d⟩ := patLoop_pf hl hf g0 n (ks ++ [t]) (st1.to (st1.at' + 1)) (hinv.to (Nat.le_succ _) (isAt_lt k)) hk2 (by rw [hl2]; show ks.length + 1 ≤ st1.at' + 1; omega)
        have hb' : st1.at' + 1 ≤ _ := b
        have hc' : st1.groups ≤ _ := c
        exact ⟨a, by omega, by omega, fun u e => ⟨(d u e).1.trans hne, (d u e).2⟩⟩
      · refine ⟨hinv, h1, h2, fun u e => ?_⟩
        cases e
        have hng := hk2.ng
        have h4 := hinv.2.1
        have h5 := hinv.1
        exact ⟨hne, ⟨by unfold Rx.Wf; exact ⟨by simp, hk2.wf⟩, by unfold sizeOk; exact ⟨by rw [hl2]; omega, by rw [ng_alt]; omega, hk2.size⟩, by rw [ng_alt]; exact hng, by unfold Bd; exact hk2.bd⟩⟩
theorem pat_pf {bs : List Nat} (hl : bs.length ≤ 500) : ∀ n, PFF bs (Rx.pat sg bs n)
  | 0 => fun st h => PF.fail h (Nat.le_refl _) (Nat.le_refl _)
  | n + 1 => fun st h => by
    obtain ⟨a, b, c, d⟩ := patLoop_pf hl (pat_pf hl n) st.groups (bs.length + 1) [] st h (GoodL.nil _) (Nat.zero_le _)
    exact ⟨a, b, c, d⟩
end Go.Proofs.YtphighddlfabbaaDoor
namespace Go.Proofs.YtphighddlfabbaaDoor
set_option linter.unusedVariables false
set_option linter.unusedSimpArgs false
open Go.RowKit Go.PlainAid Go.Shelf
open Rx (Set4 RS)
/-- the pattern's reader, from that place on -/
def PatC (R : Nat) (bs : List Nat) (f : Rx.PatF) (F : Nat) : Prop := ∀ st w, Inv bs st → F ≤ st.at' → Rd w R bs st → TabAt w → Calls Tryd.prog 30 #[.pointer (some ⟨R, 0, none⟩)] w (NRes w R bs (f st))
theorem Went.g {w w1 : World} {R : Nat} {bs : List Nat} {st : RS} (h : Went w w1 R bs st) (v : Nat) : Went w (w1.setCell ⟨R, 2, none⟩ (.int .i64 ((v : Nat) : Int))) R bs { st with groups := v } := ⟨heap_setCell_same _ _ _ _ _ _ h.rd, only_trans h.only (only_set 2 _)⟩
theorem Went.n {w w1 : World} {R : Nat} {bs : List Nat} {st : RS} (h : Went w w1 R bs st) (v : Nat) : Went w (w1.setCell ⟨R, 3, none⟩ (.int .i64 ((v : Nat) : Int))) R bs { st with nested := v } := ⟨heap_setCell_same _ _ _ _ _ _ h.rd, only_trans h.only (only_set 3 _)⟩
theorem Went.d {w w1 : World} {R : Nat} {bs : List Nat} {st : RS} (h : Went w w1 R bs st) (v : Nat) : Went w (w1.setCell ⟨R, 4, none⟩ (.int .i64 ((v : Nat) : Int))) R bs { st with deepest := v } := ⟨heap_setCell_same _ _ _ _ _ _ h.rd, only_trans h.only (only_set 4 _)⟩
theorem Went.drew {w w1 : World} {R : Nat} {bs : List Nat} {st : RS} (h : Went w w1 R bs st) : Went w w1.drew R bs st := ⟨h.rd, h.only.drew⟩
theorem Went.tab {w w1 : World} {R : Nat} {bs : List Nat} {st : RS} (h : Went w w1 R bs st) (hT : TabAt w) (hR : 1 ≠ R) : TabAt w1 := hT.only hR h.only
/-- a node stays when only the reader has turned -/
theorem Went.node {w1 w2 : World} {R : Nat} {bs : List Nat} {st' : RS} (h : Went w1 w2 R bs st') {B : Nat} (hB : R < B) {t : Rx.Node} {b : Nat} (hn : IsN w1 (Fresh B) t b) : IsN w2 (Fresh B) t b :=
  IsN.keep (fun k hs hl => ⟨h.only.block k hl (by unfold Fresh at hs; simp; omega), hs⟩) t b hn
theorem NRes.fail {w w' : World} {R : Nat} {bs : List Nat} {st : RS} {v : Value} (h : Went w w' R bs st) : NRes w R bs (none, st) (.returned (.tuple #[v, .bool false])) w' := ⟨h, v, rfl, fun t e => by cases e⟩
theorem NRes.node {w w' : World} {R : Nat} {bs : List Nat} {st : RS} {t : Rx.Node} {b : Nat} (h : Went w w' R bs st) (hn : IsN w' (Fresh w.heap.size) t b) : NRes w R bs (some t, st) (.returned (.tuple #[ptr b, .bool true])) w' := ⟨h, _, rfl, fun u e => by cases e; exact ⟨b, rfl, hn⟩⟩
-- GEN
set_option maxHeartbeats 2000000 in
set_option maxRecDepth 100000 in
theorem paren_g (R : Nat) (bs : List Nat) (f : Rx.PatF) (F : Nat) (CF : PatC R bs f F) (st : RS) (hB : IsB bs) (hl : bs.length ≤ 500) (hi : Inv bs st) (hF : F ≤ st.at' + 1) (w : World) (H : Rd w R bs st) (hT : TabAt w) (hR : 1 ≠ R) (hpf : PFF bs f) (h63 : Rx.isAt bs (st.at' + 1) 63 = false) (hlt : st.at' < bs.length) :
    Calls Tryd.prog 56 #[.pointer (some ⟨R, 0, none⟩)] w (NRes w R bs (Rx.parenEnd bs (st.groups + 1) (f (Rx.deeper { st.to (st.at' + 1) with groups := st.groups + 1 })))) := by
  have PF_OF := Lib.hid hpf
  obtain ⟨i1, i2, i3, i4⟩ := hi
  have W0 := Went.refl H
  have c1 : w.cell? ⟨R, 1, none⟩ = some (.int .i64 ((st.at' : Nat) : Int)) := H.c1
  have f1 : w.frozen? ⟨R, 1, none⟩ = false := H.fz 1
  have HLT := Lib.hid H.lt
  have W1 := Lib.hid (show Went w (w.setCell ⟨R, 1, none⟩ (.int .i64 ((st.at' : Int) + 1))) R bs (st.to (st.at' + 1)) by have := W0.to (st.at' + 1); rw [show ((st.at' + 1 : Nat) : Int) = (st.at' : Int) + 1 by omega] at this; exact this)
  have hinv : Inv bs (Rx.deeper ({ st.to (st.at' + 1) with groups := st.groups + 1 })) := ⟨by show st.at' + 1 ≤ _; omega, by show st.groups + 1 ≤ st.at' + 1; omega, by show st.nested + 1 ≤ st.at' + 1; omega, by show max st.deepest (st.nested + 1) ≤ st.at' + 1; omega⟩
  have CP := Lib.hid (fun w (H : Rd w R bs (Rx.deeper ({ st.to (st.at' + 1) with groups := st.groups + 1 }))) hT => CF (Rx.deeper ({ st.to (st.at' + 1) with groups := st.groups + 1 })) w hinv (by show F ≤ st.at' + 1; omega) H hT)
  have hpf := (PF_OF.out (Rx.deeper ({ st.to (st.at' + 1) with groups := st.groups + 1 })) hinv)
  obtain ⟨r, hr⟩ : ∃ r, f (Rx.deeper ({ st.to (st.at' + 1) with groups := st.groups + 1 })) = r := ⟨_, rfl⟩
  rw [hr] at CP hpf
  have HPF := Lib.hid hpf
  have HRR := Lib.hid hr
  have HT := Lib.hid hT
  clear hr hpf
  have CS := Lib.hid (fun w H => sign_no R bs (st.to (st.at' + 1)) 63 hB (by decide) h63 hlt hl w H)
  have ha500 : st.at' ≤ 500 := by omega
  have hg500 : st.groups ≤ 500 := by omega
  rw [HRR.out]
  have I := Lib.hid (And.intro i1 (And.intro i2 (And.intro i3 i4)))
  clear W0 hinv H hT CF hpf h63 hlt hF
  go_enter Tryd.func56, Tryd.ntmps56
  go_wp2_with fail
  refine (CS.out _ W1.out.rd).mono ?_
  rintro e w3 ⟨rfl, hb⟩
  have W3 := Lib.hid (W1.out.trans hb)
  have c2 : w3.cell? ⟨R, 2, none⟩ = some (.int .i64 ((st.groups : Nat) : Int)) := W3.out.rd.c2
  have f2 : w3.frozen? ⟨R, 2, none⟩ = false := W3.out.rd.fz 2
  have W4a := W3.out.g (st.groups + 1)
  rw [show ((st.groups + 1 : Nat) : Int) = (st.groups : Int) + 1 by omega] at W4a
  have W4 : Hid (Went w (w3.setCell ⟨R, 2, none⟩ (.int .i64 ((st.groups : Int) + 1))) R bs { st.to (st.at' + 1) with groups := st.groups + 1 }) := Lib.hid W4a
  clear hb W4a c1 f1
  have c3 : (w3.setCell ⟨R, 2, none⟩ (.int .i64 ((st.groups : Int) + 1))).cell? ⟨R, 3, none⟩ = some (.int .i64 ((st.nested : Nat) : Int)) := W4.out.rd.c3
  have f3 : (w3.setCell ⟨R, 2, none⟩ (.int .i64 ((st.groups : Int) + 1))).frozen? ⟨R, 3, none⟩ = false := W4.out.rd.fz 3
  have WN := W4.out.n (st.nested + 1)
  rw [show ((st.nested + 1 : Nat) : Int) = (st.nested : Int) + 1 by omega] at WN
  have c4 : ((w3.setCell ⟨R, 2, none⟩ (.int .i64 ((st.groups : Int) + 1))).setCell ⟨R, 3, none⟩ (.int .i64 ((st.nested : Int) + 1))).cell? ⟨R, 4, none⟩ = some (.int .i64 ((st.deepest : Nat) : Int)) := WN.rd.c4
  have f4 : ((w3.setCell ⟨R, 2, none⟩ (.int .i64 ((st.groups : Int) + 1))).setCell ⟨R, 3, none⟩ (.int .i64 ((st.nested : Int) + 1))).frozen? ⟨R, 4, none⟩ = false := WN.rd.fz 4
  have c3b : ((w3.setCell ⟨R, 2, none⟩ (.int .i64 ((st.groups : Int) + 1))).setCell ⟨R, 3, none⟩ (.int .i64 ((st.nested : Int) + 1))).cell? ⟨R, 3, none⟩ = some (.int .i64 ((st.nested : Int) + 1)) := by
    have h : ((w3.setCell ⟨R, 2, none⟩ (.int .i64 ((st.groups : Int) + 1))).setCell ⟨R, 3, none⟩ (.int .i64 ((st.nested : Int) + 1))).cell? ⟨R, 3, none⟩ = some (.int .i64 ((st.nested + 1 : Nat) : Int)) := WN.rd.c3
    rw [h, show ((st.nested + 1 : Nat) : Int) = (st.nested : Int) + 1 by omega]
  have WD := WN.d (max st.deepest (st.nested + 1))
  have hmx : ((max st.deepest (st.nested + 1) : Nat) : Int) = max (st.deepest : Int) ((st.nested : Int) + 1) := by omega
  rw [hmx] at WD
  have WD : Went w _ R bs (Rx.deeper ({ st.to (st.at' + 1) with groups := st.groups + 1 })) := WD
  have WD := Lib.hid WD
  have hn500 : st.nested ≤ 500 := by omega
  have hd500 : st.deepest ≤ 500 := by omega
  clear WN hmx i1 i2 i3 i4
  go_upto_region 9 with (fail)
  go_region
  have WDD := Lib.hid WD.out.drew
  go_wp2_with fail
  refine (CP.out _ WDD.out.rd (WDD.out.tab HT.out hR)).mono ?_
  rintro e w8 hres
  obtain ⟨W8a, v, rfl, hv⟩ := hres
  have W8 := WDD.out.trans W8a
  have hnode : ∀ t, r.1 = some t → ∃ b, v = ptr b ∧ IsN w8 (Fresh w.heap.size) t b := fun t ht => by
    obtain ⟨b, h1, h2⟩ := hv t ht
    exact ⟨b, h1, IsN.keep (fun k hs _ => ⟨rfl, by have := WDD.out.only.size; unfold Fresh at hs ⊢; omega⟩) t b h2⟩
  clear hv W8a
  obtain ⟨rt, s2⟩ := r
  cases rt with
  | none =>
    have W9 := Lib.hid W8
    clear hnode W8
    go_wp2
    go_ret2
    unfold Rx.parenEnd
    exact NRes.fail W9.out
  | some t =>
    obtain ⟨b, rfl, hn⟩ := hnode t rfl
    have hpf := HPF.out
    obtain ⟨j1, j2, j3, j4⟩ := hpf.inv
    have hne := (hpf.ok t rfl).1
    simp only at j1 j2 j3 j4 hne
    have hne2 : s2.nested = st.nested + 1 := hne
    have W8 := Lib.hid W8
    have HN := Lib.hid hn
    cases h41 : Rx.isAt bs s2.at' 41 with
    | false =>
      have CS := Lib.hid (sign_no R bs s2 41 hB (by decide) h41 j1 hl w8 W8.out.rd)
      have H41 := Lib.hid h41
      clear h41 hnode hn hpf j1 j2 j3 j4 hne hne2
      go_wp2_with fail
      refine CS.out.mono ?_
      rintro e w9 ⟨rfl, hb⟩
      have W9 := Lib.hid (W8.out.trans hb)
      clear hb
      go_wp2
      go_ret2
      unfold Rx.parenEnd
      simp only [H41.out, Bool.false_eq_true, if_false]
      exact NRes.fail W9.out
    | true =>
      have CS := Lib.hid (sign_yes R bs s2 41 hB (by decide) h41 hl w8 W8.out.rd)
      have H41 := Lib.hid h41
      have hs2 : s2.nested ≤ 500 := by omega
      have hs1 : 1 ≤ s2.nested := by omega
      have HNE := Lib.hid (show ((s2.nested : Int) - 1) = ((s2.nested - 1 : Nat) : Int) by omega)
      clear h41 hnode hn hpf j1 j2 j3 j4 hne hne2
      go_wp2_with fail
      refine CS.out.mono ?_
      rintro e w9 ⟨rfl, hb⟩
      have W9 := W8.out.trans hb
      have HN9 := hb.node HLT.out HN.out
      have c3 : w9.cell? ⟨R, 3, none⟩ = some (.int .i64 ((s2.nested : Nat) : Int)) := W9.rd.c3
      have f3 : w9.frozen? ⟨R, 3, none⟩ = false := W9.rd.fz 3
      have W10a := W9.n (s2.nested - 1)
      have W10b : Went w9 (w9.setCell ⟨R, 3, none⟩ (.int .i64 ((s2.nested - 1 : Nat) : Int))) R bs (RS.mk (s2.at' + 1) s2.groups (s2.nested - 1) s2.deepest) := (Went.refl W9.rd).n (s2.nested - 1)
      have HN10 := W10b.node HLT.out HN9
      rw [← HNE.out] at W10a HN10
      have W10 := Lib.hid (show Went w (w9.setCell ⟨R, 3, none⟩ (.int .i64 ((s2.nested : Int) - 1))) R bs { s2.to (s2.at' + 1) with nested := s2.nested - 1 } from W10a)
      have HN10 := Lib.hid HN10
      clear hb W9 HN9 W10a W10b
      have hnum : decide (((st.groups : Int) + 1) > 0) = true := decide_eq_true (by omega)
      have hnum2 : decide ((0 : Int) < (st.groups : Int) + 1) = true := decide_eq_true (by omega)
      have hwz : w.heap.size ≤ w9.heap.size := by have := W10.out.only.size; simpa [World.setCell] using this
      have K11 := W10.out.below ((Below.refl _ _).alloc (Nat.le_refl _) (.cells #[ptr b] 60))
      have N11 := Lib.hid (HN10.out.below ((Below.refl _ _).alloc (Nat.le_refl _) (.cells #[ptr b] 60)))
      have hrow := heap_alloc_new (w9.setCell ⟨R, 3, none⟩ (.int .i64 ((s2.nested : Int) - 1))) (.cells #[ptr b] 60)
      have hsz9 : (w9.setCell ⟨R, 3, none⟩ (.int .i64 ((s2.nested : Int) - 1))).heap.size = w9.heap.size := by simp [World.setCell]
      rw [hsz9] at hrow
      have CG := Lib.hid (newNode_group (st.groups + 1) t w9.heap.size b #[ptr b] (Fresh w.heap.size) _ (by unfold Fresh; simp [World.setCell]; omega) hwz hrow rfl N11.out)
      have hng1 : ((st.groups + 1 : Nat) : Int) = (st.groups : Int) + 1 := by omega
      unfold nodeC at CG
      rw [hng1] at CG
      have K11 := Lib.hid K11
      unfold ptr nilP Set4.none at CG
      unfold ptr at K11 ⊢
      clear hrow hng1 hsz9
      go_wp2_with fail
      refine CG.out.mono ?_
      rintro e wb ⟨b2, rfl, hb, hn2⟩
      have K12 := Lib.hid (K11.out.below hb)
      have N12 := Lib.hid hn2
      clear hb hn2
      go_wp2
      go_ret2
      unfold Rx.parenEnd
      simp only [H41.out, if_true]
      rw [if_pos (Nat.succ_pos _)]
      exact NRes.node K12.out N12.out
set_option maxHeartbeats 2000000 in
set_option maxRecDepth 100000 in
theorem paren_n (R : Nat) (bs : List Nat) (f : Rx.PatF) (F : Nat) (CF : PatC R bs f F) (st : RS) (hB : IsB bs) (hl : bs.length ≤ 500) (hi : Inv bs st) (hF : F ≤ st.at' + 1) (w : World) (H : Rd w R bs st) (hT : TabAt w) (hR : 1 ≠ R) (hpf : PFF bs f) (h63 : Rx.isAt bs (st.at' + 1) 63 = true) (h58 : Rx.isAt bs (st.at' + 2) 58 = true) :
    Calls Tryd.prog 56 #[.pointer (some ⟨R, 0, none⟩)] w (NRes w R bs (Rx.parenEnd bs 0 (f (Rx.deeper (st.to (st.at' + 3)))))) := by
  have PF_OF := Lib.hid hpf
  have hl3 := isAt_lt h58
  obtain ⟨i1, i2, i3, i4⟩ := hi
  have W0 := Went.refl H
  have c1 : w.cell? ⟨R, 1, none⟩ = some (.int .i64 ((st.at' : Nat) : Int)) := H.c1
  have f1 : w.frozen? ⟨R, 1, none⟩ = false := H.fz 1
  have HLT := Lib.hid H.lt
  have W1 := Lib.hid (show Went w (w.setCell ⟨R, 1, none⟩ (.int .i64 ((st.at' : Int) + 1))) R bs (st.to (st.at' + 1)) by have := W0.to (st.at' + 1); rw [show ((st.at' + 1 : Nat) : Int) = (st.at' : Int) + 1 by omega] at this; exact this)
  have hinv : Inv bs (Rx.deeper (st.to (st.at' + 3))) := ⟨by show st.at' + 3 ≤ _; omega, by show st.groups ≤ st.at' + 3; omega, by show st.nested + 1 ≤ st.at' + 3; omega, by show max st.deepest (st.nested + 1) ≤ st.at' + 3; omega⟩
  have CP := Lib.hid (fun w (H : Rd w R bs (Rx.deeper (st.to (st.at' + 3)))) hT => CF (Rx.deeper (st.to (st.at' + 3))) w hinv (by show F ≤ st.at' + 3; omega) H hT)
  have hpf := (PF_OF.out (Rx.deeper (st.to (st.at' + 3))) hinv)
  obtain ⟨r, hr⟩ : ∃ r, f (Rx.deeper (st.to (st.at' + 3))) = r := ⟨_, rfl⟩
  rw [hr] at CP hpf
  have HPF := Lib.hid hpf
  have HRR := Lib.hid hr
  have HT := Lib.hid hT
  clear hr hpf
  have CS := Lib.hid (fun w H => sign_yes R bs (st.to (st.at' + 1)) 63 hB (by decide) h63 hl w H)
  have CS2 := Lib.hid (fun w (H : Rd w R bs (st.to (st.at' + 2))) => sign_yes R bs (st.to (st.at' + 2)) 58 hB (by decide) h58 hl w H)
  have ha500 : st.at' ≤ 500 := by omega
  rw [HRR.out]
  have I := Lib.hid (And.intro i1 (And.intro i2 (And.intro i3 i4)))
  clear W0 hinv H hT CF hpf h63 h58 hF hl3
  go_enter Tryd.func56, Tryd.ntmps56
  go_wp2_with fail
  refine (CS.out _ W1.out.rd).mono ?_
  rintro e w3 ⟨rfl, hb⟩
  have W3 := Lib.hid (show Went w w3 R bs (st.to (st.at' + 2)) from W1.out.trans hb)
  clear hb c1 f1
  go_wp2_with fail
  refine (CS2.out _ W3.out.rd).mono ?_
  rintro e w4 ⟨rfl, hb⟩
  have W4 := Lib.hid (show Went w w4 R bs (st.to (st.at' + 3)) from W3.out.trans hb)
  clear hb
  have c3 : (w4).cell? ⟨R, 3, none⟩ = some (.int .i64 ((st.nested : Nat) : Int)) := W4.out.rd.c3
  have f3 : (w4).frozen? ⟨R, 3, none⟩ = false := W4.out.rd.fz 3
  have WN := W4.out.n (st.nested + 1)
  rw [show ((st.nested + 1 : Nat) : Int) = (st.nested : Int) + 1 by omega] at WN
  have c4 : ((w4).setCell ⟨R, 3, none⟩ (.int .i64 ((st.nested : Int) + 1))).cell? ⟨R, 4, none⟩ = some (.int .i64 ((st.deepest : Nat) : Int)) := WN.rd.c4
  have f4 : ((w4).setCell ⟨R, 3, none⟩ (.int .i64 ((st.nested : Int) + 1))).frozen? ⟨R, 4, none⟩ = false := WN.rd.fz 4
  have c3b : ((w4).setCell ⟨R, 3, none⟩ (.int .i64 ((st.nested : Int) + 1))).cell? ⟨R, 3, none⟩ = some (.int .i64 ((st.nested : Int) + 1)) := by
    have h : ((w4).setCell ⟨R, 3, none⟩ (.int .i64 ((st.nested : Int) + 1))).cell? ⟨R, 3, none⟩ = some (.int .i64 ((st.nested + 1 : Nat) : Int)) := WN.rd.c3
    rw [h, show ((st.nested + 1 : Nat) : Int) = (st.nested : Int) + 1 by omega]
  have WD := WN.d (max st.deepest (st.nested + 1))
  have hmx : ((max st.deepest (st.nested + 1) : Nat) : Int) = max (st.deepest : Int) ((st.nested : Int) + 1) := by omega
  rw [hmx] at WD
  have WD : Went w _ R bs (Rx.deeper (st.to (st.at' + 3))) := WD
  have WD := Lib.hid WD
  have hn500 : st.nested ≤ 500 := by omega
  have hd500 : st.deepest ≤ 500 := by omega
  clear WN hmx i1 i2 i3 i4
  go_upto_region 9 with (fail)
  go_region
  have WDD := Lib.hid WD.out.drew
  go_wp2_with fail
  refine (CP.out _ WDD.out.rd (WDD.out.tab HT.out hR)).mono ?_
  rintro e w8 hres
  obtain ⟨W8a, v, rfl, hv⟩ := hres
  have W8 := WDD.out.trans W8a
  have hnode : ∀ t, r.1 = some t → ∃ b, v = ptr b ∧ IsN w8 (Fresh w.heap.size) t b := fun t ht => by
    obtain ⟨b, h1, h2⟩ := hv t ht
    exact ⟨b, h1, IsN.keep (fun k hs _ => ⟨rfl, by have := WDD.out.only.size; unfold Fresh at hs ⊢; omega⟩) t b h2⟩
  clear hv W8a
  obtain ⟨rt, s2⟩ := r
  cases rt with
  | none =>
    have W9 := Lib.hid W8
    clear hnode W8
    go_wp2
    go_ret2
    unfold Rx.parenEnd
    exact NRes.fail W9.out
  | some t =>
    obtain ⟨b, rfl, hn⟩ := hnode t rfl
    have hpf := HPF.out
    obtain ⟨j1, j2, j3, j4⟩ := hpf.inv
    have hne := (hpf.ok t rfl).1
    simp only at j1 j2 j3 j4 hne
    have hne2 : s2.nested = st.nested + 1 := hne
    have W8 := Lib.hid W8
    have HN := Lib.hid hn
    cases h41 : Rx.isAt bs s2.at' 41 with
    | false =>
      have CS := Lib.hid (sign_no R bs s2 41 hB (by decide) h41 j1 hl w8 W8.out.rd)
      have H41 := Lib.hid h41
      clear h41 hnode hn hpf j1 j2 j3 j4 hne hne2
      go_wp2_with fail
      refine CS.out.mono ?_
      rintro e w9 ⟨rfl, hb⟩
      have W9 := Lib.hid (W8.out.trans hb)
      clear hb
      go_wp2
      go_ret2
      unfold Rx.parenEnd
      simp only [H41.out, Bool.false_eq_true, if_false]
      exact NRes.fail W9.out
    | true =>
      have CS := Lib.hid (sign_yes R bs s2 41 hB (by decide) h41 hl w8 W8.out.rd)
      have H41 := Lib.hid h41
      have hs2 : s2.nested ≤ 500 := by omega
      have hs1 : 1 ≤ s2.nested := by omega
      have HNE := Lib.hid (show ((s2.nested : Int) - 1) = ((s2.nested - 1 : Nat) : Int) by omega)
      clear h41 hnode hn hpf j1 j2 j3 j4 hne hne2
      go_wp2_with fail
      refine CS.out.mono ?_
      rintro e w9 ⟨rfl, hb⟩
      have W9 := W8.out.trans hb
      have HN9 := hb.node HLT.out HN.out
      have c3 : w9.cell? ⟨R, 3, none⟩ = some (.int .i64 ((s2.nested : Nat) : Int)) := W9.rd.c3
      have f3 : w9.frozen? ⟨R, 3, none⟩ = false := W9.rd.fz 3
      have W10a := W9.n (s2.nested - 1)
      have W10b : Went w9 (w9.setCell ⟨R, 3, none⟩ (.int .i64 ((s2.nested - 1 : Nat) : Int))) R bs (RS.mk (s2.at' + 1) s2.groups (s2.nested - 1) s2.deepest) := (Went.refl W9.rd).n (s2.nested - 1)
      have HN10 := W10b.node HLT.out HN9
      rw [← HNE.out] at W10a HN10
      have W10 := Lib.hid (show Went w (w9.setCell ⟨R, 3, none⟩ (.int .i64 ((s2.nested : Int) - 1))) R bs { s2.to (s2.at' + 1) with nested := s2.nested - 1 } from W10a)
      have HN10 := Lib.hid HN10
      clear hb W9 HN9 W10a W10b
      unfold ptr
      go_wp2
      go_ret2
      unfold Rx.parenEnd
      simp only [H41.out, if_true]
      rw [if_neg (Nat.lt_irrefl 0)]
      exact NRes.node W10.out HN10.out
set_option maxHeartbeats 2000000 in
set_option maxRecDepth 100000 in
theorem paren_no (R : Nat) (bs : List Nat) (st : RS) (hB : IsB bs) (hl : bs.length ≤ 500) (hi : Inv bs st) (w : World) (H : Rd w R bs st) (h63 : Rx.isAt bs (st.at' + 1) 63 = true) (h58 : Rx.isAt bs (st.at' + 2) 58 = false) :
    Calls Tryd.prog 56 #[.pointer (some ⟨R, 0, none⟩)] w (NRes w R bs (none, st.to (st.at' + 2))) := by
  have hl2 := isAt_lt h63
  obtain ⟨i1, i2, i3, i4⟩ := hi
  have W0 := Went.refl H
  have c1 : w.cell? ⟨R, 1, none⟩ = some (.int .i64 ((st.at' : Nat) : Int)) := H.c1
  have f1 : w.frozen? ⟨R, 1, none⟩ = false := H.fz 1
  have HLT := Lib.hid H.lt
  have W1 := Lib.hid (show Went w (w.setCell ⟨R, 1, none⟩ (.int .i64 ((st.at' : Int) + 1))) R bs (st.to (st.at' + 1)) by have := W0.to (st.at' + 1); rw [show ((st.at' + 1 : Nat) : Int) = (st.at' : Int) + 1 by omega] at this; exact this)
  have CS := Lib.hid (fun w H => sign_yes R bs (st.to (st.at' + 1)) 63 hB (by decide) h63 hl w H)
  have CS2 := Lib.hid (fun w (H : Rd w R bs (st.to (st.at' + 2))) => sign_no R bs (st.to (st.at' + 2)) 58 hB (by decide) h58 hl2 hl w H)
  have ha500 : st.at' ≤ 500 := by omega
  clear W0 H h63 h58 hl2
  go_enter Tryd.func56, Tryd.ntmps56
  go_wp2_with fail
  refine (CS.out _ W1.out.rd).mono ?_
  rintro e w3 ⟨rfl, hb⟩
  have W3 := Lib.hid (show Went w w3 R bs (st.to (st.at' + 2)) from W1.out.trans hb)
  clear hb c1 f1
  go_wp2_with fail
  refine (CS2.out _ W3.out.rd).mono ?_
  rintro e w4 ⟨rfl, hb⟩
  have W4 := Lib.hid (show Went w w4 R bs (st.to (st.at' + 2)) from W3.out.trans hb)
  clear hb
  go_wp2
  go_ret2
  exact NRes.fail W4.out
theorem paren_any (R : Nat) (bs : List Nat) (f : Rx.PatF) (F : Nat) (CF : PatC R bs f F) (st : RS) (hB : IsB bs) (hl : bs.length ≤ 500) (hi : Inv bs st) (hF : F ≤ st.at' + 1) (w : World) (H : Rd w R bs st) (hT : TabAt w) (hR : 1 ≠ R) (hpf : PFF bs f) (hlt : st.at' < bs.length) : Calls Tryd.prog 56 #[.pointer (some ⟨R, 0, none⟩)] w (NRes w R bs (Rx.paren f bs st)) := by
  unfold Rx.paren
  cases h63 : Rx.isAt bs (st.at' + 1) 63 with
  | false => simp only [Bool.false_eq_true, if_false]; exact paren_g R bs f F CF st hB hl hi hF w H hT hR hpf h63 hlt
  | true =>
    simp only [if_true]
    cases h58 : Rx.isAt bs (st.at' + 2) 58 with
    | true => simp only [if_true]; exact paren_n R bs f F CF st hB hl hi hF w H hT hR hpf h63 h58
    | false => simp only [Bool.false_eq_true, if_false]; exact paren_no R bs st hB hl hi w H h63 h58
end Go.Proofs.YtphighddlfabbaaDoor
