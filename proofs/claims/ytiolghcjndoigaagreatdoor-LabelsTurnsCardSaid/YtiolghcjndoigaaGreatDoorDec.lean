/-
  WALKS: Decode.
-/
import Derived.Test.YtiolghcjndoigaaGreatDoorCut
import Derived.Test.YtiolghcjndoigaaGreatDoorRda
namespace Go.Proofs.YtiolghcjndoigaaGreatDoor
set_option linter.unusedVariables false
set_option linter.unusedSimpArgs false
open Go.RowKit Go.PlainAid Go.Shelf
/-- so many labels, and what follows -/
def decL : Nat → List Nat → Option (List Lm.Lb × List Nat)
  | 0, r => some ([], r)
  | k + 1, r => match cutM r with
    | none => none
    | some (n, r1) => match cutM r1 with
      | none => none
      | some (v, r2) => (decL k r2).map fun p => ((strOf n, strOf v) :: p.1, p.2)
/-- what Decode says of bytes -/
def DecIs (bs : List Nat) (n c : Nat) (out : List Lm.Lb) : Prop :=
  (c = 70 ∧ n = 0 ∧ out = [] ∧ (bs = [] ∨ ∃ d r, bs = d :: r ∧ (decL d r = none ∨ ∃ l r3 ce, decL d r = some (l, r3) ∧ CheckIs l ce ∧ ce ≠ 0))) ∨
  (c = 0 ∧ ∃ d r r3, bs = d :: r ∧ decL d r = some (out, r3) ∧ CheckIs out 0 ∧ n = bs.length - r3.length)
def DecPost (w : World) (bs : List Nat) (e : Ending) (w' : World) : Prop := ∃ v n c out, e = .returned (.tuple #[v, .int .i64 ((n : Nat) : Int), .int .u16 ((c : Nat) : Int)]) ∧ DecIs bs n c out ∧ OwnL w' w.heap.size v out ∧ Below w.heap.size w w'
theorem cutM_isB {bs t r : List Nat} (h : cutM bs = some (t, r)) (hB : IsB bs) : IsB t ∧ IsB r ∧ t.length + r.length + 2 = bs.length := by
  rcases bs with _ | ⟨d0, _ | ⟨d1, q⟩⟩
  · cases h
  · cases h
  · rw [show cutM (d0 :: d1 :: q) = if d0 + 256 * d1 ≤ q.length then some (q.take (d0 + 256 * d1), q.drop (d0 + 256 * d1)) else none from rfl] at h
    by_cases hq : d0 + 256 * d1 ≤ q.length
    · rw [if_pos hq] at h
      have h1 := congrArg Prod.fst (Option.some.inj h)
      have h2 := congrArg Prod.snd (Option.some.inj h)
      simp only at h1 h2
      subst h1 h2
      refine ⟨fun c hc => hB c (List.mem_cons_of_mem _ (List.mem_cons_of_mem _ (List.mem_of_mem_take hc))), fun c hc => hB c (List.mem_cons_of_mem _ (List.mem_cons_of_mem _ (List.mem_of_mem_drop hc))), ?_⟩
      rw [List.length_take, List.length_drop, List.length_cons, List.length_cons]
      omega
    · rw [if_neg hq] at h; cases h
theorem shape_nil {w : World} {base : Nat} {a : Option Addr} {n c : Nat} {l : List Lm.Lb} (h : OwnL w base (.slice a n c) l) : n = l.length := by
  obtain ⟨_, h2⟩ := h
  rcases h2 with ⟨hv, h0⟩ | ⟨g, cap, cur, hv, _⟩
  · cases hv; omega
  · cases hv; rfl
theorem decL_zero (r : List Nat) : decL 0 r = some ([], r) := rfl
theorem decL_none1 {k : Nat} {r : List Nat} (h : cutM r = none) : decL (k + 1) r = none := by rw [decL, h]
theorem decL_none2 {k : Nat} {r n r1 : List Nat} (h : cutM r = some (n, r1)) (h2 : cutM r1 = none) : decL (k + 1) r = none := by rw [decL, h]; simp only; rw [h2]
theorem decL_step {k : Nat} {r n r1 v r2 : List Nat} (h : cutM r = some (n, r1)) (h2 : cutM r1 = some (v, r2)) : decL (k + 1) r = (decL k r2).map fun p => ((strOf n, strOf v) :: p.1, p.2) := by rw [decL, h]; simp only; rw [h2]
theorem append_map (s : List Lm.Lb) (x : Lm.Lb) (o : Option (List Lm.Lb × List Nat)) : (o.map fun p => (x :: p.1, p.2)).map (fun p => (s ++ p.1, p.2)) = o.map fun p => ((s ++ [x]) ++ p.1, p.2) := by
  cases o with
  | none => rfl
  | some p => simp
set_option maxRecDepth 100000 in
set_option maxHeartbeats 4000000 in
theorem decode_any (a : Option Addr) (c : Nat) (bs : List Nat) (hB : IsB bs) (hc : bs.length ≤ c) (hl : bs.length ≤ 4611686018427387904) (w : World) (H : Byt w a bs) : Calls Tryz.prog 43 #[.slice a bs.length c] w (DecPost w bs) := by
  obtain ⟨i0, hi, hz0, hz1, hz2⟩ := info_parts info94
  rcases bs with _ | ⟨d, r⟩
  · clear hB hc hl H
    show Calls Tryz.prog 43 #[.slice a 0 c] w (DecPost w [])
    go_enter Tryz.func43, Tryz.ntmps43
    go_wp2
    go_returns
    exact ⟨.slice none 0 0, 0, 70, [], rfl, .inl ⟨rfl, rfl, rfl, .inl rfl⟩, OwnL.nil _ _, Below.refl _ _⟩
  · have hd : d < 256 := hB d List.mem_cons_self
    have hBr : IsB r := fun x hx => hB x (List.mem_cons_of_mem _ hx)
    obtain ⟨a1, hs1, hy1'⟩ := byt_drop a (d :: r) 1 (by simp) c hc
    have hy1 := hy1' w H
    have hd1 : (d :: r).drop 1 = r := rfl
    rw [hd1] at hy1
    rcases H with ⟨_, h⟩ | ⟨b, off, rfl, hlt, hcl⟩
    · cases h
    have x0 := hcl 0 (by simp)
    simp only [List.getElem_cons_zero, Nat.add_zero] at x0
    obtain ⟨n, hn⟩ : ∃ n, (d :: r).length = n := ⟨_, rfl⟩
    have HNN := Lib.hid hn
    rw [hn] at hc hl hs1 ⊢
    have hnr : n - 1 = r.length := by rw [← hn]; rfl
    rw [hnr] at hs1
    have hs1' : ∀ w, (Instr.slice 83 (.slice (some ⟨b, off, none⟩) n c) (some (.int .i64 1)) none none).run Tryz.prog w = .ok (.slice a1 r.length (c - 1)) w := hs1
    have i0' : 0 < n := by rw [← hn]; simp
    have i1' : (0 : Int) < (n : Int) := by omega
    have t1 : ((n : Int) == 0) = false := by simp; omega
    have t2 : ¬ ((n : Int) = 0) := by omega
    have t3 : ¬ (n = 0) := by omega
    have HY := Lib.hid hy1
    have HBR := Lib.hid hBr
    have HRC := Lib.hid (show r.length ≤ c - 1 by omega)
    have HCUT := Lib.hid cut_any
    have HRL := Lib.hid (show r.length ≤ 4611686018427387904 by omega)
    have HNR := Lib.hid hnr
    obtain ⟨m, hm⟩ : ∃ m, r.length = m := ⟨_, rfl⟩
    have HMM := Lib.hid hm
    rw [hm] at hs1'
    clear hs1 hy1 hy1' hB hBr hcl hn hnr hd1 hm
    go_enter Tryz.func43, Tryz.ntmps43
    go_wp2
    go_loopw [5, 6, 20] (fun v rv i wr => ∃ (k : Nat) (sofar : List Lm.Lb) (rr : List Nat) (ar : Option Addr) (cr : Nat), k ≤ d ∧ i = .int .u8 ((k : Nat) : Int) ∧ rv = .slice ar rr.length cr ∧ Hid (OwnL wr w.heap.size v sofar) ∧ Hid (Byt w ar rr) ∧ Hid (IsB rr) ∧ Hid (rr.length ≤ cr ∧ rr.length ≤ 4611686018427387904 ∧ sofar.length = k ∧ rr.length ≤ n) ∧ Hid (decL d r = (decL (d - k) rr).map fun p => (sofar ++ p.1, p.2)) ∧ Hid (Below w.heap.size w wr)) (fun _ _ i _ => (d - intOf i).toNat)
    case atStart => exact ⟨0, [], r, a1, c - 1, Nat.zero_le _, rfl, by rw [HMM.out], Lib.hid (World.ownsRow_nil _ _ _ _), HY, HBR, Lib.hid ⟨HRC.out, HRL.out, rfl, by have := HNR.out; omega⟩, Lib.hid (by cases decL (d - 0) r with | none => rfl | some p => rfl), Lib.hid (Below.refl _ _)⟩
    case round =>
      obtain ⟨k, sofar, rr, ar, cr, hkd, rfl, rfl, HO, HYR, HBB, HNS, HE, HBW⟩ := hrel
      by_cases hk : k < d
      · have da : decide ((k : Int) < (d : Int)) = true := decide_eq_true (by omega)
        have da2 : decide (k < d) = true := decide_eq_true hk
        have e8 : IntKind.u8.wrap ((k : Int) + 1) = ((k + 1 : Nat) : Int) := by rw [IntKind.wrap_u8]; omega
        have C1 := Lib.hid (HCUT.out ar cr rr HBB.out HNS.out.1 HNS.out.2.1 wr (HYR.out.below HBW.out))
        obtain ⟨M, hM⟩ : ∃ M, rr.length = M := ⟨_, rfl⟩
        have HMR := Lib.hid hM
        rw [hM] at C1 ⊢
        clear hM
        go_wp2_with fail
        refine C1.out.mono ?_
        rintro e w1 ⟨hb, ⟨hcm, rfl⟩ | ⟨t, r1, a2, c2, hcm, rfl, hlc, hy⟩⟩
        · have B1 := Lib.hid (HBW.out.trans (hb.mono HBW.out.size))
          have HCN := Lib.hid (HCUT.out none 0 [] IsB.nil (Nat.le_refl _) (by simp) w1 (.inl ⟨rfl, rfl⟩))
          have HX := Lib.hid (show decL d r = none by rw [HE.out, show d - k = (d - k - 1) + 1 by omega, decL_none1 hcm]; rfl)
          clear hb hcm
          go_wp2_with fail
          refine HCN.out.mono ?_
          rintro e w2 ⟨hb, ⟨_, rfl⟩ | ⟨t, r1, a2, c2, hcm, _⟩⟩
          · have B2 := Lib.hid (B1.out.trans (hb.mono B1.out.size))
            clear hb
            go_wp2
            go_returns
            exact ⟨.slice none 0 0, 0, 70, [], rfl, .inl ⟨rfl, rfl, rfl, .inr ⟨d, r, rfl, .inl HX.out⟩⟩, OwnL.nil _ _, B2.out⟩
          · cases hcm
        · obtain ⟨q1, q2, q3⟩ := cutM_isB hcm HBB.out
          have B1 := Lib.hid (HBW.out.trans (hb.mono HBW.out.size))
          have O1 := Lib.hid (HO.out.below hb)
          have HCM := Lib.hid hcm
          have C2 := Lib.hid (HCUT.out a2 c2 r1 q2 hlc (by have := HNS.out.2.1; omega) w1 ((hy w HYR.out).below B1.out))
          have HY1 := Lib.hid (hy w HYR.out)
          have HQ := Lib.hid (show r1.length ≤ n by have := HNS.out.2.2.2; omega)
          have HQ2 := Lib.hid q2
          obtain ⟨M1, hM1⟩ : ∃ M, r1.length = M := ⟨_, rfl⟩
          have HM1 := Lib.hid hM1
          rw [hM1] at C2 ⊢
          obtain ⟨T1, hT1⟩ : ∃ T, strOf t = T := ⟨_, rfl⟩
          have HT1 := Lib.hid hT1
          rw [hT1]
          clear hb hcm q1 q2 q3 hlc hy hM1 hT1
          go_wp2_with fail
          refine C2.out.mono ?_
          rintro e w2 ⟨hb, ⟨hcm, rfl⟩ | ⟨t2, r2, a3, c3, hcm, rfl, hlc, hy⟩⟩
          · have B2 := Lib.hid (B1.out.trans (hb.mono B1.out.size))
            have HX := Lib.hid (show decL d r = none by rw [HE.out, show d - k = (d - k - 1) + 1 by omega, decL_none2 HCM.out hcm]; rfl)
            clear hb hcm
            go_wp2
            go_returns
            exact ⟨.slice none 0 0, 0, 70, [], rfl, .inl ⟨rfl, rfl, rfl, .inr ⟨d, r, rfl, .inl HX.out⟩⟩, OwnL.nil _ _, B2.out⟩
          · obtain ⟨q1, q2, q3⟩ := cutM_isB hcm HQ2.out
            have B2 := Lib.hid (B1.out.trans (hb.mono B1.out.size))
            have O2 := Lib.hid (O1.out.below hb)
            have HX := Lib.hid (show decL d r = (decL (d - (k + 1)) r2).map fun p => ((sofar ++ [(strOf t, strOf t2)]) ++ p.1, p.2) by
              rw [HE.out, show d - k = (d - (k + 1)) + 1 by omega, decL_step HCM.out hcm, append_map])
            have HQ3 := Lib.hid (show r2.length ≤ c3 ∧ r2.length ≤ 4611686018427387904 ∧ r2.length ≤ n from ⟨hlc, by have := HQ.out; omega, by have := HQ.out; omega⟩)
            have HQ4 := Lib.hid q2
            have HY2 := Lib.hid (hy w HY1.out)
            obtain ⟨T2, hT2⟩ : ∃ T, strOf t2 = T := ⟨_, rfl⟩
            rw [HT1.out, hT2] at HX
            rw [hT2]
            obtain ⟨av, cv, rfl⟩ := ownL_shape O2.out
            have hsk := HNS.out.2.2.1
            rw [hsk] at O2 ⊢
            have HON5 : Hid (∀ o : Obj, (w2.alloc o).ownsRow w.heap.size 94 2 (.slice av k cv) k (sofar.flatMap enc2)) := Lib.hid (fun o => by
              have h := O2.out.below ((Below.refl w2.heap.size w2).alloc (Nat.le_refl _) o)
              unfold OwnL at h
              rw [hsk] at h
              exact h)
            have HOB := Lib.hid (ownL_block O2.out)
            have hw2 : w.heap.size ≤ w2.heap.size := B2.out.size
            have hk255 : k ≤ 255 := by omega
            obtain ⟨M2, hM2⟩ : ∃ M, r2.length = M := ⟨_, rfl⟩
            have HM2 := Lib.hid hM2
            rw [hM2] at ⊢
            have HSK := Lib.hid hsk
            clear hb hcm q1 q2 q3 hlc hy hT2 hM2 hsk
            go_wp2_with (first
              | (at_builtin; refine wpList_append_own _ rfl (.tmp 40) (.tmp 44) 22 rfl w.heap.size 94 i0 (.agg #[.string ⟨#[]⟩, .string ⟨#[]⟩]) 2 32 Tryz.underlying22 hi hz0 hz1 hz2 rfl (by decide) (.slice av k cv) k (sofar.flatMap enc2) rfl (HON5.out _) ⟨w2.heap.size, 0, none⟩ 1 1 (enc2 (T1, T2)) rfl rfl (two_new w2 (T1, T2)) (by simp [Value.oneCell', enc2]) (by unfold maxLen; omega) (by omega) (by simp; omega) ?_; intro v5 w5 hown5 hgr5 hne5
                 have g1 : OwnL w5 w.heap.size v5 (sofar ++ [(T1, T2)]) := (by unfold OwnL; rw [List.length_append, List.flatMap_append, HSK.out]; simpa using hown5)
                 have hbA : Below w2.heap.size w2 (w2.alloc (.cells #[.string T1, .string T2] 94)) := (Below.refl _ w2).alloc (Nat.le_refl _) _
                 have B5 := Lib.hid ((B2.out.trans (hbA.mono hw2)).grown hgr5 (by simp; omega) (fun j hj => HOB.out j hj))
                 have O5 := Lib.hid g1
                 obtain ⟨a5, c5, rfl⟩ := ownL_shape g1
                 obtain ⟨n5, hn5⟩ : ∃ n, (sofar ++ [(T1, T2)]).length = n := ⟨_, rfl⟩
                 rw [hn5] at O5 ⊢
                 clear hown5 hgr5 hne5 g1 hn5 hbA)
              | fail)
            go_roundw
            case rel => exact ⟨k + 1, sofar ++ [(T1, T2)], r2, a3, c3, by omega, by simp, by rw [HM2.out], O5, HY2, HQ4, Lib.hid ⟨HQ3.out.1, HQ3.out.2.1, by rw [List.length_append, HSK.out]; rfl, HQ3.out.2.2⟩, HX, B5⟩
            case measure => simp [intOf]; omega
      · have hkd2 : k = d := by omega
        subst hkd2
        have da : decide ((k : Int) < (k : Int)) = false := decide_eq_false (by omega)
        have da2 : decide (k < k) = false := decide_eq_false (by omega)
        have HX := Lib.hid (show decL k r = some (sofar, rr) by rw [HE.out, Nat.sub_self, decL_zero]; simp)
        obtain ⟨av, cv, rfl, hla, _⟩ := HO.out.labs
        have CC := Lib.hid (check_any av cv sofar wr hla (by have := HNS.out.2.2.1; omega))
        have HS := Lib.hid (show k ≤ 255 by omega)
        obtain ⟨ns, hns⟩ : ∃ n, sofar.length = n := ⟨_, rfl⟩
        rw [hns] at CC HO ⊢
        obtain ⟨M, hM⟩ : ∃ M, rr.length = M := ⟨_, rfl⟩
        have HMR := Lib.hid hM
        have hMn : M ≤ n := by rw [← hM]; exact HNS.out.2.2.2
        rw [hM]
        have e1 : wrap64 ((n : Int) - (M : Int)) = ((n - M : Nat) : Int) := by rw [wrap64_small (by omega) (by omega)]; omega
        clear hla hns hM
        go_wp2_with fail
        refine CC.out.mono ?_
        rintro e w2 ⟨ce, rfl, hce, hb⟩
        have B2 := Lib.hid (HBW.out.trans (hb.mono HBW.out.size))
        have O2 := Lib.hid (HO.out.below hb)
        have HC := Lib.hid hce
        clear hb hce
        by_cases h0 : ce = 0
        · subst h0
          go_wp2
          go_returns
          exact ⟨.slice av ns cv, n - M, 0, sofar, by rw [show ((n - M : Nat) : Int) = (n : Int) - (M : Int) by omega]; rfl, .inr ⟨rfl, k, r, rr, rfl, HX.out, HC.out, by rw [HNN.out, HMR.out]⟩, O2.out, B2.out⟩
        · have d1 : ((ce : Int) == 0) = false := by simp; omega
          have d2 : ¬ ((ce : Int) = 0) := by omega
          have d3 : ¬ (ce = 0) := h0
          go_wp2
          go_returns
          exact ⟨.slice none 0 0, 0, 70, [], rfl, .inl ⟨rfl, rfl, rfl, .inr ⟨k, r, rfl, .inr ⟨sofar, rr, ce, HX.out, HC.out, h0⟩⟩⟩, OwnL.nil _ _, B2.out⟩
end Go.Proofs.YtiolghcjndoigaaGreatDoor
