/-
  WALKS: the reference: Decode.
-/
import Derived.Test.YtiolghcjndoigaaGreatDoorDec
import Derived.Test.YtiolghcjndoigaaGreatDoorRck
namespace Go.Proofs.YtiolghcjndoigaaGreatDoor
set_option linter.unusedVariables false
set_option linter.unusedSimpArgs false
open Go.RowKit Go.PlainAid Go.Shelf
theorem nx_gt {n m : Nat} (h : n < m) : decide ((m : Int) > (n : Int)) = true ∧ decide ((n : Int) < (m : Int)) = true ∧ decide (n < m) = true :=
  ⟨decide_eq_true (by omega), decide_eq_true (by omega), decide_eq_true h⟩
theorem nx_le {n m : Nat} (h : ¬ n < m) : decide ((m : Int) > (n : Int)) = false ∧ decide ((n : Int) < (m : Int)) = false ∧ decide (n < m) = false :=
  ⟨decide_eq_false (by omega), decide_eq_false (by omega), decide_eq_false h⟩
theorem nx_q {d0 d1 q : Nat} (h : d0 + 256 * d1 = q) : (d0 : Int) + 256 * (d1 : Int) = (q : Int) := by omega
theorem nx_w {x y z : Nat} (h : x + y = z) (hz : z ≤ 2000000000) : wrap64 ((x : Int) + (y : Int)) = (z : Int) ∧ IntKind.i64.wrap ((x : Int) + (y : Int)) = (z : Int) := by
  constructor
  · rw [wrap64_small (by omega) (by omega)]; omega
  · rw [IntKind.wrap_i64]; omega
theorem nx_w2 {x z : Nat} (h : x + 2 = z) (hz : z ≤ 2000000000) : wrap64 ((x : Int) + 2) = (z : Int) ∧ IntKind.i64.wrap ((x : Int) + 2) = (z : Int) := nx_w (y := 2) h hz
theorem nx_w1 {x z : Nat} (h : x + 1 = z) (hz : z ≤ 2000000000) : wrap64 ((x : Int) + 1) = (z : Int) ∧ IntKind.i64.wrap ((x : Int) + 1) = (z : Int) := nx_w (y := 1) h hz
def NextPost (w : World) (bs : List Nat) (p : Nat) (e : Ending) (w' : World) : Prop := Below w.heap.size w w' ∧
  ((cutM (bs.drop p) = none ∧ e = .returned (.tuple #[.string ⟨#[]⟩, .int .i64 (-1)])) ∨ ∃ t r q, cutM (bs.drop p) = some (t, r) ∧ e = .returned (.tuple #[.string (strOf t), .int .i64 ((q : Nat) : Int)]) ∧ q ≤ bs.length ∧ p + 2 ≤ q ∧ r = bs.drop q)
set_option maxRecDepth 100000 in
set_option maxHeartbeats 300000 in
theorem rnext_any (a : Option Addr) (c : Nat) (bs : List Nat) (hB : IsB bs) (hc : bs.length ≤ c) (hl : bs.length ≤ 1000000000) (p : Nat) (hp : p ≤ bs.length) (w : World) (H : Byt w a bs) : Calls Tryz.prog 107 #[.slice a bs.length c, .int .i64 ((p : Nat) : Int)] w (NextPost w bs p) := by
  unfold NextPost
  obtain ⟨m1, hm1⟩ : ∃ m, p + 2 = m := ⟨_, rfl⟩
  obtain ⟨p1, hp1'⟩ : ∃ m, p + 1 = m := ⟨_, rfl⟩
  obtain ⟨w1, w1b⟩ := nx_w2 hm1 (by omega)
  obtain ⟨w2, w2b⟩ := nx_w1 hp1' (by omega)
  by_cases h2 : bs.length < m1
  · have HN := Lib.hid (cutM_short (bs := bs.drop p) (by rw [List.length_drop]; omega))
    obtain ⟨n, hn⟩ : ∃ n, bs.length = n := ⟨_, rfl⟩
    rw [hn] at h2 hc hl hp ⊢
    obtain ⟨d1, d2, d3⟩ := nx_gt h2
    clear hB H hn hm1 hp1'
    go_enter Tryz.func107, Tryz.ntmps107
    go_wp2
    go_returns
    exact ⟨Below.refl _ _, .inl ⟨HN.out, rfl⟩⟩
  · have hp0 : p < bs.length := by omega
    have hp1 : p1 < bs.length := by omega
    obtain ⟨d0, hd0⟩ : ∃ d, bs[p] = d := ⟨_, rfl⟩
    obtain ⟨d1, hd1⟩ : ∃ d, bs[p1] = d := ⟨_, rfl⟩
    have hdr : bs.drop p = d0 :: d1 :: bs.drop m1 := by
      subst hm1 hp1'
      rw [List.drop_eq_getElem_cons hp0, List.drop_eq_getElem_cons hp1, hd0, hd1]
    have g0 : d0 < 256 := by rw [← hd0]; exact hB _ (List.getElem_mem hp0)
    have g1 : d1 < 256 := by rw [← hd1]; exact hB _ (List.getElem_mem hp1)
    obtain ⟨q, hq⟩ : ∃ q, d0 + 256 * d1 = q := ⟨_, rfl⟩
    obtain ⟨m2, hm2⟩ : ∃ m, m1 + q = m := ⟨_, rfl⟩
    have HQ := Lib.hid (nx_q hq)
    have W4 := Lib.hid (nx_w hm2 (by omega))
    have HM := Lib.hid (show cutM (bs.drop p) = if q ≤ (bs.drop m1).length then some ((bs.drop m1).take q, (bs.drop m1).drop q) else none by rw [hdr, ← hq]; rfl)
    rcases H with ⟨_, h⟩ | ⟨b, off, rfl, hlt, hcl⟩
    · rw [h] at hp0; simp at hp0
    have x0 := hcl p hp0
    have x1 := hcl p1 hp1
    rw [hd0] at x0
    rw [hd1] at x1
    have HY := Lib.hid (show Byt w (some ⟨b, off, none⟩) bs from .inr ⟨b, off, rfl, hlt, hcl⟩)
    have HLD := Lib.hid (show (bs.drop m1).length = bs.length - m1 from List.length_drop)
    obtain ⟨n, hn⟩ : ∃ n, bs.length = n := ⟨_, rfl⟩
    have HNN := Lib.hid hn
    rw [hn] at hc hl hp hp0 hp1 h2 HLD ⊢
    obtain ⟨e1, e2, e3⟩ := nx_le h2
    have m0 : IntKind.i64.wrap (d0 : Int) = (d0 : Int) := by rw [IntKind.wrap_i64]; omega
    have m1' : IntKind.i64.wrap (d1 : Int) = (d1 : Int) := by rw [IntKind.wrap_i64]; omega
    have m2' : IntKind.i64.wrap (256 * (d1 : Int)) = 256 * (d1 : Int) := by rw [IntKind.wrap_i64]; omega
    have m3' : IntKind.i64.wrap ((d0 : Int) + 256 * (d1 : Int)) = (d0 : Int) + 256 * (d1 : Int) := by rw [IntKind.wrap_i64]; omega
    have i2 : (p : Int) < (n : Int) := by omega
    have i3 : (p1 : Int) < (n : Int) := by omega
    have HA := Lib.hid (show (m2 ≤ n → q ≤ n - m1 ∧ m2 - m1 = q) ∧ m1 ≤ m2 ∧ p + 2 ≤ m2 ∧ (n < m2 → ¬ q ≤ n - m1) from ⟨fun _ => by omega, by omega, by omega, fun _ => by omega⟩)
    have HM2 := Lib.hid hm2
    clear hcl hB hn hdr hd0 hd1 hq hm2 hm1 hp1' hl hp
    go_enter Tryz.func107, Tryz.ntmps107
    go_wp2_with fail
    go_quiet (fail)
    rw [HQ.out]
    obtain ⟨w4, w4b⟩ := W4.out
    by_cases hmn : n < m2
    · obtain ⟨u1, u2, u3⟩ := nx_gt hmn
      have HX := Lib.hid (show cutM (bs.drop p) = none by rw [HM.out, if_neg (by rw [HLD.out]; exact HA.out.2.2.2 hmn)])
      go_wp2
      go_returns
      exact ⟨below_drewN (Below.refl _ _) _, .inl ⟨HX.out, rfl⟩⟩
    · obtain ⟨u1, u2, u3⟩ := nx_le hmn
      obtain ⟨v1, v2⟩ := HA.out.1 (Nat.le_of_not_lt hmn)
      have HX := Lib.hid (show cutM (bs.drop p) = some ((bs.drop m1).take q, (bs.drop m1).drop q) by rw [HM.out, if_pos (by rw [HLD.out]; exact v1)])
      obtain ⟨a2, hs2, hy2'⟩ := byt_mid (some ⟨b, off, none⟩) bs m1 m2 HA.out.2.1 (by rw [HNN.out]; exact Nat.le_of_not_lt hmn) c (by rw [HNN.out]; exact hc)
      rw [HNN.out] at hs2
      have hy2 := hy2' w HY.out
      rw [v2] at hy2 hs2
      have lm : ((bs.drop m1).take q).length = q := by rw [List.length_take, Nat.min_eq_left (by rw [HLD.out]; exact v1)]
      have hcv : ∀ k, (convert 83 9 (.slice a2 q (c - m1))).run Tryz.prog (w.drewN k) = .ok (.string (strOf ((bs.drop m1).take q))) (w.drewN k) := fun k => by
        have := conv_byt (show Byt (w.drewN k) a2 ((bs.drop m1).take q) from hy2) (c - m1)
        rw [lm] at this
        exact this
      obtain ⟨T, hT⟩ : ∃ T, strOf ((bs.drop m1).take q) = T := ⟨_, rfl⟩
      have HTT := Lib.hid hT
      rw [hT] at hcv
      have V1 := Lib.hid (Nat.le_of_not_lt hmn)
      clear hy2 hy2' lm hT v1 v2 w1b w2b w4b m0 m1' m2' m3' w2 x0 x1 hmn
      go_wp2_with fail
      go_returns
      exact ⟨below_drewN (Below.refl _ _) _, .inr ⟨_, _, m2, HX.out, by rw [HTT.out, ← W4.out.1]; rfl, V1.out, HA.out.2.2.1, by rw [List.drop_drop, HM2.out]⟩⟩
set_option linter.unusedVariables false
set_option linter.unusedSimpArgs false
open Go.RowKit Go.PlainAid Go.Shelf
/-- what the chapter says of bytes, by definition -/
def DecN (bs : List Nat) (n c : Nat) (out : List Lm.Lb) : Prop :=
  (c = 70 ∧ n = 0 ∧ out = [] ∧ (bs = [] ∨ ∃ d r, bs = d :: r ∧ (decL d r = none ∨ ∃ l r3, decL d r = some (l, r3) ∧ chkN l ≠ 0))) ∨
  (c = 0 ∧ ∃ d r r3, bs = d :: r ∧ decL d r = some (out, r3) ∧ chkN out = 0 ∧ n = bs.length - r3.length)
theorem decn_of {bs : List Nat} {n c : Nat} {out : List Lm.Lb} (h : DecIs bs n c out) : DecN bs n c out := by
  rcases h with ⟨h1, h2, h3, h | ⟨d, r, h4, h | ⟨l, r3, ce, h5, h6, h7⟩⟩⟩ | ⟨h1, d, r, r3, h4, h5, h6, h7⟩
  · exact .inl ⟨h1, h2, h3, .inl h⟩
  · exact .inl ⟨h1, h2, h3, .inr ⟨d, r, h4, .inl h⟩⟩
  · exact .inl ⟨h1, h2, h3, .inr ⟨d, r, h4, .inr ⟨l, r3, h5, by rw [← chk_same h6]; exact h7⟩⟩⟩
  · exact .inr ⟨h1, d, r, r3, h4, h5, (chk_same h6).symm, h7⟩
theorem decn_one {bs : List Nat} {n c n' c' : Nat} {out out' : List Lm.Lb} (h : DecN bs n c out) (k : DecN bs n' c' out') : n = n' ∧ c = c' ∧ out = out' := by
  have no : ∀ {d d' : Nat} {r r' : List Nat} {l : List Lm.Lb} {r3 : List Nat}, bs = d :: r → bs = d' :: r' → (decL d r = none ∨ ∃ l r3, decL d r = some (l, r3) ∧ chkN l ≠ 0) → decL d' r' = some (l, r3) → chkN l = 0 → False := by
    intro d d' r r' l r3 h1 h2 h3 h4 h5
    rw [h1] at h2
    cases h2
    rcases h3 with h3 | ⟨l2, r4, h3, h6⟩
    · rw [h3] at h4; cases h4
    · rw [h3] at h4; cases h4; exact h6 h5
  rcases h with ⟨h1, h2, h3, h⟩ | ⟨h1, d, r, r3, h4, h5, h6, h7⟩
  · rcases k with ⟨k1, k2, k3, k⟩ | ⟨k1, d', r', r3', k4, k5, k6, k7⟩
    · exact ⟨by omega, by omega, by rw [h3, k3]⟩
    · rcases h with h | ⟨d, r, h4, h⟩
      · rw [h] at k4; cases k4
      · exact (no h4 k4 h k5 k6).elim
  · rcases k with ⟨k1, k2, k3, k⟩ | ⟨k1, d', r', r3', k4, k5, k6, k7⟩
    · rcases k with k | ⟨d', r', k4, k⟩
      · rw [k] at h4; cases h4
      · exact (no k4 h4 k h5 h6).elim
    · rw [h4] at k4
      cases k4
      rw [h5] at k5
      cases k5
      exact ⟨by omega, by omega, rfl⟩
def RDecPost (w : World) (bs : List Nat) (e : Ending) (w' : World) : Prop := ∃ v n c out, e = .returned (.tuple #[v, .int .i64 ((n : Nat) : Int), .int .u16 ((c : Nat) : Int)]) ∧ DecN bs n c out ∧ OwnL w' w.heap.size v out ∧ Below w.heap.size w w'
set_option maxRecDepth 100000 in
set_option maxHeartbeats 2000000 in
theorem rdecode_any (a : Option Addr) (c : Nat) (bs : List Nat) (hB : IsB bs) (hc : bs.length ≤ c) (hl : bs.length ≤ 1000000000) (w : World) (H : Byt w a bs) : Calls Tryz.prog 46 #[.slice a bs.length c] w (RDecPost w bs) := by
  obtain ⟨i0, hi, hz0, hz1, hz2⟩ := info_parts info94
  rcases bs with _ | ⟨d, r⟩
  · clear hB hc hl H
    show Calls Tryz.prog 46 #[.slice a 0 c] w (RDecPost w [])
    go_enter Tryz.func46, Tryz.ntmps46
    go_wp2
    go_returns
    exact ⟨.slice none 0 0, 0, 70, [], rfl, .inl ⟨rfl, rfl, rfl, .inl rfl⟩, OwnL.nil _ _, Below.refl _ _⟩
  · have hd : d < 256 := hB d List.mem_cons_self
    have HNX := Lib.hid (fun p hp w1 H1 => rnext_any a c (d :: r) hB hc hl p hp w1 H1)
    have HY := Lib.hid H
    have HLB : 1 ≤ (d :: r).length := by simp
    rcases H with ⟨_, h⟩ | ⟨b, off, rfl, hlt, hcl⟩
    · cases h
    have x0' := hcl 0 (by simp)
    simp only [List.getElem_cons_zero, Nat.add_zero] at x0'
    have HX0 := Lib.hid (show ∀ w2, Below w.heap.size w w2 → w2.cell? ⟨b, off, none⟩ = some (.int .u8 ((d : Nat) : Int)) from fun w2 hb2 => (hb2.cell (p := ⟨b, off, none⟩) hlt).trans x0')
    have HD1 := Lib.hid (show (d :: r).drop 1 = r from rfl)
    obtain ⟨bs, hbs⟩ : ∃ bs, d :: r = bs := ⟨_, rfl⟩
    have HBS := Lib.hid hbs
    rw [hbs] at HNX HLB hc hl HD1 HY ⊢
    obtain ⟨n, hn⟩ : ∃ n, bs.length = n := ⟨_, rfl⟩
    have HN := Lib.hid hn
    rw [hn] at HNX HLB hc hl ⊢
    have i0' : 0 < n := HLB
    have i1' : (0 : Int) < (n : Int) := by omega
    have t1 : ((n : Int) == 0) = false := by simp; omega
    have t2 : ¬ ((n : Int) = 0) := by omega
    have t3 : ¬ (n = 0) := by omega
    have m0 : IntKind.i64.wrap (d : Int) = (d : Int) := by rw [IntKind.wrap_i64]; omega
    clear hB hcl x0' hbs hn hl
    go_enter Tryz.func46, Tryz.ntmps46
    go_wp2
    go_loopw [5, 6, 7] (fun v at1 i wr => ∃ (k p : Nat) (sofar : List Lm.Lb), k ≤ d ∧ p ≤ n ∧ i = .int .i64 ((k : Nat) : Int) ∧ at1 = .int .i64 ((p : Nat) : Int) ∧ Hid (OwnL wr w.heap.size v sofar) ∧ Hid (sofar.length = k) ∧ Hid (decL d r = (decL (d - k) (bs.drop p)).map fun p => (sofar ++ p.1, p.2)) ∧ Hid (Below w.heap.size w wr)) (fun _ _ i _ => (d - intOf i).toNat)
    case atStart => exact ⟨0, 1, [], Nat.zero_le _, HLB, rfl, rfl, Lib.hid (World.ownsRow_nil _ _ _ _), Lib.hid rfl, Lib.hid (by rw [HD1.out]; cases decL (d - 0) r with | none => rfl | some p => rfl), Lib.hid (Below.refl _ _)⟩
    case round =>
      obtain ⟨k, p, sofar, hkd, hpn, rfl, rfl, HO, HS, HE, HBW⟩ := hrel
      have x0 := HX0.out wr HBW.out
      by_cases hk : k < d
      · have da : decide ((k : Int) < (d : Int)) = true := decide_eq_true (by omega)
        have da2 : decide (k < d) = true := decide_eq_true hk
        have C1 := Lib.hid (HNX.out p hpn wr (HY.out.below HBW.out))
        go_wp2_with fail
        refine C1.out.mono ?_
        rintro e w1 ⟨hb, ⟨hcm, rfl⟩ | ⟨t, r1, q1, hcm, rfl, hq1, hq2, hr1⟩⟩
        · have B1 := Lib.hid (HBW.out.trans (hb.mono HBW.out.size))
          have HX := Lib.hid (show decL d r = none by rw [HE.out, show d - k = (d - k - 1) + 1 by omega, decL_none1 hcm]; rfl)
          clear hb hcm
          go_wp2
          go_returns
          exact ⟨.slice none 0 0, 0, 70, [], rfl, .inl ⟨rfl, rfl, rfl, .inr ⟨d, r, HBS.out.symm, .inl HX.out⟩⟩, OwnL.nil _ _, B1.out⟩
        · have B1 := Lib.hid (HBW.out.trans (hb.mono HBW.out.size))
          have O1 := Lib.hid (HO.out.below hb)
          have HCM := Lib.hid hcm
          rw [HN.out] at hq1
          have C2 := Lib.hid (HNX.out q1 hq1 w1 (HY.out.below B1.out))
          have HR1 := Lib.hid hr1
          obtain ⟨T1, hT1⟩ : ∃ T, strOf t = T := ⟨_, rfl⟩
          have HT1 := Lib.hid hT1
          rw [hT1]
          have dn : decide ((q1 : Int) < 0) = false := decide_eq_false (by omega)
          clear hb hcm hr1 hT1 hq2
          go_wp2_with fail
          refine C2.out.mono ?_
          rintro e w2 ⟨hb, ⟨hcm, rfl⟩ | ⟨t2, r2, q2, hcm, rfl, hq2, hq3, hr2⟩⟩
          · have B2 := Lib.hid (B1.out.trans (hb.mono B1.out.size))
            have HX := Lib.hid (show decL d r = none by rw [HE.out, show d - k = (d - k - 1) + 1 by omega, decL_none2 HCM.out (by rw [HR1.out]; exact hcm)]; rfl)
            clear hb hcm
            go_wp2
            go_returns
            exact ⟨.slice none 0 0, 0, 70, [], rfl, .inl ⟨rfl, rfl, rfl, .inr ⟨d, r, HBS.out.symm, .inl HX.out⟩⟩, OwnL.nil _ _, B2.out⟩
          · have B2 := Lib.hid (B1.out.trans (hb.mono B1.out.size))
            have O2 := Lib.hid (O1.out.below hb)
            rw [HN.out] at hq2
            have HX := Lib.hid (show decL d r = (decL (d - (k + 1)) (bs.drop q2)).map fun p => ((sofar ++ [(strOf t, strOf t2)]) ++ p.1, p.2) by
              rw [HE.out, show d - k = (d - (k + 1)) + 1 by omega, decL_step HCM.out (by rw [HR1.out]; exact hcm), append_map, hr2])
            have dn2 : decide ((q2 : Int) < 0) = false := decide_eq_false (by omega)
            obtain ⟨T2, hT2⟩ : ∃ T, strOf t2 = T := ⟨_, rfl⟩
            rw [HT1.out, hT2] at HX
            rw [hT2]
            obtain ⟨av, cv, rfl⟩ := ownL_shape O2.out
            have hsk := HS.out
            rw [hsk] at O2 ⊢
            have HON5 : Hid (∀ o : Obj, (w2.alloc o).ownsRow w.heap.size 94 2 (.slice av k cv) k (sofar.flatMap enc2)) := Lib.hid (fun o => by
              have h := O2.out.below ((Below.refl w2.heap.size w2).alloc (Nat.le_refl _) o)
              unfold OwnL at h
              rw [hsk] at h
              exact h)
            have HOB := Lib.hid (ownL_block O2.out)
            have hw2 : w.heap.size ≤ w2.heap.size := B2.out.size
            have hk255 : k ≤ 255 := by omega
            clear hb hcm hT2 hsk hq3 hr2
            go_wp2_with (first
              | (at_builtin; refine wpList_append_own _ rfl (.tmp 39) (.tmp 43) 22 rfl w.heap.size 94 i0 (.agg #[.string ⟨#[]⟩, .string ⟨#[]⟩]) 2 32 Tryz.underlying22 hi hz0 hz1 hz2 rfl (by decide) (.slice av k cv) k (sofar.flatMap enc2) rfl (HON5.out _) ⟨w2.heap.size, 0, none⟩ 1 1 (enc2 (T1, T2)) rfl rfl (two_new w2 (T1, T2)) (by simp [Value.oneCell', enc2]) (by unfold maxLen; omega) (by omega) (by simp; omega) ?_; intro v5 w5 hown5 hgr5 hne5
                 have g1 : OwnL w5 w.heap.size v5 (sofar ++ [(T1, T2)]) := (by unfold OwnL; rw [List.length_append, List.flatMap_append, HS.out]; simpa using hown5)
                 have hbA : Below w2.heap.size w2 (w2.alloc (.cells #[.string T1, .string T2] 94)) := (Below.refl _ w2).alloc (Nat.le_refl _) _
                 have B5 := Lib.hid ((B2.out.trans (hbA.mono hw2)).grown hgr5 (by simp; omega) (fun j hj => HOB.out j hj))
                 have O5 := Lib.hid g1
                 obtain ⟨a5, c5, rfl⟩ := ownL_shape g1
                 obtain ⟨n5, hn5⟩ : ∃ n, (sofar ++ [(T1, T2)]).length = n := ⟨_, rfl⟩
                 rw [hn5] at O5 ⊢
                 clear hown5 hgr5 hne5 g1 hn5 hbA)
              | fail)
            go_roundw
            case rel => exact ⟨k + 1, q2, sofar ++ [(T1, T2)], by omega, hq2, by simp, rfl, O5, Lib.hid (by rw [List.length_append, HS.out]; rfl), HX, B5⟩
            case measure => simp [intOf]; omega
      · have hkd2 : k = d := by omega
        subst hkd2
        have da : decide ((k : Int) < (k : Int)) = false := decide_eq_false (by omega)
        have da2 : decide (k < k) = false := decide_eq_false (by omega)
        have HX := Lib.hid (show decL k r = some (sofar, bs.drop p) by rw [HE.out, Nat.sub_self, decL_zero]; simp)
        obtain ⟨av, cv, rfl, hla, _⟩ := HO.out.labs
        have CC := Lib.hid (rcheck_any av cv sofar wr hla (by have := HS.out; unfold maxLen; omega))
        obtain ⟨R, hR⟩ : ∃ R, chkN sofar = R := ⟨_, rfl⟩
        have HR := Lib.hid hR
        obtain ⟨ns, hns⟩ : ∃ n, sofar.length = n := ⟨_, rfl⟩
        rw [hns] at CC HO ⊢
        rw [hR] at CC
        have HP := Lib.hid (show p = bs.length - (bs.drop p).length by rw [List.length_drop, HN.out]; omega)
        clear hla hns hR
        go_wp2_with fail
        refine CC.out.mono ?_
        rintro e w2 ⟨rfl, hb⟩
        have B2 := Lib.hid (HBW.out.trans (hb.mono HBW.out.size))
        have O2 := Lib.hid (HO.out.below hb)
        clear hb CC
        by_cases h0 : R = 0
        · subst h0
          go_wp2
          go_returns
          exact ⟨.slice av ns cv, p, 0, sofar, rfl, .inr ⟨rfl, k, r, bs.drop p, HBS.out.symm, HX.out, HR.out, HP.out⟩, O2.out, B2.out⟩
        · have d1 : ((R : Int) == 0) = false := by simp; omega
          have d2 : ¬ ((R : Int) = 0) := by omega
          have d3 : ¬ (R = 0) := h0
          go_wp2
          go_returns
          exact ⟨.slice none 0 0, 0, 70, [], rfl, .inl ⟨rfl, rfl, rfl, .inr ⟨k, r, HBS.out.symm, .inr ⟨sofar, bs.drop p, HX.out, by rw [HR.out]; exact h0⟩⟩⟩, OwnL.nil _ _, B2.out⟩
end Go.Proofs.YtiolghcjndoigaaGreatDoor
