/-
  WALKS: the law of what is written and read again.
-/
import Derived.Test.YtiolghcjndoigaaGreatDoorBcp
namespace Go.Proofs.YtiolghcjndoigaaGreatDoor
set_option linter.unusedVariables false
set_option linter.unusedSimpArgs false
open Go.RowKit Go.PlainAid Go.Shelf
/-- bytes that came in -/
def Bin (w : World) (a : Option Addr) (c : Nat) (bs : List Nat) : Prop := (a = none ∧ c = 0 ∧ bs = []) ∨ ∃ ad, a = some ad ∧ ∀ i (h : i < bs.length), w.cell? (ad.add i) = some (.int .u8 ((bs[i] : Nat) : Int))
theorem Bin.below {w w' : World} {a : Option Addr} {c : Nat} {bs : List Nat} (h : Bin w a c bs) (hb : Below w.heap.size w w') : Bin w' a c bs := by
  rcases h with h | ⟨ad, ha, hc⟩
  · exact .inl h
  · exact .inr ⟨ad, ha, fun i hi => (hb.cell (p := ad.add i) (World.block_lt_of_cell? _ _ (hc i hi))).trans (hc i hi)⟩
set_option maxRecDepth 100000 in
set_option maxHeartbeats 8000000 in
theorem law_back (a1 a2 : Option Addr) (c1 c2 : Nat) (l : List Lm.Lb) (bh : List Nat) (w : World) (H1 : Labs w a1 l) (H2 : Bin w a2 c2 bh) (hB : IsB bh) (l1 : l.length ≤ maxLen) :
    Calls Tryz.prog 7 #[.slice a1 l.length c1, .slice a2 bh.length c2] w (Gives w (.bool true)) := by
  obtain ⟨i0, hi, hz0, hz1, hz2⟩ := info_parts info5
  have hmx : maxLen = 9223372036854775807 := rfl
  have M1 := Lib.hid (fun w H => much_any a1 c1 l w H (by omega))
  have CK := Lib.hid known_any
  have K1 := Lib.hid H1
  have K2 := Lib.hid H2
  have HBH := Lib.hid hB
  obtain ⟨n1, hn1⟩ : ∃ n, l.length = n := ⟨_, rfl⟩
  obtain ⟨n2, hn2⟩ : ∃ n, bh.length = n := ⟨_, rfl⟩
  have HN2 := Lib.hid hn2
  have HN1 := Lib.hid hn1
  rw [hn1] at M1 ⊢
  rw [hn2] at ⊢
  clear H1 H2 hB l1 hn1 hn2 hmx
  go_enter Tryz.func7, Tryz.ntmps7
  go_wp2_with fail
  refine (M1.out _ K1.out).mono ?_
  rintro e w1 ⟨b1, rfl, hbl, hfew⟩
  have B1 := Lib.hid hbl
  have HFW := Lib.hid hfew
  clear hbl hfew
  cases b1 with
  | true =>
    go_wp2_with fail
    refine (CK.out _).mono ?_
    rintro e w2 ⟨rfl, hbl⟩
    have B2 := Lib.hid (B1.out.trans (hbl.mono B1.out.size))
    clear hbl
    go_wp2
    go_ret
    exact ⟨rfl, B2.out⟩
  | false =>
    have CS := Lib.hid (fun w H => set_any a1 c1 l w H (by have := (HFW.out rfl).1; omega))
    rw [HN1.out] at CS
    by_cases h2 : 20000 < n2
    · have d1 : decide ((n2 : Int) > 20000) = true := decide_eq_true (by omega)
      have d2 : decide ((20000 : Int) < (n2 : Int)) = true := decide_eq_true (by omega)
      have d3 : decide (20000 < n2) = true := decide_eq_true (by omega)
      go_wp2_with fail
      refine (CK.out _).mono ?_
      rintro e w2 ⟨rfl, hbl⟩
      have B2 := Lib.hid (B1.out.trans (hbl.mono B1.out.size))
      clear hbl
      go_wp2
      go_ret
      exact ⟨rfl, B2.out⟩
    have d1 : decide ((n2 : Int) > 20000) = false := decide_eq_false (by omega)
    have d2 : decide ((20000 : Int) < (n2 : Int)) = false := decide_eq_false (by omega)
    have d3 : decide (20000 < n2) = false := decide_eq_false (by omega)
    go_wp2_with fail
    refine (CK.out _).mono ?_
    rintro e w2 ⟨rfl, hbl⟩
    have B2 := Lib.hid (B1.out.trans (hbl.mono B1.out.size))
    clear hbl
    go_wp2_with fail
    refine (CS.out _ (K1.out.below B2.out)).mono ?_
    rintro e w3 ⟨v3, c3, S, rfl, hs, ho, hbl⟩
    have B3 := Lib.hid (B2.out.trans (hbl.mono B2.out.size))
    clear hbl
    by_cases h0 : c3 = 0
    · subst h0
      obtain ⟨hset, hwS, hbadl⟩ := set_of hs
      have hw : weigh l ≤ 20000 := (HFW.out trivial).2 (show Small l from fun x hx => by have := badB_size (hbadl x hx); omega)
      have hfewS : Few S := ⟨by have := hset.len; omega, by omega⟩
      have hS64 := hset.len
      obtain ⟨aS, cS, rfl, hLS, _⟩ := ho.labs
      have HSET := Lib.hid hset
      have KS := Lib.hid hLS
      have CE := Lib.hid (fun w H => encode_any aS cS S w H (by omega))
      have CP := Lib.hid (fun w H => print_any aS cS S w H hfewS)
      have hname : ∀ x ∈ S, nameB x.1 = true := fun x hx => by
        have := hset.good x hx
        unfold badB at this
        rw [Bool.or_eq_false_iff] at this
        simpa using this.1
      have hpl : (printB S).length ≤ 200000 := by
        have := bodyL_len S
        have := hfewS.2
        unfold printB
        rw [List.length_cons, List.length_append, List.length_singleton]
        omega
      have CPA := Lib.hid (fun w => parse_ok (printB S) S (printB_isB S) hpl (form_print S hname) w)
      rw [← print_body] at CPA
      have CS2 := Lib.hid (fun w H => set_any aS cS S w H (by omega))
      have CCH := Lib.hid (fun w H => check_any aS cS S w H (by omega))
      have CSM := Lib.hid (fun (a : Option Addr) (c : Nat) w (H : Labs w a S) HS => (show Calls Tryz.prog 18 #[.slice a S.length c, .slice aS S.length cS] w (Gives w (.bool true)) by have h := same_any a aS c cS S S w H HS (by have : maxLen = 9223372036854775807 := rfl; omega); rw [decide_eq_true rfl] at h; exact h))
      obtain ⟨nS, hnS⟩ : ∃ n, S.length = n := ⟨_, rfl⟩
      have HNS := Lib.hid hnS
      rw [hnS] at CE CP CS2 CCH CSM ⊢
      obtain ⟨TX, hTX⟩ : ∃ T, printS S = T := ⟨_, rfl⟩
      rw [hTX] at CP CPA
      have hel : (encL S).length ≤ 140000 := by
        have := flat1_len S (fun x hx => badB_size (hset.good x hx))
        unfold encL
        rw [List.length_cons]
        omega
      clear hs ho hset hwS hbadl hw hfewS hLS hname hpl hTX
      go_wp2_with fail
      refine (CE.out _ KS.out).mono ?_
      rintro e w4 ⟨v4, c4, out, rfl, henc, ho, _, hbl⟩
      obtain ⟨hck, henc2⟩ := henc
      have hc0 := check_set HSET.out hck
      subst hc0
      have hout : out = encL S := by
        rcases henc2 with ⟨_, h⟩ | ⟨h, _⟩
        · exact h
        · exact absurd rfl h
      subst hout
      have B4 := Lib.hid (B3.out.trans (hbl.mono B3.out.size))
      have S4 := Lib.hid (KS.out.below hbl)
      have K24 := Lib.hid (K2.out.below B4.out)
      obtain ⟨a4, c4, rfl⟩ := own_shape ho
      obtain ⟨n4, hn4⟩ : ∃ n, (encL S).length = n := ⟨_, rfl⟩
      have HN4 := Lib.hid hn4
      rw [hn4] at ho hel ⊢
      have O4 := Lib.hid ho
      have HW4 := Lib.hid hbl.size
      have HB34 := Lib.hid hbl
      clear hbl hck henc2 ho hn4
      have HEI := Lib.hid (show IsB (encL S ++ bh) from IsB.app (IsB.cons (by omega) (fun x hx => by
        obtain ⟨y, hy, hx⟩ := List.mem_flatMap.1 hx
        exact (IsB.app (textL_isB y.1) (textL_isB y.2)) x hx)) HBH.out)
      have HLN := Lib.hid (show (encL S ++ bh).length = n4 + n2 by rw [List.length_append, HN4.out, HN2.out])
      have hn2b : n2 ≤ 20000 := by omega
      have hwS4 : w3.heap.size ≤ w4.heap.size := HW4.out
      have HDEC := Lib.hid (fun (a5 : Option Addr) (c5 : Nat) (hc5 : n4 + n2 ≤ c5) (w5 : World) (hy : Byt w5 a5 (encL S ++ bh)) => decode_any a5 c5 (encL S ++ bh) HEI.out (by rw [HLN.out]; exact hc5) (by rw [HLN.out]; omega) w5 hy)
      rw [HLN.out] at HDEC
      -- behind the append
      have HREST : Hid (∀ (v5 : Value) (w5 : World), Own w5 w3.heap.size v5 (encL S ++ bh) → Below w3.heap.size w3 w5 → ∃ a5 c5, v5 = .slice a5 (n4 + n2) c5 ∧ Calls Tryz.prog 43 #[.slice a5 (n4 + n2) c5] w5 (DecPost w5 (encL S ++ bh))) := Lib.hid (fun v5 w5 ho hb => by
        obtain ⟨a5, c5, rfl, hl5, hy⟩ := ho.byt
        rw [HLN.out] at hl5 ⊢
        exact ⟨a5, c5, rfl, HDEC.out a5 c5 hl5 w5 hy⟩)
      have HO4 : Hid (w4.ownsRow w3.heap.size 5 1 (.slice a4 n4 c4) n4 (cellsOf (encL S))) := Lib.hid (by have h := O4.out; unfold Own at h; rw [HN4.out] at h; exact h)
      have HOB4 := Lib.hid (own_block O4.out)
      have B34 := Lib.hid (show Below w3.heap.size w3 w4 from HB34.out)
      rcases K24.out with ⟨rfl, rfl, hbe⟩ | ⟨ad, rfl, hcel⟩
      · have hn20 : n2 = 0 := by rw [← HN2.out, hbe]; rfl
        subst hn20
        obtain ⟨a5, c5, he, CD⟩ := HREST.out (.slice a4 n4 c4) w4 (by rw [hbe, List.append_nil]; exact O4.out) B34.out
        cases he
        have CDD := Lib.hid CD
        have B5 := Lib.hid B4.out
        have S5 := Lib.hid S4.out
        clear CD hbe
        go_wp2_with (first
          | (at_builtin; refine wpList_append_own_none rfl (.tmp 42) (.tmp 43) 83 rfl w3.heap.size 5 i0 1 Tryz.underlying83 hi (.slice a4 n4 c4) n4 (cellsOf (encL S)) rfl HO4.out rfl ?_)
          | fail)
        go_wp2_with fail
        refine CDD.out.mono ?_
        rintro e w6 ⟨v6, m6, c6, out6, rfl, hd, ho6, hbl⟩
        obtain ⟨hc6, hout6, hm6⟩ := dec_set HSET.out hd
        rw [HN4.out] at hm6
        subst hc6 hm6
        rw [hout6] at ho6
        obtain ⟨a6, c6, rfl, hD6, _⟩ := ho6.labs
        rw [HNS.out]
        have D6 := Lib.hid hD6
        have B6 := Lib.hid (B5.out.trans (hbl.mono B5.out.size))
        have S6 := Lib.hid (S5.out.below hbl)
        clear hd ho6 hout6 hD6 hbl
        go_wp2_with fail
        refine (CP.out _ S6.out).mono ?_
        rintro e w7 ⟨rfl, hbl⟩
        have B7 := Lib.hid (B6.out.trans (hbl.mono B6.out.size))
        have S7 := Lib.hid (S6.out.below hbl)
        have D7 := Lib.hid (D6.out.below hbl)
        clear hbl
        go_wp2_with fail
        refine (CPA.out _).mono ?_
        rintro e w8 ⟨v8, c8, out8, rfl, hst, ho8, hbl⟩
        obtain ⟨hc8, hout8⟩ := set_set HSET.out hst
        subst hc8
        rw [hout8] at ho8
        obtain ⟨a8, c8, rfl, hP8, _⟩ := ho8.labs
        rw [HNS.out]
        have P8 := Lib.hid hP8
        have B8 := Lib.hid (B7.out.trans (hbl.mono B7.out.size))
        have S8 := Lib.hid (S7.out.below hbl)
        have D8 := Lib.hid (D7.out.below hbl)
        clear hst ho8 hout8 hP8 hbl
        go_wp2_with fail
        refine (CS2.out _ S8.out).mono ?_
        rintro e w9 ⟨v9, c9, out9, rfl, hst, ho9, hbl⟩
        obtain ⟨hc9, hout9⟩ := set_set HSET.out hst
        subst hc9
        rw [hout9] at ho9
        obtain ⟨a9, c9, rfl, hT9, _⟩ := ho9.labs
        rw [HNS.out]
        have T9 := Lib.hid hT9
        have B9 := Lib.hid (B8.out.trans (hbl.mono B8.out.size))
        have S9 := Lib.hid (S8.out.below hbl)
        have D9 := Lib.hid (D8.out.below hbl)
        have P9 := Lib.hid (P8.out.below hbl)
        clear hst ho9 hout9 hT9 hbl
        go_wp2_with fail
        refine (CSM.out _ _ _ D9.out S9.out).mono ?_
        rintro e w10 ⟨rfl, hbl⟩
        have B10 := Lib.hid (B9.out.trans (hbl.mono B9.out.size))
        have S10 := Lib.hid (S9.out.below hbl)
        have P10 := Lib.hid (P9.out.below hbl)
        have T10 := Lib.hid (T9.out.below hbl)
        clear hbl
        go_wp2_with fail
        refine (CSM.out _ _ _ P10.out S10.out).mono ?_
        rintro e w11 ⟨rfl, hbl⟩
        have B11 := Lib.hid (B10.out.trans (hbl.mono B10.out.size))
        have S11 := Lib.hid (S10.out.below hbl)
        have T11 := Lib.hid (T10.out.below hbl)
        clear hbl
        go_wp2_with fail
        refine (CSM.out _ _ _ T11.out S11.out).mono ?_
        rintro e w12 ⟨rfl, hbl⟩
        have B12 := Lib.hid (B11.out.trans (hbl.mono B11.out.size))
        have S12 := Lib.hid (S11.out.below hbl)
        clear hbl
        go_wp2_with fail
        refine (CCH.out _ S12.out).mono ?_
        rintro e w13 ⟨c13, rfl, hck, hbl⟩
        have hc13 := check_set HSET.out hck
        subst hc13
        have B13 := Lib.hid (B12.out.trans (hbl.mono B12.out.size))
        clear hck hbl
        go_wp2
        go_ret
        exact ⟨rfl, B13.out⟩
      · have hcl : ∀ j u, (cellsOf bh)[j]? = some u → w4.cell? (ad.add j) = some u := by
          intro j u hu
          have hj : j < bh.length := by
            have := (List.getElem?_eq_some_iff.1 hu).1
            rw [cellsOf_length] at this
            exact this
          rw [cellsOf_get _ _ hj] at hu
          rw [← Option.some.inj hu]
          exact hcel j hj
        have HCL := Lib.hid hcl
        clear hcl hcel
        go_wp2_with (first
          | (at_builtin; refine wpList_append_own _ rfl (.tmp 42) (.tmp 43) 83 rfl w3.heap.size 5 i0 (.int .u8 0) 1 1 Tryz.underlying83 hi hz0 hz1 hz2 rfl (by decide) (.slice a4 n4 c4) n4 (cellsOf (encL S)) rfl HO4.out ad n2 c2 (cellsOf bh) rfl (by rw [cellsOf_length, HN2.out, Nat.mul_one]) HCL.out (cellsOf_one _) (by unfold maxLen; omega) (by omega) hwS4 ?_; intro v5 w5 hown5 hgr5 hne5
             obtain ⟨g1, g2⟩ := own_grow (ds := encL S) (es := bh) hown5 (by rw [HN4.out, HN2.out]) HOB4.out hgr5 B34.out hwS4
             obtain ⟨a5, c5, rfl, CD⟩ := HREST.out v5 w5 g1 g2
             have CDD := Lib.hid CD
             have B5 := Lib.hid (B3.out.trans (g2.mono B3.out.size))
             have S5 := Lib.hid (KS.out.below g2)
             clear CD hown5 hgr5 hne5 g1 g2)
          | fail)
        go_wp2_with fail
        refine CDD.out.mono ?_
        rintro e w6 ⟨v6, m6, c6, out6, rfl, hd, ho6, hbl⟩
        obtain ⟨hc6, hout6, hm6⟩ := dec_set HSET.out hd
        rw [HN4.out] at hm6
        subst hc6 hm6
        rw [hout6] at ho6
        obtain ⟨a6, c6, rfl, hD6, _⟩ := ho6.labs
        rw [HNS.out]
        have D6 := Lib.hid hD6
        have B6 := Lib.hid (B5.out.trans (hbl.mono B5.out.size))
        have S6 := Lib.hid (S5.out.below hbl)
        clear hd ho6 hout6 hD6 hbl
        go_wp2_with fail
        refine (CP.out _ S6.out).mono ?_
        rintro e w7 ⟨rfl, hbl⟩
        have B7 := Lib.hid (B6.out.trans (hbl.mono B6.out.size))
        have S7 := Lib.hid (S6.out.below hbl)
        have D7 := Lib.hid (D6.out.below hbl)
        clear hbl
        go_wp2_with fail
        refine (CPA.out _).mono ?_
        rintro e w8 ⟨v8, c8, out8, rfl, hst, ho8, hbl⟩
        obtain ⟨hc8, hout8⟩ := set_set HSET.out hst
        subst hc8
        rw [hout8] at ho8
        obtain ⟨a8, c8, rfl, hP8, _⟩ := ho8.labs
        rw [HNS.out]
        have P8 := Lib.hid hP8
        have B8 := Lib.hid (B7.out.trans (hbl.mono B7.out.size))
        have S8 := Lib.hid (S7.out.below hbl)
        have D8 := Lib.hid (D7.out.below hbl)
        clear hst ho8 hout8 hP8 hbl
        go_wp2_with fail
        refine (CS2.out _ S8.out).mono ?_
        rintro e w9 ⟨v9, c9, out9, rfl, hst, ho9, hbl⟩
        obtain ⟨hc9, hout9⟩ := set_set HSET.out hst
        subst hc9
        rw [hout9] at ho9
        obtain ⟨a9, c9, rfl, hT9, _⟩ := ho9.labs
        rw [HNS.out]
        have T9 := Lib.hid hT9
        have B9 := Lib.hid (B8.out.trans (hbl.mono B8.out.size))
        have S9 := Lib.hid (S8.out.below hbl)
        have D9 := Lib.hid (D8.out.below hbl)
        have P9 := Lib.hid (P8.out.below hbl)
        clear hst ho9 hout9 hT9 hbl
        go_wp2_with fail
        refine (CSM.out _ _ _ D9.out S9.out).mono ?_
        rintro e w10 ⟨rfl, hbl⟩
        have B10 := Lib.hid (B9.out.trans (hbl.mono B9.out.size))
        have S10 := Lib.hid (S9.out.below hbl)
        have P10 := Lib.hid (P9.out.below hbl)
        have T10 := Lib.hid (T9.out.below hbl)
        clear hbl
        go_wp2_with fail
        refine (CSM.out _ _ _ P10.out S10.out).mono ?_
        rintro e w11 ⟨rfl, hbl⟩
        have B11 := Lib.hid (B10.out.trans (hbl.mono B10.out.size))
        have S11 := Lib.hid (S10.out.below hbl)
        have T11 := Lib.hid (T10.out.below hbl)
        clear hbl
        go_wp2_with fail
        refine (CSM.out _ _ _ T11.out S11.out).mono ?_
        rintro e w12 ⟨rfl, hbl⟩
        have B12 := Lib.hid (B11.out.trans (hbl.mono B11.out.size))
        have S12 := Lib.hid (S11.out.below hbl)
        clear hbl
        go_wp2_with fail
        refine (CCH.out _ S12.out).mono ?_
        rintro e w13 ⟨c13, rfl, hck, hbl⟩
        have hc13 := check_set HSET.out hck
        subst hc13
        have B13 := Lib.hid (B12.out.trans (hbl.mono B12.out.size))
        clear hck hbl
        go_wp2
        go_ret
        exact ⟨rfl, B13.out⟩
    · have t1 : ((c3 : Int) == 0) = false := by simp; omega
      have t2 : ¬ ((c3 : Int) = 0) := by omega
      have t3 : ¬ (c3 = 0) := h0
      clear hs ho
      go_wp2
      go_ret
      exact ⟨rfl, B3.out⟩
end Go.Proofs.YtiolghcjndoigaaGreatDoor
