/-
  WALKS: the document's own reading of a time with a sign.
-/
import Derived.Test.YthhlhiighgnkmaaGreatDoorTiK
namespace Go.Proofs.YthhlhiighgnkmaaGreatDoor
set_option linter.unusedVariables false
set_option linter.unusedSimpArgs false
open Go.RowKit Go.PlainAid
set_option maxRecDepth 100000 in
set_option maxHeartbeats 2000000 in
theorem rtime_neg (bs : List Nat) (hB : IsB bs) (hl : bs.length ≤ 30000) (h45 : bs[0]? = some 45) (w : World) : Calls Tryz.prog 25 #[.string (strOf bs)] w (Gives w (tvalR (refT (bs.drop 1) true bs.length))) := by
  have hsz := strOf_size bs
  have hbt := get_bt (strOf bs)
  obtain ⟨hlt, hce⟩ := List.getElem?_eq_some_iff.1 h45
  have hb00 := strOf_bt bs hB 0 hlt
  rw [hce] at hb00
  have hlen := List.length_drop (i := 1) (l := bs)
  have hxd : (strOf bs).extract 1 bs.length = strOf (bs.drop 1) := by
    have h := extract_strOf bs (bs.drop 1) 1 _ rfl (fun k c hk => by rw [List.getElem?_drop] at hk; exact hk)
    rw [hlen, show 1 + (bs.length - 1) = bs.length by omega] at h
    exact h
  have hBT := drop_isB hB 1
  obtain ⟨ts, hts⟩ : ∃ ts, bs.drop 1 = ts := ⟨_, rfl⟩
  rw [hts] at hxd hBT hlen ⊢
  obtain ⟨neg, hneg⟩ : ∃ neg, neg = true := ⟨_, rfl⟩
  rw [← hneg]
  obtain ⟨L, hLL⟩ : ∃ L, bs.length = L := ⟨_, rfl⟩
  rw [hLL] at hsz hxd hlen hlt hl
  rw [hLL]
  have hl' : ts.length ≤ 30000 := by omega
  have hszT := strOf_size ts
  have hbtT := get_bt (strOf ts)
  have CR0 := Lib.hid (fun w => rrun_any ts 0 hBT (by omega) (Nat.zero_le _) w)
  have CB0 := Lib.hid (fun w => rbounded_any (digs ts 0) digs_mem (by have := digs_le (bs := ts) (p := 0) (Nat.zero_le _); omega) w)
  have hx0 := extract_strOf ts (digs ts 0) 0 _ rfl (fun k c hk => (tw_get hk).1)
  rw [Nat.zero_add] at hx0
  have hnT := digs_le (bs := ts) (p := 0) (Nat.zero_le _)
  rw [Nat.zero_add] at hnT
  have CR1 := Lib.hid (fun (h : (digs ts 0).length + 1 ≤ ts.length) w => rrun_any ts ((digs ts 0).length + 1) hBT (by omega) h w)
  have CB1 := Lib.hid (fun (h : (digs ts 0).length + 1 ≤ ts.length) w => rbounded_any (digs ts ((digs ts 0).length + 1)) digs_mem (by have := digs_le h; omega) w)
  have hx1 := extract_strOf ts (digs ts ((digs ts 0).length + 1)) ((digs ts 0).length + 1) _ rfl (fun k c hk => (tw_get hk).1)
  have HK1 := Lib.hid (fun (h : (digs ts 0).length + 1 ≤ ts.length) => digs_le h)
  have HAT := Lib.hid (fun (h : (digs ts 0).length < ts.length) => show ∃ c : Nat, ts[(digs ts 0).length]? = some c ∧ bt (strOf ts) (digs ts 0).length = (c : Int) ∧ c < 256 by
    have h6 := strOf_bt ts hBT _ h
    exact ⟨_, List.getElem?_eq_getElem h, h6, at_isB hBT (List.getElem?_eq_getElem h)⟩)
  have HBAD := Lib.hid (fun h => refT_bad (ts := ts) (neg := neg) (L := L) h)
  have HGOOD := Lib.hid (fun h1 h3 => refT_good (ts := ts) (neg := neg) (L := L) h1 h3)
  have HF46 := Lib.hid (show ts[(digs ts 0).length]? = some 46 → fracR ts (digs ts 0).length = thouR ts ((digs ts 0).length + 1) from fun h => if_pos h)
  have HFN := Lib.hid (show ts[(digs ts 0).length]? ≠ some 46 → fracR ts (digs ts 0).length = some (0, (digs ts 0).length) from fun h => if_neg h)
  have HTH := Lib.hid (thouR_eq ts ((digs ts 0).length + 1))
  have HDL := Lib.hid (decV_lt 0 (digs ts ((digs ts 0).length + 1)) digs_mem)
  have HNL := Lib.hid (show ts.length ≤ (digs ts 0).length → ts[(digs ts 0).length]? = none from fun h => List.getElem?_eq_none_iff.2 h)
  obtain ⟨RV, hRV⟩ : ∃ v, refT ts neg L = v := ⟨_, rfl⟩
  rw [hRV] at HBAD HGOOD
  rw [hRV]
  obtain ⟨n, hn⟩ : ∃ n, (digs ts 0).length = n := ⟨_, rfl⟩
  obtain ⟨V, hV⟩ : ∃ V, decV 0 (digs ts 0) = V := ⟨_, rfl⟩
  rw [hn] at CR0 hx0 hnT hx1
  simp only [hn] at CR1 CB1 HK1 HAT HGOOD HF46 HFN HTH HDL HNL HBAD
  rw [hV] at CB0
  simp only [hV] at HBAD HGOOD
  unfold bndV at CB0
  obtain ⟨D, hD⟩ : ∃ D, strOf (digs ts 0) = D := ⟨_, rfl⟩
  rw [hD] at CB0 hx0
  obtain ⟨n1, hn1⟩ : ∃ m, n + 1 = m := ⟨_, rfl⟩
  simp only [hn1] at CR1 CB1 HK1 hx1 HF46 HTH HDL
  obtain ⟨k, hk⟩ : ∃ m, (digs ts n1).length = m := ⟨_, rfl⟩
  obtain ⟨W, hW⟩ : ∃ m, decV 0 (digs ts n1) = m := ⟨_, rfl⟩
  simp only [hk] at CR1 HK1 hx1 HTH HDL
  simp only [hW] at CB1 HTH HDL
  obtain ⟨D1, hD1⟩ : ∃ D, strOf (digs ts n1) = D := ⟨_, rfl⟩
  simp only [hD1] at CB1 hx1
  unfold bndV at CB1
  obtain ⟨q1, hq1⟩ : ∃ m, n1 + k = m := ⟨_, rfl⟩
  rw [hq1] at hx1
  obtain ⟨T, hT⟩ : ∃ T, ts.length = T := ⟨_, rfl⟩
  rw [hT] at hszT hnT
  simp only [hT] at CR1 CB1 HK1 HAT HNL
  have HTT := Lib.hid hT
  have en1 : IntKind.i64.wrap ((n : Int) + 1) = (n1 : Int) := by rw [IntKind.wrap_i64]; omega
  have HN1 := Lib.hid hn1
  have HQ1 := Lib.hid hq1
  obtain ⟨B, hBn⟩ : ∃ B, (if V ≤ 9007199254740992 then V else 0) = B := ⟨_, rfl⟩
  obtain ⟨F, hF⟩ : ∃ F, decide (V ≤ 9007199254740992) = F := ⟨_, rfl⟩
  rw [hBn, hF] at CB0
  have hn_T : (n : Int) ≤ (T : Int) := by omega
  have hn_0 : (0 : Int) ≤ (n : Int) := by omega
  have hst0 : (0 : Int) < (L : Int) := by omega
  have s1 : decide ((L : Int) > 0) = true := decide_eq_true hst0
  have s2 : decide ((0 : Int) < (L : Int)) = true := decide_eq_true hst0
  have s3 : decide (0 < L) = true := decide_eq_true hlt
  have hst1 : (1 : Int) ≤ (L : Int) := by omega
  obtain ⟨S0, hS0⟩ : ∃ S, strOf bs = S := ⟨_, rfl⟩
  rw [hS0] at hsz hbt hb00 hxd ⊢
  clear hS0 hLL hB h45 hce hlt hts hlen
  by_cases c0 : n = 0
  · have n0 : ((n : Int) == 0) = true := by simp; omega
    have HV := Lib.hid (HBAD.out (.inl c0))
    clear c0 hBn hF hn hV hD hn1 hk hW hD1 hq1 hT hRV hBT
    go_enter Tryz.func25, Tryz.ntmps25
    go_wp2_with fail
    refine (CR0.out _).mono ?_
    rintro e w1 ⟨rfl, hb⟩
    have B1 := Lib.hid hb
    clear hb
    go_wp2_with fail
    refine (CB0.out _).mono ?_
    rintro e w2 ⟨rfl, hb⟩
    have B2 := Lib.hid (B1.out.trans (hb.mono B1.out.size))
    clear hb
    go_wp2
    go_ret2
    rw [HV.out]
    exact ⟨rfl, B2.out⟩
  have n0 : ((n : Int) == 0) = false := by simp; omega
  by_cases c1 : V ≤ 9007199254740992
  · rw [if_pos c1] at hBn
    rw [decide_eq_true c1] at hF
    subst hBn hF
    by_cases c2 : 9007199254740 < V
    · 
      have ga : decide ((V : Int) > 9007199254740) = true := decide_eq_true (by omega)
      have gb : decide ((9007199254740 : Int) < (V : Int)) = true := decide_eq_true (by omega)
      have gc : decide (9007199254740 < V) = true := decide_eq_true (by omega)
      have HV := Lib.hid (HBAD.out (.inr (.inl c2)))
      clear c0 c1 c2 hn hV hD hn1 hk hW hD1 hq1 hT hRV hBT
      go_enter Tryz.func25, Tryz.ntmps25
      go_wp2_with fail
      refine (CR0.out _).mono ?_
      rintro e w1 ⟨rfl, hb⟩
      have B1 := Lib.hid hb
      clear hb
      go_wp2_with fail
      refine (CB0.out _).mono ?_
      rintro e w2 ⟨rfl, hb⟩
      have B2 := Lib.hid (B1.out.trans (hb.mono B1.out.size))
      clear hb
      go_wp2
      go_ret2
      rw [HV.out]
      exact ⟨rfl, B2.out⟩
    · 
      have ga : decide ((V : Int) > 9007199254740) = false := decide_eq_false (by omega)
      have gb : decide ((9007199254740 : Int) < (V : Int)) = false := decide_eq_false (by omega)
      have gc : decide (9007199254740 < V) = false := decide_eq_false (by omega)
      by_cases c3 : 100 < L
      · 
        have la : decide ((L : Int) > 100) = true := decide_eq_true (by omega)
        have lb : decide ((100 : Int) < (L : Int)) = true := decide_eq_true (by omega)
        have lc : decide (100 < L) = true := decide_eq_true (by omega)
        have HV := Lib.hid (HBAD.out (.inr (.inr c3)))
        clear c0 c1 c2 c3 hn hV hD hn1 hk hW hD1 hq1 hT hRV hBT
        go_enter Tryz.func25, Tryz.ntmps25
        go_wp2_with fail
        refine (CR0.out _).mono ?_
        rintro e w1 ⟨rfl, hb⟩
        have B1 := Lib.hid hb
        clear hb
        go_wp2_with fail
        refine (CB0.out _).mono ?_
        rintro e w2 ⟨rfl, hb⟩
        have B2 := Lib.hid (B1.out.trans (hb.mono B1.out.size))
        clear hb
        go_wp2
        go_ret2
        rw [HV.out]
        exact ⟨rfl, B2.out⟩
      · 
        have la : decide ((L : Int) > 100) = false := decide_eq_false (by omega)
        have lb : decide ((100 : Int) < (L : Int)) = false := decide_eq_false (by omega)
        have lc : decide (100 < L) = false := decide_eq_false (by omega)
        have HG := Lib.hid (HGOOD.out c0 c3)
        obtain ⟨M, hM⟩ : ∃ M, V * 1000 = M := ⟨_, rfl⟩
        have eM : (1000 * (V : Int)) = (M : Int) := by omega
        have eM2 : IntKind.i64.wrap (M : Int) = (M : Int) := by rw [IntKind.wrap_i64]; omega
        have hMb : M ≤ 9007199254740000 := by omega
        have HM := Lib.hid hM
        by_cases c4 : n < T
        · 
          have ta : decide ((n : Int) < (T : Int)) = true := decide_eq_true (by omega)
          have tc : decide (n < T) = true := decide_eq_true (by omega)
          have h1T : n1 ≤ T := by omega
          obtain ⟨c, hcc, hbv, h256⟩ := HAT.out c4
          have CR2 := Lib.hid (CR1.out h1T)
          have CB2 := Lib.hid (CB1.out h1T)
          have hkT := HK1.out h1T
          rw [hq1] at hkT
          have eq1 : IntKind.i64.wrap ((n1 : Int) + (k : Int)) = (q1 : Int) := by rw [IntKind.wrap_i64]; omega
          have hnTi : (n : Int) < (T : Int) := by omega
          have hq1T : (q1 : Int) ≤ (T : Int) := by omega
          have hn1q : (n1 : Int) ≤ (q1 : Int) := by omega
          by_cases c5 : c = 46
          · have f46 : ((c : Int) != 46) = false := by simp; omega
            have HFR := Lib.hid (HF46.out (by rw [hcc, c5]))
            by_cases k0 : k < 1
            · 
              have k0a : decide ((k : Int) < (1 : Int)) = true := decide_eq_true (by omega)
              have k0c : decide (k < 1) = true := decide_eq_true (by omega)
              have HV := Lib.hid (show RV = none by rw [HG.out, HFR.out, HTH.out, if_neg (by omega), if_neg (by omega), if_neg (by omega)]; exact (show endR ts neg (sumR V none) = none from rfl))
              clear c5 k0 c0 c1 c2 c3 c4 hM hn hV hD hn1 hk hW hD1 hq1 hT hRV hBT
              go_enter Tryz.func25, Tryz.ntmps25
              go_wp2_with fail
              refine (CR0.out _).mono ?_
              rintro e w1 ⟨rfl, hb⟩
              have B1 := Lib.hid hb
              clear hb
              go_wp2_with fail
              refine (CB0.out _).mono ?_
              rintro e w2 ⟨rfl, hb⟩
              have B2 := Lib.hid (B1.out.trans (hb.mono B1.out.size))
              clear hb
              go_wp2_with fail
              refine (CR2.out _).mono ?_
              rintro e w3 ⟨rfl, hb⟩
              have B3 := Lib.hid (B2.out.trans (hb.mono B2.out.size))
              clear hb
              go_wp2
              go_ret2
              rw [HV.out]
              exact ⟨rfl, B3.out⟩
            by_cases k4 : 3 < k
            · 
              have k0a : decide ((k : Int) < (1 : Int)) = false := decide_eq_false (by omega)
              have k0c : decide (k < 1) = false := decide_eq_false (by omega)
              have k3a : decide ((k : Int) > 3) = true := decide_eq_true (by omega)
              have k3b : decide ((3 : Int) < (k : Int)) = true := decide_eq_true (by omega)
              have k3c : decide (3 < k) = true := decide_eq_true (by omega)
              have HV := Lib.hid (show RV = none by rw [HG.out, HFR.out, HTH.out, if_neg (by omega), if_neg (by omega), if_neg (by omega)]; exact (show endR ts neg (sumR V none) = none from rfl))
              clear c5 k0 k4 c0 c1 c2 c3 c4 hM hn hV hD hn1 hk hW hD1 hq1 hT hRV hBT
              go_enter Tryz.func25, Tryz.ntmps25
              go_wp2_with fail
              refine (CR0.out _).mono ?_
              rintro e w1 ⟨rfl, hb⟩
              have B1 := Lib.hid hb
              clear hb
              go_wp2_with fail
              refine (CB0.out _).mono ?_
              rintro e w2 ⟨rfl, hb⟩
              have B2 := Lib.hid (B1.out.trans (hb.mono B1.out.size))
              clear hb
              go_wp2_with fail
              refine (CR2.out _).mono ?_
              rintro e w3 ⟨rfl, hb⟩
              have B3 := Lib.hid (B2.out.trans (hb.mono B2.out.size))
              clear hb
              go_wp2
              go_ret2
              rw [HV.out]
              exact ⟨rfl, B3.out⟩
            have k0a : decide ((k : Int) < (1 : Int)) = false := decide_eq_false (by omega)
            have k0c : decide (k < 1) = false := decide_eq_false (by omega)
            have k3a : decide ((k : Int) > 3) = false := decide_eq_false (by omega)
            have k3b : decide ((3 : Int) < (k : Int)) = false := decide_eq_false (by omega)
            have k3c : decide (3 < k) = false := decide_eq_false (by omega)
            by_cases k5 : q1 = T
            · have f5 : ((q1 : Int) != (T : Int)) = false := by simp; omega
              have hWlt := HDL.out
              have hkk : k = 1 ∨ k = 2 ∨ k = 3 := by omega
              rcases hkk with rfl | rfl | rfl
              · have eq1' : IntKind.i64.wrap ((n1 : Int) + 1) = (q1 : Int) := by simpa using eq1
                clear eq1
                have hWb : W < 10 := by have h := hWlt; simp at h; exact h
                obtain ⟨X, hX⟩ : ∃ X, W * 100 = X := ⟨_, rfl⟩
                obtain ⟨Y, hY⟩ : ∃ Y, 10 * W = Y := ⟨_, rfl⟩
                have y1 : (10 * (W : Int)) = (Y : Int) := by omega
                have y2 : IntKind.i64.wrap (Y : Int) = (Y : Int) := by rw [IntKind.wrap_i64]; omega
                have x1 : (10 * (Y : Int)) = (X : Int) := by omega
                have x2 : IntKind.i64.wrap (X : Int) = (X : Int) := by rw [IntKind.wrap_i64]; omega
                have hbW : (if W ≤ 9007199254740992 then W else 0) = W := if_pos (by omega)
                have hbW2 : decide (W ≤ 9007199254740992) = true := decide_eq_true (by omega)
                have CB3 := CB2.out
                rw [hbW, hbW2] at CB3
                have CB4 := Lib.hid CB3
                obtain ⟨Z, hZ⟩ : ∃ Z, M + X = Z := ⟨_, rfl⟩
                have z1 : IntKind.i64.wrap ((M : Int) + (X : Int)) = (Z : Int) := by rw [IntKind.wrap_i64]; omega
                have zn : IntKind.i64.wrap (-(Z : Int)) = -(Z : Int) := by rw [IntKind.wrap_i64]; omega
                have HGR := Lib.hid (show RV = endR ts neg (sumR V (some (W * 100, n1 + 1))) by rw [HG.out, HFR.out, HTH.out, if_pos rfl])
                by_cases c7 : 9007199254740992 < Z
                · 
                  have za : decide ((Z : Int) > 9007199254740992) = true := decide_eq_true (by omega)
                  have zb : decide ((9007199254740992 : Int) < (Z : Int)) = true := decide_eq_true (by omega)
                  have zc : decide (9007199254740992 < Z) = true := decide_eq_true (by omega)
                  have HV := Lib.hid (show RV = none by
                    rw [HGR.out, hX, show sumR V (some (X, n1 + 1)) = none from if_neg (by omega)]; rfl)
                  clear c5 k0 k4 k5 hWlt hWb hX hY hbW hbW2 CB3 hZ c7 hkT h1T hMb c0 c1 c2 c3 c4 hM hn hV hD hn1 hk hW hD1 hq1 hT hRV hBT hneg hcc h256
                  go_enter Tryz.func25, Tryz.ntmps25
                  go_wp2_with fail
                  refine (CR0.out _).mono ?_
                  rintro e w1 ⟨rfl, hb⟩
                  have B1 := Lib.hid hb
                  clear hb
                  go_wp2_with fail
                  refine (CB0.out _).mono ?_
                  rintro e w2 ⟨rfl, hb⟩
                  have B2 := Lib.hid (B1.out.trans (hb.mono B1.out.size))
                  clear hb
                  go_wp2_with fail
                  refine (CR2.out _).mono ?_
                  rintro e w3 ⟨rfl, hb⟩
                  have B3 := Lib.hid (B2.out.trans (hb.mono B2.out.size))
                  clear hb
                  go_wp2_with fail
                  refine (CB4.out _).mono ?_
                  rintro e w4 ⟨rfl, hb⟩
                  have B4 := Lib.hid (B3.out.trans (hb.mono B3.out.size))
                  clear hb
                  go_wp2
                  refine wp_loop_rounds 3 ?_
                  rw [rounds_succ]
                  go_wp2
                  rw [rounds_succ]
                  go_wp2
                  rw [rounds_succ]
                  go_wp2
                  go_ret2
                  rw [HV.out]
                  exact ⟨rfl, B4.out⟩
                · 
                  have za : decide ((Z : Int) > 9007199254740992) = false := decide_eq_false (by omega)
                  have zb : decide ((9007199254740992 : Int) < (Z : Int)) = false := decide_eq_false (by omega)
                  have zc : decide (9007199254740992 < Z) = false := decide_eq_false (by omega)
                  have HV := Lib.hid (show RV = some (-(Z : Int)) by
                    rw [HGR.out, hX, show sumR V (some (X, n1 + 1)) = some (Z, n1 + 1) by (rw [← hZ, ← hM, Nat.add_comm (V * 1000)]; exact if_pos (by omega)), hneg]
                    exact if_pos (by rw [HTT.out]; omega))
                  clear c5 k0 k4 k5 hWlt hWb hX hY hbW hbW2 CB3 hZ c7 hkT h1T hMb c0 c1 c2 c3 c4 hM hn hV hD hn1 hk hW hD1 hq1 hT hRV hBT hneg hcc h256
                  go_enter Tryz.func25, Tryz.ntmps25
                  go_wp2_with fail
                  refine (CR0.out _).mono ?_
                  rintro e w1 ⟨rfl, hb⟩
                  have B1 := Lib.hid hb
                  clear hb
                  go_wp2_with fail
                  refine (CB0.out _).mono ?_
                  rintro e w2 ⟨rfl, hb⟩
                  have B2 := Lib.hid (B1.out.trans (hb.mono B1.out.size))
                  clear hb
                  go_wp2_with fail
                  refine (CR2.out _).mono ?_
                  rintro e w3 ⟨rfl, hb⟩
                  have B3 := Lib.hid (B2.out.trans (hb.mono B2.out.size))
                  clear hb
                  go_wp2_with fail
                  refine (CB4.out _).mono ?_
                  rintro e w4 ⟨rfl, hb⟩
                  have B4 := Lib.hid (B3.out.trans (hb.mono B3.out.size))
                  clear hb
                  go_wp2
                  refine wp_loop_rounds 3 ?_
                  rw [rounds_succ]
                  go_wp2
                  rw [rounds_succ]
                  go_wp2
                  rw [rounds_succ]
                  go_wp2
                  go_ret2
                  rw [HV.out]
                  exact ⟨rfl, B4.out⟩
              · have eq1' : IntKind.i64.wrap ((n1 : Int) + 2) = (q1 : Int) := by simpa using eq1
                clear eq1
                have hWb : W < 100 := by have h := hWlt; simp at h; exact h
                obtain ⟨X, hX⟩ : ∃ X, W * 10 = X := ⟨_, rfl⟩
                have x1 : (10 * (W : Int)) = (X : Int) := by omega
                have x2 : IntKind.i64.wrap (X : Int) = (X : Int) := by rw [IntKind.wrap_i64]; omega
                have hbW : (if W ≤ 9007199254740992 then W else 0) = W := if_pos (by omega)
                have hbW2 : decide (W ≤ 9007199254740992) = true := decide_eq_true (by omega)
                have CB3 := CB2.out
                rw [hbW, hbW2] at CB3
                have CB4 := Lib.hid CB3
                obtain ⟨Z, hZ⟩ : ∃ Z, M + X = Z := ⟨_, rfl⟩
                have z1 : IntKind.i64.wrap ((M : Int) + (X : Int)) = (Z : Int) := by rw [IntKind.wrap_i64]; omega
                have zn : IntKind.i64.wrap (-(Z : Int)) = -(Z : Int) := by rw [IntKind.wrap_i64]; omega
                have HGR := Lib.hid (show RV = endR ts neg (sumR V (some (W * 10, n1 + 2))) by rw [HG.out, HFR.out, HTH.out, if_neg (by decide), if_pos rfl])
                by_cases c7 : 9007199254740992 < Z
                · 
                  have za : decide ((Z : Int) > 9007199254740992) = true := decide_eq_true (by omega)
                  have zb : decide ((9007199254740992 : Int) < (Z : Int)) = true := decide_eq_true (by omega)
                  have zc : decide (9007199254740992 < Z) = true := decide_eq_true (by omega)
                  have HV := Lib.hid (show RV = none by
                    rw [HGR.out, hX, show sumR V (some (X, n1 + 2)) = none from if_neg (by omega)]; rfl)
                  clear c5 k0 k4 k5 hWlt hWb hX  hbW hbW2 CB3 hZ c7 hkT h1T hMb c0 c1 c2 c3 c4 hM hn hV hD hn1 hk hW hD1 hq1 hT hRV hBT hneg hcc h256
                  go_enter Tryz.func25, Tryz.ntmps25
                  go_wp2_with fail
                  refine (CR0.out _).mono ?_
                  rintro e w1 ⟨rfl, hb⟩
                  have B1 := Lib.hid hb
                  clear hb
                  go_wp2_with fail
                  refine (CB0.out _).mono ?_
                  rintro e w2 ⟨rfl, hb⟩
                  have B2 := Lib.hid (B1.out.trans (hb.mono B1.out.size))
                  clear hb
                  go_wp2_with fail
                  refine (CR2.out _).mono ?_
                  rintro e w3 ⟨rfl, hb⟩
                  have B3 := Lib.hid (B2.out.trans (hb.mono B2.out.size))
                  clear hb
                  go_wp2_with fail
                  refine (CB4.out _).mono ?_
                  rintro e w4 ⟨rfl, hb⟩
                  have B4 := Lib.hid (B3.out.trans (hb.mono B3.out.size))
                  clear hb
                  go_wp2
                  refine wp_loop_rounds 2 ?_
                  rw [rounds_succ]
                  go_wp2
                  rw [rounds_succ]
                  go_wp2
                  go_ret2
                  rw [HV.out]
                  exact ⟨rfl, B4.out⟩
                · 
                  have za : decide ((Z : Int) > 9007199254740992) = false := decide_eq_false (by omega)
                  have zb : decide ((9007199254740992 : Int) < (Z : Int)) = false := decide_eq_false (by omega)
                  have zc : decide (9007199254740992 < Z) = false := decide_eq_false (by omega)
                  have HV := Lib.hid (show RV = some (-(Z : Int)) by
                    rw [HGR.out, hX, show sumR V (some (X, n1 + 2)) = some (Z, n1 + 2) by (rw [← hZ, ← hM, Nat.add_comm (V * 1000)]; exact if_pos (by omega)), hneg]
                    exact if_pos (by rw [HTT.out]; omega))
                  clear c5 k0 k4 k5 hWlt hWb hX  hbW hbW2 CB3 hZ c7 hkT h1T hMb c0 c1 c2 c3 c4 hM hn hV hD hn1 hk hW hD1 hq1 hT hRV hBT hneg hcc h256
                  go_enter Tryz.func25, Tryz.ntmps25
                  go_wp2_with fail
                  refine (CR0.out _).mono ?_
                  rintro e w1 ⟨rfl, hb⟩
                  have B1 := Lib.hid hb
                  clear hb
                  go_wp2_with fail
                  refine (CB0.out _).mono ?_
                  rintro e w2 ⟨rfl, hb⟩
                  have B2 := Lib.hid (B1.out.trans (hb.mono B1.out.size))
                  clear hb
                  go_wp2_with fail
                  refine (CR2.out _).mono ?_
                  rintro e w3 ⟨rfl, hb⟩
                  have B3 := Lib.hid (B2.out.trans (hb.mono B2.out.size))
                  clear hb
                  go_wp2_with fail
                  refine (CB4.out _).mono ?_
                  rintro e w4 ⟨rfl, hb⟩
                  have B4 := Lib.hid (B3.out.trans (hb.mono B3.out.size))
                  clear hb
                  go_wp2
                  refine wp_loop_rounds 2 ?_
                  rw [rounds_succ]
                  go_wp2
                  rw [rounds_succ]
                  go_wp2
                  go_ret2
                  rw [HV.out]
                  exact ⟨rfl, B4.out⟩
              · have eq1' : IntKind.i64.wrap ((n1 : Int) + 3) = (q1 : Int) := by simpa using eq1
                clear eq1
                have hWb : W < 1000 := by have h := hWlt; simp at h; exact h
                have hbW : (if W ≤ 9007199254740992 then W else 0) = W := if_pos (by omega)
                have hbW2 : decide (W ≤ 9007199254740992) = true := decide_eq_true (by omega)
                have CB3 := CB2.out
                rw [hbW, hbW2] at CB3
                have CB4 := Lib.hid CB3
                obtain ⟨Z, hZ⟩ : ∃ Z, M + W = Z := ⟨_, rfl⟩
                have z1 : IntKind.i64.wrap ((M : Int) + (W : Int)) = (Z : Int) := by rw [IntKind.wrap_i64]; omega
                have zn : IntKind.i64.wrap (-(Z : Int)) = -(Z : Int) := by rw [IntKind.wrap_i64]; omega
                have HGR := Lib.hid (show RV = endR ts neg (sumR V (some (W, n1 + 3))) by rw [HG.out, HFR.out, HTH.out, if_neg (by decide), if_neg (by decide), if_pos rfl])
                by_cases c7 : 9007199254740992 < Z
                · 
                  have za : decide ((Z : Int) > 9007199254740992) = true := decide_eq_true (by omega)
                  have zb : decide ((9007199254740992 : Int) < (Z : Int)) = true := decide_eq_true (by omega)
                  have zc : decide (9007199254740992 < Z) = true := decide_eq_true (by omega)
                  have HV := Lib.hid (show RV = none by
                    rw [HGR.out, show sumR V (some (W, n1 + 3)) = none from if_neg (by omega)]; rfl)
                  clear c5 k0 k4 k5 hWlt hWb   hbW hbW2 CB3 hZ c7 hkT h1T hMb c0 c1 c2 c3 c4 hM hn hV hD hn1 hk hW hD1 hq1 hT hRV hBT hneg hcc h256
                  go_enter Tryz.func25, Tryz.ntmps25
                  go_wp2_with fail
                  refine (CR0.out _).mono ?_
                  rintro e w1 ⟨rfl, hb⟩
                  have B1 := Lib.hid hb
                  clear hb
                  go_wp2_with fail
                  refine (CB0.out _).mono ?_
                  rintro e w2 ⟨rfl, hb⟩
                  have B2 := Lib.hid (B1.out.trans (hb.mono B1.out.size))
                  clear hb
                  go_wp2_with fail
                  refine (CR2.out _).mono ?_
                  rintro e w3 ⟨rfl, hb⟩
                  have B3 := Lib.hid (B2.out.trans (hb.mono B2.out.size))
                  clear hb
                  go_wp2_with fail
                  refine (CB4.out _).mono ?_
                  rintro e w4 ⟨rfl, hb⟩
                  have B4 := Lib.hid (B3.out.trans (hb.mono B3.out.size))
                  clear hb
                  go_wp2
                  refine wp_loop_rounds 1 ?_
                  rw [rounds_succ]
                  go_wp2
                  go_ret2
                  rw [HV.out]
                  exact ⟨rfl, B4.out⟩
                · 
                  have za : decide ((Z : Int) > 9007199254740992) = false := decide_eq_false (by omega)
                  have zb : decide ((9007199254740992 : Int) < (Z : Int)) = false := decide_eq_false (by omega)
                  have zc : decide (9007199254740992 < Z) = false := decide_eq_false (by omega)
                  have HV := Lib.hid (show RV = some (-(Z : Int)) by
                    rw [HGR.out, show sumR V (some (W, n1 + 3)) = some (Z, n1 + 3) by (rw [← hZ, ← hM, Nat.add_comm (V * 1000)]; exact if_pos (by omega)), hneg]
                    exact if_pos (by rw [HTT.out]; omega))
                  clear c5 k0 k4 k5 hWlt hWb   hbW hbW2 CB3 hZ c7 hkT h1T hMb c0 c1 c2 c3 c4 hM hn hV hD hn1 hk hW hD1 hq1 hT hRV hBT hneg hcc h256
                  go_enter Tryz.func25, Tryz.ntmps25
                  go_wp2_with fail
                  refine (CR0.out _).mono ?_
                  rintro e w1 ⟨rfl, hb⟩
                  have B1 := Lib.hid hb
                  clear hb
                  go_wp2_with fail
                  refine (CB0.out _).mono ?_
                  rintro e w2 ⟨rfl, hb⟩
                  have B2 := Lib.hid (B1.out.trans (hb.mono B1.out.size))
                  clear hb
                  go_wp2_with fail
                  refine (CR2.out _).mono ?_
                  rintro e w3 ⟨rfl, hb⟩
                  have B3 := Lib.hid (B2.out.trans (hb.mono B2.out.size))
                  clear hb
                  go_wp2_with fail
                  refine (CB4.out _).mono ?_
                  rintro e w4 ⟨rfl, hb⟩
                  have B4 := Lib.hid (B3.out.trans (hb.mono B3.out.size))
                  clear hb
                  go_wp2
                  refine wp_loop_rounds 1 ?_
                  rw [rounds_succ]
                  go_wp2
                  go_ret2
                  rw [HV.out]
                  exact ⟨rfl, B4.out⟩
            · have f5 : ((q1 : Int) != (T : Int)) = true := by simp; omega
              have HVV : RV = none := by
                have hkk : k = 1 ∨ k = 2 ∨ k = 3 := by omega
                have hne : ∀ x, endR ts neg (sumR V (some (x, n1 + k))) = none := fun x => by
                  show endR ts neg (if x + V * 1000 ≤ 9007199254740992 then some (x + V * 1000, n1 + k) else none) = none
                  by_cases h : x + V * 1000 ≤ 9007199254740992
                  · rw [if_pos h]; exact if_neg (by rw [HTT.out]; omega)
                  · rw [if_neg h]; rfl
                rw [HG.out, HFR.out, HTH.out]
                rcases hkk with rfl | rfl | rfl
                · rw [if_pos rfl]; exact hne _
                · rw [if_neg (by decide), if_pos rfl]; exact hne _
                · rw [if_neg (by decide), if_neg (by decide), if_pos rfl]; exact hne _
              have HV := Lib.hid HVV
              clear HVV c5 k0 k4 k5 c0 c1 c2 c3 c4 hM hn hV hD hn1 hk hW hD1 hq1 hT hRV hBT
              go_enter Tryz.func25, Tryz.ntmps25
              go_wp2_with fail
              refine (CR0.out _).mono ?_
              rintro e w1 ⟨rfl, hb⟩
              have B1 := Lib.hid hb
              clear hb
              go_wp2_with fail
              refine (CB0.out _).mono ?_
              rintro e w2 ⟨rfl, hb⟩
              have B2 := Lib.hid (B1.out.trans (hb.mono B1.out.size))
              clear hb
              go_wp2_with fail
              refine (CR2.out _).mono ?_
              rintro e w3 ⟨rfl, hb⟩
              have B3 := Lib.hid (B2.out.trans (hb.mono B2.out.size))
              clear hb
              go_wp2
              go_ret2
              rw [HV.out]
              exact ⟨rfl, B3.out⟩
          · have f46 : ((c : Int) != 46) = true := by simp; omega
            have HVV : RV = none := by
              rw [HG.out, HFN.out (by rw [hcc]; simpa using c5)]
              show endR ts neg (if 0 + V * 1000 ≤ 9007199254740992 then some (0 + V * 1000, n) else none) = none
              by_cases h : 0 + V * 1000 ≤ 9007199254740992
              · rw [if_pos h]; exact if_neg (by rw [HTT.out]; omega)
              · rw [if_neg h]; rfl
            have HV := Lib.hid HVV
            clear HVV c5 c0 c1 c2 c3 c4 hM hn hV hD hn1 hk hW hD1 hq1 hT hRV hBT
            go_enter Tryz.func25, Tryz.ntmps25
            go_wp2_with fail
            refine (CR0.out _).mono ?_
            rintro e w1 ⟨rfl, hb⟩
            have B1 := Lib.hid hb
            clear hb
            go_wp2_with fail
            refine (CB0.out _).mono ?_
            rintro e w2 ⟨rfl, hb⟩
            have B2 := Lib.hid (B1.out.trans (hb.mono B1.out.size))
            clear hb
            go_wp2_with fail
            refine (CR2.out _).mono ?_
            rintro e w3 ⟨rfl, hb⟩
            have B3 := Lib.hid (B2.out.trans (hb.mono B2.out.size))
            clear hb
            go_wp2
            go_ret2
            rw [HV.out]
            exact ⟨rfl, B3.out⟩
        · 
          have ta : decide ((n : Int) < (T : Int)) = false := decide_eq_false (by omega)
          have tc : decide (n < T) = false := decide_eq_false (by omega)
          have za : decide ((M : Int) > 9007199254740992) = false := decide_eq_false (by omega)
          have zb : decide ((9007199254740992 : Int) < (M : Int)) = false := decide_eq_false (by omega)
          have zc : decide (9007199254740992 < M) = false := decide_eq_false (by omega)
          have zn : IntKind.i64.wrap (-(M : Int)) = -(M : Int) := by rw [IntKind.wrap_i64]; omega
          have HV := Lib.hid (show RV = some (-(M : Int)) by
            rw [HG.out, HFN.out (by rw [HNL.out (by omega)]; simp), show sumR V (some (0, n)) = some (M, n) by (rw [← hM]; show (if 0 + V * 1000 ≤ 9007199254740992 then some (0 + V * 1000, n) else none) = _; rw [Nat.zero_add]; exact if_pos (by omega)), hneg]
            exact if_pos (by rw [HTT.out]; omega))
          clear hneg hMb c0 c1 c2 c3 c4 hM hn hV hD hn1 hk hW hD1 hq1 hT hRV hBT
          go_enter Tryz.func25, Tryz.ntmps25
          go_wp2_with fail
          refine (CR0.out _).mono ?_
          rintro e w1 ⟨rfl, hb⟩
          have B1 := Lib.hid hb
          clear hb
          go_wp2_with fail
          refine (CB0.out _).mono ?_
          rintro e w2 ⟨rfl, hb⟩
          have B2 := Lib.hid (B1.out.trans (hb.mono B1.out.size))
          clear hb
          go_wp2
          go_ret2
          rw [HV.out]
          exact ⟨rfl, B2.out⟩
  · rw [if_neg c1] at hBn
    rw [decide_eq_false c1] at hF
    subst hBn hF
    have HV := Lib.hid (HBAD.out (.inr (.inl (by omega))))
    clear c0 c1 hn hV hD hn1 hk hW hD1 hq1 hT hRV hBT
    go_enter Tryz.func25, Tryz.ntmps25
    go_wp2_with fail
    refine (CR0.out _).mono ?_
    rintro e w1 ⟨rfl, hb⟩
    have B1 := Lib.hid hb
    clear hb
    go_wp2_with fail
    refine (CB0.out _).mono ?_
    rintro e w2 ⟨rfl, hb⟩
    have B2 := Lib.hid (B1.out.trans (hb.mono B1.out.size))
    clear hb
    go_wp2
    go_ret2
    rw [HV.out]
    exact ⟨rfl, B2.out⟩
end Go.Proofs.YthhlhiighgnkmaaGreatDoor
