/-
  WALKS: a time that the document writes.
-/
import Derived.Test.YthhlhiighgnkmaaGreatDoorTwC
namespace Go.Proofs.YthhlhiighgnkmaaGreatDoor
set_option linter.unusedVariables false
set_option linter.unusedSimpArgs false
open Go.RowKit Go.PlainAid
set_option maxRecDepth 100000 in
set_option maxHeartbeats 2000000 in
theorem rtimew_pos (a : Nat) (ha : a ≤ 9007199254740992) (w : World) : Calls Tryz.prog 21 #[.int .i64 ((a : Int))] w (Gives w (.tuple #[.string (strOf (secT false a)), .int .i64 0])) := by
  have l1 : decide (((a : Int)) < -9007199254740992) = false := decide_eq_false (by omega)
  have l2 : decide (((a : Int)) > 9007199254740992) = false := decide_eq_false (by omega)
  have l2b : decide ((9007199254740992 : Int) < ((a : Int))) = false := decide_eq_false (by omega)
  have l3 : decide (((a : Int)) < 0) = false := decide_eq_false (by omega)
  have x1 : decide ((9007199254740992 : Int) < (a : Int)) = false := decide_eq_false (by omega)
  have x2 : decide (9007199254740992 < a) = false := decide_eq_false (by omega)
  have en2 : IntKind.i64.wrap (a : Int) = (a : Int) := by rw [IntKind.wrap_i64]; omega
  have en : IntKind.i64.wrap (-(-(a : Int))) = (a : Int) := by rw [IntKind.wrap_i64]; omega
  obtain ⟨q, hq⟩ : ∃ q, a / 1000 = q := ⟨_, rfl⟩
  obtain ⟨r, hr⟩ : ∃ r, a % 1000 = r := ⟨_, rfl⟩
  have tq : (a : Int).tdiv 1000 = (q : Int) := by rw [Int.tdiv_eq_ediv_of_nonneg (by omega)]; omega
  have tq2 : (a : Int) / 1000 = (q : Int) := by omega
  have tr : (a : Int).tmod 1000 = (r : Int) := by rw [Int.tmod_eq_emod_of_nonneg (by omega)]; omega
  have tr2 : (a : Int) % 1000 = (r : Int) := by omega
  have wq : IntKind.i64.wrap (q : Int) = (q : Int) := by rw [IntKind.wrap_i64]; omega
  have wr' : IntKind.i64.wrap (r : Int) = (r : Int) := by rw [IntKind.wrap_i64]; omega
  have hr1 : r < 1000 := by omega
  have hqs := strOf_size (decN q)
  have hql := decN_len 18 q (by have : (10 : Nat) ^ 19 = 10000000000000000000 := by decide
                                omega)
  have CQ := Lib.hid (fun w => rwhole_any q (by omega) w)
  have CR := Lib.hid (fun w => rwhole_any (1000 + r) (by omega) w)
  have hsec : secT false a = [] ++ decN q ++ (if r = 0 then [] else 46 :: fracT r) := by unfold secT; rw [hq, hr]; rfl
  rw [hsec]
  by_cases hr0 : r = 0
  · have HV := Lib.hid (show strOf ([] ++ decN q ++ (if r = 0 then [] else 46 :: fracT r)) = strOf (decN q) by
      rw [if_pos hr0, List.append_nil, List.nil_append])
    obtain ⟨RV, hRV⟩ : ∃ v, strOf ([] ++ decN q ++ (if r = 0 then [] else 46 :: fracT r)) = v := ⟨_, rfl⟩
    rw [hRV] at HV ⊢
    obtain ⟨Q, hQ⟩ : ∃ Q, strOf (decN q) = Q := ⟨_, rfl⟩
    rw [hQ] at CQ HV hqs
    have hc1 : (1 : Nat) + Q.size ≤ 9223372036854775807 := by omega
    have r0 : ((r : Int) == 0) = true := by simp; omega
    clear hsec hq hr hr0 hr1 ha hRV hQ hql 
    go_enter Tryz.func21, Tryz.ntmps21
    go_wp2_with fail
    refine (CQ.out _).mono ?_
    rintro e w1 ⟨rfl, hb⟩
    have B1 := Lib.hid hb
    clear hb
    go_wp2
    go_ret2
    rw [HV.out]
    exact ⟨rfl, B1.out⟩
  · have hth := decN_thou r hr1
    have hrn : 48 + r / 100 ≠ 48 ∨ 48 + r / 10 % 10 ≠ 48 ∨ 48 + r % 10 ≠ 48 := by omega
    have hxb : 48 + r / 100 < 58 ∧ 48 + r / 10 % 10 < 58 ∧ 48 + r % 10 < 58 := by omega
    have HFR := Lib.hid (show fracT r = trimZ [48 + r / 100, 48 + r / 10 % 10, 48 + r % 10] from rfl)
    obtain ⟨x, hx0⟩ : ∃ x, 48 + r / 100 = x := ⟨_, rfl⟩
    obtain ⟨y, hy0⟩ : ∃ x, 48 + r / 10 % 10 = x := ⟨_, rfl⟩
    obtain ⟨z, hz0⟩ : ∃ x, 48 + r % 10 = x := ⟨_, rfl⟩
    rw [hx0, hy0, hz0] at hth hrn hxb HFR
    have hx : (strOf (decN (1000 + r))).extract 1 4 = strOf [x, y, z] := by rw [hth]; rfl
    have hts : (strOf (decN (1000 + r))).size = 4 := by rw [hth]; exact strOf_size _
    have hB3 : IsB [x, y, z] := by intro c hc; simp at hc; omega
    have hB2 : IsB [x, y] := by intro c hc; simp at hc; omega
    have hB1 : IsB [x] := by intro c hc; simp at hc; omega
    have s3 : (strOf [x, y, z]).size = 3 := strOf_size _
    have s2 : (strOf [x, y]).size = 2 := strOf_size _
    have s1 : (strOf [x]).size = 1 := strOf_size _
    have t3 := get_bt (strOf [x, y, z])
    have t2 := get_bt (strOf [x, y])
    have t1 := get_bt (strOf [x])
    have u3 : bt (strOf [x, y, z]) 2 = (z : Int) := strOf_bt [x, y, z] hB3 2 (by simp)
    have u2 : bt (strOf [x, y]) 1 = (y : Int) := strOf_bt [x, y] hB2 1 (by simp)
    have u1 : bt (strOf [x]) 0 = (x : Int) := strOf_bt [x] hB1 0 (by simp)
    have x3 : (strOf [x, y, z]).extract 0 2 = strOf [x, y] := rfl
    have x2' : (strOf [x, y]).extract 0 1 = strOf [x] := rfl
    have HV0 := Lib.hid (show strOf ([] ++ decN q ++ (if r = 0 then [] else 46 :: fracT r)) = strOf (decN q) ++ { data := #[46] } ++ strOf (fracT r) by
      rw [if_neg hr0, List.nil_append, show (46 :: fracT r) = [46] ++ fracT r from rfl, ← List.append_assoc, ← strOf_append, ← strOf_append]; rfl)
    obtain ⟨RV, hRV⟩ : ∃ v, strOf ([] ++ decN q ++ (if r = 0 then [] else 46 :: fracT r)) = v := ⟨_, rfl⟩
    rw [hRV] at HV0 ⊢
    obtain ⟨Q, hQ⟩ : ∃ Q, strOf (decN q) = Q := ⟨_, rfl⟩
    obtain ⟨TH, hTH⟩ : ∃ Q, strOf (decN (1000 + r)) = Q := ⟨_, rfl⟩
    obtain ⟨X3, hX3⟩ : ∃ Q, strOf [x, y, z] = Q := ⟨_, rfl⟩
    obtain ⟨X2, hX2⟩ : ∃ Q, strOf [x, y] = Q := ⟨_, rfl⟩
    obtain ⟨X1, hX1⟩ : ∃ Q, strOf [x] = Q := ⟨_, rfl⟩
    rw [hQ] at CQ HV0 hqs
    rw [hTH] at CR hx hts
    rw [hX3] at hx s3 t3 u3 x3
    rw [hX2] at s2 t2 u2 x3 x2'
    rw [hX1] at s1 t1 u1 x2'
    have hc1 : (1 : Nat) + Q.size ≤ 9223372036854775807 := by omega
    have hqb : Q.size ≤ 19 := by omega
    obtain ⟨m, hm⟩ : ∃ m, 1000 + r = m := ⟨_, rfl⟩
    have e5 : IntKind.i64.wrap (1000 + (r : Int)) = (m : Int) := by rw [IntKind.wrap_i64]; omega
    rw [hm] at CR
    have r0 : ((r : Int) == 0) = false := by simp; omega
    have HX := Lib.hid (And.intro hX3 (And.intro hX2 hX1))
    clear hsec hq hr hr0 hr1 ha hRV hQ hql hth hTH hX3 hX2 hX1 hm hB3 hB2 hB1 hqs hx0 hy0 hz0 hxb 
    by_cases z48 : z = 48
    · by_cases y48 : y = 48
      · have x48 : x ≠ 48 := by omega
        have g1 : ((z : Int) == 48) = true := by simp; omega
        have g2 : ((y : Int) == 48) = true := by simp; omega
        have g3 : ((x : Int) == 48) = false := by simp; omega
        have HV := Lib.hid (show RV = Q ++ { data := #[46] } ++ X1 by rw [HV0.out, HFR.out, z48, y48, trimZ_c x x48, HX.out.2.2])
        clear HV0 HFR
        go_enter Tryz.func21, Tryz.ntmps21
        go_wp2_with fail
        refine (CQ.out _).mono ?_
        rintro e w1 ⟨rfl, hb⟩
        have B1 := Lib.hid hb
        clear hb
        go_wp2_with fail
        refine (CR.out _).mono ?_
        rintro e w2 ⟨rfl, hb⟩
        have B2 := Lib.hid (B1.out.trans (hb.mono B1.out.size))
        clear hb
        go_wp2
        refine wp_loop_rounds 3 ?_
        rw [rounds_succ]
        go_wp2
        rw [rounds_succ]
        go_wp2
        rw [rounds_succ]
        go_wp2
        go_ret2
        rw [HV.out]
        exact ⟨rfl, B2.out⟩
      · have g1 : ((z : Int) == 48) = true := by simp; omega
        have g2 : ((y : Int) == 48) = false := by simp; omega
        have HV := Lib.hid (show RV = Q ++ { data := #[46] } ++ X2 by rw [HV0.out, HFR.out, z48, trimZ_b x y y48, HX.out.2.1])
        clear HV0 HFR
        go_enter Tryz.func21, Tryz.ntmps21
        go_wp2_with fail
        refine (CQ.out _).mono ?_
        rintro e w1 ⟨rfl, hb⟩
        have B1 := Lib.hid hb
        clear hb
        go_wp2_with fail
        refine (CR.out _).mono ?_
        rintro e w2 ⟨rfl, hb⟩
        have B2 := Lib.hid (B1.out.trans (hb.mono B1.out.size))
        clear hb
        go_wp2
        refine wp_loop_rounds 2 ?_
        rw [rounds_succ]
        go_wp2
        rw [rounds_succ]
        go_wp2
        go_ret2
        rw [HV.out]
        exact ⟨rfl, B2.out⟩
    · have g1 : ((z : Int) == 48) = false := by simp; omega
      have HV := Lib.hid (show RV = Q ++ { data := #[46] } ++ X3 by rw [HV0.out, HFR.out, trimZ_a x y z z48, HX.out.1])
      clear HV0 HFR
      go_enter Tryz.func21, Tryz.ntmps21
      go_wp2_with fail
      refine (CQ.out _).mono ?_
      rintro e w1 ⟨rfl, hb⟩
      have B1 := Lib.hid hb
      clear hb
      go_wp2_with fail
      refine (CR.out _).mono ?_
      rintro e w2 ⟨rfl, hb⟩
      have B2 := Lib.hid (B1.out.trans (hb.mono B1.out.size))
      clear hb
      go_wp2
      refine wp_loop_rounds 1 ?_
      rw [rounds_succ]
      go_wp2
      go_ret2
      rw [HV.out]
      exact ⟨rfl, B2.out⟩
set_option maxRecDepth 100000 in
set_option maxHeartbeats 2000000 in
theorem rtimew_neg (a : Nat) (h0 : 0 < a) (ha : a ≤ 9007199254740992) (w : World) : Calls Tryz.prog 21 #[.int .i64 (-(a : Int))] w (Gives w (.tuple #[.string (strOf (secT true a)), .int .i64 0])) := by
  have l1 : decide ((-(a : Int)) < -9007199254740992) = false := decide_eq_false (by omega)
  have l2 : decide ((-(a : Int)) > 9007199254740992) = false := decide_eq_false (by omega)
  have l2b : decide ((9007199254740992 : Int) < (-(a : Int))) = false := decide_eq_false (by omega)
  have l3 : decide ((-(a : Int)) < 0) = true := decide_eq_true (by omega)
  have x1 : decide ((9007199254740992 : Int) < (a : Int)) = false := decide_eq_false (by omega)
  have x2 : decide (9007199254740992 < a) = false := decide_eq_false (by omega)
  have x3 : decide (0 < a) = true := decide_eq_true h0
  have x4 : decide ((0 : Int) < (a : Int)) = true := decide_eq_true (by omega)
  have en2 : IntKind.i64.wrap (a : Int) = (a : Int) := by rw [IntKind.wrap_i64]; omega
  have en : IntKind.i64.wrap (-(-(a : Int))) = (a : Int) := by rw [IntKind.wrap_i64]; omega
  obtain ⟨q, hq⟩ : ∃ q, a / 1000 = q := ⟨_, rfl⟩
  obtain ⟨r, hr⟩ : ∃ r, a % 1000 = r := ⟨_, rfl⟩
  have tq : (a : Int).tdiv 1000 = (q : Int) := by rw [Int.tdiv_eq_ediv_of_nonneg (by omega)]; omega
  have tq2 : (a : Int) / 1000 = (q : Int) := by omega
  have tr : (a : Int).tmod 1000 = (r : Int) := by rw [Int.tmod_eq_emod_of_nonneg (by omega)]; omega
  have tr2 : (a : Int) % 1000 = (r : Int) := by omega
  have wq : IntKind.i64.wrap (q : Int) = (q : Int) := by rw [IntKind.wrap_i64]; omega
  have wr' : IntKind.i64.wrap (r : Int) = (r : Int) := by rw [IntKind.wrap_i64]; omega
  have hr1 : r < 1000 := by omega
  have hqs := strOf_size (decN q)
  have hql := decN_len 18 q (by have : (10 : Nat) ^ 19 = 10000000000000000000 := by decide
                                omega)
  have CQ := Lib.hid (fun w => rwhole_any q (by omega) w)
  have CR := Lib.hid (fun w => rwhole_any (1000 + r) (by omega) w)
  have hsec : secT true a = [45] ++ decN q ++ (if r = 0 then [] else 46 :: fracT r) := by unfold secT; rw [hq, hr]; rfl
  rw [hsec]
  by_cases hr0 : r = 0
  · have HV := Lib.hid (show strOf ([45] ++ decN q ++ (if r = 0 then [] else 46 :: fracT r)) = { data := #[45] } ++ strOf (decN q) by
      rw [if_pos hr0, List.append_nil, ← strOf_append]; rfl)
    obtain ⟨RV, hRV⟩ : ∃ v, strOf ([45] ++ decN q ++ (if r = 0 then [] else 46 :: fracT r)) = v := ⟨_, rfl⟩
    rw [hRV] at HV ⊢
    obtain ⟨Q, hQ⟩ : ∃ Q, strOf (decN q) = Q := ⟨_, rfl⟩
    rw [hQ] at CQ HV hqs
    have hc1 : (1 : Nat) + Q.size ≤ 9223372036854775807 := by omega
    have r0 : ((r : Int) == 0) = true := by simp; omega
    clear hsec hq hr hr0 hr1 ha hRV hQ hql h0
    go_enter Tryz.func21, Tryz.ntmps21
    go_wp2_with fail
    refine (CQ.out _).mono ?_
    rintro e w1 ⟨rfl, hb⟩
    have B1 := Lib.hid hb
    clear hb
    go_wp2
    go_ret2
    rw [HV.out]
    exact ⟨rfl, B1.out⟩
  · have hth := decN_thou r hr1
    have hrn : 48 + r / 100 ≠ 48 ∨ 48 + r / 10 % 10 ≠ 48 ∨ 48 + r % 10 ≠ 48 := by omega
    have hxb : 48 + r / 100 < 58 ∧ 48 + r / 10 % 10 < 58 ∧ 48 + r % 10 < 58 := by omega
    have HFR := Lib.hid (show fracT r = trimZ [48 + r / 100, 48 + r / 10 % 10, 48 + r % 10] from rfl)
    obtain ⟨x, hx0⟩ : ∃ x, 48 + r / 100 = x := ⟨_, rfl⟩
    obtain ⟨y, hy0⟩ : ∃ x, 48 + r / 10 % 10 = x := ⟨_, rfl⟩
    obtain ⟨z, hz0⟩ : ∃ x, 48 + r % 10 = x := ⟨_, rfl⟩
    rw [hx0, hy0, hz0] at hth hrn hxb HFR
    have hx : (strOf (decN (1000 + r))).extract 1 4 = strOf [x, y, z] := by rw [hth]; rfl
    have hts : (strOf (decN (1000 + r))).size = 4 := by rw [hth]; exact strOf_size _
    have hB3 : IsB [x, y, z] := by intro c hc; simp at hc; omega
    have hB2 : IsB [x, y] := by intro c hc; simp at hc; omega
    have hB1 : IsB [x] := by intro c hc; simp at hc; omega
    have s3 : (strOf [x, y, z]).size = 3 := strOf_size _
    have s2 : (strOf [x, y]).size = 2 := strOf_size _
    have s1 : (strOf [x]).size = 1 := strOf_size _
    have t3 := get_bt (strOf [x, y, z])
    have t2 := get_bt (strOf [x, y])
    have t1 := get_bt (strOf [x])
    have u3 : bt (strOf [x, y, z]) 2 = (z : Int) := strOf_bt [x, y, z] hB3 2 (by simp)
    have u2 : bt (strOf [x, y]) 1 = (y : Int) := strOf_bt [x, y] hB2 1 (by simp)
    have u1 : bt (strOf [x]) 0 = (x : Int) := strOf_bt [x] hB1 0 (by simp)
    have x3 : (strOf [x, y, z]).extract 0 2 = strOf [x, y] := rfl
    have x2' : (strOf [x, y]).extract 0 1 = strOf [x] := rfl
    have HV0 := Lib.hid (show strOf ([45] ++ decN q ++ (if r = 0 then [] else 46 :: fracT r)) = ({ data := #[45] } ++ strOf (decN q)) ++ { data := #[46] } ++ strOf (fracT r) by
      rw [if_neg hr0, show (46 :: fracT r) = [46] ++ fracT r from rfl, ← List.append_assoc, ← strOf_append, ← strOf_append, ← strOf_append]; rfl)
    obtain ⟨RV, hRV⟩ : ∃ v, strOf ([45] ++ decN q ++ (if r = 0 then [] else 46 :: fracT r)) = v := ⟨_, rfl⟩
    rw [hRV] at HV0 ⊢
    obtain ⟨Q, hQ⟩ : ∃ Q, strOf (decN q) = Q := ⟨_, rfl⟩
    obtain ⟨TH, hTH⟩ : ∃ Q, strOf (decN (1000 + r)) = Q := ⟨_, rfl⟩
    obtain ⟨X3, hX3⟩ : ∃ Q, strOf [x, y, z] = Q := ⟨_, rfl⟩
    obtain ⟨X2, hX2⟩ : ∃ Q, strOf [x, y] = Q := ⟨_, rfl⟩
    obtain ⟨X1, hX1⟩ : ∃ Q, strOf [x] = Q := ⟨_, rfl⟩
    rw [hQ] at CQ HV0 hqs
    rw [hTH] at CR hx hts
    rw [hX3] at hx s3 t3 u3 x3
    rw [hX2] at s2 t2 u2 x3 x2'
    rw [hX1] at s1 t1 u1 x2'
    have hc1 : (1 : Nat) + Q.size ≤ 9223372036854775807 := by omega
    have hqb : Q.size ≤ 19 := by omega
    obtain ⟨m, hm⟩ : ∃ m, 1000 + r = m := ⟨_, rfl⟩
    have e5 : IntKind.i64.wrap (1000 + (r : Int)) = (m : Int) := by rw [IntKind.wrap_i64]; omega
    rw [hm] at CR
    have r0 : ((r : Int) == 0) = false := by simp; omega
    have HX := Lib.hid (And.intro hX3 (And.intro hX2 hX1))
    clear hsec hq hr hr0 hr1 ha hRV hQ hql hth hTH hX3 hX2 hX1 hm hB3 hB2 hB1 hqs hx0 hy0 hz0 hxb h0
    by_cases z48 : z = 48
    · by_cases y48 : y = 48
      · have x48 : x ≠ 48 := by omega
        have g1 : ((z : Int) == 48) = true := by simp; omega
        have g2 : ((y : Int) == 48) = true := by simp; omega
        have g3 : ((x : Int) == 48) = false := by simp; omega
        have HV := Lib.hid (show RV = ({ data := #[45] } ++ Q) ++ { data := #[46] } ++ X1 by rw [HV0.out, HFR.out, z48, y48, trimZ_c x x48, HX.out.2.2])
        clear HV0 HFR
        go_enter Tryz.func21, Tryz.ntmps21
        go_wp2_with fail
        refine (CQ.out _).mono ?_
        rintro e w1 ⟨rfl, hb⟩
        have B1 := Lib.hid hb
        clear hb
        go_wp2_with fail
        refine (CR.out _).mono ?_
        rintro e w2 ⟨rfl, hb⟩
        have B2 := Lib.hid (B1.out.trans (hb.mono B1.out.size))
        clear hb
        go_wp2
        refine wp_loop_rounds 3 ?_
        rw [rounds_succ]
        go_wp2
        rw [rounds_succ]
        go_wp2
        rw [rounds_succ]
        go_wp2
        go_ret2
        rw [HV.out]
        exact ⟨rfl, B2.out⟩
      · have g1 : ((z : Int) == 48) = true := by simp; omega
        have g2 : ((y : Int) == 48) = false := by simp; omega
        have HV := Lib.hid (show RV = ({ data := #[45] } ++ Q) ++ { data := #[46] } ++ X2 by rw [HV0.out, HFR.out, z48, trimZ_b x y y48, HX.out.2.1])
        clear HV0 HFR
        go_enter Tryz.func21, Tryz.ntmps21
        go_wp2_with fail
        refine (CQ.out _).mono ?_
        rintro e w1 ⟨rfl, hb⟩
        have B1 := Lib.hid hb
        clear hb
        go_wp2_with fail
        refine (CR.out _).mono ?_
        rintro e w2 ⟨rfl, hb⟩
        have B2 := Lib.hid (B1.out.trans (hb.mono B1.out.size))
        clear hb
        go_wp2
        refine wp_loop_rounds 2 ?_
        rw [rounds_succ]
        go_wp2
        rw [rounds_succ]
        go_wp2
        go_ret2
        rw [HV.out]
        exact ⟨rfl, B2.out⟩
    · have g1 : ((z : Int) == 48) = false := by simp; omega
      have HV := Lib.hid (show RV = ({ data := #[45] } ++ Q) ++ { data := #[46] } ++ X3 by rw [HV0.out, HFR.out, trimZ_a x y z z48, HX.out.1])
      clear HV0 HFR
      go_enter Tryz.func21, Tryz.ntmps21
      go_wp2_with fail
      refine (CQ.out _).mono ?_
      rintro e w1 ⟨rfl, hb⟩
      have B1 := Lib.hid hb
      clear hb
      go_wp2_with fail
      refine (CR.out _).mono ?_
      rintro e w2 ⟨rfl, hb⟩
      have B2 := Lib.hid (B1.out.trans (hb.mono B1.out.size))
      clear hb
      go_wp2
      refine wp_loop_rounds 1 ?_
      rw [rounds_succ]
      go_wp2
      go_ret2
      rw [HV.out]
      exact ⟨rfl, B2.out⟩
end Go.Proofs.YthhlhiighgnkmaaGreatDoor
