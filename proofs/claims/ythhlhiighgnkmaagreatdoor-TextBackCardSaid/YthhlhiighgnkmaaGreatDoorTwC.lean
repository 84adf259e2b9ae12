/-
  WALKS: a time that is written, on both sides.
-/
import Derived.Test.YthhlhiighgnkmaaGreatDoorTwB
import Derived.LoopN
namespace Go.Proofs.YthhlhiighgnkmaaGreatDoor
set_option linter.unusedVariables false
set_option linter.unusedSimpArgs false
open Go.RowKit Go.PlainAid
theorem decN_thou (r : Nat) (h : r < 1000) : decN (1000 + r) = [49, 48 + r / 100, 48 + r / 10 % 10, 48 + r % 10] := by
  rw [decN_big (by omega), show (1000 + r) / 10 = 100 + r / 10 by omega, decN_big (by omega), show (100 + r / 10) / 10 = 10 + r / 100 by omega, decN_big (by omega), show (10 + r / 100) / 10 = 1 by omega, decN_small (by decide)]
  rw [show (1000 + r) % 10 = r % 10 by omega, show (100 + r / 10) % 10 = r / 10 % 10 by omega, show (10 + r / 100) % 10 = r / 100 by omega]
  rfl
/-- the digits behind the point -/
def fracT (r : Nat) : List Nat := trimZ [48 + r / 100, 48 + r / 10 % 10, 48 + r % 10]
def secT (neg : Bool) (a : Nat) : List Nat := (if neg then [45] else []) ++ decN (a / 1000) ++ (if a % 1000 = 0 then [] else 46 :: fracT (a % 1000))
theorem trimZ_a (x y z : Nat) (h : z ≠ 48) : trimZ [x, y, z] = [x, y, z] := by
  unfold trimZ
  show (List.dropWhile _ [z, y, x]).reverse = _
  rw [List.dropWhile_cons_of_neg (by simpa using h)]
  rfl
theorem trimZ_b (x y : Nat) (h : y ≠ 48) : trimZ [x, y, 48] = [x, y] := by
  unfold trimZ
  show (List.dropWhile _ [48, y, x]).reverse = _
  rw [List.dropWhile_cons_of_pos (by decide), List.dropWhile_cons_of_neg (by simpa using h)]
  rfl
theorem trimZ_c (x : Nat) (h : x ≠ 48) : trimZ [x, 48, 48] = [x] := by
  unfold trimZ
  show (List.dropWhile _ [48, 48, x]).reverse = _
  rw [List.dropWhile_cons_of_pos (by decide), List.dropWhile_cons_of_pos (by decide), List.dropWhile_cons_of_neg (by simpa using h)]
  rfl
theorem trimZ_len (l : List Nat) : (trimZ l).length ≤ l.length := by
  unfold trimZ
  rw [List.length_reverse]
  exact Nat.le_trans (List.dropWhile_sublist _).length_le (by rw [List.length_reverse]; exact Nat.le_refl _)
set_option maxRecDepth 100000 in
set_option maxHeartbeats 2000000 in
theorem time_pos (a : Nat) (ha : a ≤ 9007199254740992) (w : World) (ht : PowT w) : Calls Tryz.prog 19 #[.int .i64 ((a : Int))] w (Gives w (.tuple #[.string (strOf (secT false a)), .int .u16 0])) := by
  have l1 : decide (((a : Int)) < -9007199254740992) = false := decide_eq_false (by omega)
  have l2 : decide (((a : Int)) > 9007199254740992) = false := decide_eq_false (by omega)
  have l2b : decide ((9007199254740992 : Int) < ((a : Int))) = false := decide_eq_false (by omega)
  have l3 : decide (((a : Int)) < 0) = false := decide_eq_false (by omega)
  have x1 : decide ((9007199254740992 : Int) < (a : Int)) = false := decide_eq_false (by omega)
  have x2 : decide (9007199254740992 < a) = false := decide_eq_false (by omega)
  have en2 : IntKind.i64.wrap (a : Int) = (a : Int) := by rw [IntKind.wrap_i64]; omega
  have en : IntKind.i64.wrap (-(-(a : Int))) = (a : Int) := by rw [IntKind.wrap_i64]; omega
  obtain ⟨q, hq⟩ : ∃ q, a / 1000 = q := ⟨_, rfl⟩
  obtain ⟨r, hr⟩ : ∃ r, a % 1000 = r := ⟨_, rfl⟩
  have tq : (a : Int).tdiv 1000 = (q : Int) := by rw [Int.tdiv_eq_ediv_of_nonneg (by omega)]; omega
  have tq2 : (a : Int) / 1000 = (q : Int) := by omega
  have tr : (a : Int).tmod 1000 = (r : Int) := by rw [Int.tmod_eq_emod_of_nonneg (by omega)]; omega
  have tr2 : (a : Int) % 1000 = (r : Int) := by omega
  have wq : IntKind.i64.wrap (q : Int) = (q : Int) := by rw [IntKind.wrap_i64]; omega
  have wr' : IntKind.i64.wrap (r : Int) = (r : Int) := by rw [IntKind.wrap_i64]; omega
  have hr1 : r < 1000 := by omega
  have hqs := strOf_size (decN q)
  have hql := decN_len 18 q (by have : (10 : Nat) ^ 19 = 10000000000000000000 := by decide
                                omega)
  have CQ := Lib.hid (fun w ht => fmt_any q (by omega) w ht)
  have CR := Lib.hid (fun w ht => fmt_any (1000 + r) (by omega) w ht)
  have HT := Lib.hid ht
  have hsec : secT false a = [] ++ decN q ++ (if r = 0 then [] else 46 :: fracT r) := by unfold secT; rw [hq, hr]; rfl
  rw [hsec]
  by_cases hr0 : r = 0
  · have HV := Lib.hid (show strOf ([] ++ decN q ++ (if r = 0 then [] else 46 :: fracT r)) = strOf (decN q) by
      rw [if_pos hr0, List.append_nil, List.nil_append])
    obtain ⟨RV, hRV⟩ : ∃ v, strOf ([] ++ decN q ++ (if r = 0 then [] else 46 :: fracT r)) = v := ⟨_, rfl⟩
    rw [hRV] at HV ⊢
    obtain ⟨Q, hQ⟩ : ∃ Q, strOf (decN q) = Q := ⟨_, rfl⟩
    rw [hQ] at CQ HV hqs
    have hc1 : (1 : Nat) + Q.size ≤ 9223372036854775807 := by omega
    have r0 : ((r : Int) == 0) = true := by simp; omega
    clear hsec hq hr hr0 hr1 ha ht hRV hQ hql 
    go_enter Tryz.func19, Tryz.ntmps19
    go_wp2_with fail
    refine (CQ.out _ HT.out).mono ?_
    rintro e w1 ⟨rfl, hb⟩
    have B1 := Lib.hid hb
    clear hb
    go_wp2
    go_ret2
    rw [HV.out]
    exact ⟨rfl, B1.out⟩
  · have hth := decN_thou r hr1
    have hx : (strOf (decN (1000 + r))).extract 1 4 = strOf [48 + r / 100, 48 + r / 10 % 10, 48 + r % 10] := by rw [hth]; rfl
    have hts : (strOf (decN (1000 + r))).size = 4 := by rw [hth]; exact strOf_size _
    have hB3 : IsB [48 + r / 100, 48 + r / 10 % 10, 48 + r % 10] := by intro c hc; simp at hc; omega
    have CT := Lib.hid (fun w => trimright_any [48 + r / 100, 48 + r / 10 % 10, 48 + r % 10] hB3 (by simp) w)
    have HFR := Lib.hid (show trimZ [48 + r / 100, 48 + r / 10 % 10, 48 + r % 10] = fracT r from rfl)
    rw [HFR.out] at CT
    have hfl : (fracT r).length ≤ 3 := trimZ_len _
    have HV := Lib.hid (show strOf ([] ++ decN q ++ (if r = 0 then [] else 46 :: fracT r)) = strOf (decN q) ++ { data := #[46] } ++ strOf (fracT r) by
      rw [if_neg hr0, List.nil_append, show (46 :: fracT r) = [46] ++ fracT r from rfl, ← List.append_assoc, ← strOf_append, ← strOf_append]; rfl)
    obtain ⟨RV, hRV⟩ : ∃ v, strOf ([] ++ decN q ++ (if r = 0 then [] else 46 :: fracT r)) = v := ⟨_, rfl⟩
    rw [hRV] at HV ⊢
    have hfs := strOf_size (fracT r)
    obtain ⟨Q, hQ⟩ : ∃ Q, strOf (decN q) = Q := ⟨_, rfl⟩
    obtain ⟨TH, hTH⟩ : ∃ Q, strOf (decN (1000 + r)) = Q := ⟨_, rfl⟩
    obtain ⟨FR, hFR⟩ : ∃ Q, strOf (fracT r) = Q := ⟨_, rfl⟩
    obtain ⟨X3, hX3⟩ : ∃ Q, strOf [48 + r / 100, 48 + r / 10 % 10, 48 + r % 10] = Q := ⟨_, rfl⟩
    rw [hQ] at CQ HV hqs
    rw [hTH] at CR hx hts
    rw [hFR] at CT HV hfs
    rw [hX3] at CT hx
    have hc1 : (1 : Nat) + Q.size ≤ 9223372036854775807 := by omega
    have hqb : Q.size ≤ 19 := by omega
    have hfb : FR.size ≤ 3 := by omega
    obtain ⟨m, hm⟩ : ∃ m, 1000 + r = m := ⟨_, rfl⟩
    have e5 : IntKind.i64.wrap (1000 + (r : Int)) = (m : Int) := by rw [IntKind.wrap_i64]; omega
    rw [hm] at CR
    have r0 : ((r : Int) == 0) = false := by simp; omega
    clear hsec hq hr hr0 hr1 ha ht hRV hQ hql hth hTH hFR hX3 hm hB3 hfl hqs hfs 
    go_enter Tryz.func19, Tryz.ntmps19
    go_wp2_with fail
    refine (CQ.out _ HT.out).mono ?_
    rintro e w1 ⟨rfl, hb⟩
    have B1 := Lib.hid hb
    clear hb
    go_wp2_with fail
    refine (CR.out _ (HT.out.below B1.out)).mono ?_
    rintro e w2 ⟨rfl, hb⟩
    have B2 := Lib.hid (B1.out.trans (hb.mono B1.out.size))
    clear hb
    go_wp2_with fail
    refine (CT.out _).mono ?_
    rintro e w3 ⟨rfl, rfl⟩
    go_wp2
    go_ret2
    rw [HV.out]
    exact ⟨rfl, B2.out⟩
set_option maxRecDepth 100000 in
set_option maxHeartbeats 2000000 in
theorem time_neg (a : Nat) (h0 : 0 < a) (ha : a ≤ 9007199254740992) (w : World) (ht : PowT w) : Calls Tryz.prog 19 #[.int .i64 (-(a : Int))] w (Gives w (.tuple #[.string (strOf (secT true a)), .int .u16 0])) := by
  have l1 : decide ((-(a : Int)) < -9007199254740992) = false := decide_eq_false (by omega)
  have l2 : decide ((-(a : Int)) > 9007199254740992) = false := decide_eq_false (by omega)
  have l2b : decide ((9007199254740992 : Int) < (-(a : Int))) = false := decide_eq_false (by omega)
  have l3 : decide ((-(a : Int)) < 0) = true := decide_eq_true (by omega)
  have x1 : decide ((9007199254740992 : Int) < (a : Int)) = false := decide_eq_false (by omega)
  have x2 : decide (9007199254740992 < a) = false := decide_eq_false (by omega)
  have x3 : decide (0 < a) = true := decide_eq_true h0
  have x4 : decide ((0 : Int) < (a : Int)) = true := decide_eq_true (by omega)
  have en2 : IntKind.i64.wrap (a : Int) = (a : Int) := by rw [IntKind.wrap_i64]; omega
  have en : IntKind.i64.wrap (-(-(a : Int))) = (a : Int) := by rw [IntKind.wrap_i64]; omega
  obtain ⟨q, hq⟩ : ∃ q, a / 1000 = q := ⟨_, rfl⟩
  obtain ⟨r, hr⟩ : ∃ r, a % 1000 = r := ⟨_, rfl⟩
  have tq : (a : Int).tdiv 1000 = (q : Int) := by rw [Int.tdiv_eq_ediv_of_nonneg (by omega)]; omega
  have tq2 : (a : Int) / 1000 = (q : Int) := by omega
  have tr : (a : Int).tmod 1000 = (r : Int) := by rw [Int.tmod_eq_emod_of_nonneg (by omega)]; omega
  have tr2 : (a : Int) % 1000 = (r : Int) := by omega
  have wq : IntKind.i64.wrap (q : Int) = (q : Int) := by rw [IntKind.wrap_i64]; omega
  have wr' : IntKind.i64.wrap (r : Int) = (r : Int) := by rw [IntKind.wrap_i64]; omega
  have hr1 : r < 1000 := by omega
  have hqs := strOf_size (decN q)
  have hql := decN_len 18 q (by have : (10 : Nat) ^ 19 = 10000000000000000000 := by decide
                                omega)
  have CQ := Lib.hid (fun w ht => fmt_any q (by omega) w ht)
  have CR := Lib.hid (fun w ht => fmt_any (1000 + r) (by omega) w ht)
  have HT := Lib.hid ht
  have hsec : secT true a = [45] ++ decN q ++ (if r = 0 then [] else 46 :: fracT r) := by unfold secT; rw [hq, hr]; rfl
  rw [hsec]
  by_cases hr0 : r = 0
  · have HV := Lib.hid (show strOf ([45] ++ decN q ++ (if r = 0 then [] else 46 :: fracT r)) = { data := #[45] } ++ strOf (decN q) by
      rw [if_pos hr0, List.append_nil, ← strOf_append]; rfl)
    obtain ⟨RV, hRV⟩ : ∃ v, strOf ([45] ++ decN q ++ (if r = 0 then [] else 46 :: fracT r)) = v := ⟨_, rfl⟩
    rw [hRV] at HV ⊢
    obtain ⟨Q, hQ⟩ : ∃ Q, strOf (decN q) = Q := ⟨_, rfl⟩
    rw [hQ] at CQ HV hqs
    have hc1 : (1 : Nat) + Q.size ≤ 9223372036854775807 := by omega
    have r0 : ((r : Int) == 0) = true := by simp; omega
    clear hsec hq hr hr0 hr1 ha ht hRV hQ hql h0
    go_enter Tryz.func19, Tryz.ntmps19
    go_wp2_with fail
    refine (CQ.out _ HT.out).mono ?_
    rintro e w1 ⟨rfl, hb⟩
    have B1 := Lib.hid hb
    clear hb
    go_wp2
    go_ret2
    rw [HV.out]
    exact ⟨rfl, B1.out⟩
  · have hth := decN_thou r hr1
    have hx : (strOf (decN (1000 + r))).extract 1 4 = strOf [48 + r / 100, 48 + r / 10 % 10, 48 + r % 10] := by rw [hth]; rfl
    have hts : (strOf (decN (1000 + r))).size = 4 := by rw [hth]; exact strOf_size _
    have hB3 : IsB [48 + r / 100, 48 + r / 10 % 10, 48 + r % 10] := by intro c hc; simp at hc; omega
    have CT := Lib.hid (fun w => trimright_any [48 + r / 100, 48 + r / 10 % 10, 48 + r % 10] hB3 (by simp) w)
    have HFR := Lib.hid (show trimZ [48 + r / 100, 48 + r / 10 % 10, 48 + r % 10] = fracT r from rfl)
    rw [HFR.out] at CT
    have hfl : (fracT r).length ≤ 3 := trimZ_len _
    have HV := Lib.hid (show strOf ([45] ++ decN q ++ (if r = 0 then [] else 46 :: fracT r)) = ({ data := #[45] } ++ strOf (decN q)) ++ { data := #[46] } ++ strOf (fracT r) by
      rw [if_neg hr0, show (46 :: fracT r) = [46] ++ fracT r from rfl, ← List.append_assoc, ← strOf_append, ← strOf_append, ← strOf_append]; rfl)
    obtain ⟨RV, hRV⟩ : ∃ v, strOf ([45] ++ decN q ++ (if r = 0 then [] else 46 :: fracT r)) = v := ⟨_, rfl⟩
    rw [hRV] at HV ⊢
    have hfs := strOf_size (fracT r)
    obtain ⟨Q, hQ⟩ : ∃ Q, strOf (decN q) = Q := ⟨_, rfl⟩
    obtain ⟨TH, hTH⟩ : ∃ Q, strOf (decN (1000 + r)) = Q := ⟨_, rfl⟩
    obtain ⟨FR, hFR⟩ : ∃ Q, strOf (fracT r) = Q := ⟨_, rfl⟩
    obtain ⟨X3, hX3⟩ : ∃ Q, strOf [48 + r / 100, 48 + r / 10 % 10, 48 + r % 10] = Q := ⟨_, rfl⟩
    rw [hQ] at CQ HV hqs
    rw [hTH] at CR hx hts
    rw [hFR] at CT HV hfs
    rw [hX3] at CT hx
    have hc1 : (1 : Nat) + Q.size ≤ 9223372036854775807 := by omega
    have hqb : Q.size ≤ 19 := by omega
    have hfb : FR.size ≤ 3 := by omega
    obtain ⟨m, hm⟩ : ∃ m, 1000 + r = m := ⟨_, rfl⟩
    have e5 : IntKind.i64.wrap (1000 + (r : Int)) = (m : Int) := by rw [IntKind.wrap_i64]; omega
    rw [hm] at CR
    have r0 : ((r : Int) == 0) = false := by simp; omega
    clear hsec hq hr hr0 hr1 ha ht hRV hQ hql hth hTH hFR hX3 hm hB3 hfl hqs hfs h0
    go_enter Tryz.func19, Tryz.ntmps19
    go_wp2_with fail
    refine (CQ.out _ HT.out).mono ?_
    rintro e w1 ⟨rfl, hb⟩
    have B1 := Lib.hid hb
    clear hb
    go_wp2_with fail
    refine (CR.out _ (HT.out.below B1.out)).mono ?_
    rintro e w2 ⟨rfl, hb⟩
    have B2 := Lib.hid (B1.out.trans (hb.mono B1.out.size))
    clear hb
    go_wp2_with fail
    refine (CT.out _).mono ?_
    rintro e w3 ⟨rfl, rfl⟩
    go_wp2
    go_ret2
    rw [HV.out]
    exact ⟨rfl, B2.out⟩
end Go.Proofs.YthhlhiighgnkmaaGreatDoor
