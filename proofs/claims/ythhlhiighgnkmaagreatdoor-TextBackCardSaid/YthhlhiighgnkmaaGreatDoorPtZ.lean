/-
  PtA, PtB, PtC, PtD, put together (a claim holds at most 60 files).
-/
import Derived.Test.YthhlhiighgnkmaaGreatDoorSwJ
import Derived.Test.YthhlhiighgnkmaaGreatDoorDcZ
/-! ## MATHEMATICS: digits with their point as text; WALKS: the code's withPoint, withExponent. -/
namespace Go.Proofs.YthhlhiighgnkmaaGreatDoor
set_option linter.unusedVariables false
set_option linter.unusedSimpArgs false
open Go.RowKit Go.PlainAid
/-- digits and an exponent -/
def expT (ds : List Nat) (e : Int) : List Nat := (if 1 < ds.length then ds.take 1 ++ [46] ++ ds.drop 1 else ds.take 1) ++ (if e < 0 then [101, 45] ++ decN (-e).toNat else [101, 43] ++ decN e.toNat)
/-- digits, the point behind so many of them -/
def ptT (ds : List Nat) (k : Int) : List Nat :=
  if k < -5 ∨ 21 < k then expT ds (k - 1) else if k ≤ 0 then [48, 46] ++ nghts (-k).toNat ++ ds else if k < ds.length then ds.take k.toNat ++ [46] ++ ds.drop k.toNat else ds ++ nghts (k - ds.length).toNat
theorem repeat_noughts : ∀ k : Nat, Lib.repeatL [48] k = (nghts k).map UInt8.ofNat := by
  intro k
  induction k with
  | zero => rfl
  | succ k ih => rw [Lib.repeatL, ih]; unfold nghts; rw [List.replicate_succ, List.map_cons]; rfl
theorem repeat_any (k : Nat) (hk : k ≤ 100000) (w : World) : Calls Tryz.prog 67 #[.string { data := #[48] }, .int .i64 (k : Int)] w (Gives w (.string (strOf (nghts k)))) := by
  refine (Tryz.strings_Repeat { data := #[48] } k w (by omega) (by rw [show (ByteArray.mk #[48]).size = 1 from rfl]; omega)).mono ?_
  rintro e w' ⟨h1, h2⟩
  refine ⟨?_, h2⟩
  rw [h1]
  show Ending.returned (.string ⟨(Lib.repeatL [48] k).toArray⟩) = _
  rw [repeat_noughts]; rfl
theorem itoa_any (n : Nat) (hn : n < 9223372036854775808) (w : World) (ht : PowT w) : Calls Tryz.prog 111 #[.int .i64 (n : Int)] w (Gives w (.string (strOf (decN n)))) := by
  refine (Tryz.strconv_Itoa (n : Int) (by omega) (by omega) w ht).mono ?_
  rintro e w' ⟨h1, k, os, rfl⟩
  exact ⟨by rw [h1, decN_itoa], Lib.below_grow _ w (Nat.le_refl _) k os⟩
theorem take_all (ds : List Nat) (k : Nat) : (ds.drop k).take (ds.length - k) = ds.drop k := by rw [← List.length_drop]; exact List.take_length
set_option maxRecDepth 100000 in
theorem expo_any (ds : List Nat) (e : Int) (hl : 1 ≤ ds.length) (hl2 : ds.length ≤ 100) (he1 : -100000 ≤ e) (he2 : e ≤ 100000) (w : World) (ht : PowT w) :
    Calls Tryz.prog 66 #[.string (strOf ds), .int .i64 e] w (Gives w (.string (strOf (expT ds e)))) := by
  have hsz := strOf_size ds
  have x1 := strOf_extract ds 0 1 (by omega) hl
  have x2 := strOf_extract ds 1 ds.length hl (Nat.le_refl _)
  rw [List.drop_zero, Nat.sub_zero] at x1
  rw [take_all] at x2
  obtain ⟨S, hS⟩ : ∃ s, strOf ds = s := ⟨_, rfl⟩
  rw [hS] at hsz x1 x2 ⊢
  clear hS
  by_cases hmany : 1 < ds.length
  · by_cases hneg : e < 0
    ·
      have zzP1 : (strOf (ds.take 1)).size ≤ 1 := by rw [strOf_size]; rw [List.length_take]; omega
      obtain ⟨P1, hP1⟩ : ∃ s, strOf (ds.take 1) = s := ⟨_, rfl⟩
      rw [hP1] at x1 zzP1
      have zzP2 : (strOf (ds.drop 1)).size ≤ 100 := by rw [strOf_size]; rw [List.length_drop]; omega
      obtain ⟨P2, hP2⟩ : ∃ s, strOf (ds.drop 1) = s := ⟨_, rfl⟩
      rw [hP2] at x2 zzP2
      obtain ⟨u, hu⟩ : ∃ u : Nat, -e = (u : Int) := ⟨(-e).toNat, by omega⟩
      have CI := Lib.hid (itoa_any u (by omega) w ht)
      have zzU : (strOf (decN u)).size ≤ 100 := by rw [strOf_size]; exact Nat.le_trans (decN_len 19 u (by omega)) (by decide)
      obtain ⟨U, hU⟩ : ∃ s, strOf (decN u) = s := ⟨_, rfl⟩
      rw [hU] at CI zzU
      have e1 : IntKind.i64.wrap (-e) = (u : Int) := by rw [IntKind.wrap_i64]; omega
      have d2 : decide (e < 0) = true := decide_eq_true hneg
      have d1 : decide ((1 : Int) < (S.size : Int)) = true := decide_eq_true (by omega)
      have d1b : decide (1 < S.size) = true := decide_eq_true (by omega)
      have cc1 : 1 + P2.size ≤ 9223372036854775807 := by omega
      obtain ⟨Q1, hQ1⟩ : ∃ s, { data := #[46] } ++ P2 = s := ⟨_, rfl⟩
      have zzQ1 : Q1.size ≤ 101 := by rw [← hQ1, ByteArray.size_append]; rw [show (ByteArray.mk #[46]).size = 1 from rfl]; omega
      have hsQ1 : Q1 = strOf ([46] ++ (ds.drop 1)) := by
        have ha : { data := #[46] } = strOf [46] := by rfl
        have hb : P2 = strOf (ds.drop 1) := by exact hP2.symm
        rw [← hQ1, ha, hb, strOf_append]
      have cc2 : P1.size + Q1.size ≤ 9223372036854775807 := by omega
      obtain ⟨Q2, hQ2⟩ : ∃ s, P1 ++ Q1 = s := ⟨_, rfl⟩
      have zzQ2 : Q2.size ≤ 102 := by rw [← hQ2, ByteArray.size_append]; omega
      have hsQ2 : Q2 = strOf ((ds.take 1) ++ ([46] ++ (ds.drop 1))) := by
        have ha : P1 = strOf (ds.take 1) := by exact hP1.symm
        have hb : Q1 = strOf ([46] ++ (ds.drop 1)) := by exact hsQ1
        rw [← hQ2, ha, hb, strOf_append]
      have cc3 : Q2.size + 2 ≤ 9223372036854775807 := by omega
      obtain ⟨Q3, hQ3⟩ : ∃ s, Q2 ++ { data := #[101, 45] } = s := ⟨_, rfl⟩
      have zzQ3 : Q3.size ≤ 104 := by rw [← hQ3, ByteArray.size_append]; rw [show (ByteArray.mk #[101, 45]).size = 2 from rfl]; omega
      have hsQ3 : Q3 = strOf (((ds.take 1) ++ ([46] ++ (ds.drop 1))) ++ [101, 45]) := by
        have ha : Q2 = strOf ((ds.take 1) ++ ([46] ++ (ds.drop 1))) := by exact hsQ2
        have hb : { data := #[101, 45] } = strOf [101, 45] := by rfl
        rw [← hQ3, ha, hb, strOf_append]
      have cc4 : Q3.size + U.size ≤ 9223372036854775807 := by omega
      obtain ⟨Q4, hQ4⟩ : ∃ s, Q3 ++ U = s := ⟨_, rfl⟩
      have zzQ4 : Q4.size ≤ 204 := by rw [← hQ4, ByteArray.size_append]; omega
      have hsQ4 : Q4 = strOf ((((ds.take 1) ++ ([46] ++ (ds.drop 1))) ++ [101, 45]) ++ (decN u)) := by
        have ha : Q3 = strOf (((ds.take 1) ++ ([46] ++ (ds.drop 1))) ++ [101, 45]) := by exact hsQ3
        have hb : U = strOf (decN u) := by exact hU.symm
        rw [← hQ4, ha, hb, strOf_append]
      have hfin : strOf (expT ds e) = Q4 := by
        rw [hsQ4]; congr 1; unfold expT
        rw [if_pos (by omega), if_pos hneg, show (-e).toNat = u by omega]
        simp
      rw [hfin]
      have hz1 : 1 ≤ S.size := by omega
      rw [← hsz] at x2
      clear hfin hsQ1 hsQ2 hsQ3 hsQ4 hl hl2 he1 he2 hmany hneg ht hsz hu hP1 hP2 hU
      go_enter Tryz.func66, Tryz.ntmps66
      go_wp2_with fail
      refine CI.out.mono ?_
      rintro e' w1 ⟨rfl, hb⟩
      have B1 := Lib.hid hb
      clear hb
      go_wp2
      go_ret
      exact ⟨rfl, B1.out⟩
    ·
      have zzP1 : (strOf (ds.take 1)).size ≤ 1 := by rw [strOf_size]; rw [List.length_take]; omega
      obtain ⟨P1, hP1⟩ : ∃ s, strOf (ds.take 1) = s := ⟨_, rfl⟩
      rw [hP1] at x1 zzP1
      have zzP2 : (strOf (ds.drop 1)).size ≤ 100 := by rw [strOf_size]; rw [List.length_drop]; omega
      obtain ⟨P2, hP2⟩ : ∃ s, strOf (ds.drop 1) = s := ⟨_, rfl⟩
      rw [hP2] at x2 zzP2
      obtain ⟨u, hu⟩ : ∃ u : Nat, e = (u : Int) := ⟨(e).toNat, by omega⟩
      have CI := Lib.hid (itoa_any u (by omega) w ht)
      have zzU : (strOf (decN u)).size ≤ 100 := by rw [strOf_size]; exact Nat.le_trans (decN_len 19 u (by omega)) (by decide)
      obtain ⟨U, hU⟩ : ∃ s, strOf (decN u) = s := ⟨_, rfl⟩
      rw [hU] at CI zzU
      have hue := hu
      have d2b : decide ((u : Int) < 0) = false := decide_eq_false (by omega)
      have d1 : decide ((1 : Int) < (S.size : Int)) = true := decide_eq_true (by omega)
      have d1b : decide (1 < S.size) = true := decide_eq_true (by omega)
      have cc1 : 1 + P2.size ≤ 9223372036854775807 := by omega
      obtain ⟨Q1, hQ1⟩ : ∃ s, { data := #[46] } ++ P2 = s := ⟨_, rfl⟩
      have zzQ1 : Q1.size ≤ 101 := by rw [← hQ1, ByteArray.size_append]; rw [show (ByteArray.mk #[46]).size = 1 from rfl]; omega
      have hsQ1 : Q1 = strOf ([46] ++ (ds.drop 1)) := by
        have ha : { data := #[46] } = strOf [46] := by rfl
        have hb : P2 = strOf (ds.drop 1) := by exact hP2.symm
        rw [← hQ1, ha, hb, strOf_append]
      have cc2 : P1.size + Q1.size ≤ 9223372036854775807 := by omega
      obtain ⟨Q2, hQ2⟩ : ∃ s, P1 ++ Q1 = s := ⟨_, rfl⟩
      have zzQ2 : Q2.size ≤ 102 := by rw [← hQ2, ByteArray.size_append]; omega
      have hsQ2 : Q2 = strOf ((ds.take 1) ++ ([46] ++ (ds.drop 1))) := by
        have ha : P1 = strOf (ds.take 1) := by exact hP1.symm
        have hb : Q1 = strOf ([46] ++ (ds.drop 1)) := by exact hsQ1
        rw [← hQ2, ha, hb, strOf_append]
      have cc3 : Q2.size + 2 ≤ 9223372036854775807 := by omega
      obtain ⟨Q3, hQ3⟩ : ∃ s, Q2 ++ { data := #[101, 43] } = s := ⟨_, rfl⟩
      have zzQ3 : Q3.size ≤ 104 := by rw [← hQ3, ByteArray.size_append]; rw [show (ByteArray.mk #[101, 43]).size = 2 from rfl]; omega
      have hsQ3 : Q3 = strOf (((ds.take 1) ++ ([46] ++ (ds.drop 1))) ++ [101, 43]) := by
        have ha : Q2 = strOf ((ds.take 1) ++ ([46] ++ (ds.drop 1))) := by exact hsQ2
        have hb : { data := #[101, 43] } = strOf [101, 43] := by rfl
        rw [← hQ3, ha, hb, strOf_append]
      have cc4 : Q3.size + U.size ≤ 9223372036854775807 := by omega
      obtain ⟨Q4, hQ4⟩ : ∃ s, Q3 ++ U = s := ⟨_, rfl⟩
      have zzQ4 : Q4.size ≤ 204 := by rw [← hQ4, ByteArray.size_append]; omega
      have hsQ4 : Q4 = strOf ((((ds.take 1) ++ ([46] ++ (ds.drop 1))) ++ [101, 43]) ++ (decN u)) := by
        have ha : Q3 = strOf (((ds.take 1) ++ ([46] ++ (ds.drop 1))) ++ [101, 43]) := by exact hsQ3
        have hb : U = strOf (decN u) := by exact hU.symm
        rw [← hQ4, ha, hb, strOf_append]
      have hfin : strOf (expT ds e) = Q4 := by
        rw [hsQ4]; congr 1; unfold expT
        rw [if_pos (by omega), if_neg hneg, show e.toNat = u by omega]
        simp
      rw [hfin]
      have hz1 : 1 ≤ S.size := by omega
      rw [← hsz] at x2
      clear hfin hsQ1 hsQ2 hsQ3 hsQ4 hl hl2 he1 he2 hmany hneg ht hsz hu hP1 hP2 hU
      go_enter Tryz.func66, Tryz.ntmps66
      go_wp2_with fail
      refine CI.out.mono ?_
      rintro e' w1 ⟨rfl, hb⟩
      have B1 := Lib.hid hb
      clear hb
      go_wp2
      go_ret
      exact ⟨rfl, B1.out⟩
  · by_cases hneg : e < 0
    ·
      have zzP1 : (strOf (ds.take 1)).size ≤ 1 := by rw [strOf_size]; rw [List.length_take]; omega
      obtain ⟨P1, hP1⟩ : ∃ s, strOf (ds.take 1) = s := ⟨_, rfl⟩
      rw [hP1] at x1 zzP1
      obtain ⟨u, hu⟩ : ∃ u : Nat, -e = (u : Int) := ⟨(-e).toNat, by omega⟩
      have CI := Lib.hid (itoa_any u (by omega) w ht)
      have zzU : (strOf (decN u)).size ≤ 100 := by rw [strOf_size]; exact Nat.le_trans (decN_len 19 u (by omega)) (by decide)
      obtain ⟨U, hU⟩ : ∃ s, strOf (decN u) = s := ⟨_, rfl⟩
      rw [hU] at CI zzU
      have e1 : IntKind.i64.wrap (-e) = (u : Int) := by rw [IntKind.wrap_i64]; omega
      have d2 : decide (e < 0) = true := decide_eq_true hneg
      have d1 : decide ((1 : Int) < (S.size : Int)) = false := decide_eq_false (by omega)
      have d1b : decide (1 < S.size) = false := decide_eq_false (by omega)
      have cc1 : P1.size + 2 ≤ 9223372036854775807 := by omega
      obtain ⟨Q1, hQ1⟩ : ∃ s, P1 ++ { data := #[101, 45] } = s := ⟨_, rfl⟩
      have zzQ1 : Q1.size ≤ 3 := by rw [← hQ1, ByteArray.size_append]; rw [show (ByteArray.mk #[101, 45]).size = 2 from rfl]; omega
      have hsQ1 : Q1 = strOf ((ds.take 1) ++ [101, 45]) := by
        have ha : P1 = strOf (ds.take 1) := by exact hP1.symm
        have hb : { data := #[101, 45] } = strOf [101, 45] := by rfl
        rw [← hQ1, ha, hb, strOf_append]
      have cc2 : Q1.size + U.size ≤ 9223372036854775807 := by omega
      obtain ⟨Q2, hQ2⟩ : ∃ s, Q1 ++ U = s := ⟨_, rfl⟩
      have zzQ2 : Q2.size ≤ 103 := by rw [← hQ2, ByteArray.size_append]; omega
      have hsQ2 : Q2 = strOf (((ds.take 1) ++ [101, 45]) ++ (decN u)) := by
        have ha : Q1 = strOf ((ds.take 1) ++ [101, 45]) := by exact hsQ1
        have hb : U = strOf (decN u) := by exact hU.symm
        rw [← hQ2, ha, hb, strOf_append]
      have hfin : strOf (expT ds e) = Q2 := by
        rw [hsQ2]; congr 1; unfold expT
        rw [if_neg (by omega), if_pos hneg, show (-e).toNat = u by omega]
        simp
      rw [hfin]
      have hz1 : 1 ≤ S.size := by omega
      clear x2
      clear hfin hsQ1 hsQ2 hl hl2 he1 he2 hmany hneg ht hsz hu hP1 hU
      go_enter Tryz.func66, Tryz.ntmps66
      go_wp2_with fail
      refine CI.out.mono ?_
      rintro e' w1 ⟨rfl, hb⟩
      have B1 := Lib.hid hb
      clear hb
      go_wp2
      go_ret
      exact ⟨rfl, B1.out⟩
    ·
      have zzP1 : (strOf (ds.take 1)).size ≤ 1 := by rw [strOf_size]; rw [List.length_take]; omega
      obtain ⟨P1, hP1⟩ : ∃ s, strOf (ds.take 1) = s := ⟨_, rfl⟩
      rw [hP1] at x1 zzP1
      obtain ⟨u, hu⟩ : ∃ u : Nat, e = (u : Int) := ⟨(e).toNat, by omega⟩
      have CI := Lib.hid (itoa_any u (by omega) w ht)
      have zzU : (strOf (decN u)).size ≤ 100 := by rw [strOf_size]; exact Nat.le_trans (decN_len 19 u (by omega)) (by decide)
      obtain ⟨U, hU⟩ : ∃ s, strOf (decN u) = s := ⟨_, rfl⟩
      rw [hU] at CI zzU
      have hue := hu
      have d2b : decide ((u : Int) < 0) = false := decide_eq_false (by omega)
      have d1 : decide ((1 : Int) < (S.size : Int)) = false := decide_eq_false (by omega)
      have d1b : decide (1 < S.size) = false := decide_eq_false (by omega)
      have cc1 : P1.size + 2 ≤ 9223372036854775807 := by omega
      obtain ⟨Q1, hQ1⟩ : ∃ s, P1 ++ { data := #[101, 43] } = s := ⟨_, rfl⟩
      have zzQ1 : Q1.size ≤ 3 := by rw [← hQ1, ByteArray.size_append]; rw [show (ByteArray.mk #[101, 43]).size = 2 from rfl]; omega
      have hsQ1 : Q1 = strOf ((ds.take 1) ++ [101, 43]) := by
        have ha : P1 = strOf (ds.take 1) := by exact hP1.symm
        have hb : { data := #[101, 43] } = strOf [101, 43] := by rfl
        rw [← hQ1, ha, hb, strOf_append]
      have cc2 : Q1.size + U.size ≤ 9223372036854775807 := by omega
      obtain ⟨Q2, hQ2⟩ : ∃ s, Q1 ++ U = s := ⟨_, rfl⟩
      have zzQ2 : Q2.size ≤ 103 := by rw [← hQ2, ByteArray.size_append]; omega
      have hsQ2 : Q2 = strOf (((ds.take 1) ++ [101, 43]) ++ (decN u)) := by
        have ha : Q1 = strOf ((ds.take 1) ++ [101, 43]) := by exact hsQ1
        have hb : U = strOf (decN u) := by exact hU.symm
        rw [← hQ2, ha, hb, strOf_append]
      have hfin : strOf (expT ds e) = Q2 := by
        rw [hsQ2]; congr 1; unfold expT
        rw [if_neg (by omega), if_neg hneg, show e.toNat = u by omega]
        simp
      rw [hfin]
      have hz1 : 1 ≤ S.size := by omega
      clear x2
      clear hfin hsQ1 hsQ2 hl hl2 he1 he2 hmany hneg ht hsz hu hP1 hU
      go_enter Tryz.func66, Tryz.ntmps66
      go_wp2_with fail
      refine CI.out.mono ?_
      rintro e' w1 ⟨rfl, hb⟩
      have B1 := Lib.hid hb
      clear hb
      go_wp2
      go_ret
      exact ⟨rfl, B1.out⟩
end Go.Proofs.YthhlhiighgnkmaaGreatDoor
/-! ## WALKS: the code's withPoint. -/
namespace Go.Proofs.YthhlhiighgnkmaaGreatDoor
set_option linter.unusedVariables false
set_option linter.unusedSimpArgs false
open Go.RowKit Go.PlainAid
set_option maxRecDepth 100000 in
theorem point_any (ds : List Nat) (k : Int) (hl : 1 ≤ ds.length) (hl2 : ds.length ≤ 100) (hk1 : -5000 ≤ k) (hk2 : k ≤ 5000) (w : World) (ht : PowT w) :
    Calls Tryz.prog 33 #[.string (strOf ds), .int .i64 k] w (Gives w (.string (strOf (ptT ds k)))) := by
  have hsz := strOf_size ds
  by_cases hlo : k < -5
  ·
    have HR := show ptT ds k = expT ds (k - 1) by unfold ptT; rw [if_pos (by omega)]
    rw [HR]
    have CE := Lib.hid (expo_any ds (k - 1) hl hl2 (by omega) (by omega) w ht)
    have e1 : IntKind.i64.wrap (k - 1) = k - 1 := by rw [IntKind.wrap_i64]; omega
    have d1 : decide (k < -5) = true := decide_eq_true hlo
    obtain ⟨R, hR⟩ : ∃ R, strOf (expT ds (k - 1)) = R := ⟨_, rfl⟩
    rw [hR] at CE ⊢
    obtain ⟨S, hS⟩ : ∃ s, strOf ds = s := ⟨_, rfl⟩
    rw [hS] at hsz CE ⊢
    clear HR hR hS hl hl2 hk1 hk2 ht
    go_enter Tryz.func33, Tryz.ntmps33
    go_wp2_with fail
    refine CE.out.mono ?_
    rintro e' w1 ⟨rfl, hb⟩
    have B1 := Lib.hid hb
    clear hb
    go_wp2
    go_ret
    exact ⟨rfl, B1.out⟩
  · by_cases hhi : 21 < k
    ·
      have HR := show ptT ds k = expT ds (k - 1) by unfold ptT; rw [if_pos (by omega)]
      rw [HR]
      have CE := Lib.hid (expo_any ds (k - 1) hl hl2 (by omega) (by omega) w ht)
      have e1 : IntKind.i64.wrap (k - 1) = k - 1 := by rw [IntKind.wrap_i64]; omega
      have d1 : decide (k < -5) = false := decide_eq_false hlo
      have d2 : decide (21 < k) = true := decide_eq_true hhi
      obtain ⟨R, hR⟩ : ∃ R, strOf (expT ds (k - 1)) = R := ⟨_, rfl⟩
      rw [hR] at CE ⊢
      obtain ⟨S, hS⟩ : ∃ s, strOf ds = s := ⟨_, rfl⟩
      rw [hS] at hsz CE ⊢
      clear HR hR hS hl hl2 hk1 hk2 ht
      go_enter Tryz.func33, Tryz.ntmps33
      go_wp2_with fail
      refine CE.out.mono ?_
      rintro e' w1 ⟨rfl, hb⟩
      have B1 := Lib.hid hb
      clear hb
      go_wp2
      go_ret
      exact ⟨rfl, B1.out⟩
    · by_cases hz : k ≤ 0
      ·
        have d1 : decide (k < -5) = false := decide_eq_false hlo
        have d2 : decide (21 < k) = false := decide_eq_false hhi
        obtain ⟨u, hu⟩ : ∃ u : Nat, -k = (u : Int) := ⟨(-k).toNat, by omega⟩
        have e1 : IntKind.i64.wrap (-k) = (u : Int) := by rw [IntKind.wrap_i64]; omega
        have d3 : decide (k ≤ 0) = true := decide_eq_true hz
        have CR := Lib.hid (repeat_any u (by omega) w)
        have zzU : (strOf (nghts u)).size ≤ 100 := by rw [strOf_size]; unfold nghts; rw [List.length_replicate]; omega
        obtain ⟨U, hU⟩ : ∃ s, strOf (nghts u) = s := ⟨_, rfl⟩
        rw [hU] at CR zzU
        have zzS : (strOf ds).size ≤ 100 := by rw [strOf_size]; omega
        obtain ⟨S, hS⟩ : ∃ s, strOf ds = s := ⟨_, rfl⟩
        rw [hS] at hsz zzS ⊢
        have cc1 : 2 + U.size ≤ 9223372036854775807 := by omega
        obtain ⟨Q1, hQ1⟩ : ∃ s, { data := #[48, 46] } ++ U = s := ⟨_, rfl⟩
        have zzQ1 : Q1.size ≤ 102 := by rw [← hQ1, ByteArray.size_append]; rw [show (ByteArray.mk #[48, 46]).size = 2 from rfl]; omega
        have hsQ1 : Q1 = strOf ([48, 46] ++ (nghts u)) := by
          have ha : { data := #[48, 46] } = strOf [48, 46] := by rfl
          have hb : U = strOf (nghts u) := by exact hU.symm
          rw [← hQ1, ha, hb, strOf_append]
        have cc2 : Q1.size + S.size ≤ 9223372036854775807 := by omega
        obtain ⟨Q2, hQ2⟩ : ∃ s, Q1 ++ S = s := ⟨_, rfl⟩
        have zzQ2 : Q2.size ≤ 202 := by rw [← hQ2, ByteArray.size_append]; omega
        have hsQ2 : Q2 = strOf (([48, 46] ++ (nghts u)) ++ ds) := by
          have ha : Q1 = strOf ([48, 46] ++ (nghts u)) := by exact hsQ1
          have hb : S = strOf ds := by exact hS.symm
          rw [← hQ2, ha, hb, strOf_append]
        have hfin : strOf (ptT ds k) = Q2 := by
          rw [hsQ2]; congr 1; unfold ptT
          rw [if_neg (by omega), if_pos hz, show (-k).toNat = u by omega]
        rw [hfin]
        clear hfin hsQ1 hsQ2 hl hl2 hk1 hk2 hlo hhi hz ht hu hU hS
        go_enter Tryz.func33, Tryz.ntmps33
        go_wp2_with fail
        refine CR.out.mono ?_
        rintro e' w1 ⟨rfl, hb⟩
        have B1 := Lib.hid hb
        clear hb
        go_wp2
        go_ret
        exact ⟨rfl, B1.out⟩
      · by_cases hin : k < (ds.length : Int)
        ·
          have d1 : decide (k < -5) = false := decide_eq_false hlo
          have d2 : decide (21 < k) = false := decide_eq_false hhi
          obtain ⟨u, hu⟩ : ∃ u : Nat, k = (u : Int) := ⟨k.toNat, by omega⟩
          subst hu
          have d3 : decide ((u : Int) ≤ 0) = false := decide_eq_false hz
          have d3b : decide (u = 0) = false := decide_eq_false (by omega)
          have d4 : decide ((u : Int) < (ds.length : Int)) = true := decide_eq_true hin
          have d4b : decide (u < ds.length) = true := decide_eq_true (by omega)
          have x1 := strOf_extract ds 0 u (by omega) (by omega)
          have x2 := strOf_extract ds u ds.length (by omega) (Nat.le_refl _)
          rw [List.drop_zero, Nat.sub_zero] at x1
          rw [take_all] at x2
          have zzP1 : (strOf (ds.take u)).size ≤ 100 := by rw [strOf_size]; rw [List.length_take]; omega
          obtain ⟨P1, hP1⟩ : ∃ s, strOf (ds.take u) = s := ⟨_, rfl⟩
          have zzP2 : (strOf (ds.drop u)).size ≤ 100 := by rw [strOf_size]; rw [List.length_drop]; omega
          obtain ⟨P2, hP2⟩ : ∃ s, strOf (ds.drop u) = s := ⟨_, rfl⟩
          rw [hP1] at x1 zzP1
          rw [hP2] at x2 zzP2
          have zzS : (strOf ds).size ≤ 100 := by rw [strOf_size]; omega
          obtain ⟨S, hS⟩ : ∃ s, strOf ds = s := ⟨_, rfl⟩
          rw [hS] at hsz zzS x1 x2 ⊢
          have cc1 : P1.size + 1 ≤ 9223372036854775807 := by omega
          obtain ⟨Q1, hQ1⟩ : ∃ s, P1 ++ { data := #[46] } = s := ⟨_, rfl⟩
          have zzQ1 : Q1.size ≤ 101 := by rw [← hQ1, ByteArray.size_append]; rw [show (ByteArray.mk #[46]).size = 1 from rfl]; omega
          have hsQ1 : Q1 = strOf ((ds.take u) ++ [46]) := by
            have ha : P1 = strOf (ds.take u) := by exact hP1.symm
            have hb : { data := #[46] } = strOf [46] := by rfl
            rw [← hQ1, ha, hb, strOf_append]
          have cc2 : Q1.size + P2.size ≤ 9223372036854775807 := by omega
          obtain ⟨Q2, hQ2⟩ : ∃ s, Q1 ++ P2 = s := ⟨_, rfl⟩
          have zzQ2 : Q2.size ≤ 201 := by rw [← hQ2, ByteArray.size_append]; omega
          have hsQ2 : Q2 = strOf (((ds.take u) ++ [46]) ++ (ds.drop u)) := by
            have ha : Q1 = strOf ((ds.take u) ++ [46]) := by exact hsQ1
            have hb : P2 = strOf (ds.drop u) := by exact hP2.symm
            rw [← hQ2, ha, hb, strOf_append]
          have cc1b : ¬ 9223372036854775807 < P1.size + 1 := by omega
          have cc2b : ¬ 9223372036854775807 < Q1.size + P2.size := by omega
          have hfin : strOf (ptT ds (u : Int)) = Q2 := by
            rw [hsQ2]; congr 1; unfold ptT
            rw [if_neg (by omega), if_neg hz, if_pos hin, Int.toNat_natCast]
          rw [hfin]
          rw [← hsz] at x2 d4 d4b
          have hus : u ≤ S.size := by omega
          have husI : (u : Int) ≤ (S.size : Int) := by omega
          have d1b : decide ((u : Int) < -5) = false := decide_eq_false (by omega)
          have d2b : decide (21 < u) = false := decide_eq_false (by omega)
          clear hfin hsQ1 hsQ2 hl hl2 hk1 hk2 hlo hhi hz ht hin hP1 hP2 hS hsz
          go_enter Tryz.func33, Tryz.ntmps33
          go_wp2_with fail
          go_quiet (fail)
          go_wp2
          go_ret
          exact ⟨rfl, below_drewN (Below.refl _ _) _⟩
        ·
          have d1 : decide (k < -5) = false := decide_eq_false hlo
          have d2 : decide (21 < k) = false := decide_eq_false hhi
          obtain ⟨u, hu⟩ : ∃ u : Nat, k - (ds.length : Int) = (u : Int) := ⟨(k - (ds.length : Int)).toNat, by omega⟩
          have e1 : IntKind.i64.wrap (k - (ds.length : Int)) = (u : Int) := by rw [IntKind.wrap_i64]; omega
          have d3 : decide (k ≤ 0) = false := decide_eq_false hz
          have d4 : decide (k < (ds.length : Int)) = false := decide_eq_false hin
          have CR := Lib.hid (repeat_any u (by omega) w)
          have zzU : (strOf (nghts u)).size ≤ 100 := by rw [strOf_size]; unfold nghts; rw [List.length_replicate]; omega
          obtain ⟨U, hU⟩ : ∃ s, strOf (nghts u) = s := ⟨_, rfl⟩
          rw [hU] at CR zzU
          have zzS : (strOf ds).size ≤ 100 := by rw [strOf_size]; omega
          obtain ⟨S, hS⟩ : ∃ s, strOf ds = s := ⟨_, rfl⟩
          rw [hS] at hsz zzS ⊢
          have cc1 : S.size + U.size ≤ 9223372036854775807 := by omega
          obtain ⟨Q1, hQ1⟩ : ∃ s, S ++ U = s := ⟨_, rfl⟩
          have zzQ1 : Q1.size ≤ 200 := by rw [← hQ1, ByteArray.size_append]; omega
          have hsQ1 : Q1 = strOf (ds ++ (nghts u)) := by
            have ha : S = strOf ds := by exact hS.symm
            have hb : U = strOf (nghts u) := by exact hU.symm
            rw [← hQ1, ha, hb, strOf_append]
          have hfin : strOf (ptT ds k) = Q1 := by
            rw [hsQ1]; congr 1; unfold ptT
            rw [if_neg (by omega), if_neg hz, if_neg hin, show (k - (ds.length : Int)).toNat = u by omega]
          rw [hfin]
          rw [← hsz] at e1 d4
          clear hfin hsQ1 hl hl2 hk1 hk2 hlo hhi hz ht hin hU hS hu hsz
          go_enter Tryz.func33, Tryz.ntmps33
          go_wp2_with fail
          refine CR.out.mono ?_
          rintro e' w1 ⟨rfl, hb⟩
          have B1 := Lib.hid hb
          clear hb
          go_wp2
          go_ret
          exact ⟨rfl, B1.out⟩
end Go.Proofs.YthhlhiighgnkmaaGreatDoor
/-! ## What is shown of a number, as a text; WALKS: the code's Show. -/
namespace Go.Proofs.YthhlhiighgnkmaaGreatDoor
set_option linter.unusedVariables false
set_option linter.unusedSimpArgs false
open Go.RowKit Go.PlainAid
/-- a finite number's parts -/
def shW (A : Nat) : Nat := A / 2 ^ 52 - 1
def mW (A : Nat) : Nat := if A / 2 ^ 52 = 0 then A else 2 ^ 52 + A % 2 ^ 52
theorem parts_of {A : Nat} (h0 : 0 < A) (h : A < 2047 * 2 ^ 52) : shW A * 2 ^ 52 + mW A = A ∧ Nr.Norm (mW A) (shW A) ∧ 1 ≤ mW A ∧ shW A ≤ 2045 := by
  unfold shW mW Nr.Norm
  by_cases hz : A / 2 ^ 52 = 0
  · rw [if_pos hz]; refine ⟨by omega, ⟨by omega, by omega⟩, by omega, by omega⟩
  · rw [if_neg hz]; refine ⟨by omega, ⟨by omega, by omega⟩, by omega, by omega⟩
def sgnS (b : Bool) : List Nat := if b then [45] else []
/-- what is shown of a number -/
def showS (a : Nat) : List Nat :=
  if Nr.isNaN a then [78, 97, 78] else if Nr.nought a then sgnS (Nr.neg a) ++ [48] else if Nr.isInf a then (if Nr.neg a then [45] else [43]) ++ [73, 110, 102]
  else sgnS (Nr.neg a) ++ ptT (Nr.shownE (mW (a % 2 ^ 63)) (shW (a % 2 ^ 63))).1 (Nr.shownE (mW (a % 2 ^ 63)) (shW (a % 2 ^ 63))).2
theorem order_neg {a : Nat} (ha : a < 2 ^ 64) (hn : Nr.isNaN a = false) : decide (Nr.dOrder a 0 < 0) = Nr.neg a := by
  have h0 : Nr.rank 0 = 2 ^ 63 + 2 ^ 64 := by decide
  unfold Nr.dOrder Nr.cmpN
  rw [h0]
  unfold Nr.rank Nr.rising
  rw [hn]
  simp only [Bool.false_eq_true, if_false]
  cases hs : Nr.neg a
  · unfold Nr.neg at hs
    have := of_decide_eq_false hs
    simp only [Bool.false_eq_true, if_false]
    rw [if_neg (by omega)]
    split <;> simp
  · unfold Nr.neg at hs
    have := of_decide_eq_true hs
    simp only [if_true]
    rw [if_pos (by omega)]
    simp
theorem cmp_zero {a : Nat} (hn : Nr.isNaN a = false) : (Nr.dCmp a 0 == 0) = Nr.nought a ∧ Nr.dCok a 0 = true := by
  have h0 : Nr.isNaN 0 = false := by decide
  have hk0 : Nr.key 0 = 0 := by decide
  unfold Nr.dCmp Nr.dCok
  rw [hn, h0, hk0]
  refine ⟨?_, rfl⟩
  simp only [Bool.false_or, Bool.false_eq_true, if_false]
  unfold Nr.key Nr.sg Nr.nought
  rw [Bool.eq_iff_iff, beq_iff_eq, decide_eq_true_eq]
  cases Nr.neg a
  · simp only [Bool.false_eq_true, if_false]
    by_cases h : a % 2 ^ 63 = 0
    · rw [h]; simp
    · rw [if_neg (by omega), if_pos (by omega)]; simp; omega
  · simp only [if_true]
    by_cases h : a % 2 ^ 63 = 0
    · rw [h]; simp
    · rw [if_pos (by omega)]; simp; omega
theorem dd_len_bd {M sh y : Nat} {k : Int} (h : Nr.Told M sh y k) : 1 ≤ (Nr.dd y).length ∧ (Nr.dd y).length ≤ 18 := ⟨Nr.dd_len_pos y, h.len⟩
theorem ptT_len {ds : List Nat} {k : Int} (h1 : 1 ≤ ds.length) (h2 : ds.length ≤ 18) (k1 : -400 ≤ k) (k2 : k ≤ 420) : (ptT ds k).length ≤ 100 := by
  have hd : ∀ u : Nat, u < 1000 → (decN u).length ≤ 3 := fun u hu => decN_len 2 u (by omega)
  unfold ptT
  split
  · unfold expT
    have a1 : (if 1 < ds.length then ds.take 1 ++ [46] ++ ds.drop 1 else ds.take 1).length ≤ 19 := by split <;> simp <;> omega
    have a2 : (if k - 1 < 0 then [101, 45] ++ decN (-(k - 1)).toNat else [101, 43] ++ decN (k - 1).toNat).length ≤ 5 := by
      split
      · have := hd (-(k - 1)).toNat (by omega); simp only [List.length_append, List.length_cons, List.length_nil]; omega
      · have := hd (k - 1).toNat (by omega); simp only [List.length_append, List.length_cons, List.length_nil]; omega
    rw [List.length_append]; omega
  · unfold nghts
    split
    · simp; omega
    · split
      · simp; omega
      · simp; omega
set_option maxRecDepth 100000 in
set_option maxHeartbeats 1000000 in
theorem cshow_any (m : Int) (a : Nat) (ha : a < 2 ^ 64) (w : World) (T : Tabs w m) (ht : PowT w) : Calls Tryz.prog 12 #[.int .u64 (a : Int)] w (Gives w (.string (strOf (showS a)))) := by
  have CO := Lib.hid (fun w => show Calls Tryz.prog 30 #[.int .u64 (a : Int), .int .u64 0] w _ from Tn.order_any a 0 ha (by decide) w)
  have CC := Lib.hid (fun w => show Calls Tryz.prog 31 #[.int .u64 (a : Int), .int .u64 0] w _ from Tn.cmp_any a 0 ha (by decide) w)
  have CI := Lib.hid (fun w => Tn.infnum_any a ha w)
  cases hn : Nr.isNaN a
  · obtain ⟨c1, c2⟩ := cmp_zero hn
    have hO := order_neg ha hn
    rw [c2] at CC
    obtain ⟨O, hOO⟩ : ∃ O, Nr.dOrder a 0 = O := ⟨_, rfl⟩
    rw [hOO] at hO CO
    obtain ⟨C, hCC⟩ : ∃ C, Nr.dCmp a 0 = C := ⟨_, rfl⟩
    rw [hCC] at c1 CC
    obtain ⟨sb, hsb⟩ : ∃ b, Nr.neg a = b := ⟨_, rfl⟩
    rw [hsb] at hO
    cases hz : Nr.nought a
    · rw [hz] at c1
      cases hi : Nr.isInf a
      · rw [hi] at CI
        have hA : 0 < a % 2 ^ 63 := by
          unfold Nr.nought at hz
          have := of_decide_eq_false hz; omega
        have hB : a % 2 ^ 63 < 2047 * 2 ^ 52 := by
          unfold Nr.isNaN Nr.inf at hn
          unfold Nr.isInf Nr.inf at hi
          have h1 := of_decide_eq_false hn
          have h2 := of_decide_eq_false hi
          omega
        obtain ⟨p1, p2, p3, p4⟩ := parts_of hA hB
        obtain ⟨y, k, hT⟩ := Nr.told p2 p3 p4
        obtain ⟨c, x, tl, ng, H⟩ := tellN_of p2 p3 p4 hT
        have HR := show showS a = sgnS sb ++ ptT (Nr.dd y) k by
          unfold showS
          rw [hn, hz, hi, hsb, hT.e]; rfl
        have CA := Lib.hid (fun w => Tn.abs_any a ha w)
        rw [show Nr.dAbs a = a % 2 ^ 63 by unfold Nr.dAbs; rw [hn]; rfl] at CA
        have CS := Lib.hid (fun (w1 : World) (T : Tabs w1 m) => short34_any m _ _ y k c x tl ng w1 T H)
        rw [p1, ← H.hct] at CS
        obtain ⟨l1, l2⟩ := dd_len_bd hT
        have CP := Lib.hid (fun (w1 : World) (h : PowT w1) => point_any (Nr.dd y) k l1 (by omega) (by have := hT.k1; omega) (by have := hT.k2; omega) w1 h)
        have hpl := ptT_len l1 l2 hT.k1 hT.k2
        have hps := strOf_size (ptT (Nr.dd y) k)
        rw [HR, ← strOf_append]
        obtain ⟨D, hD⟩ : ∃ s, strOf (Nr.dd y) = s := ⟨_, rfl⟩
        obtain ⟨R, hRR⟩ : ∃ s, strOf (ptT (Nr.dd y) k) = s := ⟨_, rfl⟩
        rw [hD] at CS CP
        rw [hRR] at CP hps ⊢
        obtain ⟨B, hBB⟩ : ∃ B, a % 2 ^ 63 = B := ⟨_, rfl⟩
        rw [hBB] at CA CS
        have HT := Lib.hid T
        have HPT := Lib.hid ht
        have hcat : 1 + R.size ≤ 9223372036854775807 := by omega
        have hcat0 : 0 + R.size ≤ 9223372036854775807 := by omega
        have hcat2 : R.size ≤ 9223372036854775807 := by omega
        clear hA hB p1 p2 p3 p4 hT H HR l1 l2 hpl hps hD hRR hBB hn hz hi hsb hOO hCC c2 T ht ha
        cases sb
        · go_enter Tryz.func12, Tryz.ntmps12
          go_wp2_with fail
          refine (CO.out _).mono ?_
          rintro e w1 ⟨rfl, rfl⟩
          go_wp2_with fail
          refine (CC.out _).mono ?_
          rintro e w1 ⟨rfl, rfl⟩
          go_wp2_with fail
          refine (CI.out _).mono ?_
          rintro e w1 ⟨rfl, rfl⟩
          go_wp2_with fail
          refine (CI.out _).mono ?_
          rintro e w1 ⟨rfl, rfl⟩
          go_wp2_with fail
          refine (CA.out _).mono ?_
          rintro e w1 ⟨rfl, rfl⟩
          go_wp2_with fail
          refine (CS.out _ HT.out).mono ?_
          rintro e w2 ⟨rfl, hb⟩
          have B2 := Lib.hid hb
          have P2 := Lib.hid (HPT.out.below hb)
          clear hb
          go_wp2_with fail
          refine (CP.out _ P2.out).mono ?_
          rintro e w3 ⟨rfl, hb⟩
          have B3 := Lib.hid (B2.out.trans (hb.mono B2.out.size))
          clear hb
          go_wp2
          go_ret
          exact ⟨by first | rfl | (simp [sgnS, strOf]) | (show _ = _; simp [sgnS, strOf]; rfl), B3.out⟩
        · go_enter Tryz.func12, Tryz.ntmps12
          go_wp2_with fail
          refine (CO.out _).mono ?_
          rintro e w1 ⟨rfl, rfl⟩
          go_wp2_with fail
          refine (CC.out _).mono ?_
          rintro e w1 ⟨rfl, rfl⟩
          go_wp2_with fail
          refine (CI.out _).mono ?_
          rintro e w1 ⟨rfl, rfl⟩
          go_wp2_with fail
          refine (CI.out _).mono ?_
          rintro e w1 ⟨rfl, rfl⟩
          go_wp2_with fail
          refine (CA.out _).mono ?_
          rintro e w1 ⟨rfl, rfl⟩
          go_wp2_with fail
          refine (CS.out _ HT.out).mono ?_
          rintro e w2 ⟨rfl, hb⟩
          have B2 := Lib.hid hb
          have P2 := Lib.hid (HPT.out.below hb)
          clear hb
          go_wp2_with fail
          refine (CP.out _ P2.out).mono ?_
          rintro e w3 ⟨rfl, hb⟩
          have B3 := Lib.hid (B2.out.trans (hb.mono B2.out.size))
          clear hb
          go_wp2
          go_ret
          exact ⟨by first | rfl | (simp [sgnS, strOf]) | (show _ = _; simp [sgnS, strOf]; rfl), B3.out⟩
      · rw [hi] at CI
        have HR := show showS a = (if sb then [45] else [43]) ++ [73, 110, 102] by
          unfold showS
          rw [hn, hz, hi, hsb]; rfl
        rw [HR]
        clear HR hn hz hi hsb hOO hCC c2 T ht ha
        cases sb
        · go_enter Tryz.func12, Tryz.ntmps12
          go_wp2_with fail
          refine (CO.out _).mono ?_
          rintro e w1 ⟨rfl, rfl⟩
          go_wp2_with fail
          refine (CC.out _).mono ?_
          rintro e w1 ⟨rfl, rfl⟩
          go_wp2_with fail
          refine (CI.out _).mono ?_
          rintro e w1 ⟨rfl, rfl⟩
          go_wp2
          go_ret
          exact ⟨rfl, Below.refl _ _⟩
        · go_enter Tryz.func12, Tryz.ntmps12
          go_wp2_with fail
          refine (CO.out _).mono ?_
          rintro e w1 ⟨rfl, rfl⟩
          go_wp2_with fail
          refine (CC.out _).mono ?_
          rintro e w1 ⟨rfl, rfl⟩
          go_wp2_with fail
          refine (CI.out _).mono ?_
          rintro e w1 ⟨rfl, rfl⟩
          go_wp2_with fail
          refine (CI.out _).mono ?_
          rintro e w1 ⟨rfl, rfl⟩
          go_wp2
          go_ret
          exact ⟨rfl, Below.refl _ _⟩
    · rw [hz] at c1
      have HR := show showS a = sgnS sb ++ [48] by
        unfold showS
        rw [hn, hz, hsb]; rfl
      rw [HR]
      clear HR hn hz hsb hOO hCC c2 T ht ha
      cases sb
      · go_enter Tryz.func12, Tryz.ntmps12
        go_wp2_with fail
        refine (CO.out _).mono ?_
        rintro e w1 ⟨rfl, rfl⟩
        go_wp2_with fail
        refine (CC.out _).mono ?_
        rintro e w1 ⟨rfl, rfl⟩
        go_wp2
        go_ret
        exact ⟨rfl, Below.refl _ _⟩
      · go_enter Tryz.func12, Tryz.ntmps12
        go_wp2_with fail
        refine (CO.out _).mono ?_
        rintro e w1 ⟨rfl, rfl⟩
        go_wp2_with fail
        refine (CC.out _).mono ?_
        rintro e w1 ⟨rfl, rfl⟩
        go_wp2
        go_ret
        exact ⟨rfl, Below.refl _ _⟩
  · have HR : showS a = [78, 97, 78] := by unfold showS; rw [hn]; rfl
    rw [HR]
    have c2 : Nr.dCok a 0 = false := by unfold Nr.dCok; rw [hn]; rfl
    rw [c2] at CC
    obtain ⟨O, hOO⟩ : ∃ O, Nr.dOrder a 0 = O := ⟨_, rfl⟩
    rw [hOO] at CO
    obtain ⟨C, hCC⟩ : ∃ C, Nr.dCmp a 0 = C := ⟨_, rfl⟩
    rw [hCC] at CC
    obtain ⟨ob, hob⟩ : ∃ b, decide (O < 0) = b := ⟨_, rfl⟩
    clear HR hn hOO hCC c2 T ht ha
    cases ob
    · go_enter Tryz.func12, Tryz.ntmps12
      go_wp2_with fail
      refine (CO.out _).mono ?_
      rintro e w1 ⟨rfl, rfl⟩
      go_wp2_with fail
      refine (CC.out _).mono ?_
      rintro e w1 ⟨rfl, rfl⟩
      go_wp2
      go_ret
      exact ⟨rfl, Below.refl _ _⟩
    · go_enter Tryz.func12, Tryz.ntmps12
      go_wp2_with fail
      refine (CO.out _).mono ?_
      rintro e w1 ⟨rfl, rfl⟩
      go_wp2_with fail
      refine (CC.out _).mono ?_
      rintro e w1 ⟨rfl, rfl⟩
      go_wp2
      go_ret
      exact ⟨rfl, Below.refl _ _⟩
end Go.Proofs.YthhlhiighgnkmaaGreatDoor
/-! ## WALKS: the document's own Show. -/
namespace Go.Proofs.YthhlhiighgnkmaaGreatDoor
set_option linter.unusedVariables false
set_option linter.unusedSimpArgs false
open Go.RowKit Go.PlainAid
set_option maxRecDepth 100000 in
set_option maxHeartbeats 4000000 in
theorem rshow_false (a B : Nat) (ds : List Nat) (k : Int) (w : World) (hl : 1 ≤ ds.length) (hl2 : ds.length ≤ 18) (hk1 : -400 ≤ k) (hk2 : k ≤ 420)
    (CN : Hid (∀ w, Calls Tryz.prog 16 #[.int .u64 (a : Int)] w fun e w' => e = .returned (.bool false) ∧ w' = w))
    (CG : Hid (∀ w, Calls Tryz.prog 36 #[.int .u64 (a : Int)] w fun e w' => e = .returned (.bool false) ∧ w' = w))
    (CI : Hid (∀ w, Calls Tryz.prog 37 #[.int .u64 (a : Int)] w fun e w' => e = .returned (.bool false) ∧ w' = w))
    (CZ : Hid (∀ w, Calls Tryz.prog 38 #[.int .u64 (a : Int)] w fun e w' => e = .returned (.bool false) ∧ w' = w))
    (CA : Hid (∀ w, Calls Tryz.prog 40 #[.int .u64 (a : Int)] w fun e w' => e = .returned (.int .u64 (B : Int)) ∧ w' = w))
    (CS : Hid (∀ w, Calls Tryz.prog 39 #[.int .u64 (B : Int)] w (Gives w (.tuple #[.string (strOf ds), .int .i64 k])))) :
    Calls Tryz.prog 13 #[.int .u64 (a : Int)] w (Gives w (.string (strOf (sgnS false ++ ptT ds k)))) := by
  have hsz := strOf_size ds
  by_cases h1 : k < 1
  · by_cases h2 : k < -5
    · by_cases hmany : 1 < ds.length
      ·
        have zzS : (strOf ds).size ≤ 18 := by rw [strOf_size]; omega
        obtain ⟨S, hS⟩ : ∃ s, strOf ds = s := ⟨_, rfl⟩
        rw [hS] at CS hsz zzS
        have d1 : decide (1 ≤ k) = false := decide_eq_false (by omega)
        have d4 : decide (-5 ≤ k) = false := decide_eq_false (by omega)
        obtain ⟨u, hu⟩ : ∃ u : Nat, 1 - k = (u : Int) := ⟨(1 - k).toNat, by omega⟩
        have e1 : IntKind.i64.wrap (1 - k) = (u : Int) := by rw [IntKind.wrap_i64]; omega
        have e2 : IntKind.i64.wrap (k - 1) = k - 1 := by rw [IntKind.wrap_i64]; omega
        have d6 : decide (k - 1 < 0) = true := decide_eq_true (by omega)
        have CW := Lib.hid (fun w => rwhole_any u (by omega) w)
        have zzU : (strOf (decN u)).size ≤ 100 := by rw [strOf_size]; exact Nat.le_trans (decN_len 19 u (by omega)) (by decide)
        obtain ⟨U, hU⟩ : ∃ s, strOf (decN u) = s := ⟨_, rfl⟩
        rw [hU] at CW zzU
        have x1 := strOf_extract ds 0 1 (by omega) (by omega)
        have x2 := strOf_extract ds 1 ds.length (by omega) (Nat.le_refl _)
        rw [List.drop_zero, Nat.sub_zero, hS] at x1
        rw [take_all, hS] at x2
        have zzP1 : (strOf (ds.take 1)).size ≤ 100 := by rw [strOf_size]; rw [List.length_take]; omega
        obtain ⟨P1, hP1⟩ : ∃ s, strOf (ds.take 1) = s := ⟨_, rfl⟩
        have zzP2 : (strOf (ds.drop 1)).size ≤ 100 := by rw [strOf_size]; rw [List.length_drop]; omega
        obtain ⟨P2, hP2⟩ : ∃ s, strOf (ds.drop 1) = s := ⟨_, rfl⟩
        rw [hP1] at x1 zzP1
        rw [hP2] at x2 zzP2
        have cc1 : P1.size + 1 ≤ 9223372036854775807 := by omega
        obtain ⟨Q1, hQ1⟩ : ∃ s, P1 ++ (ByteArray.mk #[46]) = s := ⟨_, rfl⟩
        have zzQ1 : Q1.size ≤ 101 := by rw [← hQ1, ByteArray.size_append]; rw [show (ByteArray.mk #[46]).size = 1 from rfl]; omega
        have hsQ1 : Q1 = strOf ((ds.take 1) ++ [46]) := by
          have ha : P1 = strOf (ds.take 1) := by exact hP1.symm
          have hb : (ByteArray.mk #[46]) = strOf [46] := by rfl
          rw [← hQ1, ha, hb, strOf_append]
        have cc2 : Q1.size + P2.size ≤ 9223372036854775807 := by omega
        obtain ⟨Q2, hQ2⟩ : ∃ s, Q1 ++ P2 = s := ⟨_, rfl⟩
        have zzQ2 : Q2.size ≤ 201 := by rw [← hQ2, ByteArray.size_append]; omega
        have hsQ2 : Q2 = strOf (((ds.take 1) ++ [46]) ++ (ds.drop 1)) := by
          have ha : Q1 = strOf ((ds.take 1) ++ [46]) := by exact hsQ1
          have hb : P2 = strOf (ds.drop 1) := by exact hP2.symm
          rw [← hQ2, ha, hb, strOf_append]
        have cc1b : ¬ 9223372036854775807 < P1.size + 1 := by omega
        have cc2b : ¬ 9223372036854775807 < Q1.size + P2.size := by omega
        rw [← hsz] at x2
        have d7 : decide ((1 : Int) < (S.size : Int)) = true := decide_eq_true (by omega)
        have d7b : decide (1 < S.size) = true := decide_eq_true (by omega)
        have hus : 1 ≤ S.size := by omega
        have cc3 : 0 + Q2.size ≤ 9223372036854775807 := by omega
        obtain ⟨Q3, hQ3⟩ : ∃ s, (ByteArray.mk #[]) ++ Q2 = s := ⟨_, rfl⟩
        have zzQ3 : Q3.size ≤ 201 := by rw [← hQ3, ByteArray.size_append]; rw [show (ByteArray.mk #[]).size = 0 from rfl]; omega
        have hsQ3 : Q3 = strOf ([] ++ (((ds.take 1) ++ [46]) ++ (ds.drop 1))) := by
          have ha : (ByteArray.mk #[]) = strOf [] := by rfl
          have hb : Q2 = strOf (((ds.take 1) ++ [46]) ++ (ds.drop 1)) := by exact hsQ2
          rw [← hQ3, ha, hb, strOf_append]
        have cc4 : Q3.size + 2 ≤ 9223372036854775807 := by omega
        obtain ⟨Q4, hQ4⟩ : ∃ s, Q3 ++ (ByteArray.mk #[101, 45]) = s := ⟨_, rfl⟩
        have zzQ4 : Q4.size ≤ 203 := by rw [← hQ4, ByteArray.size_append]; rw [show (ByteArray.mk #[101, 45]).size = 2 from rfl]; omega
        have hsQ4 : Q4 = strOf (([] ++ (((ds.take 1) ++ [46]) ++ (ds.drop 1))) ++ [101, 45]) := by
          have ha : Q3 = strOf ([] ++ (((ds.take 1) ++ [46]) ++ (ds.drop 1))) := by exact hsQ3
          have hb : (ByteArray.mk #[101, 45]) = strOf [101, 45] := by rfl
          rw [← hQ4, ha, hb, strOf_append]
        have cc5 : Q4.size + U.size ≤ 9223372036854775807 := by omega
        obtain ⟨Q5, hQ5⟩ : ∃ s, Q4 ++ U = s := ⟨_, rfl⟩
        have zzQ5 : Q5.size ≤ 303 := by rw [← hQ5, ByteArray.size_append]; omega
        have hsQ5 : Q5 = strOf ((([] ++ (((ds.take 1) ++ [46]) ++ (ds.drop 1))) ++ [101, 45]) ++ (decN u)) := by
          have ha : Q4 = strOf (([] ++ (((ds.take 1) ++ [46]) ++ (ds.drop 1))) ++ [101, 45]) := by exact hsQ4
          have hb : U = strOf (decN u) := by exact hU.symm
          rw [← hQ5, ha, hb, strOf_append]
        have hfin : strOf (sgnS false ++ ptT ds k) = Q5 := by
          rw [hsQ5]; congr 1
          rw [show sgnS false = [] from rfl]
          unfold ptT
          rw [if_pos (by omega)]
          unfold expT
          rw [if_pos (by omega), if_pos (by omega), show (-(k - 1)).toNat = u by omega]
          simp
        rw [hfin]
        clear hfin hsQ1 hsQ2 hsQ3 hsQ4 hsQ5 hl hl2 hk1 hk2 hS hP1 hP2 hU h1 h2 hmany hu hsz
        go_enter Tryz.func13, Tryz.ntmps13
        go_wp2_with fail
        refine (CN.out _).mono ?_
        rintro e w1 ⟨rfl, rfl⟩
        go_wp2_with fail
        refine (CG.out _).mono ?_
        rintro e w1 ⟨rfl, rfl⟩
        go_wp2_with fail
        refine (CI.out _).mono ?_
        rintro e w1 ⟨rfl, rfl⟩
        go_wp2_with fail
        refine (CZ.out _).mono ?_
        rintro e w1 ⟨rfl, rfl⟩
        go_wp2_with fail
        refine (CA.out _).mono ?_
        rintro e w1 ⟨rfl, rfl⟩
        go_wp2_with fail
        refine (CS.out _).mono ?_
        rintro e w2 ⟨rfl, hb⟩
        have B2 := Lib.hid hb
        clear hb
        go_wp2_with fail
        go_quiet (fail)
        go_wp2_with fail
        refine (CW.out _).mono ?_
        rintro e w3 ⟨rfl, hb⟩
        have B3 : Hid (Below w1.heap.size w1 w3) := Lib.hid ((below_drewN B2.out _).trans (hb.mono B2.out.size))
        clear hb
        go_wp2
        go_ret
        exact ⟨rfl, B3.out⟩
      ·
        have zzS : (strOf ds).size ≤ 18 := by rw [strOf_size]; omega
        obtain ⟨S, hS⟩ : ∃ s, strOf ds = s := ⟨_, rfl⟩
        rw [hS] at CS hsz zzS
        have d1 : decide (1 ≤ k) = false := decide_eq_false (by omega)
        have d4 : decide (-5 ≤ k) = false := decide_eq_false (by omega)
        obtain ⟨u, hu⟩ : ∃ u : Nat, 1 - k = (u : Int) := ⟨(1 - k).toNat, by omega⟩
        have e1 : IntKind.i64.wrap (1 - k) = (u : Int) := by rw [IntKind.wrap_i64]; omega
        have e2 : IntKind.i64.wrap (k - 1) = k - 1 := by rw [IntKind.wrap_i64]; omega
        have d6 : decide (k - 1 < 0) = true := decide_eq_true (by omega)
        have CW := Lib.hid (fun w => rwhole_any u (by omega) w)
        have zzU : (strOf (decN u)).size ≤ 100 := by rw [strOf_size]; exact Nat.le_trans (decN_len 19 u (by omega)) (by decide)
        obtain ⟨U, hU⟩ : ∃ s, strOf (decN u) = s := ⟨_, rfl⟩
        rw [hU] at CW zzU
        have d7 : decide ((1 : Int) < (S.size : Int)) = false := decide_eq_false (by omega)
        have d7b : decide (1 < S.size) = false := decide_eq_false (by omega)
        have cc1 : 0 + S.size ≤ 9223372036854775807 := by omega
        obtain ⟨Q1, hQ1⟩ : ∃ s, (ByteArray.mk #[]) ++ S = s := ⟨_, rfl⟩
        have zzQ1 : Q1.size ≤ 18 := by rw [← hQ1, ByteArray.size_append]; rw [show (ByteArray.mk #[]).size = 0 from rfl]; omega
        have hsQ1 : Q1 = strOf ([] ++ ds) := by
          have ha : (ByteArray.mk #[]) = strOf [] := by rfl
          have hb : S = strOf ds := by exact hS.symm
          rw [← hQ1, ha, hb, strOf_append]
        have cc2 : Q1.size + 2 ≤ 9223372036854775807 := by omega
        obtain ⟨Q2, hQ2⟩ : ∃ s, Q1 ++ (ByteArray.mk #[101, 45]) = s := ⟨_, rfl⟩
        have zzQ2 : Q2.size ≤ 20 := by rw [← hQ2, ByteArray.size_append]; rw [show (ByteArray.mk #[101, 45]).size = 2 from rfl]; omega
        have hsQ2 : Q2 = strOf (([] ++ ds) ++ [101, 45]) := by
          have ha : Q1 = strOf ([] ++ ds) := by exact hsQ1
          have hb : (ByteArray.mk #[101, 45]) = strOf [101, 45] := by rfl
          rw [← hQ2, ha, hb, strOf_append]
        have cc3 : Q2.size + U.size ≤ 9223372036854775807 := by omega
        obtain ⟨Q3, hQ3⟩ : ∃ s, Q2 ++ U = s := ⟨_, rfl⟩
        have zzQ3 : Q3.size ≤ 120 := by rw [← hQ3, ByteArray.size_append]; omega
        have hsQ3 : Q3 = strOf ((([] ++ ds) ++ [101, 45]) ++ (decN u)) := by
          have ha : Q2 = strOf (([] ++ ds) ++ [101, 45]) := by exact hsQ2
          have hb : U = strOf (decN u) := by exact hU.symm
          rw [← hQ3, ha, hb, strOf_append]
        have hfin : strOf (sgnS false ++ ptT ds k) = Q3 := by
          rw [hsQ3]; congr 1
          rw [show sgnS false = [] from rfl]
          unfold ptT
          rw [if_pos (by omega)]
          unfold expT
          rw [if_neg (by omega), if_pos (by omega), show (-(k - 1)).toNat = u by omega]
          rw [List.take_of_length_le (by omega)]
          simp
        rw [hfin]
        clear hfin hsQ1 hsQ2 hsQ3 hl hl2 hk1 hk2 hS hU h1 h2 hmany hu hsz
        go_enter Tryz.func13, Tryz.ntmps13
        go_wp2_with fail
        refine (CN.out _).mono ?_
        rintro e w1 ⟨rfl, rfl⟩
        go_wp2_with fail
        refine (CG.out _).mono ?_
        rintro e w1 ⟨rfl, rfl⟩
        go_wp2_with fail
        refine (CI.out _).mono ?_
        rintro e w1 ⟨rfl, rfl⟩
        go_wp2_with fail
        refine (CZ.out _).mono ?_
        rintro e w1 ⟨rfl, rfl⟩
        go_wp2_with fail
        refine (CA.out _).mono ?_
        rintro e w1 ⟨rfl, rfl⟩
        go_wp2_with fail
        refine (CS.out _).mono ?_
        rintro e w2 ⟨rfl, hb⟩
        have B2 := Lib.hid hb
        clear hb
        go_wp2_with fail
        refine (CW.out _).mono ?_
        rintro e w3 ⟨rfl, hb⟩
        have B3 : Hid (Below w1.heap.size w1 w3) := Lib.hid (B2.out.trans (hb.mono B2.out.size))
        clear hb
        go_wp2
        go_ret
        exact ⟨rfl, B3.out⟩
    ·
      have zzS : (strOf ds).size ≤ 18 := by rw [strOf_size]; omega
      obtain ⟨S, hS⟩ : ∃ s, strOf ds = s := ⟨_, rfl⟩
      rw [hS] at CS hsz zzS
      obtain ⟨u, hu⟩ : ∃ u : Nat, -k = (u : Int) := ⟨(-k).toNat, by omega⟩
      have e1 : IntKind.i64.wrap (-k) = (u : Int) := by rw [IntKind.wrap_i64]; omega
      have d1 : decide (1 ≤ k) = false := decide_eq_false (by omega)
      have d4 : decide (-5 ≤ k) = true := decide_eq_true (by omega)
      have d5 : decide (k ≤ 0) = true := decide_eq_true (by omega)
      have CR := Lib.hid (fun w => noughts_any u (by omega) w)
      have zzU : (strOf (nghts u)).size ≤ 100 := by rw [strOf_size]; unfold nghts; rw [List.length_replicate]; omega
      obtain ⟨U, hU⟩ : ∃ s, strOf (nghts u) = s := ⟨_, rfl⟩
      rw [hU] at CR zzU
      have cc1 : 0 + 2 ≤ 9223372036854775807 := by omega
      obtain ⟨Q1, hQ1⟩ : ∃ s, (ByteArray.mk #[]) ++ (ByteArray.mk #[48, 46]) = s := ⟨_, rfl⟩
      have zzQ1 : Q1.size ≤ 2 := by rw [← hQ1, ByteArray.size_append]; rw [show (ByteArray.mk #[]).size = 0 from rfl]; rw [show (ByteArray.mk #[48, 46]).size = 2 from rfl]; omega
      have hsQ1 : Q1 = strOf ([] ++ [48, 46]) := by
        have ha : (ByteArray.mk #[]) = strOf [] := by rfl
        have hb : (ByteArray.mk #[48, 46]) = strOf [48, 46] := by rfl
        rw [← hQ1, ha, hb, strOf_append]
      have cc2 : Q1.size + U.size ≤ 9223372036854775807 := by omega
      obtain ⟨Q2, hQ2⟩ : ∃ s, Q1 ++ U = s := ⟨_, rfl⟩
      have zzQ2 : Q2.size ≤ 102 := by rw [← hQ2, ByteArray.size_append]; omega
      have hsQ2 : Q2 = strOf (([] ++ [48, 46]) ++ (nghts u)) := by
        have ha : Q1 = strOf ([] ++ [48, 46]) := by exact hsQ1
        have hb : U = strOf (nghts u) := by exact hU.symm
        rw [← hQ2, ha, hb, strOf_append]
      have cc3 : Q2.size + S.size ≤ 9223372036854775807 := by omega
      obtain ⟨Q3, hQ3⟩ : ∃ s, Q2 ++ S = s := ⟨_, rfl⟩
      have zzQ3 : Q3.size ≤ 120 := by rw [← hQ3, ByteArray.size_append]; omega
      have hsQ3 : Q3 = strOf ((([] ++ [48, 46]) ++ (nghts u)) ++ ds) := by
        have ha : Q2 = strOf (([] ++ [48, 46]) ++ (nghts u)) := by exact hsQ2
        have hb : S = strOf ds := by exact hS.symm
        rw [← hQ3, ha, hb, strOf_append]
      have hfin : strOf (sgnS false ++ ptT ds k) = Q3 := by
        rw [hsQ3]; congr 1
        rw [show sgnS false = [] from rfl]
        unfold ptT
        rw [if_neg (by omega), if_pos (by omega), show (-k).toNat = u by omega]
        simp
      rw [hfin]
      clear hfin hsQ1 hsQ2 hsQ3 hl hl2 hk1 hk2 hS hU hu h1 h2 hsz
      go_enter Tryz.func13, Tryz.ntmps13
      go_wp2_with fail
      refine (CN.out _).mono ?_
      rintro e w1 ⟨rfl, rfl⟩
      go_wp2_with fail
      refine (CG.out _).mono ?_
      rintro e w1 ⟨rfl, rfl⟩
      go_wp2_with fail
      refine (CI.out _).mono ?_
      rintro e w1 ⟨rfl, rfl⟩
      go_wp2_with fail
      refine (CZ.out _).mono ?_
      rintro e w1 ⟨rfl, rfl⟩
      go_wp2_with fail
      refine (CA.out _).mono ?_
      rintro e w1 ⟨rfl, rfl⟩
      go_wp2_with fail
      refine (CS.out _).mono ?_
      rintro e w2 ⟨rfl, hb⟩
      have B2 := Lib.hid hb
      clear hb
      go_wp2_with fail
      refine (CR.out _).mono ?_
      rintro e w3 ⟨rfl, rfl⟩
      go_wp2
      go_ret
      exact ⟨rfl, B2.out⟩
  · by_cases h2 : 21 < k
    · by_cases hmany : 1 < ds.length
      ·
        have zzS : (strOf ds).size ≤ 18 := by rw [strOf_size]; omega
        obtain ⟨S, hS⟩ : ∃ s, strOf ds = s := ⟨_, rfl⟩
        rw [hS] at CS hsz zzS
        have d1 : decide (1 ≤ k) = true := decide_eq_true (by omega)
        have d2 : decide (k ≤ 21) = false := decide_eq_false (by omega)
        have d4 : decide (-5 ≤ k) = true := decide_eq_true (by omega)
        have d5 : decide (k ≤ 0) = false := decide_eq_false (by omega)
        obtain ⟨u, hu⟩ : ∃ u : Nat, k - 1 = (u : Int) := ⟨(k - 1).toNat, by omega⟩
        have e1 : IntKind.i64.wrap (k - 1) = (u : Int) := by rw [IntKind.wrap_i64]; omega
        have d6 : decide ((u : Int) < 0) = false := decide_eq_false (by omega)
        have CW := Lib.hid (fun w => rwhole_any u (by omega) w)
        have zzU : (strOf (decN u)).size ≤ 100 := by rw [strOf_size]; exact Nat.le_trans (decN_len 19 u (by omega)) (by decide)
        obtain ⟨U, hU⟩ : ∃ s, strOf (decN u) = s := ⟨_, rfl⟩
        rw [hU] at CW zzU
        have x1 := strOf_extract ds 0 1 (by omega) (by omega)
        have x2 := strOf_extract ds 1 ds.length (by omega) (Nat.le_refl _)
        rw [List.drop_zero, Nat.sub_zero, hS] at x1
        rw [take_all, hS] at x2
        have zzP1 : (strOf (ds.take 1)).size ≤ 100 := by rw [strOf_size]; rw [List.length_take]; omega
        obtain ⟨P1, hP1⟩ : ∃ s, strOf (ds.take 1) = s := ⟨_, rfl⟩
        have zzP2 : (strOf (ds.drop 1)).size ≤ 100 := by rw [strOf_size]; rw [List.length_drop]; omega
        obtain ⟨P2, hP2⟩ : ∃ s, strOf (ds.drop 1) = s := ⟨_, rfl⟩
        rw [hP1] at x1 zzP1
        rw [hP2] at x2 zzP2
        have cc1 : P1.size + 1 ≤ 9223372036854775807 := by omega
        obtain ⟨Q1, hQ1⟩ : ∃ s, P1 ++ (ByteArray.mk #[46]) = s := ⟨_, rfl⟩
        have zzQ1 : Q1.size ≤ 101 := by rw [← hQ1, ByteArray.size_append]; rw [show (ByteArray.mk #[46]).size = 1 from rfl]; omega
        have hsQ1 : Q1 = strOf ((ds.take 1) ++ [46]) := by
          have ha : P1 = strOf (ds.take 1) := by exact hP1.symm
          have hb : (ByteArray.mk #[46]) = strOf [46] := by rfl
          rw [← hQ1, ha, hb, strOf_append]
        have cc2 : Q1.size + P2.size ≤ 9223372036854775807 := by omega
        obtain ⟨Q2, hQ2⟩ : ∃ s, Q1 ++ P2 = s := ⟨_, rfl⟩
        have zzQ2 : Q2.size ≤ 201 := by rw [← hQ2, ByteArray.size_append]; omega
        have hsQ2 : Q2 = strOf (((ds.take 1) ++ [46]) ++ (ds.drop 1)) := by
          have ha : Q1 = strOf ((ds.take 1) ++ [46]) := by exact hsQ1
          have hb : P2 = strOf (ds.drop 1) := by exact hP2.symm
          rw [← hQ2, ha, hb, strOf_append]
        have cc1b : ¬ 9223372036854775807 < P1.size + 1 := by omega
        have cc2b : ¬ 9223372036854775807 < Q1.size + P2.size := by omega
        rw [← hsz] at x2
        have d7 : decide ((1 : Int) < (S.size : Int)) = true := decide_eq_true (by omega)
        have d7b : decide (1 < S.size) = true := decide_eq_true (by omega)
        have hus : 1 ≤ S.size := by omega
        have cc3 : 0 + Q2.size ≤ 9223372036854775807 := by omega
        obtain ⟨Q3, hQ3⟩ : ∃ s, (ByteArray.mk #[]) ++ Q2 = s := ⟨_, rfl⟩
        have zzQ3 : Q3.size ≤ 201 := by rw [← hQ3, ByteArray.size_append]; rw [show (ByteArray.mk #[]).size = 0 from rfl]; omega
        have hsQ3 : Q3 = strOf ([] ++ (((ds.take 1) ++ [46]) ++ (ds.drop 1))) := by
          have ha : (ByteArray.mk #[]) = strOf [] := by rfl
          have hb : Q2 = strOf (((ds.take 1) ++ [46]) ++ (ds.drop 1)) := by exact hsQ2
          rw [← hQ3, ha, hb, strOf_append]
        have cc4 : Q3.size + 2 ≤ 9223372036854775807 := by omega
        obtain ⟨Q4, hQ4⟩ : ∃ s, Q3 ++ (ByteArray.mk #[101, 43]) = s := ⟨_, rfl⟩
        have zzQ4 : Q4.size ≤ 203 := by rw [← hQ4, ByteArray.size_append]; rw [show (ByteArray.mk #[101, 43]).size = 2 from rfl]; omega
        have hsQ4 : Q4 = strOf (([] ++ (((ds.take 1) ++ [46]) ++ (ds.drop 1))) ++ [101, 43]) := by
          have ha : Q3 = strOf ([] ++ (((ds.take 1) ++ [46]) ++ (ds.drop 1))) := by exact hsQ3
          have hb : (ByteArray.mk #[101, 43]) = strOf [101, 43] := by rfl
          rw [← hQ4, ha, hb, strOf_append]
        have cc5 : Q4.size + U.size ≤ 9223372036854775807 := by omega
        obtain ⟨Q5, hQ5⟩ : ∃ s, Q4 ++ U = s := ⟨_, rfl⟩
        have zzQ5 : Q5.size ≤ 303 := by rw [← hQ5, ByteArray.size_append]; omega
        have hsQ5 : Q5 = strOf ((([] ++ (((ds.take 1) ++ [46]) ++ (ds.drop 1))) ++ [101, 43]) ++ (decN u)) := by
          have ha : Q4 = strOf (([] ++ (((ds.take 1) ++ [46]) ++ (ds.drop 1))) ++ [101, 43]) := by exact hsQ4
          have hb : U = strOf (decN u) := by exact hU.symm
          rw [← hQ5, ha, hb, strOf_append]
        have hfin : strOf (sgnS false ++ ptT ds k) = Q5 := by
          rw [hsQ5]; congr 1
          rw [show sgnS false = [] from rfl]
          unfold ptT
          rw [if_pos (by omega)]
          unfold expT
          rw [if_pos (by omega), if_neg (by omega), show (k - 1).toNat = u by omega]
          simp
        rw [hfin]
        clear hfin hsQ1 hsQ2 hsQ3 hsQ4 hsQ5 hl hl2 hk1 hk2 hS hP1 hP2 hU h1 h2 hmany hu hsz
        go_enter Tryz.func13, Tryz.ntmps13
        go_wp2_with fail
        refine (CN.out _).mono ?_
        rintro e w1 ⟨rfl, rfl⟩
        go_wp2_with fail
        refine (CG.out _).mono ?_
        rintro e w1 ⟨rfl, rfl⟩
        go_wp2_with fail
        refine (CI.out _).mono ?_
        rintro e w1 ⟨rfl, rfl⟩
        go_wp2_with fail
        refine (CZ.out _).mono ?_
        rintro e w1 ⟨rfl, rfl⟩
        go_wp2_with fail
        refine (CA.out _).mono ?_
        rintro e w1 ⟨rfl, rfl⟩
        go_wp2_with fail
        refine (CS.out _).mono ?_
        rintro e w2 ⟨rfl, hb⟩
        have B2 := Lib.hid hb
        clear hb
        go_wp2_with fail
        go_quiet (fail)
        go_wp2_with fail
        refine (CW.out _).mono ?_
        rintro e w3 ⟨rfl, hb⟩
        have B3 : Hid (Below w1.heap.size w1 w3) := Lib.hid ((below_drewN B2.out _).trans (hb.mono B2.out.size))
        clear hb
        go_wp2
        go_ret
        exact ⟨rfl, B3.out⟩
      ·
        have zzS : (strOf ds).size ≤ 18 := by rw [strOf_size]; omega
        obtain ⟨S, hS⟩ : ∃ s, strOf ds = s := ⟨_, rfl⟩
        rw [hS] at CS hsz zzS
        have d1 : decide (1 ≤ k) = true := decide_eq_true (by omega)
        have d2 : decide (k ≤ 21) = false := decide_eq_false (by omega)
        have d4 : decide (-5 ≤ k) = true := decide_eq_true (by omega)
        have d5 : decide (k ≤ 0) = false := decide_eq_false (by omega)
        obtain ⟨u, hu⟩ : ∃ u : Nat, k - 1 = (u : Int) := ⟨(k - 1).toNat, by omega⟩
        have e1 : IntKind.i64.wrap (k - 1) = (u : Int) := by rw [IntKind.wrap_i64]; omega
        have d6 : decide ((u : Int) < 0) = false := decide_eq_false (by omega)
        have CW := Lib.hid (fun w => rwhole_any u (by omega) w)
        have zzU : (strOf (decN u)).size ≤ 100 := by rw [strOf_size]; exact Nat.le_trans (decN_len 19 u (by omega)) (by decide)
        obtain ⟨U, hU⟩ : ∃ s, strOf (decN u) = s := ⟨_, rfl⟩
        rw [hU] at CW zzU
        have d7 : decide ((1 : Int) < (S.size : Int)) = false := decide_eq_false (by omega)
        have d7b : decide (1 < S.size) = false := decide_eq_false (by omega)
        have cc1 : 0 + S.size ≤ 9223372036854775807 := by omega
        obtain ⟨Q1, hQ1⟩ : ∃ s, (ByteArray.mk #[]) ++ S = s := ⟨_, rfl⟩
        have zzQ1 : Q1.size ≤ 18 := by rw [← hQ1, ByteArray.size_append]; rw [show (ByteArray.mk #[]).size = 0 from rfl]; omega
        have hsQ1 : Q1 = strOf ([] ++ ds) := by
          have ha : (ByteArray.mk #[]) = strOf [] := by rfl
          have hb : S = strOf ds := by exact hS.symm
          rw [← hQ1, ha, hb, strOf_append]
        have cc2 : Q1.size + 2 ≤ 9223372036854775807 := by omega
        obtain ⟨Q2, hQ2⟩ : ∃ s, Q1 ++ (ByteArray.mk #[101, 43]) = s := ⟨_, rfl⟩
        have zzQ2 : Q2.size ≤ 20 := by rw [← hQ2, ByteArray.size_append]; rw [show (ByteArray.mk #[101, 43]).size = 2 from rfl]; omega
        have hsQ2 : Q2 = strOf (([] ++ ds) ++ [101, 43]) := by
          have ha : Q1 = strOf ([] ++ ds) := by exact hsQ1
          have hb : (ByteArray.mk #[101, 43]) = strOf [101, 43] := by rfl
          rw [← hQ2, ha, hb, strOf_append]
        have cc3 : Q2.size + U.size ≤ 9223372036854775807 := by omega
        obtain ⟨Q3, hQ3⟩ : ∃ s, Q2 ++ U = s := ⟨_, rfl⟩
        have zzQ3 : Q3.size ≤ 120 := by rw [← hQ3, ByteArray.size_append]; omega
        have hsQ3 : Q3 = strOf ((([] ++ ds) ++ [101, 43]) ++ (decN u)) := by
          have ha : Q2 = strOf (([] ++ ds) ++ [101, 43]) := by exact hsQ2
          have hb : U = strOf (decN u) := by exact hU.symm
          rw [← hQ3, ha, hb, strOf_append]
        have hfin : strOf (sgnS false ++ ptT ds k) = Q3 := by
          rw [hsQ3]; congr 1
          rw [show sgnS false = [] from rfl]
          unfold ptT
          rw [if_pos (by omega)]
          unfold expT
          rw [if_neg (by omega), if_neg (by omega), show (k - 1).toNat = u by omega]
          rw [List.take_of_length_le (by omega)]
          simp
        rw [hfin]
        clear hfin hsQ1 hsQ2 hsQ3 hl hl2 hk1 hk2 hS hU h1 h2 hmany hu hsz
        go_enter Tryz.func13, Tryz.ntmps13
        go_wp2_with fail
        refine (CN.out _).mono ?_
        rintro e w1 ⟨rfl, rfl⟩
        go_wp2_with fail
        refine (CG.out _).mono ?_
        rintro e w1 ⟨rfl, rfl⟩
        go_wp2_with fail
        refine (CI.out _).mono ?_
        rintro e w1 ⟨rfl, rfl⟩
        go_wp2_with fail
        refine (CZ.out _).mono ?_
        rintro e w1 ⟨rfl, rfl⟩
        go_wp2_with fail
        refine (CA.out _).mono ?_
        rintro e w1 ⟨rfl, rfl⟩
        go_wp2_with fail
        refine (CS.out _).mono ?_
        rintro e w2 ⟨rfl, hb⟩
        have B2 := Lib.hid hb
        clear hb
        go_wp2_with fail
        refine (CW.out _).mono ?_
        rintro e w3 ⟨rfl, hb⟩
        have B3 : Hid (Below w1.heap.size w1 w3) := Lib.hid (B2.out.trans (hb.mono B2.out.size))
        clear hb
        go_wp2
        go_ret
        exact ⟨rfl, B3.out⟩
    · by_cases hin : (ds.length : Int) ≤ k
      ·
        have zzS : (strOf ds).size ≤ 18 := by rw [strOf_size]; omega
        obtain ⟨S, hS⟩ : ∃ s, strOf ds = s := ⟨_, rfl⟩
        rw [hS] at CS hsz zzS
        obtain ⟨u, hu⟩ : ∃ u : Nat, k - (ds.length : Int) = (u : Int) := ⟨(k - (ds.length : Int)).toNat, by omega⟩
        have e1 : IntKind.i64.wrap (k - (S.size : Int)) = (u : Int) := by rw [IntKind.wrap_i64]; omega
        have d1 : decide (1 ≤ k) = true := decide_eq_true (by omega)
        have d2 : decide (k ≤ 21) = true := decide_eq_true (by omega)
        have d3 : decide ((S.size : Int) ≤ k) = true := decide_eq_true (by omega)
        have CR := Lib.hid (fun w => noughts_any u (by omega) w)
        have zzU : (strOf (nghts u)).size ≤ 100 := by rw [strOf_size]; unfold nghts; rw [List.length_replicate]; omega
        obtain ⟨U, hU⟩ : ∃ s, strOf (nghts u) = s := ⟨_, rfl⟩
        rw [hU] at CR zzU
        have cc1 : 0 + S.size ≤ 9223372036854775807 := by omega
        obtain ⟨Q1, hQ1⟩ : ∃ s, (ByteArray.mk #[]) ++ S = s := ⟨_, rfl⟩
        have zzQ1 : Q1.size ≤ 18 := by rw [← hQ1, ByteArray.size_append]; rw [show (ByteArray.mk #[]).size = 0 from rfl]; omega
        have hsQ1 : Q1 = strOf ([] ++ ds) := by
          have ha : (ByteArray.mk #[]) = strOf [] := by rfl
          have hb : S = strOf ds := by exact hS.symm
          rw [← hQ1, ha, hb, strOf_append]
        have cc2 : Q1.size + U.size ≤ 9223372036854775807 := by omega
        obtain ⟨Q2, hQ2⟩ : ∃ s, Q1 ++ U = s := ⟨_, rfl⟩
        have zzQ2 : Q2.size ≤ 118 := by rw [← hQ2, ByteArray.size_append]; omega
        have hsQ2 : Q2 = strOf (([] ++ ds) ++ (nghts u)) := by
          have ha : Q1 = strOf ([] ++ ds) := by exact hsQ1
          have hb : U = strOf (nghts u) := by exact hU.symm
          rw [← hQ2, ha, hb, strOf_append]
        have hfin : strOf (sgnS false ++ ptT ds k) = Q2 := by
          rw [hsQ2]; congr 1
          rw [show sgnS false = [] from rfl]
          unfold ptT
          rw [if_neg (by omega), if_neg (by omega), if_neg (by omega), show (k - (ds.length : Int)).toNat = u by omega]
          simp
        rw [hfin]
        clear hfin hsQ1 hsQ2 hl hl2 hk1 hk2 hS hU hu hin h1 h2 hsz
        go_enter Tryz.func13, Tryz.ntmps13
        go_wp2_with fail
        refine (CN.out _).mono ?_
        rintro e w1 ⟨rfl, rfl⟩
        go_wp2_with fail
        refine (CG.out _).mono ?_
        rintro e w1 ⟨rfl, rfl⟩
        go_wp2_with fail
        refine (CI.out _).mono ?_
        rintro e w1 ⟨rfl, rfl⟩
        go_wp2_with fail
        refine (CZ.out _).mono ?_
        rintro e w1 ⟨rfl, rfl⟩
        go_wp2_with fail
        refine (CA.out _).mono ?_
        rintro e w1 ⟨rfl, rfl⟩
        go_wp2_with fail
        refine (CS.out _).mono ?_
        rintro e w2 ⟨rfl, hb⟩
        have B2 := Lib.hid hb
        clear hb
        go_wp2_with fail
        refine (CR.out _).mono ?_
        rintro e w3 ⟨rfl, rfl⟩
        go_wp2
        go_ret
        exact ⟨rfl, B2.out⟩
      ·
        have zzS : (strOf ds).size ≤ 18 := by rw [strOf_size]; omega
        obtain ⟨S, hS⟩ : ∃ s, strOf ds = s := ⟨_, rfl⟩
        rw [hS] at CS hsz zzS
        obtain ⟨u, hu⟩ : ∃ u : Nat, k = (u : Int) := ⟨k.toNat, by omega⟩
        have d1 : decide (1 ≤ k) = true := decide_eq_true (by omega)
        have d2 : decide (k ≤ 21) = true := decide_eq_true (by omega)
        have d3 : decide ((S.size : Int) ≤ k) = false := decide_eq_false (by omega)
        subst hu
        have d1b : decide (1 ≤ u) = true := decide_eq_true (by omega)
        have d2b : decide (u ≤ 21) = true := decide_eq_true (by omega)
        have d3b : decide (S.size ≤ u) = false := decide_eq_false (by omega)
        have x1 := strOf_extract ds 0 u (by omega) (by omega)
        have x2 := strOf_extract ds u ds.length (by omega) (Nat.le_refl _)
        rw [List.drop_zero, Nat.sub_zero, hS] at x1
        rw [take_all, hS] at x2
        have zzP1 : (strOf (ds.take u)).size ≤ 100 := by rw [strOf_size]; rw [List.length_take]; omega
        obtain ⟨P1, hP1⟩ : ∃ s, strOf (ds.take u) = s := ⟨_, rfl⟩
        have zzP2 : (strOf (ds.drop u)).size ≤ 100 := by rw [strOf_size]; rw [List.length_drop]; omega
        obtain ⟨P2, hP2⟩ : ∃ s, strOf (ds.drop u) = s := ⟨_, rfl⟩
        rw [hP1] at x1 zzP1
        rw [hP2] at x2 zzP2
        have cc1 : 0 + P1.size ≤ 9223372036854775807 := by omega
        obtain ⟨Q1, hQ1⟩ : ∃ s, (ByteArray.mk #[]) ++ P1 = s := ⟨_, rfl⟩
        have zzQ1 : Q1.size ≤ 100 := by rw [← hQ1, ByteArray.size_append]; rw [show (ByteArray.mk #[]).size = 0 from rfl]; omega
        have hsQ1 : Q1 = strOf ([] ++ (ds.take u)) := by
          have ha : (ByteArray.mk #[]) = strOf [] := by rfl
          have hb : P1 = strOf (ds.take u) := by exact hP1.symm
          rw [← hQ1, ha, hb, strOf_append]
        have cc2 : Q1.size + 1 ≤ 9223372036854775807 := by omega
        obtain ⟨Q2, hQ2⟩ : ∃ s, Q1 ++ (ByteArray.mk #[46]) = s := ⟨_, rfl⟩
        have zzQ2 : Q2.size ≤ 101 := by rw [← hQ2, ByteArray.size_append]; rw [show (ByteArray.mk #[46]).size = 1 from rfl]; omega
        have hsQ2 : Q2 = strOf (([] ++ (ds.take u)) ++ [46]) := by
          have ha : Q1 = strOf ([] ++ (ds.take u)) := by exact hsQ1
          have hb : (ByteArray.mk #[46]) = strOf [46] := by rfl
          rw [← hQ2, ha, hb, strOf_append]
        have cc3 : Q2.size + P2.size ≤ 9223372036854775807 := by omega
        obtain ⟨Q3, hQ3⟩ : ∃ s, Q2 ++ P2 = s := ⟨_, rfl⟩
        have zzQ3 : Q3.size ≤ 201 := by rw [← hQ3, ByteArray.size_append]; omega
        have hsQ3 : Q3 = strOf ((([] ++ (ds.take u)) ++ [46]) ++ (ds.drop u)) := by
          have ha : Q2 = strOf (([] ++ (ds.take u)) ++ [46]) := by exact hsQ2
          have hb : P2 = strOf (ds.drop u) := by exact hP2.symm
          rw [← hQ3, ha, hb, strOf_append]
        have cc1b : ¬ 9223372036854775807 < 0 + P1.size := by omega
        have cc1c : ¬ 9223372036854775807 < P1.size := by omega
        have cc2b : ¬ 9223372036854775807 < Q1.size + 1 := by omega
        have cc3b : ¬ 9223372036854775807 < Q2.size + P2.size := by omega
        rw [← hsz] at x2
        have hus : u ≤ S.size := by omega
        have husI : (u : Int) ≤ (S.size : Int) := by omega
        have hfin : strOf (sgnS false ++ ptT ds (u : Int)) = Q3 := by
          rw [hsQ3]; congr 1
          rw [show sgnS false = [] from rfl]
          unfold ptT
          rw [if_neg (by omega), if_neg (by omega), if_pos (by omega), Int.toNat_natCast]
          simp
        rw [hfin]
        clear hfin hsQ1 hsQ2 hsQ3 hl hl2 hk1 hk2 hS hP1 hP2 hin h1 h2 hsz
        go_enter Tryz.func13, Tryz.ntmps13
        go_wp2_with fail
        refine (CN.out _).mono ?_
        rintro e w1 ⟨rfl, rfl⟩
        go_wp2_with fail
        refine (CG.out _).mono ?_
        rintro e w1 ⟨rfl, rfl⟩
        go_wp2_with fail
        refine (CI.out _).mono ?_
        rintro e w1 ⟨rfl, rfl⟩
        go_wp2_with fail
        refine (CZ.out _).mono ?_
        rintro e w1 ⟨rfl, rfl⟩
        go_wp2_with fail
        refine (CA.out _).mono ?_
        rintro e w1 ⟨rfl, rfl⟩
        go_wp2_with fail
        refine (CS.out _).mono ?_
        rintro e w2 ⟨rfl, hb⟩
        have B2 := Lib.hid hb
        clear hb
        go_wp2_with fail
        go_quiet (fail)
        go_wp2
        go_ret
        exact ⟨rfl, below_drewN B2.out _⟩
set_option maxRecDepth 100000 in
set_option maxHeartbeats 4000000 in
theorem rshow_true (a B : Nat) (ds : List Nat) (k : Int) (w : World) (hl : 1 ≤ ds.length) (hl2 : ds.length ≤ 18) (hk1 : -400 ≤ k) (hk2 : k ≤ 420)
    (CN : Hid (∀ w, Calls Tryz.prog 16 #[.int .u64 (a : Int)] w fun e w' => e = .returned (.bool false) ∧ w' = w))
    (CG : Hid (∀ w, Calls Tryz.prog 36 #[.int .u64 (a : Int)] w fun e w' => e = .returned (.bool true) ∧ w' = w))
    (CI : Hid (∀ w, Calls Tryz.prog 37 #[.int .u64 (a : Int)] w fun e w' => e = .returned (.bool false) ∧ w' = w))
    (CZ : Hid (∀ w, Calls Tryz.prog 38 #[.int .u64 (a : Int)] w fun e w' => e = .returned (.bool false) ∧ w' = w))
    (CA : Hid (∀ w, Calls Tryz.prog 40 #[.int .u64 (a : Int)] w fun e w' => e = .returned (.int .u64 (B : Int)) ∧ w' = w))
    (CS : Hid (∀ w, Calls Tryz.prog 39 #[.int .u64 (B : Int)] w (Gives w (.tuple #[.string (strOf ds), .int .i64 k])))) :
    Calls Tryz.prog 13 #[.int .u64 (a : Int)] w (Gives w (.string (strOf (sgnS true ++ ptT ds k)))) := by
  have hsz := strOf_size ds
  by_cases h1 : k < 1
  · by_cases h2 : k < -5
    · by_cases hmany : 1 < ds.length
      ·
        have zzS : (strOf ds).size ≤ 18 := by rw [strOf_size]; omega
        obtain ⟨S, hS⟩ : ∃ s, strOf ds = s := ⟨_, rfl⟩
        rw [hS] at CS hsz zzS
        have d1 : decide (1 ≤ k) = false := decide_eq_false (by omega)
        have d4 : decide (-5 ≤ k) = false := decide_eq_false (by omega)
        obtain ⟨u, hu⟩ : ∃ u : Nat, 1 - k = (u : Int) := ⟨(1 - k).toNat, by omega⟩
        have e1 : IntKind.i64.wrap (1 - k) = (u : Int) := by rw [IntKind.wrap_i64]; omega
        have e2 : IntKind.i64.wrap (k - 1) = k - 1 := by rw [IntKind.wrap_i64]; omega
        have d6 : decide (k - 1 < 0) = true := decide_eq_true (by omega)
        have CW := Lib.hid (fun w => rwhole_any u (by omega) w)
        have zzU : (strOf (decN u)).size ≤ 100 := by rw [strOf_size]; exact Nat.le_trans (decN_len 19 u (by omega)) (by decide)
        obtain ⟨U, hU⟩ : ∃ s, strOf (decN u) = s := ⟨_, rfl⟩
        rw [hU] at CW zzU
        have x1 := strOf_extract ds 0 1 (by omega) (by omega)
        have x2 := strOf_extract ds 1 ds.length (by omega) (Nat.le_refl _)
        rw [List.drop_zero, Nat.sub_zero, hS] at x1
        rw [take_all, hS] at x2
        have zzP1 : (strOf (ds.take 1)).size ≤ 100 := by rw [strOf_size]; rw [List.length_take]; omega
        obtain ⟨P1, hP1⟩ : ∃ s, strOf (ds.take 1) = s := ⟨_, rfl⟩
        have zzP2 : (strOf (ds.drop 1)).size ≤ 100 := by rw [strOf_size]; rw [List.length_drop]; omega
        obtain ⟨P2, hP2⟩ : ∃ s, strOf (ds.drop 1) = s := ⟨_, rfl⟩
        rw [hP1] at x1 zzP1
        rw [hP2] at x2 zzP2
        have cc1 : P1.size + 1 ≤ 9223372036854775807 := by omega
        obtain ⟨Q1, hQ1⟩ : ∃ s, P1 ++ (ByteArray.mk #[46]) = s := ⟨_, rfl⟩
        have zzQ1 : Q1.size ≤ 101 := by rw [← hQ1, ByteArray.size_append]; rw [show (ByteArray.mk #[46]).size = 1 from rfl]; omega
        have hsQ1 : Q1 = strOf ((ds.take 1) ++ [46]) := by
          have ha : P1 = strOf (ds.take 1) := by exact hP1.symm
          have hb : (ByteArray.mk #[46]) = strOf [46] := by rfl
          rw [← hQ1, ha, hb, strOf_append]
        have cc2 : Q1.size + P2.size ≤ 9223372036854775807 := by omega
        obtain ⟨Q2, hQ2⟩ : ∃ s, Q1 ++ P2 = s := ⟨_, rfl⟩
        have zzQ2 : Q2.size ≤ 201 := by rw [← hQ2, ByteArray.size_append]; omega
        have hsQ2 : Q2 = strOf (((ds.take 1) ++ [46]) ++ (ds.drop 1)) := by
          have ha : Q1 = strOf ((ds.take 1) ++ [46]) := by exact hsQ1
          have hb : P2 = strOf (ds.drop 1) := by exact hP2.symm
          rw [← hQ2, ha, hb, strOf_append]
        have cc1b : ¬ 9223372036854775807 < P1.size + 1 := by omega
        have cc2b : ¬ 9223372036854775807 < Q1.size + P2.size := by omega
        rw [← hsz] at x2
        have d7 : decide ((1 : Int) < (S.size : Int)) = true := decide_eq_true (by omega)
        have d7b : decide (1 < S.size) = true := decide_eq_true (by omega)
        have hus : 1 ≤ S.size := by omega
        have cc3 : 1 + Q2.size ≤ 9223372036854775807 := by omega
        obtain ⟨Q3, hQ3⟩ : ∃ s, (ByteArray.mk #[45]) ++ Q2 = s := ⟨_, rfl⟩
        have zzQ3 : Q3.size ≤ 202 := by rw [← hQ3, ByteArray.size_append]; rw [show (ByteArray.mk #[45]).size = 1 from rfl]; omega
        have hsQ3 : Q3 = strOf ([45] ++ (((ds.take 1) ++ [46]) ++ (ds.drop 1))) := by
          have ha : (ByteArray.mk #[45]) = strOf [45] := by rfl
          have hb : Q2 = strOf (((ds.take 1) ++ [46]) ++ (ds.drop 1)) := by exact hsQ2
          rw [← hQ3, ha, hb, strOf_append]
        have cc4 : Q3.size + 2 ≤ 9223372036854775807 := by omega
        obtain ⟨Q4, hQ4⟩ : ∃ s, Q3 ++ (ByteArray.mk #[101, 45]) = s := ⟨_, rfl⟩
        have zzQ4 : Q4.size ≤ 204 := by rw [← hQ4, ByteArray.size_append]; rw [show (ByteArray.mk #[101, 45]).size = 2 from rfl]; omega
        have hsQ4 : Q4 = strOf (([45] ++ (((ds.take 1) ++ [46]) ++ (ds.drop 1))) ++ [101, 45]) := by
          have ha : Q3 = strOf ([45] ++ (((ds.take 1) ++ [46]) ++ (ds.drop 1))) := by exact hsQ3
          have hb : (ByteArray.mk #[101, 45]) = strOf [101, 45] := by rfl
          rw [← hQ4, ha, hb, strOf_append]
        have cc5 : Q4.size + U.size ≤ 9223372036854775807 := by omega
        obtain ⟨Q5, hQ5⟩ : ∃ s, Q4 ++ U = s := ⟨_, rfl⟩
        have zzQ5 : Q5.size ≤ 304 := by rw [← hQ5, ByteArray.size_append]; omega
        have hsQ5 : Q5 = strOf ((([45] ++ (((ds.take 1) ++ [46]) ++ (ds.drop 1))) ++ [101, 45]) ++ (decN u)) := by
          have ha : Q4 = strOf (([45] ++ (((ds.take 1) ++ [46]) ++ (ds.drop 1))) ++ [101, 45]) := by exact hsQ4
          have hb : U = strOf (decN u) := by exact hU.symm
          rw [← hQ5, ha, hb, strOf_append]
        have hfin : strOf (sgnS true ++ ptT ds k) = Q5 := by
          rw [hsQ5]; congr 1
          rw [show sgnS true = [45] from rfl]
          unfold ptT
          rw [if_pos (by omega)]
          unfold expT
          rw [if_pos (by omega), if_pos (by omega), show (-(k - 1)).toNat = u by omega]
          simp
        rw [hfin]
        clear hfin hsQ1 hsQ2 hsQ3 hsQ4 hsQ5 hl hl2 hk1 hk2 hS hP1 hP2 hU h1 h2 hmany hu hsz
        go_enter Tryz.func13, Tryz.ntmps13
        go_wp2_with fail
        refine (CN.out _).mono ?_
        rintro e w1 ⟨rfl, rfl⟩
        go_wp2_with fail
        refine (CG.out _).mono ?_
        rintro e w1 ⟨rfl, rfl⟩
        go_wp2_with fail
        refine (CI.out _).mono ?_
        rintro e w1 ⟨rfl, rfl⟩
        go_wp2_with fail
        refine (CZ.out _).mono ?_
        rintro e w1 ⟨rfl, rfl⟩
        go_wp2_with fail
        refine (CA.out _).mono ?_
        rintro e w1 ⟨rfl, rfl⟩
        go_wp2_with fail
        refine (CS.out _).mono ?_
        rintro e w2 ⟨rfl, hb⟩
        have B2 := Lib.hid hb
        clear hb
        go_wp2_with fail
        go_quiet (fail)
        go_wp2_with fail
        refine (CW.out _).mono ?_
        rintro e w3 ⟨rfl, hb⟩
        have B3 : Hid (Below w1.heap.size w1 w3) := Lib.hid ((below_drewN B2.out _).trans (hb.mono B2.out.size))
        clear hb
        go_wp2
        go_ret
        exact ⟨rfl, B3.out⟩
      ·
        have zzS : (strOf ds).size ≤ 18 := by rw [strOf_size]; omega
        obtain ⟨S, hS⟩ : ∃ s, strOf ds = s := ⟨_, rfl⟩
        rw [hS] at CS hsz zzS
        have d1 : decide (1 ≤ k) = false := decide_eq_false (by omega)
        have d4 : decide (-5 ≤ k) = false := decide_eq_false (by omega)
        obtain ⟨u, hu⟩ : ∃ u : Nat, 1 - k = (u : Int) := ⟨(1 - k).toNat, by omega⟩
        have e1 : IntKind.i64.wrap (1 - k) = (u : Int) := by rw [IntKind.wrap_i64]; omega
        have e2 : IntKind.i64.wrap (k - 1) = k - 1 := by rw [IntKind.wrap_i64]; omega
        have d6 : decide (k - 1 < 0) = true := decide_eq_true (by omega)
        have CW := Lib.hid (fun w => rwhole_any u (by omega) w)
        have zzU : (strOf (decN u)).size ≤ 100 := by rw [strOf_size]; exact Nat.le_trans (decN_len 19 u (by omega)) (by decide)
        obtain ⟨U, hU⟩ : ∃ s, strOf (decN u) = s := ⟨_, rfl⟩
        rw [hU] at CW zzU
        have d7 : decide ((1 : Int) < (S.size : Int)) = false := decide_eq_false (by omega)
        have d7b : decide (1 < S.size) = false := decide_eq_false (by omega)
        have cc1 : 1 + S.size ≤ 9223372036854775807 := by omega
        obtain ⟨Q1, hQ1⟩ : ∃ s, (ByteArray.mk #[45]) ++ S = s := ⟨_, rfl⟩
        have zzQ1 : Q1.size ≤ 19 := by rw [← hQ1, ByteArray.size_append]; rw [show (ByteArray.mk #[45]).size = 1 from rfl]; omega
        have hsQ1 : Q1 = strOf ([45] ++ ds) := by
          have ha : (ByteArray.mk #[45]) = strOf [45] := by rfl
          have hb : S = strOf ds := by exact hS.symm
          rw [← hQ1, ha, hb, strOf_append]
        have cc2 : Q1.size + 2 ≤ 9223372036854775807 := by omega
        obtain ⟨Q2, hQ2⟩ : ∃ s, Q1 ++ (ByteArray.mk #[101, 45]) = s := ⟨_, rfl⟩
        have zzQ2 : Q2.size ≤ 21 := by rw [← hQ2, ByteArray.size_append]; rw [show (ByteArray.mk #[101, 45]).size = 2 from rfl]; omega
        have hsQ2 : Q2 = strOf (([45] ++ ds) ++ [101, 45]) := by
          have ha : Q1 = strOf ([45] ++ ds) := by exact hsQ1
          have hb : (ByteArray.mk #[101, 45]) = strOf [101, 45] := by rfl
          rw [← hQ2, ha, hb, strOf_append]
        have cc3 : Q2.size + U.size ≤ 9223372036854775807 := by omega
        obtain ⟨Q3, hQ3⟩ : ∃ s, Q2 ++ U = s := ⟨_, rfl⟩
        have zzQ3 : Q3.size ≤ 121 := by rw [← hQ3, ByteArray.size_append]; omega
        have hsQ3 : Q3 = strOf ((([45] ++ ds) ++ [101, 45]) ++ (decN u)) := by
          have ha : Q2 = strOf (([45] ++ ds) ++ [101, 45]) := by exact hsQ2
          have hb : U = strOf (decN u) := by exact hU.symm
          rw [← hQ3, ha, hb, strOf_append]
        have hfin : strOf (sgnS true ++ ptT ds k) = Q3 := by
          rw [hsQ3]; congr 1
          rw [show sgnS true = [45] from rfl]
          unfold ptT
          rw [if_pos (by omega)]
          unfold expT
          rw [if_neg (by omega), if_pos (by omega), show (-(k - 1)).toNat = u by omega]
          rw [List.take_of_length_le (by omega)]
          simp
        rw [hfin]
        clear hfin hsQ1 hsQ2 hsQ3 hl hl2 hk1 hk2 hS hU h1 h2 hmany hu hsz
        go_enter Tryz.func13, Tryz.ntmps13
        go_wp2_with fail
        refine (CN.out _).mono ?_
        rintro e w1 ⟨rfl, rfl⟩
        go_wp2_with fail
        refine (CG.out _).mono ?_
        rintro e w1 ⟨rfl, rfl⟩
        go_wp2_with fail
        refine (CI.out _).mono ?_
        rintro e w1 ⟨rfl, rfl⟩
        go_wp2_with fail
        refine (CZ.out _).mono ?_
        rintro e w1 ⟨rfl, rfl⟩
        go_wp2_with fail
        refine (CA.out _).mono ?_
        rintro e w1 ⟨rfl, rfl⟩
        go_wp2_with fail
        refine (CS.out _).mono ?_
        rintro e w2 ⟨rfl, hb⟩
        have B2 := Lib.hid hb
        clear hb
        go_wp2_with fail
        refine (CW.out _).mono ?_
        rintro e w3 ⟨rfl, hb⟩
        have B3 : Hid (Below w1.heap.size w1 w3) := Lib.hid (B2.out.trans (hb.mono B2.out.size))
        clear hb
        go_wp2
        go_ret
        exact ⟨rfl, B3.out⟩
    ·
      have zzS : (strOf ds).size ≤ 18 := by rw [strOf_size]; omega
      obtain ⟨S, hS⟩ : ∃ s, strOf ds = s := ⟨_, rfl⟩
      rw [hS] at CS hsz zzS
      obtain ⟨u, hu⟩ : ∃ u : Nat, -k = (u : Int) := ⟨(-k).toNat, by omega⟩
      have e1 : IntKind.i64.wrap (-k) = (u : Int) := by rw [IntKind.wrap_i64]; omega
      have d1 : decide (1 ≤ k) = false := decide_eq_false (by omega)
      have d4 : decide (-5 ≤ k) = true := decide_eq_true (by omega)
      have d5 : decide (k ≤ 0) = true := decide_eq_true (by omega)
      have CR := Lib.hid (fun w => noughts_any u (by omega) w)
      have zzU : (strOf (nghts u)).size ≤ 100 := by rw [strOf_size]; unfold nghts; rw [List.length_replicate]; omega
      obtain ⟨U, hU⟩ : ∃ s, strOf (nghts u) = s := ⟨_, rfl⟩
      rw [hU] at CR zzU
      have cc1 : 1 + 2 ≤ 9223372036854775807 := by omega
      obtain ⟨Q1, hQ1⟩ : ∃ s, (ByteArray.mk #[45]) ++ (ByteArray.mk #[48, 46]) = s := ⟨_, rfl⟩
      have zzQ1 : Q1.size ≤ 3 := by rw [← hQ1, ByteArray.size_append]; rw [show (ByteArray.mk #[45]).size = 1 from rfl]; rw [show (ByteArray.mk #[48, 46]).size = 2 from rfl]; omega
      have hsQ1 : Q1 = strOf ([45] ++ [48, 46]) := by
        have ha : (ByteArray.mk #[45]) = strOf [45] := by rfl
        have hb : (ByteArray.mk #[48, 46]) = strOf [48, 46] := by rfl
        rw [← hQ1, ha, hb, strOf_append]
      have cc2 : Q1.size + U.size ≤ 9223372036854775807 := by omega
      obtain ⟨Q2, hQ2⟩ : ∃ s, Q1 ++ U = s := ⟨_, rfl⟩
      have zzQ2 : Q2.size ≤ 103 := by rw [← hQ2, ByteArray.size_append]; omega
      have hsQ2 : Q2 = strOf (([45] ++ [48, 46]) ++ (nghts u)) := by
        have ha : Q1 = strOf ([45] ++ [48, 46]) := by exact hsQ1
        have hb : U = strOf (nghts u) := by exact hU.symm
        rw [← hQ2, ha, hb, strOf_append]
      have cc3 : Q2.size + S.size ≤ 9223372036854775807 := by omega
      obtain ⟨Q3, hQ3⟩ : ∃ s, Q2 ++ S = s := ⟨_, rfl⟩
      have zzQ3 : Q3.size ≤ 121 := by rw [← hQ3, ByteArray.size_append]; omega
      have hsQ3 : Q3 = strOf ((([45] ++ [48, 46]) ++ (nghts u)) ++ ds) := by
        have ha : Q2 = strOf (([45] ++ [48, 46]) ++ (nghts u)) := by exact hsQ2
        have hb : S = strOf ds := by exact hS.symm
        rw [← hQ3, ha, hb, strOf_append]
      have hfin : strOf (sgnS true ++ ptT ds k) = Q3 := by
        rw [hsQ3]; congr 1
        rw [show sgnS true = [45] from rfl]
        unfold ptT
        rw [if_neg (by omega), if_pos (by omega), show (-k).toNat = u by omega]
        simp
      rw [hfin]
      clear hfin hsQ1 hsQ2 hsQ3 hl hl2 hk1 hk2 hS hU hu h1 h2 hsz
      go_enter Tryz.func13, Tryz.ntmps13
      go_wp2_with fail
      refine (CN.out _).mono ?_
      rintro e w1 ⟨rfl, rfl⟩
      go_wp2_with fail
      refine (CG.out _).mono ?_
      rintro e w1 ⟨rfl, rfl⟩
      go_wp2_with fail
      refine (CI.out _).mono ?_
      rintro e w1 ⟨rfl, rfl⟩
      go_wp2_with fail
      refine (CZ.out _).mono ?_
      rintro e w1 ⟨rfl, rfl⟩
      go_wp2_with fail
      refine (CA.out _).mono ?_
      rintro e w1 ⟨rfl, rfl⟩
      go_wp2_with fail
      refine (CS.out _).mono ?_
      rintro e w2 ⟨rfl, hb⟩
      have B2 := Lib.hid hb
      clear hb
      go_wp2_with fail
      refine (CR.out _).mono ?_
      rintro e w3 ⟨rfl, rfl⟩
      go_wp2
      go_ret
      exact ⟨rfl, B2.out⟩
  · by_cases h2 : 21 < k
    · by_cases hmany : 1 < ds.length
      ·
        have zzS : (strOf ds).size ≤ 18 := by rw [strOf_size]; omega
        obtain ⟨S, hS⟩ : ∃ s, strOf ds = s := ⟨_, rfl⟩
        rw [hS] at CS hsz zzS
        have d1 : decide (1 ≤ k) = true := decide_eq_true (by omega)
        have d2 : decide (k ≤ 21) = false := decide_eq_false (by omega)
        have d4 : decide (-5 ≤ k) = true := decide_eq_true (by omega)
        have d5 : decide (k ≤ 0) = false := decide_eq_false (by omega)
        obtain ⟨u, hu⟩ : ∃ u : Nat, k - 1 = (u : Int) := ⟨(k - 1).toNat, by omega⟩
        have e1 : IntKind.i64.wrap (k - 1) = (u : Int) := by rw [IntKind.wrap_i64]; omega
        have d6 : decide ((u : Int) < 0) = false := decide_eq_false (by omega)
        have CW := Lib.hid (fun w => rwhole_any u (by omega) w)
        have zzU : (strOf (decN u)).size ≤ 100 := by rw [strOf_size]; exact Nat.le_trans (decN_len 19 u (by omega)) (by decide)
        obtain ⟨U, hU⟩ : ∃ s, strOf (decN u) = s := ⟨_, rfl⟩
        rw [hU] at CW zzU
        have x1 := strOf_extract ds 0 1 (by omega) (by omega)
        have x2 := strOf_extract ds 1 ds.length (by omega) (Nat.le_refl _)
        rw [List.drop_zero, Nat.sub_zero, hS] at x1
        rw [take_all, hS] at x2
        have zzP1 : (strOf (ds.take 1)).size ≤ 100 := by rw [strOf_size]; rw [List.length_take]; omega
        obtain ⟨P1, hP1⟩ : ∃ s, strOf (ds.take 1) = s := ⟨_, rfl⟩
        have zzP2 : (strOf (ds.drop 1)).size ≤ 100 := by rw [strOf_size]; rw [List.length_drop]; omega
        obtain ⟨P2, hP2⟩ : ∃ s, strOf (ds.drop 1) = s := ⟨_, rfl⟩
        rw [hP1] at x1 zzP1
        rw [hP2] at x2 zzP2
        have cc1 : P1.size + 1 ≤ 9223372036854775807 := by omega
        obtain ⟨Q1, hQ1⟩ : ∃ s, P1 ++ (ByteArray.mk #[46]) = s := ⟨_, rfl⟩
        have zzQ1 : Q1.size ≤ 101 := by rw [← hQ1, ByteArray.size_append]; rw [show (ByteArray.mk #[46]).size = 1 from rfl]; omega
        have hsQ1 : Q1 = strOf ((ds.take 1) ++ [46]) := by
          have ha : P1 = strOf (ds.take 1) := by exact hP1.symm
          have hb : (ByteArray.mk #[46]) = strOf [46] := by rfl
          rw [← hQ1, ha, hb, strOf_append]
        have cc2 : Q1.size + P2.size ≤ 9223372036854775807 := by omega
        obtain ⟨Q2, hQ2⟩ : ∃ s, Q1 ++ P2 = s := ⟨_, rfl⟩
        have zzQ2 : Q2.size ≤ 201 := by rw [← hQ2, ByteArray.size_append]; omega
        have hsQ2 : Q2 = strOf (((ds.take 1) ++ [46]) ++ (ds.drop 1)) := by
          have ha : Q1 = strOf ((ds.take 1) ++ [46]) := by exact hsQ1
          have hb : P2 = strOf (ds.drop 1) := by exact hP2.symm
          rw [← hQ2, ha, hb, strOf_append]
        have cc1b : ¬ 9223372036854775807 < P1.size + 1 := by omega
        have cc2b : ¬ 9223372036854775807 < Q1.size + P2.size := by omega
        rw [← hsz] at x2
        have d7 : decide ((1 : Int) < (S.size : Int)) = true := decide_eq_true (by omega)
        have d7b : decide (1 < S.size) = true := decide_eq_true (by omega)
        have hus : 1 ≤ S.size := by omega
        have cc3 : 1 + Q2.size ≤ 9223372036854775807 := by omega
        obtain ⟨Q3, hQ3⟩ : ∃ s, (ByteArray.mk #[45]) ++ Q2 = s := ⟨_, rfl⟩
        have zzQ3 : Q3.size ≤ 202 := by rw [← hQ3, ByteArray.size_append]; rw [show (ByteArray.mk #[45]).size = 1 from rfl]; omega
        have hsQ3 : Q3 = strOf ([45] ++ (((ds.take 1) ++ [46]) ++ (ds.drop 1))) := by
          have ha : (ByteArray.mk #[45]) = strOf [45] := by rfl
          have hb : Q2 = strOf (((ds.take 1) ++ [46]) ++ (ds.drop 1)) := by exact hsQ2
          rw [← hQ3, ha, hb, strOf_append]
        have cc4 : Q3.size + 2 ≤ 9223372036854775807 := by omega
        obtain ⟨Q4, hQ4⟩ : ∃ s, Q3 ++ (ByteArray.mk #[101, 43]) = s := ⟨_, rfl⟩
        have zzQ4 : Q4.size ≤ 204 := by rw [← hQ4, ByteArray.size_append]; rw [show (ByteArray.mk #[101, 43]).size = 2 from rfl]; omega
        have hsQ4 : Q4 = strOf (([45] ++ (((ds.take 1) ++ [46]) ++ (ds.drop 1))) ++ [101, 43]) := by
          have ha : Q3 = strOf ([45] ++ (((ds.take 1) ++ [46]) ++ (ds.drop 1))) := by exact hsQ3
          have hb : (ByteArray.mk #[101, 43]) = strOf [101, 43] := by rfl
          rw [← hQ4, ha, hb, strOf_append]
        have cc5 : Q4.size + U.size ≤ 9223372036854775807 := by omega
        obtain ⟨Q5, hQ5⟩ : ∃ s, Q4 ++ U = s := ⟨_, rfl⟩
        have zzQ5 : Q5.size ≤ 304 := by rw [← hQ5, ByteArray.size_append]; omega
        have hsQ5 : Q5 = strOf ((([45] ++ (((ds.take 1) ++ [46]) ++ (ds.drop 1))) ++ [101, 43]) ++ (decN u)) := by
          have ha : Q4 = strOf (([45] ++ (((ds.take 1) ++ [46]) ++ (ds.drop 1))) ++ [101, 43]) := by exact hsQ4
          have hb : U = strOf (decN u) := by exact hU.symm
          rw [← hQ5, ha, hb, strOf_append]
        have hfin : strOf (sgnS true ++ ptT ds k) = Q5 := by
          rw [hsQ5]; congr 1
          rw [show sgnS true = [45] from rfl]
          unfold ptT
          rw [if_pos (by omega)]
          unfold expT
          rw [if_pos (by omega), if_neg (by omega), show (k - 1).toNat = u by omega]
          simp
        rw [hfin]
        clear hfin hsQ1 hsQ2 hsQ3 hsQ4 hsQ5 hl hl2 hk1 hk2 hS hP1 hP2 hU h1 h2 hmany hu hsz
        go_enter Tryz.func13, Tryz.ntmps13
        go_wp2_with fail
        refine (CN.out _).mono ?_
        rintro e w1 ⟨rfl, rfl⟩
        go_wp2_with fail
        refine (CG.out _).mono ?_
        rintro e w1 ⟨rfl, rfl⟩
        go_wp2_with fail
        refine (CI.out _).mono ?_
        rintro e w1 ⟨rfl, rfl⟩
        go_wp2_with fail
        refine (CZ.out _).mono ?_
        rintro e w1 ⟨rfl, rfl⟩
        go_wp2_with fail
        refine (CA.out _).mono ?_
        rintro e w1 ⟨rfl, rfl⟩
        go_wp2_with fail
        refine (CS.out _).mono ?_
        rintro e w2 ⟨rfl, hb⟩
        have B2 := Lib.hid hb
        clear hb
        go_wp2_with fail
        go_quiet (fail)
        go_wp2_with fail
        refine (CW.out _).mono ?_
        rintro e w3 ⟨rfl, hb⟩
        have B3 : Hid (Below w1.heap.size w1 w3) := Lib.hid ((below_drewN B2.out _).trans (hb.mono B2.out.size))
        clear hb
        go_wp2
        go_ret
        exact ⟨rfl, B3.out⟩
      ·
        have zzS : (strOf ds).size ≤ 18 := by rw [strOf_size]; omega
        obtain ⟨S, hS⟩ : ∃ s, strOf ds = s := ⟨_, rfl⟩
        rw [hS] at CS hsz zzS
        have d1 : decide (1 ≤ k) = true := decide_eq_true (by omega)
        have d2 : decide (k ≤ 21) = false := decide_eq_false (by omega)
        have d4 : decide (-5 ≤ k) = true := decide_eq_true (by omega)
        have d5 : decide (k ≤ 0) = false := decide_eq_false (by omega)
        obtain ⟨u, hu⟩ : ∃ u : Nat, k - 1 = (u : Int) := ⟨(k - 1).toNat, by omega⟩
        have e1 : IntKind.i64.wrap (k - 1) = (u : Int) := by rw [IntKind.wrap_i64]; omega
        have d6 : decide ((u : Int) < 0) = false := decide_eq_false (by omega)
        have CW := Lib.hid (fun w => rwhole_any u (by omega) w)
        have zzU : (strOf (decN u)).size ≤ 100 := by rw [strOf_size]; exact Nat.le_trans (decN_len 19 u (by omega)) (by decide)
        obtain ⟨U, hU⟩ : ∃ s, strOf (decN u) = s := ⟨_, rfl⟩
        rw [hU] at CW zzU
        have d7 : decide ((1 : Int) < (S.size : Int)) = false := decide_eq_false (by omega)
        have d7b : decide (1 < S.size) = false := decide_eq_false (by omega)
        have cc1 : 1 + S.size ≤ 9223372036854775807 := by omega
        obtain ⟨Q1, hQ1⟩ : ∃ s, (ByteArray.mk #[45]) ++ S = s := ⟨_, rfl⟩
        have zzQ1 : Q1.size ≤ 19 := by rw [← hQ1, ByteArray.size_append]; rw [show (ByteArray.mk #[45]).size = 1 from rfl]; omega
        have hsQ1 : Q1 = strOf ([45] ++ ds) := by
          have ha : (ByteArray.mk #[45]) = strOf [45] := by rfl
          have hb : S = strOf ds := by exact hS.symm
          rw [← hQ1, ha, hb, strOf_append]
        have cc2 : Q1.size + 2 ≤ 9223372036854775807 := by omega
        obtain ⟨Q2, hQ2⟩ : ∃ s, Q1 ++ (ByteArray.mk #[101, 43]) = s := ⟨_, rfl⟩
        have zzQ2 : Q2.size ≤ 21 := by rw [← hQ2, ByteArray.size_append]; rw [show (ByteArray.mk #[101, 43]).size = 2 from rfl]; omega
        have hsQ2 : Q2 = strOf (([45] ++ ds) ++ [101, 43]) := by
          have ha : Q1 = strOf ([45] ++ ds) := by exact hsQ1
          have hb : (ByteArray.mk #[101, 43]) = strOf [101, 43] := by rfl
          rw [← hQ2, ha, hb, strOf_append]
        have cc3 : Q2.size + U.size ≤ 9223372036854775807 := by omega
        obtain ⟨Q3, hQ3⟩ : ∃ s, Q2 ++ U = s := ⟨_, rfl⟩
        have zzQ3 : Q3.size ≤ 121 := by rw [← hQ3, ByteArray.size_append]; omega
        have hsQ3 : Q3 = strOf ((([45] ++ ds) ++ [101, 43]) ++ (decN u)) := by
          have ha : Q2 = strOf (([45] ++ ds) ++ [101, 43]) := by exact hsQ2
          have hb : U = strOf (decN u) := by exact hU.symm
          rw [← hQ3, ha, hb, strOf_append]
        have hfin : strOf (sgnS true ++ ptT ds k) = Q3 := by
          rw [hsQ3]; congr 1
          rw [show sgnS true = [45] from rfl]
          unfold ptT
          rw [if_pos (by omega)]
          unfold expT
          rw [if_neg (by omega), if_neg (by omega), show (k - 1).toNat = u by omega]
          rw [List.take_of_length_le (by omega)]
          simp
        rw [hfin]
        clear hfin hsQ1 hsQ2 hsQ3 hl hl2 hk1 hk2 hS hU h1 h2 hmany hu hsz
        go_enter Tryz.func13, Tryz.ntmps13
        go_wp2_with fail
        refine (CN.out _).mono ?_
        rintro e w1 ⟨rfl, rfl⟩
        go_wp2_with fail
        refine (CG.out _).mono ?_
        rintro e w1 ⟨rfl, rfl⟩
        go_wp2_with fail
        refine (CI.out _).mono ?_
        rintro e w1 ⟨rfl, rfl⟩
        go_wp2_with fail
        refine (CZ.out _).mono ?_
        rintro e w1 ⟨rfl, rfl⟩
        go_wp2_with fail
        refine (CA.out _).mono ?_
        rintro e w1 ⟨rfl, rfl⟩
        go_wp2_with fail
        refine (CS.out _).mono ?_
        rintro e w2 ⟨rfl, hb⟩
        have B2 := Lib.hid hb
        clear hb
        go_wp2_with fail
        refine (CW.out _).mono ?_
        rintro e w3 ⟨rfl, hb⟩
        have B3 : Hid (Below w1.heap.size w1 w3) := Lib.hid (B2.out.trans (hb.mono B2.out.size))
        clear hb
        go_wp2
        go_ret
        exact ⟨rfl, B3.out⟩
    · by_cases hin : (ds.length : Int) ≤ k
      ·
        have zzS : (strOf ds).size ≤ 18 := by rw [strOf_size]; omega
        obtain ⟨S, hS⟩ : ∃ s, strOf ds = s := ⟨_, rfl⟩
        rw [hS] at CS hsz zzS
        obtain ⟨u, hu⟩ : ∃ u : Nat, k - (ds.length : Int) = (u : Int) := ⟨(k - (ds.length : Int)).toNat, by omega⟩
        have e1 : IntKind.i64.wrap (k - (S.size : Int)) = (u : Int) := by rw [IntKind.wrap_i64]; omega
        have d1 : decide (1 ≤ k) = true := decide_eq_true (by omega)
        have d2 : decide (k ≤ 21) = true := decide_eq_true (by omega)
        have d3 : decide ((S.size : Int) ≤ k) = true := decide_eq_true (by omega)
        have CR := Lib.hid (fun w => noughts_any u (by omega) w)
        have zzU : (strOf (nghts u)).size ≤ 100 := by rw [strOf_size]; unfold nghts; rw [List.length_replicate]; omega
        obtain ⟨U, hU⟩ : ∃ s, strOf (nghts u) = s := ⟨_, rfl⟩
        rw [hU] at CR zzU
        have cc1 : 1 + S.size ≤ 9223372036854775807 := by omega
        obtain ⟨Q1, hQ1⟩ : ∃ s, (ByteArray.mk #[45]) ++ S = s := ⟨_, rfl⟩
        have zzQ1 : Q1.size ≤ 19 := by rw [← hQ1, ByteArray.size_append]; rw [show (ByteArray.mk #[45]).size = 1 from rfl]; omega
        have hsQ1 : Q1 = strOf ([45] ++ ds) := by
          have ha : (ByteArray.mk #[45]) = strOf [45] := by rfl
          have hb : S = strOf ds := by exact hS.symm
          rw [← hQ1, ha, hb, strOf_append]
        have cc2 : Q1.size + U.size ≤ 9223372036854775807 := by omega
        obtain ⟨Q2, hQ2⟩ : ∃ s, Q1 ++ U = s := ⟨_, rfl⟩
        have zzQ2 : Q2.size ≤ 119 := by rw [← hQ2, ByteArray.size_append]; omega
        have hsQ2 : Q2 = strOf (([45] ++ ds) ++ (nghts u)) := by
          have ha : Q1 = strOf ([45] ++ ds) := by exact hsQ1
          have hb : U = strOf (nghts u) := by exact hU.symm
          rw [← hQ2, ha, hb, strOf_append]
        have hfin : strOf (sgnS true ++ ptT ds k) = Q2 := by
          rw [hsQ2]; congr 1
          rw [show sgnS true = [45] from rfl]
          unfold ptT
          rw [if_neg (by omega), if_neg (by omega), if_neg (by omega), show (k - (ds.length : Int)).toNat = u by omega]
          simp
        rw [hfin]
        clear hfin hsQ1 hsQ2 hl hl2 hk1 hk2 hS hU hu hin h1 h2 hsz
        go_enter Tryz.func13, Tryz.ntmps13
        go_wp2_with fail
        refine (CN.out _).mono ?_
        rintro e w1 ⟨rfl, rfl⟩
        go_wp2_with fail
        refine (CG.out _).mono ?_
        rintro e w1 ⟨rfl, rfl⟩
        go_wp2_with fail
        refine (CI.out _).mono ?_
        rintro e w1 ⟨rfl, rfl⟩
        go_wp2_with fail
        refine (CZ.out _).mono ?_
        rintro e w1 ⟨rfl, rfl⟩
        go_wp2_with fail
        refine (CA.out _).mono ?_
        rintro e w1 ⟨rfl, rfl⟩
        go_wp2_with fail
        refine (CS.out _).mono ?_
        rintro e w2 ⟨rfl, hb⟩
        have B2 := Lib.hid hb
        clear hb
        go_wp2_with fail
        refine (CR.out _).mono ?_
        rintro e w3 ⟨rfl, rfl⟩
        go_wp2
        go_ret
        exact ⟨rfl, B2.out⟩
      ·
        have zzS : (strOf ds).size ≤ 18 := by rw [strOf_size]; omega
        obtain ⟨S, hS⟩ : ∃ s, strOf ds = s := ⟨_, rfl⟩
        rw [hS] at CS hsz zzS
        obtain ⟨u, hu⟩ : ∃ u : Nat, k = (u : Int) := ⟨k.toNat, by omega⟩
        have d1 : decide (1 ≤ k) = true := decide_eq_true (by omega)
        have d2 : decide (k ≤ 21) = true := decide_eq_true (by omega)
        have d3 : decide ((S.size : Int) ≤ k) = false := decide_eq_false (by omega)
        subst hu
        have d1b : decide (1 ≤ u) = true := decide_eq_true (by omega)
        have d2b : decide (u ≤ 21) = true := decide_eq_true (by omega)
        have d3b : decide (S.size ≤ u) = false := decide_eq_false (by omega)
        have x1 := strOf_extract ds 0 u (by omega) (by omega)
        have x2 := strOf_extract ds u ds.length (by omega) (Nat.le_refl _)
        rw [List.drop_zero, Nat.sub_zero, hS] at x1
        rw [take_all, hS] at x2
        have zzP1 : (strOf (ds.take u)).size ≤ 100 := by rw [strOf_size]; rw [List.length_take]; omega
        obtain ⟨P1, hP1⟩ : ∃ s, strOf (ds.take u) = s := ⟨_, rfl⟩
        have zzP2 : (strOf (ds.drop u)).size ≤ 100 := by rw [strOf_size]; rw [List.length_drop]; omega
        obtain ⟨P2, hP2⟩ : ∃ s, strOf (ds.drop u) = s := ⟨_, rfl⟩
        rw [hP1] at x1 zzP1
        rw [hP2] at x2 zzP2
        have cc1 : 1 + P1.size ≤ 9223372036854775807 := by omega
        obtain ⟨Q1, hQ1⟩ : ∃ s, (ByteArray.mk #[45]) ++ P1 = s := ⟨_, rfl⟩
        have zzQ1 : Q1.size ≤ 101 := by rw [← hQ1, ByteArray.size_append]; rw [show (ByteArray.mk #[45]).size = 1 from rfl]; omega
        have hsQ1 : Q1 = strOf ([45] ++ (ds.take u)) := by
          have ha : (ByteArray.mk #[45]) = strOf [45] := by rfl
          have hb : P1 = strOf (ds.take u) := by exact hP1.symm
          rw [← hQ1, ha, hb, strOf_append]
        have cc2 : Q1.size + 1 ≤ 9223372036854775807 := by omega
        obtain ⟨Q2, hQ2⟩ : ∃ s, Q1 ++ (ByteArray.mk #[46]) = s := ⟨_, rfl⟩
        have zzQ2 : Q2.size ≤ 102 := by rw [← hQ2, ByteArray.size_append]; rw [show (ByteArray.mk #[46]).size = 1 from rfl]; omega
        have hsQ2 : Q2 = strOf (([45] ++ (ds.take u)) ++ [46]) := by
          have ha : Q1 = strOf ([45] ++ (ds.take u)) := by exact hsQ1
          have hb : (ByteArray.mk #[46]) = strOf [46] := by rfl
          rw [← hQ2, ha, hb, strOf_append]
        have cc3 : Q2.size + P2.size ≤ 9223372036854775807 := by omega
        obtain ⟨Q3, hQ3⟩ : ∃ s, Q2 ++ P2 = s := ⟨_, rfl⟩
        have zzQ3 : Q3.size ≤ 202 := by rw [← hQ3, ByteArray.size_append]; omega
        have hsQ3 : Q3 = strOf ((([45] ++ (ds.take u)) ++ [46]) ++ (ds.drop u)) := by
          have ha : Q2 = strOf (([45] ++ (ds.take u)) ++ [46]) := by exact hsQ2
          have hb : P2 = strOf (ds.drop u) := by exact hP2.symm
          rw [← hQ3, ha, hb, strOf_append]
        have cc1b : ¬ 9223372036854775807 < 1 + P1.size := by omega
        have cc1c : ¬ 9223372036854775807 < P1.size := by omega
        have cc2b : ¬ 9223372036854775807 < Q1.size + 1 := by omega
        have cc3b : ¬ 9223372036854775807 < Q2.size + P2.size := by omega
        rw [← hsz] at x2
        have hus : u ≤ S.size := by omega
        have husI : (u : Int) ≤ (S.size : Int) := by omega
        have hfin : strOf (sgnS true ++ ptT ds (u : Int)) = Q3 := by
          rw [hsQ3]; congr 1
          rw [show sgnS true = [45] from rfl]
          unfold ptT
          rw [if_neg (by omega), if_neg (by omega), if_pos (by omega), Int.toNat_natCast]
          simp
        rw [hfin]
        clear hfin hsQ1 hsQ2 hsQ3 hl hl2 hk1 hk2 hS hP1 hP2 hin h1 h2 hsz
        go_enter Tryz.func13, Tryz.ntmps13
        go_wp2_with fail
        refine (CN.out _).mono ?_
        rintro e w1 ⟨rfl, rfl⟩
        go_wp2_with fail
        refine (CG.out _).mono ?_
        rintro e w1 ⟨rfl, rfl⟩
        go_wp2_with fail
        refine (CI.out _).mono ?_
        rintro e w1 ⟨rfl, rfl⟩
        go_wp2_with fail
        refine (CZ.out _).mono ?_
        rintro e w1 ⟨rfl, rfl⟩
        go_wp2_with fail
        refine (CA.out _).mono ?_
        rintro e w1 ⟨rfl, rfl⟩
        go_wp2_with fail
        refine (CS.out _).mono ?_
        rintro e w2 ⟨rfl, hb⟩
        have B2 := Lib.hid hb
        clear hb
        go_wp2_with fail
        go_quiet (fail)
        go_wp2
        go_ret
        exact ⟨rfl, below_drewN B2.out _⟩

set_option maxRecDepth 100000 in
theorem rshow_any (a : Nat) (ha : a < 2 ^ 64) (w : World) : Calls Tryz.prog 13 #[.int .u64 (a : Int)] w (Gives w (.string (strOf (showS a)))) := by
  have CN := Lib.hid (fun w => Tn.rnan_any a ha w)
  have CG := Lib.hid (fun w => Tn.rsign_any a ha w)
  have CI := Lib.hid (fun w => Tn.rinf_any a ha w)
  have CZ := Lib.hid (fun w => Tn.rzero_any a ha w)
  have CA := Lib.hid (fun w => Tn.rabs_any a ha w)
  cases hn : Nr.isNaN a
  · rw [hn] at CN
    cases hz : Nr.nought a
    · rw [hz] at CZ
      cases hi : Nr.isInf a
      · rw [hi] at CI
        have hA : 0 < a % 2 ^ 63 := by
          unfold Nr.nought at hz
          have := of_decide_eq_false hz; omega
        have hB : a % 2 ^ 63 < 2047 * 2 ^ 52 := by
          unfold Nr.isNaN Nr.inf at hn
          unfold Nr.isInf Nr.inf at hi
          have h1 := of_decide_eq_false hn
          have h2 := of_decide_eq_false hi
          omega
        obtain ⟨p1, p2, p3, p4⟩ := parts_of hA hB
        obtain ⟨y, k, hT⟩ := Nr.told p2 p3 p4
        rw [show Nr.dAbs a = a % 2 ^ 63 by unfold Nr.dAbs; rw [hn]; rfl] at CA
        have CS := Lib.hid (fun (w1 : World) => rshort_any _ _ p2 p3 p4 w1)
        rw [p1, hT.e] at CS
        obtain ⟨l1, l2⟩ := dd_len_bd hT
        have HR := show showS a = sgnS (Nr.neg a) ++ ptT (Nr.dd y) k by
          unfold showS
          rw [hn, hz, hi, hT.e]; rfl
        rw [HR]
        cases hs : Nr.neg a
        · rw [hs] at CG
          exact rshow_false a _ _ k w l1 l2 hT.k1 hT.k2 CN CG CI CZ CA CS
        · rw [hs] at CG
          exact rshow_true a _ _ k w l1 l2 hT.k1 hT.k2 CN CG CI CZ CA CS
      · rw [hi] at CI
        have HR := show showS a = (if Nr.neg a then [45] else [43]) ++ [73, 110, 102] by
          unfold showS
          rw [hn, hz, hi]; rfl
        rw [HR]
        obtain ⟨sb, hsb⟩ : ∃ b, Nr.neg a = b := ⟨_, rfl⟩
        rw [hsb] at CG ⊢
        clear HR hn hz hi hsb ha CA CZ
        cases sb
        · go_enter Tryz.func13, Tryz.ntmps13
          go_wp2_with fail
          refine (CN.out _).mono ?_
          rintro e w1 ⟨rfl, rfl⟩
          go_wp2_with fail
          refine (CG.out _).mono ?_
          rintro e w1 ⟨rfl, rfl⟩
          go_wp2_with fail
          refine (CI.out _).mono ?_
          rintro e w1 ⟨rfl, rfl⟩
          go_wp2
          go_ret
          exact ⟨rfl, Below.refl _ _⟩
        · go_enter Tryz.func13, Tryz.ntmps13
          go_wp2_with fail
          refine (CN.out _).mono ?_
          rintro e w1 ⟨rfl, rfl⟩
          go_wp2_with fail
          refine (CG.out _).mono ?_
          rintro e w1 ⟨rfl, rfl⟩
          go_wp2_with fail
          refine (CI.out _).mono ?_
          rintro e w1 ⟨rfl, rfl⟩
          go_wp2
          go_ret
          exact ⟨rfl, Below.refl _ _⟩
    · rw [hz] at CZ
      have hi : Nr.isInf a = false := by
        unfold Nr.nought at hz
        have := of_decide_eq_true hz
        unfold Nr.isInf Nr.inf
        exact decide_eq_false (by omega)
      rw [hi] at CI
      have HR := show showS a = sgnS (Nr.neg a) ++ [48] by
        unfold showS
        rw [hn, hz]; rfl
      rw [HR]
      obtain ⟨sb, hsb⟩ : ∃ b, Nr.neg a = b := ⟨_, rfl⟩
      rw [hsb] at CG ⊢
      clear HR hn hz hi hsb ha CA
      cases sb
      · go_enter Tryz.func13, Tryz.ntmps13
        go_wp2_with fail
        refine (CN.out _).mono ?_
        rintro e w1 ⟨rfl, rfl⟩
        go_wp2_with fail
        refine (CG.out _).mono ?_
        rintro e w1 ⟨rfl, rfl⟩
        go_wp2_with fail
        refine (CI.out _).mono ?_
        rintro e w1 ⟨rfl, rfl⟩
        go_wp2_with fail
        refine (CZ.out _).mono ?_
        rintro e w1 ⟨rfl, rfl⟩
        go_wp2
        go_ret
        exact ⟨rfl, Below.refl _ _⟩
      · go_enter Tryz.func13, Tryz.ntmps13
        go_wp2_with fail
        refine (CN.out _).mono ?_
        rintro e w1 ⟨rfl, rfl⟩
        go_wp2_with fail
        refine (CG.out _).mono ?_
        rintro e w1 ⟨rfl, rfl⟩
        go_wp2_with fail
        refine (CI.out _).mono ?_
        rintro e w1 ⟨rfl, rfl⟩
        go_wp2_with fail
        refine (CZ.out _).mono ?_
        rintro e w1 ⟨rfl, rfl⟩
        go_wp2
        go_ret
        exact ⟨rfl, Below.refl _ _⟩
  · rw [hn] at CN
    have HR : showS a = [78, 97, 78] := by unfold showS; rw [hn]; rfl
    rw [HR]
    clear HR hn ha CA CZ CI CG
    go_enter Tryz.func13, Tryz.ntmps13
    go_wp2_with fail
    refine (CN.out _).mono ?_
    rintro e w1 ⟨rfl, rfl⟩
    go_wp2
    go_ret
    exact ⟨rfl, Below.refl _ _⟩
end Go.Proofs.YthhlhiighgnkmaaGreatDoor
