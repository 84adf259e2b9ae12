/-
  MATHEMATICS: a time that is written is read again.
-/
import Derived.Test.YthhlhiighgnkmaaGreatDoorTwH
import Derived.Test.YthhlhiighgnkmaaGreatDoorTwC
import Derived.Test.YthhlhiighgnkmaaGreatDoorTiH
namespace Go.Proofs.YthhlhiighgnkmaaGreatDoor
set_option linter.unusedVariables false
set_option linter.unusedSimpArgs false
theorem digs_at (pre D rest : List Nat) (hD : ∀ c ∈ D, dig c = true) (hr : ∀ c, rest[0]? = some c → dig c = false) : digs (pre ++ (D ++ rest)) pre.length = D := by
  unfold digs tw
  rw [List.drop_left]
  exact takeWhile_app _ _ _ hD hr
theorem dig_ok (k : Nat) (h : k < 10) : dig (48 + k) = true := by unfold dig; simp; omega
theorem fracT_ok (r : Nat) (h0 : 0 < r) (h : r < 1000) : (∀ c ∈ fracT r, dig c = true) ∧
    (((fracT r).length = 1 ∧ decV 0 (fracT r) * 100 = r) ∨ ((fracT r).length = 2 ∧ decV 0 (fracT r) * 10 = r) ∨ ((fracT r).length = 3 ∧ decV 0 (fracT r) = r)) := by
  have e1 := dig_ok (r / 100) (by omega)
  have e2 := dig_ok (r / 10 % 10) (by omega)
  have e3 := dig_ok (r % 10) (by omega)
  unfold fracT
  by_cases hz : r % 10 = 0
  · by_cases hy : r / 10 % 10 = 0
    · rw [hz, hy, trimZ_c _ (by omega)]
      refine ⟨by simpa using e1, Or.inl ⟨rfl, ?_⟩⟩
      rw [decV_cons, decV_nil]; omega
    · rw [hz, trimZ_b _ _ (by omega)]
      refine ⟨by intro c hc; simp at hc; rcases hc with rfl | rfl <;> assumption, Or.inr (Or.inl ⟨rfl, ?_⟩)⟩
      rw [decV_cons, decV_cons, decV_nil]; omega
  · rw [trimZ_a _ _ _ (by omega)]
    refine ⟨by intro c hc; simp at hc; rcases hc with rfl | rfl | rfl <;> assumption, Or.inr (Or.inr ⟨rfl, ?_⟩)⟩
    rw [decV_cons, decV_cons, decV_cons, decV_nil]; omega
theorem secR_back (pre : List Nat) (a : Nat) (ha : a ≤ 9007199254740992) :
    secR (pre ++ (decN (a / 1000) ++ (if a % 1000 = 0 then [] else 46 :: fracT (a % 1000)))) pre.length = some (a, (pre ++ (decN (a / 1000) ++ (if a % 1000 = 0 then [] else 46 :: fracT (a % 1000)))).length) := by
  have hdot : dig 46 = false := by decide
  obtain ⟨V, hV⟩ : ∃ V, a / 1000 = V := ⟨_, rfl⟩
  obtain ⟨r, hr⟩ : ∃ r, a % 1000 = r := ⟨_, rfl⟩
  have hdm := Nat.div_add_mod a 1000
  have hlt : r < 1000 := by rw [← hr]; exact Nat.mod_lt _ (by decide)
  rw [hV, hr] at hdm
  rw [hV, hr]
  have hv := decV_decN V V (Nat.le_refl _)
  unfold secR
  by_cases h0 : r = 0
  · rw [if_pos h0]
    rw [digs_at pre (decN V) [] (dig_of V) (by simp), if_neg (decN_ne V), hv]
    have : fracR (pre ++ (decN V ++ [])) (pre.length + (decN V).length) = some (0, pre.length + (decN V).length) := by
      unfold fracR
      rw [if_neg (by rw [List.getElem?_eq_none (by simp)]; simp)]
    rw [this]
    unfold sumR
    simp only
    rw [if_pos (by omega)]
    simp; omega
  · rw [if_neg h0]
    obtain ⟨hd, hc⟩ := fracT_ok r (by omega) hlt
    obtain ⟨F, hF⟩ : ∃ F, fracT r = F := ⟨_, rfl⟩
    rw [hF] at hd hc ⊢
    rw [digs_at pre (decN V) (46 :: F) (dig_of V) (by intro c hc; simp at hc; rw [← hc]; exact hdot), if_neg (decN_ne V), hv]
    have : fracR (pre ++ (decN V ++ 46 :: F)) (pre.length + (decN V).length) = some (r, (pre ++ (decN V ++ 46 :: F)).length) := by
      unfold fracR
      rw [if_pos (by rw [show pre ++ (decN V ++ 46 :: F) = (pre ++ decN V) ++ 46 :: F by simp, ← List.length_append, List.getElem?_append_right (Nat.le_refl _), Nat.sub_self]; rfl)]
      have hdg : digs (pre ++ (decN V ++ 46 :: F)) (pre.length + (decN V).length + 1) = F := by
        have := digs_at (pre ++ (decN V ++ [46])) F [] hd (by simp)
        rw [List.append_nil] at this
        rw [show pre ++ (decN V ++ 46 :: F) = (pre ++ (decN V ++ [46])) ++ F by simp, show pre.length + (decN V).length + 1 = (pre ++ (decN V ++ [46])).length by simp [Nat.add_assoc]]
        exact this
      have hlen : (pre ++ (decN V ++ 46 :: F)).length = pre.length + (decN V).length + 1 + F.length := by simp; omega
      unfold thouR
      rw [hdg, hlen]
      rcases hc with ⟨c1, c2⟩ | ⟨c1, c2⟩ | ⟨c1, c2⟩
      · rw [if_pos c1, c1, c2]
      · rw [if_neg (by omega), if_pos c1, c1, c2]
      · rw [if_neg (by omega), if_neg (by omega), if_pos c1, c1, c2]
    rw [this]
    unfold sumR
    simp only
    rw [if_pos (by omega)]
    congr 2
    omega
theorem secT_len (neg : Bool) (a : Nat) (ha : a ≤ 9007199254740992) : (secT neg a).length ≤ 30 := by
  have h1 := decN_len19 (a / 1000) (by omega)
  have h2 : (fracT (a % 1000)).length ≤ 3 := trimZ_len _
  unfold secT
  rw [List.length_append, List.length_append]
  have h3 : (if neg = true then [45] else ([] : List Nat)).length ≤ 1 := by cases neg <;> simp
  have h4 : (if a % 1000 = 0 then [] else 46 :: fracT (a % 1000)).length ≤ 4 := by split <;> simp; omega
  omega
theorem decN_head (u c : Nat) (rest : List Nat) (h : (decN u ++ rest)[0]? = some c) : dig c = true := by
  rw [List.getElem?_append_left (List.length_pos_iff.2 (decN_ne u))] at h
  exact dig_of u c (List.mem_of_getElem? h)
/-- what a time reads as, once it is written -/
theorem secT_back (neg : Bool) (a : Nat) (ha : a ≤ 9007199254740992) : timeR (secT neg a) = some (if neg then -(a : Int) else (a : Int)) := by
  have hl := secT_len neg a ha
  unfold timeR
  rw [if_neg (by omega)]
  cases neg with
  | true =>
    have e : secT true a = [45] ++ (decN (a / 1000) ++ (if a % 1000 = 0 then [] else 46 :: fracT (a % 1000))) := by unfold secT; rw [if_pos rfl, List.append_assoc]
    have h0 : (secT true a)[0]? = some 45 := by rw [e]; rfl
    rw [if_pos h0, h0, e, show (1 : Nat) = ([45] : List Nat).length from rfl, secR_back [45] a ha]
    simp [endR]
  | false =>
    have e : secT false a = [] ++ (decN (a / 1000) ++ (if a % 1000 = 0 then [] else 46 :: fracT (a % 1000))) := by unfold secT; rw [if_neg (by simp), List.append_assoc]
    have h0 : ¬ (secT false a)[0]? = some 45 := fun h => by
      rw [e, List.nil_append] at h
      have := decN_head _ _ _ h
      revert this; decide
    have hb := secR_back [] a ha
    rw [← e] at hb
    rw [if_neg h0, decide_eq_false h0]
    have hb2 : secR (secT false a) 0 = some (a, (secT false a).length) := hb
    rw [hb2]
    simp [endR]
end Go.Proofs.YthhlhiighgnkmaaGreatDoor
