/-
  WALKS: the law of the fewest digits.
-/
import Derived.Test.YthhlhiighgnkmaaGreatDoorPaU
import Derived.Test.YthhlhiighgnkmaaGreatDoorKno
namespace Go.Proofs.YthhlhiighgnkmaaGreatDoor
set_option linter.unusedVariables false
set_option linter.unusedSimpArgs false
open Go.RowKit Go.PlainAid
/-- the last point among the first bytes; the first e -/
def ptI (L : List Nat) : Nat → Int
  | 0 => -1
  | k + 1 => if L[k]? = some 46 then (k : Int) else ptI L k
def exI (L : List Nat) : Nat → Int
  | 0 => -1
  | k + 1 => if L[k]? = some 101 ∧ exI L k < 0 then (k : Int) else exI L k
theorem ptI_none {L : List Nat} (h : NoPt L) (k : Nat) : ptI L k = -1 := by
  induction k with
  | zero => rfl
  | succ k ih =>
    unfold ptI
    rw [if_neg (fun e => h 46 (List.mem_of_getElem? e) rfl)]
    exact ih
theorem exI_bd (L : List Nat) (k : Nat) : -1 ≤ exI L k ∧ exI L k < k := by
  induction k with
  | zero => exact show (-1 : Int) ≤ -1 ∧ (-1 : Int) < ((0 : Nat) : Int) from ⟨by decide, by decide⟩
  | succ k ih =>
    unfold exI
    split
    · exact ⟨by omega, by omega⟩
    · exact ⟨ih.1, by omega⟩
theorem ptI_bd (L : List Nat) (k : Nat) : -1 ≤ ptI L k ∧ ptI L k < k := by
  induction k with
  | zero => exact show (-1 : Int) ≤ -1 ∧ (-1 : Int) < ((0 : Nat) : Int) from ⟨by decide, by decide⟩
  | succ k ih =>
    unfold ptI
    split
    · exact ⟨by omega, by omega⟩
    · exact ⟨ih.1, by omega⟩
theorem ptI_at {L : List Nat} {p : Nat} (h : L[p]? = some 46) (j : Nat) (hno : ∀ i, p < i → i < p + 1 + j → L[i]? ≠ some 46) : ptI L (p + 1 + j) = p := by
  induction j with
  | zero =>
    show ptI L (p + 1) = p
    unfold ptI
    rw [if_pos h]
  | succ j ih =>
    show ptI L (p + 1 + j + 1) = p
    unfold ptI
    rw [if_neg (hno (p + 1 + j) (by omega) (by omega))]
    exact ih (fun i a b => hno i a (by omega))
theorem exI_none {L : List Nat} (n : Nat) (h : ∀ i, i < n → L[i]? ≠ some 101) : exI L n = -1 := by
  induction n with
  | zero => rfl
  | succ n ih =>
    unfold exI
    rw [if_neg (fun e => h n (by omega) e.1)]
    exact ih (fun i hi => h i (by omega))
theorem exI_at {L : List Nat} {p : Nat} (h : L[p]? = some 101) (hno : ∀ i, i < p → L[i]? ≠ some 101) (j : Nat) : exI L (p + 1 + j) = p := by
  induction j with
  | zero =>
    show exI L (p + 1) = p
    unfold exI
    rw [if_pos ⟨h, by rw [exI_none p hno]; decide⟩]
  | succ j ih =>
    show exI L (p + 1 + j + 1) = p
    unfold exI
    rw [ih, if_neg (fun e => by have := e.2; omega)]
/-- what the walk through the text asks of a byte -/
theorem pt_step (L : List Nat) (hB : IsB L) (k : Nat) (hk : k < L.length) : ∃ c : Nat, bt (strOf L) k = (c : Int) ∧
    ((c = 46 ∧ ptI L (k + 1) = k ∧ exI L (k + 1) = exI L k) ∨ (c = 101 ∧ exI L k < 0 ∧ ptI L (k + 1) = ptI L k ∧ exI L (k + 1) = k) ∨ (c = 101 ∧ ¬ exI L k < 0 ∧ ptI L (k + 1) = ptI L k ∧ exI L (k + 1) = exI L k) ∨ (c ≠ 46 ∧ c ≠ 101 ∧ ptI L (k + 1) = ptI L k ∧ exI L (k + 1) = exI L k)) := by
  have h6 := strOf_bt L hB k hk
  have hg : L[k]? = some L[k] := List.getElem?_eq_getElem hk
  refine ⟨L[k], h6, ?_⟩
  obtain ⟨c, hc⟩ : ∃ c, L[k] = c := ⟨_, rfl⟩
  rw [hc] at hg ⊢
  simp only [ptI, exI, hg, Option.some.injEq]
  by_cases h1 : c = 46
  · subst h1
    exact .inl ⟨rfl, if_pos rfl, if_neg (fun e => by cases e.1)⟩
  · by_cases h2 : c = 101
    · subst h2
      by_cases h3 : exI L k < 0
      · exact .inr (.inl ⟨rfl, h3, if_neg h1, if_pos ⟨rfl, h3⟩⟩)
      · exact .inr (.inr (.inl ⟨rfl, h3, if_neg h1, if_neg (fun e => h3 e.2)⟩))
    · exact .inr (.inr (.inr ⟨h1, h2, if_neg h1, if_neg (fun e => h2 e.1)⟩))
structure Since (a b : World) : Prop where
  out : Below a.heap.size a b
theorem Since.start (a : World) : Since a a.drew := ⟨(Below.refl _ _).drew⟩
theorem Since.next {a b c : World} (h : Since a b) (k : Below b.heap.size b c) : Since a c := ⟨h.out.trans (k.mono h.out.size)⟩
theorem sgnS_isB (s : Bool) : IsB (sgnS s) := by cases s <;> simp [sgnS, IsB]
theorem expo_isB (k : Int) : IsB (if k < 0 then [101, 45] ++ decN (-k).toNat else [101, 43] ++ decN k.toNat) := by
  split
  · exact IsB.cons (by decide) (IsB.cons (by decide) (digs_isB (decN_ok _).1))
  · exact IsB.cons (by decide) (IsB.cons (by decide) (digs_isB (decN_ok _).1))
theorem ptT_isB {ds : List Nat} (hd : Nr.Digs ds) (k : Int) : IsB (ptT ds k) := by
  have h0 := digs_isB hd
  have ht : ∀ j, IsB (ds.take j) := fun j c hc => h0 c (List.mem_of_mem_take hc)
  have hr : ∀ j, IsB (ds.drop j) := fun j c hc => h0 c (List.mem_of_mem_drop hc)
  have hn : ∀ j, IsB (nghts j) := fun j => digs_isB (nghts_digs j)
  have hp : IsB [46] := IsB.cons (by decide) IsB.nil
  unfold ptT
  split
  · unfold expT
    refine IsB.app ?_ (expo_isB _)
    split
    · exact ((ht 1).app hp).app (hr 1)
    · exact ht 1
  · split
    · exact (IsB.app (IsB.cons (by decide) (IsB.cons (by decide) IsB.nil)) (hn _)).app h0
    · split
      · exact ((ht _).app hp).app (hr _)
      · exact h0.app (hn _)
theorem showS_isB (a : Nat) : IsB (showS a) := by
  unfold showS
  cases hn : Nr.isNaN a
  · cases hz : Nr.nought a
    · cases hi : Nr.isInf a
      · simp only [Bool.false_eq_true, if_false]
        obtain ⟨h0, h1⟩ := finite_parts hn hz hi
        obtain ⟨p1, p2, p3, p4⟩ := parts_of h0 h1
        obtain ⟨y, k, hT⟩ := Nr.told p2 p3 p4
        rw [hT.e]
        exact (sgnS_isB _).app (ptT_isB (dd_digits y) k)
      · simp only [Bool.false_eq_true, if_false, if_true]
        cases Nr.neg a
        · exact show IsB [43, 73, 110, 102] by unfold IsB; decide
        · exact show IsB [45, 73, 110, 102] by unfold IsB; decide
    · simp only [Bool.false_eq_true, if_false, if_true]
      exact (sgnS_isB _).app (IsB.cons (by decide) IsB.nil)
  · simp only [if_true]
    exact show IsB [78, 97, 78] by unfold IsB; decide
set_option maxRecDepth 100000 in
theorem law_fewest_no (m : Int) (b o cap : Nat) (a : Nat) (ha : a < 2 ^ 64) (hno : NoPt (showS a)) (hl : (showS a).length ≤ 100) (w : World) (TT : TenTab w b o cap) (TS : ShTab w m) (T : Tabs w m) (ht : PowT w) (hs : 18 ≤ w.heap.size) (hb : b < w.heap.size) : Calls Tryz.prog 6 #[.int .u64 (a : Int)] w (Gives w (.bool true)) := by
  have C1 := Lib.hid (fun (w : World) (T : Tabs w m) (ht : PowT w) => cshow_any m a ha w T ht)
  have CK := Lib.hid (fun (w : World) (TT : TenTab w b o cap) (TS : ShTab w m) => known_any m b o cap w TT TS)
  have HT := Lib.hid T
  have HTT := Lib.hid TT
  have HTS := Lib.hid TS
  have Hb := Lib.hid hb
  have hs18 := Lib.hid hs
  have hP := Lib.hid ht
  have HP := Lib.hid (pt_step (showS a) (showS_isB a))
  have hsz := strOf_size (showS a)
  have hbt := get_bt (strOf (showS a))
  obtain ⟨L, hL⟩ : ∃ L, showS a = L := ⟨_, rfl⟩
  rw [hL] at C1 HP hsz hbt hl hno
  have HE := Lib.hid (ptI_none hno)
  obtain ⟨n, hn⟩ : ∃ n, L.length = n := ⟨_, rfl⟩
  rw [hn] at HP hsz hl
  obtain ⟨S, hS⟩ : ∃ S, strOf L = S := ⟨_, rfl⟩
  rw [hS] at C1 HP hsz hbt
  have HX := Lib.hid (exI_bd L)
  clear TT TS T ht hs hb hS hn hL ha hno
  go_enter Tryz.func6, Tryz.ntmps6
  go_wp2_with fail
  refine (C1.out _ HT.out hP.out).mono ?_
  rintro e w1 ⟨rfl, hb⟩
  have B1 := Lib.hid hb
  clear hb
  go_wp2
  go_loopw [4, 5, 6] (fun pt ex i wr => ∃ k : Nat, k ≤ n ∧ i = .int .i64 (k : Int) ∧ pt = .int .i64 (ptI L k) ∧ ex = .int .i64 (exI L k) ∧ Hid (Below w.heap.size w wr)) (fun _ _ i _ => (n - intOf i).toNat)
  case atStart => exact ⟨0, by omega, rfl, rfl, rfl, B1⟩
  case round =>
    obtain ⟨k, hk, rfl, rfl, rfl, HBL⟩ := hrel
    have hxb := HX.out k
    by_cases hkn : k < n
    · obtain ⟨c, hbk, hc⟩ := HP.out k hkn
      have h1 : (k : Int) < (n : Int) := by omega
      have hwr : IntKind.i64.wrap ((k : Int) + 1) = ((k + 1 : Nat) : Int) := by rw [IntKind.wrap_i64]; omega
      obtain ⟨p1, hp1⟩ : ∃ p, ptI L (k + 1) = p := ⟨_, rfl⟩
      obtain ⟨x1, hx1⟩ : ∃ p, exI L (k + 1) = p := ⟨_, rfl⟩
      obtain ⟨p0, hp0⟩ : ∃ p, ptI L k = p := ⟨_, rfl⟩
      obtain ⟨x0, hx0⟩ : ∃ p, exI L k = p := ⟨_, rfl⟩
      rw [hp1, hx1, hp0, hx0] at hc
      rw [hx0] at hxb
      rw [hp0, hx0]
      have HR := Lib.hid hp1
      have HR2 := Lib.hid hx1
      clear hp1 hx1 hp0 hx0
      rcases hc with ⟨rfl, e1, e2⟩ | ⟨rfl, e0, e1, e2⟩ | ⟨rfl, e0, e1, e2⟩ | ⟨n1, n2, e1, e2⟩
      · have HQ1 := Lib.hid e1
        have HQ2 := Lib.hid e2
        clear e1 e2
        go_wp2
        go_roundw
        case rel => exact ⟨k + 1, by omega, rfl, by rw [HR.out, HQ1.out], by rw [HR2.out, HQ2.out], HBL⟩
        case measure => simp [intOf]; omega
      · have HQ1 := Lib.hid e1
        have HQ2 := Lib.hid e2
        have d0 : decide (x0 < 0) = true := decide_eq_true e0
        clear e1 e2
        go_wp2
        go_roundw
        case rel => exact ⟨k + 1, by omega, rfl, by rw [HR.out, HQ1.out], by rw [HR2.out, HQ2.out], HBL⟩
        case measure => simp [intOf]; omega
      · have HQ1 := Lib.hid e1
        have HQ2 := Lib.hid e2
        have d0 : decide (x0 < 0) = false := decide_eq_false (by omega)
        clear e1 e2
        go_wp2
        go_roundw
        case rel => exact ⟨k + 1, by omega, rfl, by rw [HR.out, HQ1.out], by rw [HR2.out, HQ2.out], HBL⟩
        case measure => simp [intOf]; omega
      · have HQ1 := Lib.hid e1
        have HQ2 := Lib.hid e2
        have d46 : ((c : Int) == 46) = false := by simp; omega
        have d101 : ((c : Int) == 101) = false := by simp; omega
        clear e1 e2 n1 n2
        go_wp2
        go_roundw
        case rel => exact ⟨k + 1, by omega, rfl, by rw [HR.out, HQ1.out], by rw [HR2.out, HQ2.out], HBL⟩
        case measure => simp [intOf]; omega
    · obtain rfl : k = n := by omega
      rw [HE.out k]
      obtain ⟨x0, hx0⟩ : ∃ p, exI L k = p := ⟨_, rfl⟩
      rw [hx0]
      clear hx0 hxb
      go_wp2_with fail
      refine (CK.out _ (HTT.out.below HBL.out hs18.out Hb.out) (HTS.out.below HBL.out (by have := hs18.out; omega))).mono ?_
      rintro e w4 ⟨rfl, hb⟩
      have B3 := Lib.hid (HBL.out.trans (hb.mono HBL.out.size))
      clear hb
      go_wp2
      go_ret
      exact ⟨rfl, B3.out⟩
/-- where the point stands, where the exponent begins, which is the last digit ahead of it -/
theorem pointed_at {P F : List Nat} {z : Nat} {E : List Nat} (p : NoPE P) (f : NoPE F) (z1 : 49 ≤ z) (z2 : z ≤ 57) (e : E = [] ∨ ∃ E', E = 101 :: E' ∧ NoPt E') (L : List Nat) (hL : L = P ++ 46 :: (F ++ z :: E)) :
    ptI L L.length = (P.length : Int) ∧ ((exI L L.length < 0 ∧ L.length = P.length + 1 + F.length + 1) ∨ exI L L.length = ((P.length + 1 + F.length + 1 : Nat) : Int)) ∧ L[P.length + 1 + F.length]? = some z ∧ L.length = P.length + 1 + F.length + 1 + E.length ∧
    (∀ S, S = strOf L → S.extract 0 (P.length + 1 + F.length) ++ S.extract (P.length + 1 + F.length + 1) L.length = strOf (P ++ 46 :: (F ++ E))) := by
  have hlen : L.length = P.length + 1 + F.length + 1 + E.length := by rw [hL]; simp; omega
  have gp : L[P.length]? = some 46 := by rw [hL, List.getElem?_append_right (Nat.le_refl _), Nat.sub_self]; rfl
  have gP : ∀ i, i < P.length → ∃ c, L[i]? = some c ∧ c ∈ P := fun i hi => ⟨P[i], by rw [hL, List.getElem?_append_left hi, List.getElem?_eq_getElem hi], List.getElem_mem hi⟩
  have gF : ∀ j, j < F.length → ∃ c, L[P.length + 1 + j]? = some c ∧ c ∈ F := fun j hj => ⟨F[j], by
    rw [hL, List.getElem?_append_right (by omega), show P.length + 1 + j - P.length = j + 1 by omega, List.getElem?_cons_succ, List.getElem?_append_left hj, List.getElem?_eq_getElem hj], List.getElem_mem hj⟩
  have gz : L[P.length + 1 + F.length]? = some z := by
    rw [hL, List.getElem?_append_right (by omega), show P.length + 1 + F.length - P.length = F.length + 1 by omega, List.getElem?_cons_succ, List.getElem?_append_right (Nat.le_refl _), Nat.sub_self]; rfl
  have gE : ∀ j, L[P.length + 1 + F.length + 1 + j]? = E[j]? := fun j => by
    rw [hL, List.getElem?_append_right (by omega), show P.length + 1 + F.length + 1 + j - P.length = F.length + 1 + j + 1 by omega, List.getElem?_cons_succ, List.getElem?_append_right (by omega), show F.length + 1 + j - F.length = j + 1 by omega, List.getElem?_cons_succ]
  have nE : NoPt E := by
    rcases e with rfl | ⟨E', rfl, h⟩
    · intro c hc; cases hc
    · intro c hc
      rcases List.mem_cons.1 hc with h1 | h1
      · omega
      · exact h c h1
  have no46 : ∀ i, P.length < i → L[i]? ≠ some 46 := by
    intro i hi
    by_cases h1 : i < P.length + 1 + F.length
    · obtain ⟨c, hc, hm⟩ := gF (i - P.length - 1) (by omega)
      rw [show P.length + 1 + (i - P.length - 1) = i by omega] at hc
      rw [hc]
      intro h; exact (f c hm).1 (Option.some.inj h)
    · by_cases h2 : i = P.length + 1 + F.length
      · rw [h2, gz]
        intro h; have := Option.some.inj h; omega
      · have := gE (i - (P.length + 1 + F.length + 1))
        rw [show P.length + 1 + F.length + 1 + (i - (P.length + 1 + F.length + 1)) = i by omega] at this
        rw [this]
        intro h
        exact nE 46 (List.mem_of_getElem? h) rfl
  have no101 : ∀ i, i < P.length + 1 + F.length + 1 → L[i]? ≠ some 101 := by
    intro i hi
    by_cases h0 : i < P.length
    · obtain ⟨c, hc, hm⟩ := gP i h0
      rw [hc]
      intro h; exact (p c hm).2 (Option.some.inj h)
    · by_cases h3 : i = P.length
      · rw [h3, gp]; intro h; cases Option.some.inj h
      · by_cases h1 : i < P.length + 1 + F.length
        · obtain ⟨c, hc, hm⟩ := gF (i - P.length - 1) (by omega)
          rw [show P.length + 1 + (i - P.length - 1) = i by omega] at hc
          rw [hc]
          intro h; exact (f c hm).2 (Option.some.inj h)
        · obtain rfl : i = P.length + 1 + F.length := by omega
          rw [gz]
          intro h; have := Option.some.inj h; omega
  refine ⟨?_, ?_, gz, hlen, ?_⟩
  · have := ptI_at gp (F.length + 1 + E.length) (fun i a _ => no46 i a)
    rw [show P.length + 1 + (F.length + 1 + E.length) = L.length by omega] at this
    exact this
  · rcases e with rfl | ⟨E', rfl, h⟩
    · refine .inl ⟨?_, by rw [hlen]; simp⟩
      rw [exI_none L.length (fun i hi => no101 i (by rw [hlen] at hi; simpa using hi))]
      decide
    · refine .inr ?_
      have h1 : L[P.length + 1 + F.length + 1]? = some 101 := by have := gE 0; rw [Nat.add_zero] at this; rw [this]; rfl
      have := exI_at h1 no101 E'.length
      rw [show P.length + 1 + F.length + 1 + 1 + E'.length = L.length by rw [hlen]; simp; omega] at this
      exact this
  · rintro S rfl
    rw [strOf_extract L 0 _ (by omega) (by omega), strOf_extract L _ _ (by omega) (by omega), strOf_cat]
    congr 1
    have h1 : L = (P ++ 46 :: F) ++ z :: E := by rw [hL]; simp
    have hl1 : (P ++ 46 :: F).length = P.length + 1 + F.length := by simp; omega
    have h2 : L = ((P ++ 46 :: F) ++ [z]) ++ E := by rw [h1]; simp
    have hl2 : ((P ++ 46 :: F) ++ [z]).length = P.length + 1 + F.length + 1 := by rw [List.length_append, hl1]; rfl
    have t1 : (L.drop 0).take (P.length + 1 + F.length - 0) = P ++ 46 :: F := by
      rw [List.drop_zero, Nat.sub_zero, h1, ← hl1, List.take_left]
    have t2 : (L.drop (P.length + 1 + F.length + 1)).take (L.length - (P.length + 1 + F.length + 1)) = E := by
      have : L.drop (P.length + 1 + F.length + 1) = E := by rw [h2, ← hl2, List.drop_left]
      rw [this, hlen, Nat.add_sub_cancel_left, List.take_length]
    rw [t1, t2]
    simp
set_option maxRecDepth 100000 in
set_option maxHeartbeats 1000000 in
theorem law_fewest_pt (m : Int) (b o cap b2 o2 cap2 : Nat) (a : Nat) (ha : a < 2 ^ 64) {P F : List Nat} {z : Nat} {E : List Nat} {V : Nat} (H : Pointed a P F z E V) (w : World) (TT : TenTab w b o cap) (TS : ShTab w m) (T : Tabs w m) (TN : NumTabs w b2 o2 cap2) (hb : b < w.heap.size) : Calls Tryz.prog 6 #[.int .u64 (a : Int)] w (Gives w (.bool true)) := by
  have C1 := Lib.hid (fun (w : World) (T : Tabs w m) (ht : PowT w) => cshow_any m a ha w T ht)
  have C2 := Lib.hid (fun (w : World) (TN : NumTabs w b2 o2 cap2) => H.read b2 o2 cap2 w TN)
  have CK := Lib.hid (fun (w : World) (TT : TenTab w b o cap) (TS : ShTab w m) => known_any m b o cap w TT TS)
  have HT := Lib.hid T
  have HTT := Lib.hid TT
  have HTS := Lib.hid TS
  have HTN := Lib.hid TN
  have Hb := Lib.hid hb
  have hs18 := Lib.hid TN.s
  have hP := Lib.hid TN.p
  have HP := Lib.hid (pt_step (showS a) (showS_isB a))
  have hsz := strOf_size (showS a)
  have hbt := get_bt (strOf (showS a))
  have hB := showS_isB a
  obtain ⟨L, hL⟩ : ∃ L, showS a = L := ⟨_, rfl⟩
  have htx := H.text
  rw [hL] at C1 HP hsz hbt htx hB
  obtain ⟨q1, q2, q3, q4, q5⟩ := pointed_at H.p H.f H.z1 H.z2 H.e L htx
  have hbz : bt (strOf L) (P.length + 1 + F.length) = (z : Int) := by
    have h := strOf_bt L hB (P.length + 1 + F.length) (by omega)
    obtain ⟨h4, h5⟩ := List.getElem?_eq_some_iff.1 q3
    rw [h5] at h
    exact h
  have hz48 : ((z : Int) == 48) = false := by have := H.z1; simp; omega
  have hv1 : ((V : Int) == (a : Int)) = false := by have := H.v; simp; omega
  have hv2 : ¬ V = a := H.v
  have hv3 : (V == a) = false := by simpa using hv2
  have hv4 : decide (V = a) = false := decide_eq_false hv2
  have hv5 : ¬ (V : Int) = (a : Int) := by omega
  have hv6 : ((V : Int) != (a : Int)) = true := by simp; omega
  have hz2 : ((z : Int) != 48) = true := by have := H.z1; simp; omega
  have hz3 : ¬ (z : Int) = 48 := by have := H.z1; omega
  have hz4 : ¬ z = 48 := by have := H.z1; omega
  have q5' := q5 _ rfl
  have l1 := H.lp
  have l2 := H.lf
  have l3 := H.le
  obtain ⟨N, hN⟩ : ∃ N, strOf (P ++ 46 :: (F ++ E)) = N := ⟨_, rfl⟩
  rw [hN] at C2 q5'
  obtain ⟨n, hn⟩ : ∃ n, L.length = n := ⟨_, rfl⟩
  rw [hn] at HP hsz q1 q2 q4 q5'
  obtain ⟨S, hS⟩ : ∃ S, strOf L = S := ⟨_, rfl⟩
  rw [hS] at C1 HP hsz hbt hbz q5'
  obtain ⟨p, hp⟩ : ∃ p, P.length = p := ⟨_, rfl⟩
  rw [hp] at q1 q2 q4 q5' hbz l1
  obtain ⟨q, hq⟩ : ∃ q, p + 1 + F.length = q := ⟨_, rfl⟩
  rw [hq] at q2 q4 q5' hbz
  have hpq : p < q := by omega
  have hqn : q + 1 ≤ n := by omega
  have hn200 : n ≤ 200 := by omega
  have HX := Lib.hid (exI_bd L)
  have HQ1 := Lib.hid q1
  have HQ2 := Lib.hid q2
  have HQ5 := Lib.hid q5'
  clear q1 q2 q3 q4 q5 q5' l1 l2 l3 hq hp hS hn hN htx hL hB TT TS T TN hb ha H
  go_enter Tryz.func6, Tryz.ntmps6
  go_wp2_with fail
  refine (C1.out _ HT.out hP.out).mono ?_
  rintro e w1 ⟨rfl, hb⟩
  have B1 := Lib.hid hb
  clear hb
  go_wp2
  go_loopw [4, 5, 6] (fun pt ex i wr => ∃ k : Nat, k ≤ n ∧ i = .int .i64 (k : Int) ∧ pt = .int .i64 (ptI L k) ∧ ex = .int .i64 (exI L k) ∧ Hid (Below w.heap.size w wr)) (fun _ _ i _ => (n - intOf i).toNat)
  case atStart => exact ⟨0, by omega, rfl, rfl, rfl, B1⟩
  case round =>
    obtain ⟨k, hk, rfl, rfl, rfl, HBL⟩ := hrel
    have hxb := HX.out k
    by_cases hkn : k < n
    · obtain ⟨c, hbk, hc⟩ := HP.out k hkn
      have h1 : (k : Int) < (n : Int) := by omega
      have hwr : IntKind.i64.wrap ((k : Int) + 1) = ((k + 1 : Nat) : Int) := by rw [IntKind.wrap_i64]; omega
      obtain ⟨p1, hp1⟩ : ∃ p, ptI L (k + 1) = p := ⟨_, rfl⟩
      obtain ⟨x1, hx1⟩ : ∃ p, exI L (k + 1) = p := ⟨_, rfl⟩
      obtain ⟨p0, hp0⟩ : ∃ p, ptI L k = p := ⟨_, rfl⟩
      obtain ⟨x0, hx0⟩ : ∃ p, exI L k = p := ⟨_, rfl⟩
      rw [hp1, hx1, hp0, hx0] at hc
      rw [hx0] at hxb
      rw [hp0, hx0]
      have HR := Lib.hid hp1
      have HR2 := Lib.hid hx1
      clear hp1 hx1 hp0 hx0 hpq hqn hbz hz48 hv1 hv2 hv3 hv4 hv5 hv6 hz2 hz3 hz4
      rcases hc with ⟨rfl, e1, e2⟩ | ⟨rfl, e0, e1, e2⟩ | ⟨rfl, e0, e1, e2⟩ | ⟨n1, n2, e1, e2⟩
      · have HQ1 := Lib.hid e1
        have HQ2 := Lib.hid e2
        clear e1 e2
        go_wp2
        go_roundw
        case rel => exact ⟨k + 1, by omega, rfl, by rw [HR.out, HQ1.out], by rw [HR2.out, HQ2.out], HBL⟩
        case measure => simp [intOf]; omega
      · have HQ1 := Lib.hid e1
        have HQ2 := Lib.hid e2
        have d0 : decide (x0 < 0) = true := decide_eq_true e0
        clear e1 e2
        go_wp2
        go_roundw
        case rel => exact ⟨k + 1, by omega, rfl, by rw [HR.out, HQ1.out], by rw [HR2.out, HQ2.out], HBL⟩
        case measure => simp [intOf]; omega
      · have HQ1 := Lib.hid e1
        have HQ2 := Lib.hid e2
        have d0 : decide (x0 < 0) = false := decide_eq_false (by omega)
        clear e1 e2
        go_wp2
        go_roundw
        case rel => exact ⟨k + 1, by omega, rfl, by rw [HR.out, HQ1.out], by rw [HR2.out, HQ2.out], HBL⟩
        case measure => simp [intOf]; omega
      · have HQ1 := Lib.hid e1
        have HQ2 := Lib.hid e2
        have d46 : ((c : Int) == 46) = false := by simp; omega
        have d101 : ((c : Int) == 101) = false := by simp; omega
        clear e1 e2 n1 n2
        go_wp2
        go_roundw
        case rel => exact ⟨k + 1, by omega, rfl, by rw [HR.out, HQ1.out], by rw [HR2.out, HQ2.out], HBL⟩
        case measure => simp [intOf]; omega
    · obtain rfl : k = n := by omega
      have T2 := Lib.hid (HTT.out.below HBL.out hs18.out Hb.out)
      have S2 := Lib.hid (HTS.out.below HBL.out (by have := hs18.out; omega))
      have N2 := Lib.hid (HTN.out.stay HBL.out)
      rw [HQ1.out]
      have e1 : IntKind.i64.wrap (((q + 1 : Nat) : Int) - 1) = (q : Int) := by rw [IntKind.wrap_i64]; omega
      have d2 : decide ((q : Int) ≤ (p : Int)) = false := decide_eq_false (by omega)
      have d3 : decide (q ≤ p) = false := decide_eq_false (by omega)
      have d4 : decide ((p : Int) < 0) = false := decide_eq_false (by omega)
      have hlt : (q : Int) < (k : Int) := by omega
      clear hkn hxb HX HP
      have hk2 : k - (q + 1) ≤ 200 := by omega
      have x1 : (S.extract 0 q).size = q := by rw [ByteArray.size_extract, hsz]; omega
      have x2 : (S.extract (q + 1) k).size = k - (q + 1) := by rw [ByteArray.size_extract, hsz]; omega
      have hsum : ¬ 9223372036854775807 < (S.extract 0 q).size + (S.extract (q + 1) k).size := by rw [x1, x2]; omega
      have hcat := HQ5.out
      have CC := Lib.hid (C2.out wr.drew (N2.out.stay (below_drewN (Below.refl wr.heap.size wr) 1)))
      clear x1 x2 hk2 C2
      rcases HQ2.out with ⟨hx, hn1⟩ | hx
      · obtain ⟨x0, hx0⟩ : ∃ p, exI L k = p := ⟨_, rfl⟩
        rw [hx0] at hx ⊢
        subst hn1
        have d1 : decide (x0 ≥ 0) = false := decide_eq_false (by omega)
        have d5 : decide (0 ≤ x0) = false := decide_eq_false (by omega)
        have r1 : (q : Int) ≤ (q : Int) + 1 := by omega
        have r2 : q ≤ q + 1 := by omega
        have r3 : (0 : Int) ≤ (q : Int) + 1 := by omega
        have hem : S.extract (q + 1) (q + 1) = ByteArray.empty := by simp
        rw [hem, ByteArray.append_empty] at hcat
        have r4 : N.size = q := by rw [← hcat, ByteArray.size_extract, hsz]; omega
        have r5 : ¬ 9223372036854775807 < q := by omega
        have r6 : ¬ 9223372036854775807 < q + 0 := by omega
        clear hem hsum
        clear hx0 HQ2
        go_wp2_with fail
        go_region_law (go_simp; go_at_call 14; refine CC.out.mono ?_; rintro e w3 ⟨rfl, hb⟩; go_simp)
        all_goals
          have B3 := Lib.hid (HBL.out.trans ((Below.refl wr.heap.size wr).drew.trans hb |>.mono HBL.out.size))
          clear hb
          go_wp2_with fail
          refine (CK.out _ (HTT.out.below B3.out hs18.out Hb.out) (HTS.out.below B3.out (by have := hs18.out; omega))).mono ?_
          rintro e w4 ⟨rfl, hb⟩
          have B4 := Lib.hid (B3.out.trans (hb.mono B3.out.size))
          clear hb
          go_wp2
          go_ret
          exact ⟨rfl, B4.out⟩
      · rw [hx]
        have d1 : decide (((q + 1 : Nat) : Int) ≥ 0) = true := decide_eq_true (by omega)
        have d5 : decide (0 ≤ ((q + 1 : Nat) : Int)) = true := decide_eq_true (by omega)
        have r1 : q ≤ k := by omega
        have r2 : (q : Int) + 1 ≤ (k : Int) := by omega
        have r3 : (q : Int) ≤ (k : Int) := by omega
        have r4 : ¬ 9223372036854775807 < q + (k - (q + 1)) := by omega
        clear hx HQ2
        go_wp2_with fail
        go_region_law (go_simp; go_at_call 14; refine CC.out.mono ?_; rintro e w3 ⟨rfl, hb⟩; go_simp)
        all_goals
          have B3 := Lib.hid (HBL.out.trans ((Below.refl wr.heap.size wr).drew.trans hb |>.mono HBL.out.size))
          clear hb
          go_wp2_with fail
          refine (CK.out _ (HTT.out.below B3.out hs18.out Hb.out) (HTS.out.below B3.out (by have := hs18.out; omega))).mono ?_
          rintro e w4 ⟨rfl, hb⟩
          have B4 := Lib.hid (B3.out.trans (hb.mono B3.out.size))
          clear hb
          go_wp2
          go_ret
          exact ⟨rfl, B4.out⟩
theorem law_fewest (m : Int) (b o cap b2 o2 cap2 : Nat) (a : Nat) (ha : a < 2 ^ 64) (w : World) (TT : TenTab w b o cap) (TS : ShTab w m) (T : Tabs w m) (TN : NumTabs w b2 o2 cap2) (hb : b < w.heap.size) : Calls Tryz.prog 6 #[.int .u64 (a : Int)] w (Gives w (.bool true)) := by
  rcases few_cases a ha with ⟨hno, hl⟩ | ⟨P, F, z, E, V, H⟩
  · exact law_fewest_no m b o cap a ha hno hl w TT TS T TN.p TN.s hb
  · exact law_fewest_pt m b o cap b2 o2 cap2 a ha H w TT TS T TN hb
end Go.Proofs.YthhlhiighgnkmaaGreatDoor
