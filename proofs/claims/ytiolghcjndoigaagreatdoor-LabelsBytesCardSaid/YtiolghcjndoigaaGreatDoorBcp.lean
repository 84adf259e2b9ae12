/-
  MATHEMATICS: what Print gives of a set has the form.
-/
import Derived.Test.YtiolghcjndoigaaGreatDoorBck
namespace Go.Proofs.YtiolghcjndoigaaGreatDoor
set_option linter.unusedVariables false
set_option linter.unusedSimpArgs false
open Go.RowKit Go.PlainAid Go.Shelf
def bodyL : List Lm.Lb → List Nat
  | [] => []
  | [x] => pairL x
  | x :: y :: l => pairL x ++ ([44, 32] ++ bodyL (y :: l))
def printB (l : List Lm.Lb) : List Nat := 123 :: (bodyL l ++ [125])
theorem join_body (l : List Lm.Lb) : joinS l = strOf (bodyL l) := by
  unfold joinS Lib.join
  have key : ∀ l : List Lm.Lb, ([44, 32] : List UInt8).intercalate ((l.map pairS).map (·.data.toList)) = (bodyL l).map UInt8.ofNat := by
    intro l
    induction l with
    | nil => rfl
    | cons x l ih =>
      have hp : (pairS x).data.toList = (pairL x).map UInt8.ofNat := by rw [pairS_of, strOf_list]
      cases l with
      | nil =>
        rw [List.map_cons, List.map_cons, List.map_nil, List.map_nil, inter_one, hp]
        rfl
      | cons y l =>
        rw [List.map_cons, List.map_cons] at ih
        rw [List.map_cons, List.map_cons, List.map_cons, List.map_cons, inter_more, ih, hp, bodyL, List.map_append, List.map_append]
        rfl
  rw [key]
  rfl
theorem print_body (l : List Lm.Lb) : printS l = strOf (printB l) := by
  unfold printS printB
  rw [join_body]
  rw [show (⟨#[123]⟩ : ByteArray) = strOf [123] from rfl, show (⟨#[125]⟩ : ByteArray) = strOf [125] from rfl, strOf_append, strOf_append]
  rfl
theorem pairL_isB (x : Lm.Lb) : IsB (pairL x) := IsB.app (IsB.app (isB_bytesOf _) (IsB.cons (by decide) IsB.nil)) (quoteL_isB (isB_bytesOf _))
theorem bodyL_isB : ∀ l : List Lm.Lb, IsB (bodyL l)
  | [] => IsB.nil
  | [x] => pairL_isB x
  | x :: y :: l => IsB.app (pairL_isB x) (IsB.app (IsB.cons (by decide) (IsB.cons (by decide) IsB.nil)) (bodyL_isB (y :: l)))
theorem printB_isB (l : List Lm.Lb) : IsB (printB l) := IsB.cons (by decide) (IsB.app (bodyL_isB l) (IsB.cons (by decide) IsB.nil))
theorem pairL_len (x : Lm.Lb) : (pairL x).length ≤ x.1.size + 3 + 4 * x.2.size := by
  have := pairS_size x
  rw [pairS_of, strOf_size] at this
  exact this
theorem bodyL_len : ∀ l : List Lm.Lb, (bodyL l).length ≤ 5 * l.length + 4 * weigh l
  | [] => by simp [bodyL]
  | [x] => by
    have h := pairL_len x
    have hw : weigh [x] = x.1.size + x.2.size := by simp [weigh]
    show (pairL x).length ≤ _
    simp only [List.length_cons, List.length_nil]
    omega
  | x :: y :: l => by
    have h := pairL_len x
    have ih := bodyL_len (y :: l)
    have hw : weigh (x :: y :: l) = x.1.size + x.2.size + weigh (y :: l) := by unfold weigh; rw [List.map_cons, List.sum_cons]
    rw [bodyL, List.length_append, List.length_append]
    simp only [List.length_cons, List.length_nil] at ih ⊢
    omega
/-! where the blanks end -/
theorem skip_at {bs : List Nat} {q c : Nat} (h : bs[q]? = some c) (hc : c ≠ 32) : skipB bs q = q := by
  obtain ⟨hq, rfl⟩ := List.getElem?_eq_some_iff.1 h
  unfold skipB
  rw [List.drop_eq_getElem_cons hq, List.dropWhile_cons, if_neg (by simpa using hc), List.length_cons, List.length_drop]
  omega
theorem skip_one {bs : List Nat} {q : Nat} (h : bs[q]? = some 32) : skipB bs q = skipB bs (q + 1) := by
  obtain ⟨hq, h2⟩ := List.getElem?_eq_some_iff.1 h
  unfold skipB
  rw [List.drop_eq_getElem_cons hq, List.dropWhile_cons, h2, if_pos (by rfl)]
theorem skip_end (bs : List Nat) : skipB bs bs.length = bs.length := by unfold skipB; rw [List.drop_length]; rfl
theorem at_mid {pre l : List Nat} {c : Nat} (i : Nat) (h : l[i]? = some c) : (pre ++ l)[pre.length + i]? = some c := by
  rw [List.getElem?_append_right (by omega), show pre.length + i - pre.length = i by omega]; exact h
/-! how far a name goes -/
theorem nmA_go : ∀ (ns r : List Nat) (k : Nat), nmA ns k = k + ns.length → (∀ c, r[0]? = some c → ∀ j, placeB c j = false) → nmA (ns ++ r) k = k + ns.length
  | [], r, k, _, hr => by
    cases r with
    | nil => rfl
    | cons c r =>
      rw [List.nil_append, nmA, if_neg (by rw [hr c rfl k]; decide)]
      rfl
  | c :: ns, r, k, h, hr => by
    rw [nmA] at h
    by_cases hp : placeB c k = true
    · rw [if_pos hp] at h
      rw [List.cons_append, nmA, if_pos hp, nmA_go ns r (k + 1) (by rw [h, List.length_cons]; omega) hr, List.length_cons]
      omega
    · rw [if_neg hp, List.length_cons] at h
      omega
theorem eq_no (j : Nat) : placeB 61 j = false := by
  have e : letterB 61 = false := by decide
  have e2 : digB 61 = false := by decide
  unfold placeB
  rw [e, e2, Bool.false_and, Bool.or_false, Bool.and_false]
theorem nameB_go {s : ByteArray} (h : nameB s = true) (r : List Nat) : nmL (bytesOf s ++ 61 :: r) = (bytesOf s).length := by
  unfold nameB at h
  rw [Bool.and_eq_true] at h
  have h2 := of_decide_eq_true h.2
  unfold nmL at *
  have := nmA_go (bytesOf s) (61 :: r) 0 (by rw [h2]; omega) (fun c hc j => by
    have : c = 61 := by simpa using hc.symm
    rw [this]; exact eq_no j)
  rw [this]
  omega
theorem name_head {s : ByteArray} (h : nameB s = true) : ∃ c r, bytesOf s = c :: r ∧ c ≠ 32 ∧ c ≠ 125 := by
  unfold nameB at h
  rw [Bool.and_eq_true] at h
  have h1 := of_decide_eq_true h.1
  have h2 := of_decide_eq_true h.2
  cases hb : bytesOf s with
  | nil => exact absurd hb h1
  | cons c r =>
    refine ⟨c, r, rfl, ?_, ?_⟩
    · rintro rfl
      rw [hb] at h2
      unfold nmL at h2
      rw [nmA, if_neg (by decide), List.length_cons] at h2
      omega
    · rintro rfl
      rw [hb] at h2
      unfold nmL at h2
      rw [nmA, if_neg (by decide), List.length_cons] at h2
      omega
/-- a label that stands in a text -/
theorem lab_in (pre r : List Nat) (x : Lm.Lb) (hn : nameB x.1 = true) (c : Nat) (hr : r[0]? = some c) (hc : c ≠ 32) : LabOk (pre ++ (pairL x ++ r)) pre.length x (pre ++ pairL x).length := by
  obtain ⟨bs, hbs⟩ : ∃ bs, pre ++ (pairL x ++ r) = bs := ⟨_, rfl⟩
  have h0 : 0 < (bytesOf x.1).length := by
    obtain ⟨c, q, h, _⟩ := name_head hn
    rw [h]; simp
  have e1 : pairL x ++ r = bytesOf x.1 ++ 61 :: (quoteL (bytesOf x.2) ++ r) := by unfold pairL; simp
  have hd : bs.drop pre.length = bytesOf x.1 ++ 61 :: (quoteL (bytesOf x.2) ++ r) := by rw [← hbs, List.drop_left, e1]
  have h61 : bs[pre.length + (bytesOf x.1).length]? = some 61 := by
    rw [← hbs, e1]
    exact at_mid _ (by rw [List.getElem?_append_right (Nat.le_refl _), Nat.sub_self]; rfl)
  have e2 : bs = (pre ++ bytesOf x.1 ++ [61]) ++ (quoteL (bytesOf x.2) ++ r) := by rw [← hbs, e1]; simp
  have hl2 : (pre ++ bytesOf x.1 ++ [61]).length = pre.length + (bytesOf x.1).length + 1 := by simp; omega
  have hd2 : bs.drop (pre.length + (bytesOf x.1).length + 1) = quoteL (bytesOf x.2) ++ r := by rw [← hl2, e2, List.drop_left]
  have h34 : bs[pre.length + (bytesOf x.1).length + 1]? = some 34 := by
    have := congrArg (fun l => l[0]?) hd2
    rw [List.getElem?_drop, Nat.add_zero] at this
    rw [this]; rfl
  have hq : (quoteL (bytesOf x.2)).length = 1 + ((bytesOf x.2).flatMap qB).length + 1 := by
    unfold quoteL
    rw [List.length_append, List.length_cons, List.length_singleton]
    omega
  have hpl : (pairL x).length = (bytesOf x.1).length + 1 + (quoteL (bytesOf x.2)).length := by unfold pairL; rw [List.length_append, List.length_append, List.length_singleton]
  rw [hbs]
  refine ⟨(bytesOf x.1).length, pre.length + (bytesOf x.1).length, bytesOf x.2, h0, by rw [hd]; exact nameB_go hn _, (skip_at h61 (by decide)).symm, h61, ?_, ?_⟩
  · rw [skip_at h34 (by decide)]
    refine ⟨1 + ((bytesOf x.2).flatMap qB).length, isB_bytesOf _, by rw [hd2]; rfl, ?_, ?_⟩
    · rw [hd2]
      have ht := toks_quote r (bytesOf x.2) [34] (isB_bytesOf _)
      have e : [34] ++ ((bytesOf x.2).flatMap qB ++ 34 :: r) = quoteL (bytesOf x.2) ++ r := by unfold quoteL; simp
      rw [e] at ht
      exact ht
    · have ee : pre.length + (bytesOf x.1).length + 1 + (1 + ((bytesOf x.2).flatMap qB).length + 1) = (pre ++ pairL x).length := by rw [List.length_append, hpl, hq]; omega
      rw [ee]
      refine (skip_at (c := c) ?_ hc).symm
      have e3 : bs = (pre ++ pairL x) ++ r := by rw [← hbs]; simp
      rw [e3, List.getElem?_append_right (Nat.le_refl _), Nat.sub_self]
      exact hr
  · rw [hd, List.take_left, strOf_bytesOf, strOf_bytesOf]
theorem run_in : ∀ (l : List Lm.Lb) (pre : List Nat), l ≠ [] → (∀ x ∈ l, nameB x.1 = true) → Run (pre ++ (bodyL l ++ [125])) pre.length true l
  | [], _, h, _ => absurd rfl h
  | [x], pre, _, hn => by
    have hx := hn x List.mem_cons_self
    obtain ⟨c, q, hc, hc1, hc2⟩ := name_head hx
    have hl := lab_in pre [125] x hx 125 rfl (by decide)
    show Run (pre ++ (pairL x ++ [125])) pre.length true [x]
    have hend : (pre ++ (pairL x ++ [125]))[(pre ++ pairL x).length]? = some 125 := by
      rw [← List.append_assoc, List.getElem?_append_right (Nat.le_refl _), Nat.sub_self]; rfl
    have hlen : (pre ++ (pairL x ++ [125])).length = (pre ++ pairL x).length + 1 := by simp only [List.length_append, List.length_singleton]; omega
    refine Run.last _ _ x [] (by rw [List.length_append]; omega) ?_ hl (by rw [hend]; decide) (Run.close _ _ hend (by rw [← hlen]; exact skip_end _))
    have := at_mid (pre := pre) (l := pairL x ++ [125]) (c := c) 0 (by unfold pairL; rw [hc]; rfl)
    rw [Nat.add_zero] at this
    rw [this]
    simpa using hc2
  | x :: y :: l, pre, _, hn => by
    have hx := hn x List.mem_cons_self
    have hy := hn y (List.mem_cons_of_mem _ List.mem_cons_self)
    obtain ⟨c, q, hc, hc1, hc2⟩ := name_head hx
    obtain ⟨d, q2, hd, hd1, hd2⟩ := name_head hy
    have e0 : pre ++ (bodyL (x :: y :: l) ++ [125]) = pre ++ (pairL x ++ (44 :: 32 :: (bodyL (y :: l) ++ [125]))) := by rw [bodyL]; simp
    rw [e0]
    have hl := lab_in pre (44 :: 32 :: (bodyL (y :: l) ++ [125])) x hx 44 rfl (by decide)
    obtain ⟨bs, hbs⟩ : ∃ bs, pre ++ (pairL x ++ (44 :: 32 :: (bodyL (y :: l) ++ [125]))) = bs := ⟨_, rfl⟩
    rw [hbs] at hl ⊢
    have e1 : bs = (pre ++ pairL x ++ [44, 32]) ++ (bodyL (y :: l) ++ [125]) := by rw [← hbs]; simp
    have e2 : bs = (pre ++ pairL x) ++ (44 :: 32 :: (bodyL (y :: l) ++ [125])) := by rw [← hbs]; simp
    have hlen : (pre ++ pairL x ++ [44, 32]).length = (pre ++ pairL x).length + 2 := by rw [List.length_append]; rfl
    have h44 : bs[(pre ++ pairL x).length]? = some 44 := by rw [e2, List.getElem?_append_right (Nat.le_refl _), Nat.sub_self]; rfl
    have h32 : bs[(pre ++ pairL x).length + 1]? = some 32 := by rw [e2]; exact at_mid 1 rfl
    have hyd : bs[(pre ++ pairL x).length + 1 + 1]? = some d := by
      rw [show (pre ++ pairL x).length + 1 + 1 = (pre ++ pairL x ++ [44, 32]).length by rw [hlen], e1, List.getElem?_append_right (Nat.le_refl _), Nat.sub_self]
      cases l with
      | nil => show (pairL y ++ [125])[0]? = _; unfold pairL; rw [hd]; rfl
      | cons z l => rw [bodyL]; unfold pairL; rw [hd]; rfl
    have hsk : skipB bs ((pre ++ pairL x).length + 1) = (pre ++ pairL x ++ [44, 32]).length := by
      rw [skip_one h32, skip_at hyd hd1, hlen]
    refine Run.more _ _ x (y :: l) (by rw [← hbs, List.length_append]; omega) ?_ hl h44 ?_
    · have := at_mid (pre := pre) (l := pairL x ++ (44 :: 32 :: (bodyL (y :: l) ++ [125]))) (c := c) 0 (by unfold pairL; rw [hc]; rfl)
      rw [Nat.add_zero, hbs] at this
      rw [this]
      simpa using hc2
    · rw [hsk, e1]
      exact run_in (y :: l) _ (by simp) fun z hz => hn z (List.mem_cons_of_mem _ hz)
theorem form_print (S : List Lm.Lb) (hn : ∀ x ∈ S, nameB x.1 = true) : Form (printB S) S := by
  have h0 : skipB (printB S) 0 = 0 := skip_at (c := 123) rfl (by decide)
  refine ⟨by rw [h0]; rfl, ?_⟩
  rw [h0]
  cases S with
  | nil =>
    have : skipB (printB []) (0 + 1) = 1 := skip_at (c := 125) rfl (by decide)
    rw [this]
    exact Run.close 1 true rfl (skip_end (printB []))
  | cons x l =>
    obtain ⟨c, q, hc, hc1, hc2⟩ := name_head (hn x List.mem_cons_self)
    have h1 : (printB (x :: l))[0 + 1]? = some c := by
      unfold printB
      cases l with
      | nil => show (pairL x ++ [125])[0]? = _; unfold pairL; rw [hc]; rfl
      | cons y l => show (bodyL (x :: y :: l) ++ [125])[0]? = _; rw [bodyL]; unfold pairL; rw [hc]; rfl
    rw [skip_at h1 hc1]
    exact run_in (x :: l) [123] (by simp) hn
end Go.Proofs.YtiolghcjndoigaaGreatDoor
