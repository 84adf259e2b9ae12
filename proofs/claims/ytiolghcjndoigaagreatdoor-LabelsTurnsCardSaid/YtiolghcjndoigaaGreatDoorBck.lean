/-
  MATHEMATICS: a set is written and read again.
-/
import Derived.Test.YtiolghcjndoigaaGreatDoorDec
import Derived.Test.YtiolghcjndoigaaGreatDoorKno
namespace Go.Proofs.YtiolghcjndoigaaGreatDoor
set_option linter.unusedVariables false
set_option linter.unusedSimpArgs false
open Go.RowKit Go.PlainAid Go.Shelf
/-- a set -/
structure IsSet (S : List Lm.Lb) : Prop where
  len : S.length ≤ 64
  good : ∀ x ∈ S, badB x = false
  full : ∀ x ∈ S, emptyB x = false
  rise : risesB S = true
theorem rises_pair {l : List Lm.Lb} (h : risesB l = true) : l.Pairwise fun x y => Lm.strC x.1 y.1 < 0 := by
  induction l with
  | nil => exact List.Pairwise.nil
  | cons x l ih =>
    cases l with
    | nil => exact List.pairwise_singleton _ _
    | cons y l =>
      rw [risesB, Bool.and_eq_true] at h
      have h1 := of_decide_eq_true h.1
      have h2 := ih h.2
      refine List.pairwise_cons.2 ⟨fun z hz => ?_, h2⟩
      rcases List.mem_cons.1 hz with rfl | hz
      · exact h1
      · have h3 := (List.pairwise_cons.1 h2).1 z hz
        have t := Lm.strC_lin.trans x.1 y.1 z.1 (by omega) (by omega)
        have s := Lm.strC_lin.same x.1 z.1
        by_cases e : Lm.strC x.1 z.1 = 0
        · exfalso
          have := s.1 e
          rw [← this] at h3
          have := Lm.strC_lin.anti x.1 y.1
          omega
        · omega
theorem pair_rises {l : List Lm.Lb} (h : l.Pairwise fun x y => Lm.strC x.1 y.1 < 0) : risesB l = true := by
  rw [risesB_iff]
  rw [List.pairwise_iff_getElem] at h
  exact fun i hi => h i (i + 1) (by omega) hi (by omega)
theorem rises_nodup {l : List Lm.Lb} (h : risesB l = true) : (l.map Prod.fst).Nodup := by
  rw [List.nodup_iff_pairwise_ne, List.pairwise_map]
  refine (rises_pair h).imp ?_
  intro x y hxy e
  have := (Lm.strC_lin.same x.1 y.1).2 e
  omega
theorem any_of {α : Type} {p : α → Bool} {l : List α} (h : ∀ x ∈ l, p x = false) : l.any p = false := by
  cases hp : l.any p with
  | false => rfl
  | true =>
    obtain ⟨x, hx, h1⟩ := List.any_eq_true.1 hp
    rw [h x hx] at h1; cases h1
theorem full_self {S : List Lm.Lb} (h : ∀ x ∈ S, emptyB x = false) : fullL S = S := List.filter_eq_self.2 fun x hx => by rw [h x hx]; rfl
theorem check_set {S : List Lm.Lb} {c : Nat} (hs : IsSet S) (h : CheckIs S c) : c = 0 := by
  have h1 : (S.any badB || S.any emptyB) = false := by rw [any_of hs.good, any_of hs.full]; rfl
  have h64 := hs.len
  rcases h with ⟨h, _⟩ | ⟨_, h, _⟩ | ⟨_, _, ⟨_, h⟩ | ⟨h, _⟩⟩
  · omega
  · rw [h1] at h; cases h
  · exact h
  · rw [hs.rise] at h; cases h
theorem set_set {S out : List Lm.Lb} {c : Nat} (hs : IsSet S) (h : SetIs S c out) : c = 0 ∧ out = S := by
  have hf := full_self hs.full
  have := setis_of (l' := S) h (any_of hs.good) (List.Perm.refl _) hs.rise (by rw [hf]; exact hs.len) (fun m hp hr => rises_strict (rises_nodup hs.rise) hp hr)
  rw [hf] at this
  exact this
theorem weigh_perm {l m : List Lm.Lb} (h : l.Perm m) : weigh l = weigh m := by
  unfold weigh
  exact (h.map _).sum_nat
theorem weigh_filter (p : Lm.Lb → Bool) : ∀ l : List Lm.Lb, weigh (l.filter p) ≤ weigh l
  | [] => Nat.le_refl _
  | x :: l => by
    have ih := weigh_filter p l
    unfold weigh at *
    rw [List.filter_cons]
    split
    · rw [List.map_cons, List.sum_cons, List.map_cons, List.sum_cons]; omega
    · rw [List.map_cons, List.sum_cons]; omega
theorem set_of {l S : List Lm.Lb} (h : SetIs l 0 S) : IsSet S ∧ weigh S ≤ weigh l ∧ ∀ x ∈ l, badB x = false := by
  rcases h with ⟨_, h, _⟩ | ⟨hb, l', hp, _, ⟨_, h, _⟩ | ⟨hr, ⟨_, h, _⟩ | ⟨h64, _, rfl⟩⟩⟩
  · cases h
  · cases h
  · cases h
  · have hbad := any_false hb
    refine ⟨⟨h64, fun x hx => hbad x (hp.subset (List.mem_filter.1 hx).1), fun x hx => ?_, ?_⟩, ?_, hbad⟩
    · have := (List.mem_filter.1 hx).2
      simpa using this
    · exact pair_rises ((rises_pair hr).filter _)
    · rw [← weigh_perm hp]
      exact weigh_filter _ _
/-! bytes -/
theorem cut_text (s : ByteArray) (hs : s.size ≤ 65535) (r : List Nat) : cutM (textL s ++ r) = some (bytesOf s, r) := by
  unfold textL
  have hl := bytesOf_length s
  show (if s.size % 256 + 256 * (s.size / 256 % 256) ≤ (bytesOf s ++ r).length then some ((bytesOf s ++ r).take (s.size % 256 + 256 * (s.size / 256 % 256)), (bytesOf s ++ r).drop (s.size % 256 + 256 * (s.size / 256 % 256))) else none) = _
  have e : s.size % 256 + 256 * (s.size / 256 % 256) = (bytesOf s).length := by rw [hl]; omega
  rw [e, if_pos (by rw [List.length_append]; omega), List.take_left, List.drop_left]
theorem dec_enc : ∀ (S : List Lm.Lb) (r : List Nat), (∀ x ∈ S, x.1.size ≤ 1024 ∧ x.2.size ≤ 1024) → decL S.length (S.flatMap label1 ++ r) = some (S, r)
  | [], r, _ => rfl
  | x :: S, r, h => by
    have hx := h x List.mem_cons_self
    have ih := dec_enc S r fun y hy => h y (List.mem_cons_of_mem _ hy)
    have e : (x :: S).flatMap label1 ++ r = textL x.1 ++ (textL x.2 ++ (S.flatMap label1 ++ r)) := by
      rw [List.flatMap_cons, label1, List.append_assoc, List.append_assoc]
    rw [e, List.length_cons, decL_step (cut_text x.1 (by omega) _) (cut_text x.2 (by omega) _), ih, strOf_bytesOf, strOf_bytesOf]
    rfl
theorem dec_set {S out : List Lm.Lb} {r : List Nat} {n c : Nat} (hs : IsSet S) (h : DecIs (encL S ++ r) n c out) : c = 0 ∧ out = S ∧ n = (encL S).length := by
  have hd := dec_enc S r fun x hx => badB_size (hs.good x hx)
  have h64 := hs.len
  have e : encL S ++ r = S.length :: (S.flatMap label1 ++ r) := by unfold encL; rw [Nat.mod_eq_of_lt (by omega)]; rfl
  rw [e] at h
  rcases h with ⟨_, _, _, h | ⟨d, q, h1, h2⟩⟩ | ⟨hc, d, q, r3, h1, h2, _, hn⟩
  · cases h
  · cases h1
    rcases h2 with h2 | ⟨l, r3, ce, h2, h3, h4⟩
    · rw [hd] at h2; cases h2
    · rw [hd] at h2
      cases h2
      exact absurd (check_set hs h3) h4
  · cases h1
    rw [hd] at h2
    cases h2
    refine ⟨hc, rfl, ?_⟩
    rw [hn, List.length_cons, List.length_append]
    unfold encL
    rw [List.length_cons]
    omega
end Go.Proofs.YtiolghcjndoigaaGreatDoor
