/-
  MATHEMATICS: orders by a comparison that gives -1, 0 or 1; lists by their first difference.
-/
namespace Go.Proofs.YtiolghcjndoigaaGreatDoor
namespace Lm
/-- a comparison that is a total order -/
structure Lin {α : Type} (c : α → α → Int) : Prop where
  same : ∀ a b, c a b = 0 ↔ a = b
  anti : ∀ a b, c b a = - c a b
  trans : ∀ a b d, c a b ≤ 0 → c b d ≤ 0 → c a d ≤ 0
  lo : ∀ a b, -1 ≤ c a b
  hi : ∀ a b, c a b ≤ 1
/-- lists by their first difference -/
def lexC {α : Type} (c : α → α → Int) : List α → List α → Int
  | [], [] => 0
  | [], _ :: _ => -1
  | _ :: _, [] => 1
  | a :: as, b :: bs => if c a b = 0 then lexC c as bs else c a b
theorem lexC_same {α : Type} {c : α → α → Int} (h : Lin c) : ∀ a b, lexC c a b = 0 ↔ a = b
  | [], [] => by simp [lexC]
  | [], _ :: _ => by simp [lexC]
  | _ :: _, [] => by simp [lexC]
  | x :: a, y :: b => by
    unfold lexC
    by_cases e : c x y = 0
    · rw [if_pos e, lexC_same h a b]
      have := (h.same x y).1 e
      subst this
      simp
    · rw [if_neg e]
      have : x ≠ y := fun k => e ((h.same x y).2 k)
      simp [e, this]
theorem lexC_anti {α : Type} {c : α → α → Int} (h : Lin c) : ∀ a b, lexC c b a = - lexC c a b
  | [], [] => rfl
  | [], _ :: _ => rfl
  | _ :: _, [] => rfl
  | x :: a, y :: b => by
    unfold lexC
    have k := h.anti x y
    by_cases e : c x y = 0
    · rw [if_pos e, if_pos (by omega), lexC_anti h a b]
    · rw [if_neg e, if_neg (by omega), k]
theorem lexC_bounds {α : Type} {c : α → α → Int} (h : Lin c) : ∀ a b, -1 ≤ lexC c a b ∧ lexC c a b ≤ 1
  | [], [] => by simp [lexC]
  | [], _ :: _ => by simp [lexC]
  | _ :: _, [] => by simp [lexC]
  | x :: a, y :: b => by
    unfold lexC
    by_cases e : c x y = 0
    · rw [if_pos e]; exact lexC_bounds h a b
    · rw [if_neg e]; exact ⟨h.lo x y, h.hi x y⟩
theorem lexC_trans {α : Type} {c : α → α → Int} (h : Lin c) : ∀ a b d, lexC c a b ≤ 0 → lexC c b d ≤ 0 → lexC c a d ≤ 0
  | [], _, [], _, _ => by simp [lexC]
  | [], _, _ :: _, _, _ => by simp [lexC]
  | _ :: _, [], _, k, _ => by simp [lexC] at k
  | _ :: _, _ :: _, [], _, k => by simp [lexC] at k
  | x :: a, y :: b, z :: d, k1, k2 => by
    unfold lexC at k1 k2 ⊢
    have sxy := h.same x y
    have syz := h.same y z
    have txz := h.trans x y z
    by_cases e1 : c x y = 0
    · rw [if_pos e1] at k1
      have := sxy.1 e1
      subst this
      by_cases e2 : c x z = 0
      · rw [if_pos e2] at k2 ⊢
        exact lexC_trans h a b d k1 k2
      · rw [if_neg e2] at k2 ⊢
        exact k2
    · rw [if_neg e1] at k1
      by_cases e2 : c y z = 0
      · have := syz.1 e2
        subst this
        rw [if_neg e1]
        exact k1
      · rw [if_neg e2] at k2
        have h3 := txz k1 k2
        by_cases e3 : c x z = 0
        · exfalso
          have := (h.same x z).1 e3
          subst this
          have := h.anti x y
          omega
        · rw [if_neg e3]; exact h3
theorem lexC_lin {α : Type} {c : α → α → Int} (h : Lin c) : Lin (lexC c) := ⟨lexC_same h, lexC_anti h, lexC_trans h, fun a b => (lexC_bounds h a b).1, fun a b => (lexC_bounds h a b).2⟩
/-- one byte against another -/
def byC (a b : UInt8) : Int := if a < b then -1 else if b < a then 1 else 0
theorem byC_nat (a b : UInt8) : byC a b = if a.toNat < b.toNat then -1 else if b.toNat < a.toNat then 1 else 0 := by
  unfold byC
  simp only [UInt8.lt_iff_toNat_lt]
theorem byC_lin : Lin byC := by
  refine ⟨fun a b => ?_, fun a b => ?_, fun a b d => ?_, fun a b => ?_, fun a b => ?_⟩
  · rw [byC_nat, ← UInt8.toNat_inj]
    split
    · simp; omega
    · split
      · simp; omega
      · simp; omega
  · rw [byC_nat, byC_nat]
    (repeat' split) <;> omega
  · rw [byC_nat, byC_nat, byC_nat]
    (repeat' split) <;> intro k1 k2 <;> omega
  · rw [byC_nat]; split <;> (try split) <;> omega
  · rw [byC_nat]; split <;> (try split) <;> omega
/-- one string against another -/
def strC (a b : ByteArray) : Int := lexC byC a.data.toList b.data.toList
theorem strC_lin : Lin strC := by
  have h := lexC_lin byC_lin
  exact ⟨fun a b => (h.same _ _).trans (by constructor
                                           · intro e; exact ByteArray.ext (Array.toList_inj.1 e)
                                           · rintro rfl; rfl), fun a b => h.anti _ _, fun a b d => h.trans _ _ _, fun a b => h.lo _ _, fun a b => h.hi _ _⟩
abbrev Lb := ByteArray × ByteArray
/-- one label against another -/
def labC (x y : Lb) : Int := if strC x.1 y.1 = 0 then strC x.2 y.2 else strC x.1 y.1
theorem labC_lin : Lin labC := by
  have h := strC_lin
  refine ⟨fun a b => ?_, fun a b => ?_, fun a b d => ?_, fun a b => ?_, fun a b => ?_⟩
  · unfold labC
    have h1 := h.same a.1 b.1
    have h2 := h.same a.2 b.2
    split
    · rename_i e
      rw [h2, Prod.ext_iff]
      exact ⟨fun k => ⟨h1.1 e, k⟩, fun k => k.2⟩
    · rename_i e
      exact ⟨fun k => absurd k e, fun k => absurd (h1.2 (by rw [k])) e⟩
  · unfold labC
    have h1 := h.anti a.1 b.1
    have h2 := h.anti a.2 b.2
    by_cases e : strC a.1 b.1 = 0
    · rw [if_pos e, if_pos (by omega), h2]
    · rw [if_neg e, if_neg (by omega), h1]
  · unfold labC
    have s1 := h.same a.1 b.1
    have s2 := h.same b.1 d.1
    have s3 := h.same a.1 d.1
    have t1 := h.trans a.1 b.1 d.1
    have t2 := h.trans a.2 b.2 d.2
    have an := h.anti a.1 b.1
    intro k1 k2
    by_cases e1 : strC a.1 b.1 = 0
    · rw [if_pos e1] at k1
      have := s1.1 e1
      rw [this]
      by_cases e2 : strC b.1 d.1 = 0
      · rw [if_pos e2] at k2 ⊢; exact t2 k1 k2
      · rw [if_neg e2] at k2 ⊢; exact k2
    · rw [if_neg e1] at k1
      by_cases e2 : strC b.1 d.1 = 0
      · have := s2.1 e2
        rw [← this, if_neg e1]; exact k1
      · rw [if_neg e2] at k2
        have h3 := t1 k1 k2
        by_cases e3 : strC a.1 d.1 = 0
        · exfalso
          have := s3.1 e3
          rw [← this] at k2
          omega
        · rw [if_neg e3]; exact h3
  · unfold labC; split
    · exact h.lo _ _
    · exact h.lo _ _
  · unfold labC; split
    · exact h.hi _ _
    · exact h.hi _ _
/-- one list of labels against another -/
def labsC (a b : List Lb) : Int := lexC labC a b
theorem labsC_lin : Lin labsC := lexC_lin labC_lin
/-- what the law of the order asks -/
theorem order_law (a b d : List Lb) : (labsC a b > 0 ∨ labsC b d > 0 ∨ labsC a d ≤ 0) ∧ (labsC a b ≠ 0 ∨ labsC b d = labsC a d) := by
  have h := labsC_lin
  constructor
  · by_cases h1 : labsC a b ≤ 0
    · by_cases h2 : labsC b d ≤ 0
      · exact .inr (.inr (h.trans _ _ _ h1 h2))
      · exact .inr (.inl (by omega))
    · exact .inl (by omega)
  · by_cases h1 : labsC a b = 0
    · have := (h.same a b).1 h1
      subst this
      exact .inr rfl
    · exact .inl h1
end Lm
end Go.Proofs.YtiolghcjndoigaaGreatDoor
