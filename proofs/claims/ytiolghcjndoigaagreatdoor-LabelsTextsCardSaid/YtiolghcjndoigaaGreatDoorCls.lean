/-
  WALKS: where the string between quotes ends that a text begins with.
-/
import Derived.Test.YtiolghcjndoigaaGreatDoorRdl
namespace Go.Proofs.YtiolghcjndoigaaGreatDoor
set_option linter.unusedVariables false
set_option linter.unusedSimpArgs false
open Go.RowKit Go.PlainAid Go.Shelf
/-- behind the quote that closes it; 0: none does -/
def cls (ds : List Nat) (p : Nat) : Nat := if _h : p < ds.length then (if ds[p]? = some 34 then p + 1 else if ds[p]? = some 92 then cls ds (p + 2) else cls ds (p + 1)) else 0
termination_by ds.length - p
theorem cls_end {ds : List Nat} {p : Nat} (h : ds.length ≤ p) : cls ds p = 0 := by
  rw [cls, dif_neg (by omega)]
theorem cls_quote {ds : List Nat} {p : Nat} (h : ds[p]? = some 34) : cls ds p = p + 1 := by
  rw [cls, dif_pos (List.getElem?_eq_some_iff.1 h).1, if_pos h]
theorem cls_esc {ds : List Nat} {p : Nat} (h : ds[p]? = some 92) : cls ds p = cls ds (p + 2) := by
  rw [cls, dif_pos (List.getElem?_eq_some_iff.1 h).1, if_neg (by rw [h]; simp), if_pos h]
theorem cls_other {ds : List Nat} {p c : Nat} (h : ds[p]? = some c) (h1 : c ≠ 34) (h2 : c ≠ 92) : cls ds p = cls ds (p + 1) := by
  rw [cls, dif_pos (List.getElem?_eq_some_iff.1 h).1, if_neg (by rw [h]; simpa using h1), if_neg (by rw [h]; simpa using h2)]
theorem cls_le (ds : List Nat) : ∀ (n p : Nat), ds.length - p ≤ n → cls ds p ≤ ds.length ∧ (cls ds p = 0 ∨ p < cls ds p)
  | 0, p, h => by rw [cls_end (by omega)]; exact ⟨by omega, .inl rfl⟩
  | n + 1, p, h => by
    by_cases hp : p < ds.length
    · obtain ⟨c, hc⟩ : ∃ c, ds[p]? = some c := ⟨_, List.getElem?_eq_getElem hp⟩
      by_cases h1 : c = 34
      · rw [cls_quote (by rw [hc, h1])]; exact ⟨by omega, .inr (by omega)⟩
      · by_cases h2 : c = 92
        · rw [cls_esc (by rw [hc, h2])]
          have := cls_le ds n (p + 2) (by omega)
          exact ⟨this.1, this.2.imp id (fun h => by omega)⟩
        · rw [cls_other hc h1 h2]
          have := cls_le ds n (p + 1) (by omega)
          exact ⟨this.1, this.2.imp id (fun h => by omega)⟩
    · rw [cls_end (by omega)]; exact ⟨by omega, .inl rfl⟩
theorem hexV_plain {c : Nat} (h : hexV c < 16) : c ≠ 34 ∧ c ≠ 92 := by
  constructor
  · rintro rfl; exact absurd h (by decide)
  · rintro rfl; exact absurd h (by decide)
theorem toks_cls {ds : List Nat} {p pe : Nat} {xs : List Nat} (h : Toks 34 ds p xs pe) : cls ds p = pe + 1 := by
  induction h with
  | nil p h => exact cls_quote h
  | cons p p' pe xs ys h1 h2 ih =>
    rw [← ih]
    cases h1 with
    | plain c h3 h4 h5 => exact cls_other h3 h4 (h5 (by decide)).2
    | esc xs p' h3 h4 h5 h6 =>
      rw [cls_esc h5]
      cases h6 with
      | simple c v k1 k2 => rfl
      | hex c d k1 k2 k3 k4 k5 =>
        rw [cls_other k2 (hexV_plain k4).1 (hexV_plain k4).2, cls_other k3 (hexV_plain k5).1 (hexV_plain k5).2]
theorem take_get {ds : List Nat} {m i c : Nat} (h : ds[i]? = some c) (hm : i < m) : (ds.take m)[i]? = some c := by
  rw [List.getElem?_take, if_pos hm]; exact h
theorem toks_take {q m : Nat} {ds : List Nat} {p pe : Nat} {xs : List Nat} (h : Toks q ds p xs pe) (hm : pe < m) : Toks q (ds.take m) p xs pe := by
  induction h with
  | nil p h => exact .nil p (take_get h hm)
  | cons p p' pe xs ys h1 h2 ih =>
    have hle := h2.le
    have hf := h1.far
    refine .cons p p' pe xs ys ?_ (ih hm)
    cases h1 with
    | plain c h3 h4 h5 => exact .plain c (take_get h3 (by omega)) h4 h5
    | esc xs p' h3 h4 h5 h6 =>
      have hg := h6.far
      refine .esc xs p' h3 h4 (take_get h5 (by omega)) ?_
      cases h6 with
      | simple c v k1 k2 => exact .simple c v (take_get k1 (by omega)) k2
      | hex c d k1 k2 k3 k4 k5 => exact .hex c d (take_get k1 (by omega)) (take_get k2 (by omega)) (take_get k3 (by omega)) k4 k5
theorem incW (k : Nat) (h : k ≤ 1000000) : wrap64 ((k : Int) + 1) = ((k + 1 : Nat) : Int) ∧ IntKind.i64.wrap ((k : Int) + 1) = ((k + 1 : Nat) : Int) := ⟨by rw [wrap64_small (by omega) (by omega)]; omega, by rw [IntKind.wrap_i64]; omega⟩
theorem eqF {c d : Nat} (h : ¬ c = d) : ((c : Int) == (d : Int)) = false := by simp; omega
theorem eqT {c d : Nat} (h : c = d) : ((c : Int) == (d : Int)) = true := by simp; omega
set_option maxHeartbeats 1000000 in
theorem closed_any (ds : List Nat) (hB : IsB ds) (hl : ds.length ≤ 200000) (w : World) : Calls Tryz.prog 149 #[.string (strOf ds)] w fun e w' => e = .returned (.int .i64 ((cls ds 1 : Nat) : Int)) ∧ w' = w := by
  have hsz := strOf_size ds
  have hbt := get_bt (strOf ds)
  have HS := Lib.hid (strOf_bt ds hB)
  obtain ⟨L, hL⟩ : ∃ L, ds.length = L := ⟨_, rfl⟩
  rw [hL] at hsz hl
  have HL := Lib.hid hL
  have HB := Lib.hid hB
  obtain ⟨R, hR⟩ : ∃ R, cls ds 1 = R := ⟨_, rfl⟩
  have HR := Lib.hid hR
  rw [hR]
  clear hL hB hR
  go_enter Tryz.func149, Tryz.ntmps149
  go_wp2
  go_loopw [3] (fun i wr => ∃ (k : Nat), k ≤ L + 1 ∧ i = .int .i64 k ∧ wr = w ∧ Hid (cls ds k = R)) (fun i _ => (L + 1 - (intOf i).toNat))
  case atStart => exact ⟨1, by omega, rfl, rfl, HR⟩
  case round =>
    obtain ⟨k, hk, rfl, rfl, HN⟩ := hrel
    by_cases hkL : k < L
    · have da : decide ((k : Int) < (L : Int)) = true := decide_eq_true (by omega)
      have da2 : decide (k < L) = true := decide_eq_true hkL
      have hki : (k : Int) < (L : Int) := by omega
      have hkb := HS.out k (by rw [HL.out]; exact hkL)
      have hc256 := HB.out.at k (by rw [HL.out]; exact hkL)
      obtain ⟨c, hc⟩ : ∃ c, ds[k]'(by rw [HL.out]; exact hkL) = c := ⟨_, rfl⟩
      have HD := Lib.hid (show ds[k]? = some c by rw [← hc]; exact List.getElem?_eq_getElem (by rw [HL.out]; exact hkL))
      rw [hc] at hkb hc256
      clear hc
      have HK := Lib.hid (show k + 1 ≤ L + 1 ∧ k ≤ 1000000 ∧ k + 1 ≤ 1000000 by omega)
      have M1 := Lib.hid (show L + 1 - (k + 1) < L + 1 - k ∧ L + 1 - (k + 1 + 1) < L + 1 - k by omega)
      have M2 := Lib.hid (show k + 1 + 1 ≤ L + 1 by omega)
      by_cases h1 : c = 34
      · have n1 : ((c : Int) == ((34 : Nat) : Int)) = true := eqT h1
        have HN2 := Lib.hid (show k + 1 = R by rw [← HN.out, cls_quote (p := k) (by rw [HD.out, h1])])
        obtain ⟨e1, e1'⟩ := incW k HK.out.2.1
        rw [HN2.out] at e1 e1'
        clear h1
        go_wp2
        go_ret
        exact ⟨rfl, rfl⟩
      · have n1 : ((c : Int) == ((34 : Nat) : Int)) = false := eqF h1
        by_cases h2 : c = 92
        · have n2 : ((c : Int) == ((92 : Nat) : Int)) = true := eqT h2
          have HN2 := Lib.hid (show cls ds (k + 1 + 1) = R by rw [← HN.out, cls_esc (p := k) (by rw [HD.out, h2])])
          obtain ⟨e2, e2'⟩ := incW (k + 1) HK.out.2.2
          obtain ⟨e1, e1'⟩ := incW k HK.out.2.1
          obtain ⟨k1, hk1⟩ : ∃ k1, k + 1 = k1 := ⟨_, rfl⟩
          rw [hk1] at e1 e1' e2 e2' HN2 M1 M2
          obtain ⟨k2, hk2⟩ : ∃ k2, k1 + 1 = k2 := ⟨_, rfl⟩
          rw [hk2] at e2 e2' HN2 M1 M2
          clear h1 h2 hk1 hk2
          go_wp2
          go_roundw
          case rel => exact ⟨k2, M2.out, rfl, trivial, HN2⟩
          case measure => simp [intOf]; exact M1.out.2
        · have n2 : ((c : Int) == ((92 : Nat) : Int)) = false := eqF h2
          have HN2 := Lib.hid (show cls ds (k + 1) = R by rw [← HN.out, cls_other HD.out h1 h2])
          obtain ⟨e1, e1'⟩ := incW k HK.out.2.1
          obtain ⟨k1, hk1⟩ : ∃ k1, k + 1 = k1 := ⟨_, rfl⟩
          rw [hk1] at e1 e1' HN2 M1 HK
          clear h1 h2 hk1
          go_wp2
          go_roundw
          case rel => exact ⟨k1, HK.out.1, rfl, trivial, HN2⟩
          case measure => simp [intOf]; exact M1.out.1
    · have da : decide ((k : Int) < (L : Int)) = false := decide_eq_false (by omega)
      have da2 : decide (k < L) = false := decide_eq_false (by omega)
      have HN2 := Lib.hid (show 0 = R by rw [← HN.out, cls_end (by rw [HL.out]; omega)])
      go_wp2
      go_ret
      exact ⟨congrArg (fun x : Nat => Ending.returned (.int .i64 (x : Int))) HN2.out, rfl⟩
end Go.Proofs.YtiolghcjndoigaaGreatDoor
