/-
  WALKS: how far a name goes; is it one; what a set may not have.
-/
import Derived.Test.YtiolghcjndoigaaGreatDoorNam
import Derived.Shelf.GgClosure.Gives
namespace Go.Proofs.YtiolghcjndoigaaGreatDoor
set_option linter.unusedVariables false
set_option linter.unusedSimpArgs false
open Go.RowKit Go.PlainAid
theorem strOf_append (a b : List Nat) : strOf a ++ strOf b = strOf (a ++ b) := by
  apply ByteArray.ext
  rw [ByteArray.data_append]
  unfold strOf
  simp
theorem strOf_extract (bs : List Nat) (p q : Nat) (h : p ≤ q) (hq : q ≤ bs.length) : (strOf bs).extract p q = strOf ((bs.drop p).take (q - p)) := by
  apply ByteArray.ext
  rw [ByteArray.data_extract]
  unfold strOf
  apply Array.toList_inj.1
  simp only [List.extract_toArray, Array.toList_extract, List.extract_eq_take_drop, List.map_drop, List.map_take]
theorem strOf_eq {ds bs : List Nat} (h : IsB ds) (k : IsB bs) : strOf ds = strOf bs ↔ ds = bs := ⟨strOf_inj h k, fun e => by rw [e]⟩
/-- how far a name goes -/
def nmA : List Nat → Nat → Nat
  | [], k => k
  | c :: cs, k => if placeB c k = true then nmA cs (k + 1) else k
theorem nmA_le : ∀ (bs : List Nat) (k : Nat), k ≤ nmA bs k ∧ nmA bs k ≤ k + bs.length
  | [], k => by simp [nmA]
  | c :: cs, k => by
    have := nmA_le cs (k + 1)
    unfold nmA
    split
    · simp only [List.length_cons]; omega
    · simp only [List.length_cons]; omega
def nmL (bs : List Nat) : Nat := nmA bs 0
theorem nmL_le (bs : List Nat) : nmL bs ≤ bs.length := by
  have := nmA_le bs 0
  unfold nmL
  omega
set_option maxHeartbeats 1000000 in
theorem nameahead_any (bs : List Nat) (hB : IsB bs) (w : World) : Calls Tryz.prog 100 #[.string (strOf bs)] w fun e w' => e = .returned (.string (strOf (bs.take (nmL bs)))) ∧ w' = w := by
  have hsz := strOf_size bs
  have hbt := get_bt (strOf bs)
  have HS := Lib.hid (strOf_bt bs hB)
  have HX := Lib.hid (fun k hk => strOf_extract bs 0 k (Nat.zero_le _) hk)
  obtain ⟨L, hL⟩ : ∃ L, bs.length = L := ⟨_, rfl⟩
  rw [hL] at hsz HX
  have HL := Lib.hid hL
  have HB := Lib.hid hB
  clear hL hB
  go_enter Tryz.func100, Tryz.ntmps100
  go_wp2
  go_loopw [3] (fun i wr => ∃ (k : Nat), k ≤ L ∧ k ≤ 1024 ∧ i = .int .i64 k ∧ wr = w ∧ Hid (nmL bs = nmA (bs.drop k) k)) (fun i _ => (L - (intOf i).toNat))
  case atStart => exact ⟨0, by omega, by omega, rfl, rfl, Lib.hid rfl⟩
  case round =>
    obtain ⟨k, hk, hk9, rfl, rfl, HN⟩ := hrel
    by_cases hkL : k < L
    · have da : decide ((k : Int) < (L : Int)) = true := decide_eq_true (by omega)
      have da2 : decide (k < L) = true := decide_eq_true hkL
      have hkb := HS.out k (by rw [HL.out]; exact hkL)
      have hc256 := HB.out.at k (by rw [HL.out]; exact hkL)
      obtain ⟨c, hc⟩ : ∃ c, bs[k]'(by rw [HL.out]; exact hkL) = c := ⟨_, rfl⟩
      have HD := Lib.hid (show bs.drop k = c :: bs.drop (k + 1) by rw [← hc]; exact List.drop_eq_getElem_cons (by rw [HL.out]; exact hkL))
      rw [hc] at hkb hc256
      clear hc
      have CP := Lib.hid (fun w => hasplace_any c k hc256 w)
      by_cases hp : placeB c k = true
      · rw [hp] at CP
        have hk3 : k < 1024 := by unfold placeB at hp; rw [Bool.and_eq_true] at hp; exact of_decide_eq_true hp.1
        have HN2 := Lib.hid (show nmL bs = nmA (bs.drop (k + 1)) (k + 1) by rw [HN.out, HD.out, nmA, if_pos hp])
        clear hp
        go_wp2_with (go_at_call 123; refine (CP.out _).mono ?_; rintro e w' ⟨rfl, rfl⟩)
        go_roundw
        case rel => exact ⟨k + 1, by omega, by omega, by simp, trivial, HN2⟩
        case measure => simp [intOf]; omega
      · have hp2 : placeB c k = false := by simpa using hp
        rw [hp2] at CP
        have HN2 := Lib.hid (show nmL bs = k by rw [HN.out, HD.out, nmA, if_neg hp])
        have HX2 := HX.out k hk
        clear hp hp2
        go_wp2_with (go_at_call 123; refine (CP.out _).mono ?_; rintro e w' ⟨rfl, rfl⟩)
        go_ret
        exact ⟨congrArg (fun x => Ending.returned (.string x)) (by rw [HN2.out]), rfl⟩
    · have hkk : k = L := by omega
      subst hkk
      have da : decide ((k : Int) < (k : Int)) = false := decide_eq_false (by omega)
      have da2 : decide (k < k) = false := decide_eq_false (by omega)
      have HN2 := Lib.hid (show nmL bs = k by rw [HN.out, List.drop_eq_nil_of_le (by rw [HL.out]; omega), nmA])
      have HX2 := HX.out k hk
      go_wp2
      go_ret
      exact ⟨congrArg (fun x => Ending.returned (.string x)) (by rw [HN2.out]), rfl⟩
/-- is it a name -/
def nameB (s : ByteArray) : Bool := decide (bytesOf s ≠ []) && decide (nmL (bytesOf s) = (bytesOf s).length)
theorem take_eq_self {α : Type} (l : List α) (k : Nat) (hk : k ≤ l.length) : l.take k = l ↔ k = l.length := by
  constructor
  · intro h
    have := congrArg List.length h
    rw [List.length_take] at this
    omega
  · rintro rfl
    exact List.take_length
set_option maxHeartbeats 1000000 in
theorem name_any (s : ByteArray) (w : World) : Calls Tryz.prog 36 #[.string s] w fun e w' => e = .returned (.bool (nameB s)) ∧ w' = w := by
  have hB := isB_bytesOf s
  have hlen := bytesOf_length s
  have C := Lib.hid (fun w => nameahead_any (bytesOf s) hB w)
  have hle := nmL_le (bytesOf s)
  rw [strOf_bytesOf] at C
  by_cases h0 : s = ⟨#[]⟩
  · have E := Lib.hid (show nameB s = false by subst h0; rfl)
    subst h0
    clear C hlen hle
    go_enter Tryz.func36, Tryz.ntmps36
    go_wp2
    go_ret
    exact ⟨congrArg (fun x => Ending.returned (.bool x)) E.out.symm, rfl⟩
  · have hne : ¬ s.toList = ByteArray.toList ⟨#[]⟩ := fun e => h0 ((toList_iff _ _).1 e)
    have hne2 : ¬ s.toList = [] := fun e => hne (by rw [e, ByteArray.toList_eq])
    have hie : s.toList.isEmpty = false := by cases h : s.toList with
      | nil => exact absurd h hne2
      | cons => rfl
    have hb0 : bytesOf s ≠ [] := fun e => h0 (by rw [← strOf_bytesOf s, e]; rfl)
    by_cases h1 : nmL (bytesOf s) = (bytesOf s).length
    · have E := Lib.hid (show nameB s = true by unfold nameB; rw [decide_eq_true hb0, decide_eq_true h1]; rfl)
      rw [h1, List.take_length, strOf_bytesOf] at C
      have hq : s.toList = s.toList := rfl
      clear hlen hle h1 hb0
      go_enter Tryz.func36, Tryz.ntmps36
      go_wp2_with (go_at_call 100; refine (C.out _).mono ?_; rintro e w' ⟨rfl, rfl⟩)
      go_ret
      exact ⟨congrArg (fun x => Ending.returned (.bool x)) E.out.symm, rfl⟩
    · have E := Lib.hid (show nameB s = false by unfold nameB; rw [decide_eq_false h1, Bool.and_false])
      obtain ⟨T, hT⟩ : ∃ T, strOf ((bytesOf s).take (nmL (bytesOf s))) = T := ⟨_, rfl⟩
      have hTs : ¬ T = s := by
        rw [← hT]
        intro e
        refine h1 ((take_eq_self _ _ hle).1 ?_)
        have e2 : strOf ((bytesOf s).take (nmL (bytesOf s))) = strOf (bytesOf s) := by rw [e, strOf_bytesOf]
        exact strOf_inj (fun c hc => hB c (List.mem_of_mem_take hc)) hB e2
      rw [hT] at C
      have hq : ¬ T.toList = s.toList := fun e => hTs ((toList_iff _ _).1 e)
      have hq2 : (T.toList == s.toList) = false := by simpa using hq
      clear hlen hle h1 hb0 hT
      go_enter Tryz.func36, Tryz.ntmps36
      go_wp2_with (go_at_call 100; refine (C.out _).mono ?_; rintro e w' ⟨rfl, rfl⟩)
      go_ret
      exact ⟨congrArg (fun x => Ending.returned (.bool x)) E.out.symm, rfl⟩
/-- what no set may have -/
def badB (x : Lm.Lb) : Bool := !nameB x.1 || decide (1024 < x.2.size)
theorem malformed_any (x : Lm.Lb) (w : World) : Calls Tryz.prog 49 #[.agg #[.string x.1, .string x.2]] w (Gives w (.bool (badB x))) := by
  obtain ⟨a, b⟩ := x
  have C := Lib.hid (fun w => name_any a w)
  have E := Lib.hid (show badB (a, b) = (!nameB a || decide (1024 < b.size)) from rfl)
  have B1 := Lib.hid ((Below.refl _ w).alloc (Nat.le_refl _) (.cells #[.string a, .string b] 94))
  simp only
  by_cases h1 : nameB a = true
  · rw [h1] at C
    by_cases h2 : 1024 < b.size
    · have E2 := Lib.hid (show badB (a, b) = true by rw [E.out, h1, decide_eq_true h2]; rfl)
      have d : decide ((b.size : Int) > 1024) = true := decide_eq_true (by omega)
      have d2 : decide ((1024 : Int) < (b.size : Int)) = true := decide_eq_true (by omega)
      have d3 : decide (1024 < b.size) = true := decide_eq_true (by omega)
      clear h1 E
      go_enter Tryz.func49, Tryz.ntmps49
      go_wp2_with (go_at_call 36; refine (C.out _).mono ?_; rintro e w' ⟨rfl, rfl⟩)
      go_ret
      exact ⟨congrArg (fun x => Ending.returned (.bool x)) E2.out.symm, B1.out⟩
    · have E2 := Lib.hid (show badB (a, b) = false by rw [E.out, h1, decide_eq_false h2]; rfl)
      have d : decide ((b.size : Int) > 1024) = false := decide_eq_false (by omega)
      have d2 : decide ((1024 : Int) < (b.size : Int)) = false := decide_eq_false (by omega)
      have d3 : decide (1024 < b.size) = false := decide_eq_false (by omega)
      clear h1 E
      go_enter Tryz.func49, Tryz.ntmps49
      go_wp2_with (go_at_call 36; refine (C.out _).mono ?_; rintro e w' ⟨rfl, rfl⟩)
      go_ret
      exact ⟨congrArg (fun x => Ending.returned (.bool x)) E2.out.symm, B1.out⟩
  · have h1' : nameB a = false := by simpa using h1
    rw [h1'] at C
    have E2 := Lib.hid (show badB (a, b) = true by rw [E.out, h1']; rfl)
    clear h1 h1' E
    go_enter Tryz.func49, Tryz.ntmps49
    go_wp2_with (go_at_call 36; refine (C.out _).mono ?_; rintro e w' ⟨rfl, rfl⟩)
    go_ret
    exact ⟨congrArg (fun x => Ending.returned (.bool x)) E2.out.symm, B1.out⟩
/-- a label without a value -/
def emptyB (x : Lm.Lb) : Bool := decide (x.2 = ⟨#[]⟩)
theorem empty_any (x : Lm.Lb) (w : World) : Calls Tryz.prog 53 #[.agg #[.string x.1, .string x.2]] w (Gives w (.bool (emptyB x))) := by
  obtain ⟨a, b⟩ := x
  have B1 := Lib.hid ((Below.refl _ w).alloc (Nat.le_refl _) (.cells #[.string a, .string b] 94))
  simp only
  by_cases h : b = ⟨#[]⟩
  · have E := Lib.hid (show emptyB (a, b) = true from decide_eq_true h)
    have h2 : b.toList = [] := by rw [h, ByteArray.toList_eq]
    have h3 : b.toList.isEmpty = true := by rw [h2]; rfl
    clear h
    go_enter Tryz.func53, Tryz.ntmps53
    go_wp2
    go_ret
    exact ⟨congrArg (fun x => Ending.returned (.bool x)) (by rw [E.out]), B1.out⟩
  · have E := Lib.hid (show emptyB (a, b) = false from decide_eq_false h)
    have h2 : ¬ b.toList = [] := fun e => h ((toList_iff _ _).1 (by rw [e, ByteArray.toList_eq]))
    have h3 : b.toList.isEmpty = false := by cases hh : b.toList with
      | nil => exact absurd hh h2
      | cons => rfl
    clear h
    go_enter Tryz.func53, Tryz.ntmps53
    go_wp2
    go_ret
    exact ⟨congrArg (fun x => Ending.returned (.bool x)) (by rw [E.out]), B1.out⟩
end Go.Proofs.YtiolghcjndoigaaGreatDoor
