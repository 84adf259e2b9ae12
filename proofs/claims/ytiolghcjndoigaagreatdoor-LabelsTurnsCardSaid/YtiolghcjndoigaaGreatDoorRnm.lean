/-
  WALKS: the reference: may it be a name.
-/
import Derived.Test.YtiolghcjndoigaaGreatDoorEnc
namespace Go.Proofs.YtiolghcjndoigaaGreatDoor
set_option linter.unusedVariables false
set_option linter.unusedSimpArgs false
open Go.RowKit Go.PlainAid
theorem nameB_of {bs : List Nat} (hB : IsB bs) : nameB (strOf bs) = (decide (bs ≠ []) && decide (nmL bs = bs.length)) := by
  have e : bytesOf (strOf bs) = bs := bytesOf_strOf bs hB
  unfold nameB
  rw [e]
set_option maxHeartbeats 4000000 in
theorem rname_bs (bs : List Nat) (hB : IsB bs) (w : World) : Calls Tryz.prog 37 #[.string (strOf bs)] w fun e w' => e = .returned (.bool (nameB (strOf bs))) ∧ w' = w := by
  have hsz := strOf_size bs
  have hbt := get_bt (strOf bs)
  have HS := Lib.hid (strOf_bt bs hB)
  have HE := Lib.hid (nameB_of hB)
  have HSM := Lib.hid (fun h => nameB_size (s := strOf bs) h)
  obtain ⟨R, hR⟩ : ∃ R, nameB (strOf bs) = R := ⟨_, rfl⟩
  rw [hR] at HE HSM ⊢
  obtain ⟨L, hL⟩ : ∃ L, bs.length = L := ⟨_, rfl⟩
  rw [hL] at hsz HE
  have HL := Lib.hid hL
  have HB := Lib.hid hB
  rw [hsz] at HSM
  clear hL hB hR
  by_cases h0 : L < 1
  · have E := Lib.hid (show R = false by
      cases R with
      | false => rfl
      | true => have := HSM.out rfl; omega)
    have da : decide ((L : Int) < 1) = true := decide_eq_true (by omega)
    have da2 : decide (L < 1) = true := decide_eq_true (by omega)
    have da3 : decide (L = 0) = true := decide_eq_true (by omega)
    go_enter Tryz.func37, Tryz.ntmps37
    go_wp2
    go_ret
    exact ⟨congrArg (fun x => Ending.returned (.bool x)) E.out.symm, rfl⟩
  have ea : decide ((L : Int) < 1) = false := decide_eq_false (by omega)
  have ea2 : decide (L < 1) = false := decide_eq_false (by omega)
  have ea3 : decide (L = 0) = false := decide_eq_false (by omega)
  by_cases h1 : 1024 < L
  · have E := Lib.hid (show R = false by
      cases R with
      | false => rfl
      | true => have := HSM.out rfl; omega)
    have da : decide ((L : Int) > 1024) = true := decide_eq_true (by omega)
    have da2 : decide (1024 < (L : Int)) = true := decide_eq_true (by omega)
    have da3 : decide (1024 < L) = true := decide_eq_true (by omega)
    go_enter Tryz.func37, Tryz.ntmps37
    go_wp2
    go_ret
    exact ⟨congrArg (fun x => Ending.returned (.bool x)) E.out.symm, rfl⟩
  have eb : decide ((L : Int) > 1024) = false := decide_eq_false (by omega)
  have eb2 : decide (1024 < (L : Int)) = false := decide_eq_false (by omega)
  have eb3 : decide (1024 < L) = false := decide_eq_false (by omega)
  go_enter Tryz.func37, Tryz.ntmps37
  go_wp2
  go_loopw [3] (fun i wr => ∃ (k : Nat), k ≤ L ∧ i = .int .i64 k ∧ wr = w ∧ Hid (nmL bs = nmA (bs.drop k) k)) (fun i _ => (L - (intOf i).toNat))
  case atStart => exact ⟨0, by omega, rfl, rfl, Lib.hid rfl⟩
  case round =>
    obtain ⟨k, hk, rfl, rfl, HN⟩ := hrel
    by_cases hkL : k < L
    · have da : decide ((k : Int) < (L : Int)) = true := decide_eq_true (by omega)
      have da2 : decide (k < L) = true := decide_eq_true hkL
      have hkb := HS.out k (by rw [HL.out]; exact hkL)
      have hc256 := HB.out.at k (by rw [HL.out]; exact hkL)
      obtain ⟨c, hc⟩ : ∃ c, bs[k]'(by rw [HL.out]; exact hkL) = c := ⟨_, rfl⟩
      have HD := Lib.hid (show bs.drop k = c :: bs.drop (k + 1) by rw [← hc]; exact List.drop_eq_getElem_cons (by rw [HL.out]; exact hkL))
      rw [hc] at hkb hc256
      clear hc
      have HY := Lib.hid (fun (hp : placeB c k = true) => (show nmL bs = nmA (bs.drop (k + 1)) (k + 1) by rw [HN.out, HD.out, nmA, if_pos hp]))
      have HZ := Lib.hid (fun (hp : placeB c k = false) => (show R = false by
        have h2 : nmL bs = k := by rw [HN.out, HD.out, nmA, if_neg (by rw [hp]; simp)]
        rw [HE.out, h2, decide_eq_false (show ¬ k = L by omega), Bool.and_false]))
      by_cases h0 : c ≤ 47
      · have t97 : decide ((97 : Int) ≤ (c : Int)) = false := decide_eq_false (by omega)
        have s97 : decide (97 ≤ c) = false := decide_eq_false (by omega)
        have r97 : decide ((c : Int) ≥ 97) = false := decide_eq_false (by omega)
        have t65 : decide ((65 : Int) ≤ (c : Int)) = false := decide_eq_false (by omega)
        have s65 : decide (65 ≤ c) = false := decide_eq_false (by omega)
        have r65 : decide ((c : Int) ≥ 65) = false := decide_eq_false (by omega)
        have t122 : decide ((c : Int) ≤ (122 : Int)) = true := decide_eq_true (by omega)
        have s122 : decide (c ≤ 122) = true := decide_eq_true (by omega)
        have t90 : decide ((c : Int) ≤ (90 : Int)) = true := decide_eq_true (by omega)
        have s90 : decide (c ≤ 90) = true := decide_eq_true (by omega)
        have t95 : ((c : Int) == 95) = false := by simp; omega
        have t48 : decide ((c : Int) < (48 : Int)) = true := decide_eq_true (by omega)
        have s48 : decide (c < 48) = true := decide_eq_true (by omega)
        have t57 : decide ((c : Int) > (57 : Int)) = false := decide_eq_false (by omega)
        have s57 : decide ((57 : Int) < (c : Int)) = false := decide_eq_false (by omega)
        have r57 : decide (57 < c) = false := decide_eq_false (by omega)
        have hp : placeB c k = false := by unfold placeB letterB digB; simp; omega
        by_cases hk0 : k = 0
        · subst hk0
          have l0 : 0 < L := hkL
          have l1 : (0 : Int) < (L : Int) := by omega
          have E := Lib.hid (HZ.out hp)
          clear hp
          go_wp2_with fail
          go_ret
          exact ⟨congrArg (fun x => Ending.returned (.bool x)) E.out.symm, rfl⟩
        · have z1 : ((k : Int) == 0) = false := by simp; omega
          have z2 : ¬ ((k : Int) = 0) := by omega
          have E := Lib.hid (HZ.out hp)
          clear hp
          go_wp2_with fail
          go_ret
          exact ⟨congrArg (fun x => Ending.returned (.bool x)) E.out.symm, rfl⟩
      by_cases h1 : c ≤ 57
      · have t97 : decide ((97 : Int) ≤ (c : Int)) = false := decide_eq_false (by omega)
        have s97 : decide (97 ≤ c) = false := decide_eq_false (by omega)
        have r97 : decide ((c : Int) ≥ 97) = false := decide_eq_false (by omega)
        have t65 : decide ((65 : Int) ≤ (c : Int)) = false := decide_eq_false (by omega)
        have s65 : decide (65 ≤ c) = false := decide_eq_false (by omega)
        have r65 : decide ((c : Int) ≥ 65) = false := decide_eq_false (by omega)
        have t122 : decide ((c : Int) ≤ (122 : Int)) = true := decide_eq_true (by omega)
        have s122 : decide (c ≤ 122) = true := decide_eq_true (by omega)
        have t90 : decide ((c : Int) ≤ (90 : Int)) = true := decide_eq_true (by omega)
        have s90 : decide (c ≤ 90) = true := decide_eq_true (by omega)
        have t95 : ((c : Int) == 95) = false := by simp; omega
        have t48 : decide ((c : Int) < (48 : Int)) = false := decide_eq_false (by omega)
        have s48 : decide (c < 48) = false := decide_eq_false (by omega)
        have t57 : decide ((c : Int) > (57 : Int)) = false := decide_eq_false (by omega)
        have s57 : decide ((57 : Int) < (c : Int)) = false := decide_eq_false (by omega)
        have r57 : decide (57 < c) = false := decide_eq_false (by omega)
        by_cases hk0 : k = 0
        · have hp : placeB c k = false := by unfold placeB letterB digB; simp; omega
          subst hk0
          have l0 : 0 < L := hkL
          have l1 : (0 : Int) < (L : Int) := by omega
          have E := Lib.hid (HZ.out hp)
          clear hp
          go_wp2_with fail
          go_ret
          exact ⟨congrArg (fun x => Ending.returned (.bool x)) E.out.symm, rfl⟩
        · have hp : placeB c k = true := by unfold placeB letterB digB; simp; omega
          have z1 : ((k : Int) == 0) = false := by simp; omega
          have z2 : ¬ ((k : Int) = 0) := by omega
          have HN2 := Lib.hid (HY.out hp)
          clear hp
          go_wp2_with fail
          go_roundw
          case rel => exact ⟨k + 1, by omega, by simp, trivial, HN2⟩
          case measure => simp [intOf]; omega
      by_cases h2 : c ≤ 64
      · have t97 : decide ((97 : Int) ≤ (c : Int)) = false := decide_eq_false (by omega)
        have s97 : decide (97 ≤ c) = false := decide_eq_false (by omega)
        have r97 : decide ((c : Int) ≥ 97) = false := decide_eq_false (by omega)
        have t65 : decide ((65 : Int) ≤ (c : Int)) = false := decide_eq_false (by omega)
        have s65 : decide (65 ≤ c) = false := decide_eq_false (by omega)
        have r65 : decide ((c : Int) ≥ 65) = false := decide_eq_false (by omega)
        have t122 : decide ((c : Int) ≤ (122 : Int)) = true := decide_eq_true (by omega)
        have s122 : decide (c ≤ 122) = true := decide_eq_true (by omega)
        have t90 : decide ((c : Int) ≤ (90 : Int)) = true := decide_eq_true (by omega)
        have s90 : decide (c ≤ 90) = true := decide_eq_true (by omega)
        have t95 : ((c : Int) == 95) = false := by simp; omega
        have t48 : decide ((c : Int) < (48 : Int)) = false := decide_eq_false (by omega)
        have s48 : decide (c < 48) = false := decide_eq_false (by omega)
        have t57 : decide ((c : Int) > (57 : Int)) = true := decide_eq_true (by omega)
        have s57 : decide ((57 : Int) < (c : Int)) = true := decide_eq_true (by omega)
        have r57 : decide (57 < c) = true := decide_eq_true (by omega)
        have hp : placeB c k = false := by unfold placeB letterB digB; simp; omega
        by_cases hk0 : k = 0
        · subst hk0
          have l0 : 0 < L := hkL
          have l1 : (0 : Int) < (L : Int) := by omega
          have E := Lib.hid (HZ.out hp)
          clear hp
          go_wp2_with fail
          go_ret
          exact ⟨congrArg (fun x => Ending.returned (.bool x)) E.out.symm, rfl⟩
        · have z1 : ((k : Int) == 0) = false := by simp; omega
          have z2 : ¬ ((k : Int) = 0) := by omega
          have E := Lib.hid (HZ.out hp)
          clear hp
          go_wp2_with fail
          go_ret
          exact ⟨congrArg (fun x => Ending.returned (.bool x)) E.out.symm, rfl⟩
      by_cases h3 : c ≤ 90
      · have t97 : decide ((97 : Int) ≤ (c : Int)) = false := decide_eq_false (by omega)
        have s97 : decide (97 ≤ c) = false := decide_eq_false (by omega)
        have r97 : decide ((c : Int) ≥ 97) = false := decide_eq_false (by omega)
        have t65 : decide ((65 : Int) ≤ (c : Int)) = true := decide_eq_true (by omega)
        have s65 : decide (65 ≤ c) = true := decide_eq_true (by omega)
        have r65 : decide ((c : Int) ≥ 65) = true := decide_eq_true (by omega)
        have t122 : decide ((c : Int) ≤ (122 : Int)) = true := decide_eq_true (by omega)
        have s122 : decide (c ≤ 122) = true := decide_eq_true (by omega)
        have t90 : decide ((c : Int) ≤ (90 : Int)) = true := decide_eq_true (by omega)
        have s90 : decide (c ≤ 90) = true := decide_eq_true (by omega)
        have t95 : ((c : Int) == 95) = false := by simp; omega
        have t48 : decide ((c : Int) < (48 : Int)) = false := decide_eq_false (by omega)
        have s48 : decide (c < 48) = false := decide_eq_false (by omega)
        have t57 : decide ((c : Int) > (57 : Int)) = true := decide_eq_true (by omega)
        have s57 : decide ((57 : Int) < (c : Int)) = true := decide_eq_true (by omega)
        have r57 : decide (57 < c) = true := decide_eq_true (by omega)
        have hp : placeB c k = true := by unfold placeB letterB digB; simp; omega
        have HN2 := Lib.hid (HY.out hp)
        clear hp
        go_wp2_with fail
        go_roundw
        case rel => exact ⟨k + 1, by omega, by simp, trivial, HN2⟩
        case measure => simp [intOf]; omega
      by_cases h4 : c ≤ 94
      · have t97 : decide ((97 : Int) ≤ (c : Int)) = false := decide_eq_false (by omega)
        have s97 : decide (97 ≤ c) = false := decide_eq_false (by omega)
        have r97 : decide ((c : Int) ≥ 97) = false := decide_eq_false (by omega)
        have t65 : decide ((65 : Int) ≤ (c : Int)) = true := decide_eq_true (by omega)
        have s65 : decide (65 ≤ c) = true := decide_eq_true (by omega)
        have r65 : decide ((c : Int) ≥ 65) = true := decide_eq_true (by omega)
        have t122 : decide ((c : Int) ≤ (122 : Int)) = true := decide_eq_true (by omega)
        have s122 : decide (c ≤ 122) = true := decide_eq_true (by omega)
        have t90 : decide ((c : Int) ≤ (90 : Int)) = false := decide_eq_false (by omega)
        have s90 : decide (c ≤ 90) = false := decide_eq_false (by omega)
        have t95 : ((c : Int) == 95) = false := by simp; omega
        have t48 : decide ((c : Int) < (48 : Int)) = false := decide_eq_false (by omega)
        have s48 : decide (c < 48) = false := decide_eq_false (by omega)
        have t57 : decide ((c : Int) > (57 : Int)) = true := decide_eq_true (by omega)
        have s57 : decide ((57 : Int) < (c : Int)) = true := decide_eq_true (by omega)
        have r57 : decide (57 < c) = true := decide_eq_true (by omega)
        have hp : placeB c k = false := by unfold placeB letterB digB; simp; omega
        by_cases hk0 : k = 0
        · subst hk0
          have l0 : 0 < L := hkL
          have l1 : (0 : Int) < (L : Int) := by omega
          have E := Lib.hid (HZ.out hp)
          clear hp
          go_wp2_with fail
          go_ret
          exact ⟨congrArg (fun x => Ending.returned (.bool x)) E.out.symm, rfl⟩
        · have z1 : ((k : Int) == 0) = false := by simp; omega
          have z2 : ¬ ((k : Int) = 0) := by omega
          have E := Lib.hid (HZ.out hp)
          clear hp
          go_wp2_with fail
          go_ret
          exact ⟨congrArg (fun x => Ending.returned (.bool x)) E.out.symm, rfl⟩
      by_cases h5 : c ≤ 95
      · have t97 : decide ((97 : Int) ≤ (c : Int)) = false := decide_eq_false (by omega)
        have s97 : decide (97 ≤ c) = false := decide_eq_false (by omega)
        have r97 : decide ((c : Int) ≥ 97) = false := decide_eq_false (by omega)
        have t65 : decide ((65 : Int) ≤ (c : Int)) = true := decide_eq_true (by omega)
        have s65 : decide (65 ≤ c) = true := decide_eq_true (by omega)
        have r65 : decide ((c : Int) ≥ 65) = true := decide_eq_true (by omega)
        have t122 : decide ((c : Int) ≤ (122 : Int)) = true := decide_eq_true (by omega)
        have s122 : decide (c ≤ 122) = true := decide_eq_true (by omega)
        have t90 : decide ((c : Int) ≤ (90 : Int)) = false := decide_eq_false (by omega)
        have s90 : decide (c ≤ 90) = false := decide_eq_false (by omega)
        have t95 : ((c : Int) == 95) = true := by simp; omega
        have t48 : decide ((c : Int) < (48 : Int)) = false := decide_eq_false (by omega)
        have s48 : decide (c < 48) = false := decide_eq_false (by omega)
        have t57 : decide ((c : Int) > (57 : Int)) = true := decide_eq_true (by omega)
        have s57 : decide ((57 : Int) < (c : Int)) = true := decide_eq_true (by omega)
        have r57 : decide (57 < c) = true := decide_eq_true (by omega)
        have hp : placeB c k = true := by unfold placeB letterB digB; simp; omega
        have HN2 := Lib.hid (HY.out hp)
        clear hp
        go_wp2_with fail
        go_roundw
        case rel => exact ⟨k + 1, by omega, by simp, trivial, HN2⟩
        case measure => simp [intOf]; omega
      by_cases h6 : c ≤ 96
      · have t97 : decide ((97 : Int) ≤ (c : Int)) = false := decide_eq_false (by omega)
        have s97 : decide (97 ≤ c) = false := decide_eq_false (by omega)
        have r97 : decide ((c : Int) ≥ 97) = false := decide_eq_false (by omega)
        have t65 : decide ((65 : Int) ≤ (c : Int)) = true := decide_eq_true (by omega)
        have s65 : decide (65 ≤ c) = true := decide_eq_true (by omega)
        have r65 : decide ((c : Int) ≥ 65) = true := decide_eq_true (by omega)
        have t122 : decide ((c : Int) ≤ (122 : Int)) = true := decide_eq_true (by omega)
        have s122 : decide (c ≤ 122) = true := decide_eq_true (by omega)
        have t90 : decide ((c : Int) ≤ (90 : Int)) = false := decide_eq_false (by omega)
        have s90 : decide (c ≤ 90) = false := decide_eq_false (by omega)
        have t95 : ((c : Int) == 95) = false := by simp; omega
        have t48 : decide ((c : Int) < (48 : Int)) = false := decide_eq_false (by omega)
        have s48 : decide (c < 48) = false := decide_eq_false (by omega)
        have t57 : decide ((c : Int) > (57 : Int)) = true := decide_eq_true (by omega)
        have s57 : decide ((57 : Int) < (c : Int)) = true := decide_eq_true (by omega)
        have r57 : decide (57 < c) = true := decide_eq_true (by omega)
        have hp : placeB c k = false := by unfold placeB letterB digB; simp; omega
        by_cases hk0 : k = 0
        · subst hk0
          have l0 : 0 < L := hkL
          have l1 : (0 : Int) < (L : Int) := by omega
          have E := Lib.hid (HZ.out hp)
          clear hp
          go_wp2_with fail
          go_ret
          exact ⟨congrArg (fun x => Ending.returned (.bool x)) E.out.symm, rfl⟩
        · have z1 : ((k : Int) == 0) = false := by simp; omega
          have z2 : ¬ ((k : Int) = 0) := by omega
          have E := Lib.hid (HZ.out hp)
          clear hp
          go_wp2_with fail
          go_ret
          exact ⟨congrArg (fun x => Ending.returned (.bool x)) E.out.symm, rfl⟩
      by_cases h7 : c ≤ 122
      · have t97 : decide ((97 : Int) ≤ (c : Int)) = true := decide_eq_true (by omega)
        have s97 : decide (97 ≤ c) = true := decide_eq_true (by omega)
        have r97 : decide ((c : Int) ≥ 97) = true := decide_eq_true (by omega)
        have t65 : decide ((65 : Int) ≤ (c : Int)) = true := decide_eq_true (by omega)
        have s65 : decide (65 ≤ c) = true := decide_eq_true (by omega)
        have r65 : decide ((c : Int) ≥ 65) = true := decide_eq_true (by omega)
        have t122 : decide ((c : Int) ≤ (122 : Int)) = true := decide_eq_true (by omega)
        have s122 : decide (c ≤ 122) = true := decide_eq_true (by omega)
        have t90 : decide ((c : Int) ≤ (90 : Int)) = false := decide_eq_false (by omega)
        have s90 : decide (c ≤ 90) = false := decide_eq_false (by omega)
        have t95 : ((c : Int) == 95) = false := by simp; omega
        have t48 : decide ((c : Int) < (48 : Int)) = false := decide_eq_false (by omega)
        have s48 : decide (c < 48) = false := decide_eq_false (by omega)
        have t57 : decide ((c : Int) > (57 : Int)) = true := decide_eq_true (by omega)
        have s57 : decide ((57 : Int) < (c : Int)) = true := decide_eq_true (by omega)
        have r57 : decide (57 < c) = true := decide_eq_true (by omega)
        have hp : placeB c k = true := by unfold placeB letterB digB; simp; omega
        have HN2 := Lib.hid (HY.out hp)
        clear hp
        go_wp2_with fail
        go_roundw
        case rel => exact ⟨k + 1, by omega, by simp, trivial, HN2⟩
        case measure => simp [intOf]; omega
      have t97 : decide ((97 : Int) ≤ (c : Int)) = true := decide_eq_true (by omega)
      have s97 : decide (97 ≤ c) = true := decide_eq_true (by omega)
      have r97 : decide ((c : Int) ≥ 97) = true := decide_eq_true (by omega)
      have t65 : decide ((65 : Int) ≤ (c : Int)) = true := decide_eq_true (by omega)
      have s65 : decide (65 ≤ c) = true := decide_eq_true (by omega)
      have r65 : decide ((c : Int) ≥ 65) = true := decide_eq_true (by omega)
      have t122 : decide ((c : Int) ≤ (122 : Int)) = false := decide_eq_false (by omega)
      have s122 : decide (c ≤ 122) = false := decide_eq_false (by omega)
      have t90 : decide ((c : Int) ≤ (90 : Int)) = false := decide_eq_false (by omega)
      have s90 : decide (c ≤ 90) = false := decide_eq_false (by omega)
      have t95 : ((c : Int) == 95) = false := by simp; omega
      have t48 : decide ((c : Int) < (48 : Int)) = false := decide_eq_false (by omega)
      have s48 : decide (c < 48) = false := decide_eq_false (by omega)
      have t57 : decide ((c : Int) > (57 : Int)) = true := decide_eq_true (by omega)
      have s57 : decide ((57 : Int) < (c : Int)) = true := decide_eq_true (by omega)
      have r57 : decide (57 < c) = true := decide_eq_true (by omega)
      have hp : placeB c k = false := by unfold placeB letterB digB; simp; omega
      by_cases hk0 : k = 0
      · subst hk0
        have l0 : 0 < L := hkL
        have l1 : (0 : Int) < (L : Int) := by omega
        have E := Lib.hid (HZ.out hp)
        clear hp
        go_wp2_with fail
        go_ret
        exact ⟨congrArg (fun x => Ending.returned (.bool x)) E.out.symm, rfl⟩
      · have z1 : ((k : Int) == 0) = false := by simp; omega
        have z2 : ¬ ((k : Int) = 0) := by omega
        have E := Lib.hid (HZ.out hp)
        clear hp
        go_wp2_with fail
        go_ret
        exact ⟨congrArg (fun x => Ending.returned (.bool x)) E.out.symm, rfl⟩
    · have hkk : k = L := by omega
      subst hkk
      have da : decide ((k : Int) < (k : Int)) = false := decide_eq_false (by omega)
      have da2 : decide (k < k) = false := decide_eq_false (by omega)
      have E := Lib.hid (show R = true by
        have h2 : nmL bs = k := by rw [HN.out, List.drop_eq_nil_of_le (by rw [HL.out]; omega), nmA]
        have h3 : bs ≠ [] := by intro e; have := HL.out; rw [e] at this; simp at this; omega
        rw [HE.out, h2, decide_eq_true h3, decide_eq_true rfl]; rfl)
      go_wp2
      go_ret
      exact ⟨congrArg (fun x => Ending.returned (.bool x)) E.out.symm, rfl⟩
theorem rname_any (s : ByteArray) (w : World) : Calls Tryz.prog 37 #[.string s] w fun e w' => e = .returned (.bool (nameB s)) ∧ w' = w := by
  have h := rname_bs (bytesOf s) (isB_bytesOf s) w
  rw [strOf_bytesOf] at h
  exact h
end Go.Proofs.YtiolghcjndoigaaGreatDoor
