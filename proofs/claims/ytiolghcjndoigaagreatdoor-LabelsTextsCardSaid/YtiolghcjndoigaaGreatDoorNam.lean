/-
  WALKS: names.
-/
import Derived.Test.YtiolghcjndoigaaGreatDoorSam
namespace Go.Proofs.YtiolghcjndoigaaGreatDoor
set_option linter.unusedVariables false
set_option linter.unusedSimpArgs false
open Go.RowKit Go.PlainAid
def letterB (c : Nat) : Bool := (decide (97 ≤ c) && decide (c ≤ 122)) || (decide (65 ≤ c) && decide (c ≤ 90)) || decide (c = 95)
def digB (c : Nat) : Bool := decide (48 ≤ c) && decide (c ≤ 57)
/-- may a name have this byte at this place -/
def placeB (c k : Nat) : Bool := decide (k < 1024) && (letterB c || (digB c && decide (0 < k)))

set_option maxHeartbeats 1000000 in
theorem hasplace_any (c k : Nat) (hc : c < 256) (w : World) : Calls Tryz.prog 123 #[.int .u8 (c : Int), .int .i64 (k : Int)] w fun e w' => e = .returned (.bool (placeB c k)) ∧ w' = w := by
  obtain ⟨R, hR⟩ : ∃ R, placeB c k = R := ⟨_, rfl⟩
  rw [hR]
  have HR := Lib.hid hR
  clear hR
  by_cases h0 : c ≤ 47
  · have t97 : decide ((97 : Int) ≤ (c : Int)) = false := decide_eq_false (by omega)
    have s97 : decide (97 ≤ c) = false := decide_eq_false (by omega)
    have t122 : decide ((c : Int) ≤ (122 : Int)) = true := decide_eq_true (by omega)
    have s122 : decide (c ≤ 122) = true := decide_eq_true (by omega)
    have t65 : decide ((65 : Int) ≤ (c : Int)) = false := decide_eq_false (by omega)
    have s65 : decide (65 ≤ c) = false := decide_eq_false (by omega)
    have t90 : decide ((c : Int) ≤ (90 : Int)) = true := decide_eq_true (by omega)
    have s90 : decide (c ≤ 90) = true := decide_eq_true (by omega)
    have t95 : ((c : Int) == 95) = false := by simp; omega
    have t48 : decide ((48 : Int) ≤ (c : Int)) = false := decide_eq_false (by omega)
    have s48 : decide (48 ≤ c) = false := decide_eq_false (by omega)
    have t57 : decide ((c : Int) ≤ (57 : Int)) = true := decide_eq_true (by omega)
    have s57 : decide (c ≤ 57) = true := decide_eq_true (by omega)
    have hl : letterB c = false := by unfold letterB; simp only [s97, s122, s65, s90]; simp; try omega
    have hd : digB c = false := by unfold digB; rw [s48, s57]; rfl
    have HV := Lib.hid (show R = (decide (k < 1024) && (false || (false && decide (0 < k)))) by rw [← HR.out]; unfold placeB; rw [hl, hd])
    clear hl hd HR
    go_enter Tryz.func123, Tryz.ntmps123
    go_wp2
    go_ret
    exact ⟨congrArg (fun x => Ending.returned (.bool x)) (show false = R by rw [HV.out]; simp), rfl⟩
  by_cases h1 : c ≤ 57
  · have t97 : decide ((97 : Int) ≤ (c : Int)) = false := decide_eq_false (by omega)
    have s97 : decide (97 ≤ c) = false := decide_eq_false (by omega)
    have t122 : decide ((c : Int) ≤ (122 : Int)) = true := decide_eq_true (by omega)
    have s122 : decide (c ≤ 122) = true := decide_eq_true (by omega)
    have t65 : decide ((65 : Int) ≤ (c : Int)) = false := decide_eq_false (by omega)
    have s65 : decide (65 ≤ c) = false := decide_eq_false (by omega)
    have t90 : decide ((c : Int) ≤ (90 : Int)) = true := decide_eq_true (by omega)
    have s90 : decide (c ≤ 90) = true := decide_eq_true (by omega)
    have t95 : ((c : Int) == 95) = false := by simp; omega
    have t48 : decide ((48 : Int) ≤ (c : Int)) = true := decide_eq_true (by omega)
    have s48 : decide (48 ≤ c) = true := decide_eq_true (by omega)
    have t57 : decide ((c : Int) ≤ (57 : Int)) = true := decide_eq_true (by omega)
    have s57 : decide (c ≤ 57) = true := decide_eq_true (by omega)
    have hl : letterB c = false := by unfold letterB; simp only [s97, s122, s65, s90]; simp; try omega
    have hd : digB c = true := by unfold digB; rw [s48, s57]; rfl
    have HV := Lib.hid (show R = (decide (k < 1024) && (false || (true && decide (0 < k)))) by rw [← HR.out]; unfold placeB; rw [hl, hd])
    clear hl hd HR
    by_cases hk : k < 1024
    · have k1 : decide ((k : Int) < 1024) = true := decide_eq_true (by omega)
      have k2 : decide (k < 1024) = true := decide_eq_true (by omega)
      by_cases h0 : 0 < k
      · have k3 : decide ((0 : Int) < (k : Int)) = true := decide_eq_true (by omega)
        have k4 : decide (0 < k) = true := decide_eq_true (by omega)
        go_enter Tryz.func123, Tryz.ntmps123
        go_wp2
        go_ret
        exact ⟨congrArg (fun x => Ending.returned (.bool x)) (show true = R by rw [HV.out, k2, k4]; rfl), rfl⟩
      · have k3 : decide ((0 : Int) < (k : Int)) = false := decide_eq_false (by omega)
        have k4 : decide (0 < k) = false := decide_eq_false (by omega)
        go_enter Tryz.func123, Tryz.ntmps123
        go_wp2
        go_ret
        exact ⟨congrArg (fun x => Ending.returned (.bool x)) (show false = R by rw [HV.out, k2, k4]; rfl), rfl⟩
    · have k1 : decide ((k : Int) < 1024) = false := decide_eq_false (by omega)
      have k2 : decide (k < 1024) = false := decide_eq_false (by omega)
      by_cases h0 : 0 < k
      · have k3 : decide ((0 : Int) < (k : Int)) = true := decide_eq_true (by omega)
        have k4 : decide (0 < k) = true := decide_eq_true (by omega)
        go_enter Tryz.func123, Tryz.ntmps123
        go_wp2
        go_ret
        exact ⟨congrArg (fun x => Ending.returned (.bool x)) (show false = R by rw [HV.out, k2, k4]; rfl), rfl⟩
      · have k3 : decide ((0 : Int) < (k : Int)) = false := decide_eq_false (by omega)
        have k4 : decide (0 < k) = false := decide_eq_false (by omega)
        go_enter Tryz.func123, Tryz.ntmps123
        go_wp2
        go_ret
        exact ⟨congrArg (fun x => Ending.returned (.bool x)) (show false = R by rw [HV.out, k2, k4]; rfl), rfl⟩
  by_cases h2 : c ≤ 64
  · have t97 : decide ((97 : Int) ≤ (c : Int)) = false := decide_eq_false (by omega)
    have s97 : decide (97 ≤ c) = false := decide_eq_false (by omega)
    have t122 : decide ((c : Int) ≤ (122 : Int)) = true := decide_eq_true (by omega)
    have s122 : decide (c ≤ 122) = true := decide_eq_true (by omega)
    have t65 : decide ((65 : Int) ≤ (c : Int)) = false := decide_eq_false (by omega)
    have s65 : decide (65 ≤ c) = false := decide_eq_false (by omega)
    have t90 : decide ((c : Int) ≤ (90 : Int)) = true := decide_eq_true (by omega)
    have s90 : decide (c ≤ 90) = true := decide_eq_true (by omega)
    have t95 : ((c : Int) == 95) = false := by simp; omega
    have t48 : decide ((48 : Int) ≤ (c : Int)) = true := decide_eq_true (by omega)
    have s48 : decide (48 ≤ c) = true := decide_eq_true (by omega)
    have t57 : decide ((c : Int) ≤ (57 : Int)) = false := decide_eq_false (by omega)
    have s57 : decide (c ≤ 57) = false := decide_eq_false (by omega)
    have hl : letterB c = false := by unfold letterB; simp only [s97, s122, s65, s90]; simp; try omega
    have hd : digB c = false := by unfold digB; rw [s48, s57]; rfl
    have HV := Lib.hid (show R = (decide (k < 1024) && (false || (false && decide (0 < k)))) by rw [← HR.out]; unfold placeB; rw [hl, hd])
    clear hl hd HR
    go_enter Tryz.func123, Tryz.ntmps123
    go_wp2
    go_ret
    exact ⟨congrArg (fun x => Ending.returned (.bool x)) (show false = R by rw [HV.out]; simp), rfl⟩
  by_cases h3 : c ≤ 90
  · have t97 : decide ((97 : Int) ≤ (c : Int)) = false := decide_eq_false (by omega)
    have s97 : decide (97 ≤ c) = false := decide_eq_false (by omega)
    have t122 : decide ((c : Int) ≤ (122 : Int)) = true := decide_eq_true (by omega)
    have s122 : decide (c ≤ 122) = true := decide_eq_true (by omega)
    have t65 : decide ((65 : Int) ≤ (c : Int)) = true := decide_eq_true (by omega)
    have s65 : decide (65 ≤ c) = true := decide_eq_true (by omega)
    have t90 : decide ((c : Int) ≤ (90 : Int)) = true := decide_eq_true (by omega)
    have s90 : decide (c ≤ 90) = true := decide_eq_true (by omega)
    have t95 : ((c : Int) == 95) = false := by simp; omega
    have t48 : decide ((48 : Int) ≤ (c : Int)) = true := decide_eq_true (by omega)
    have s48 : decide (48 ≤ c) = true := decide_eq_true (by omega)
    have t57 : decide ((c : Int) ≤ (57 : Int)) = false := decide_eq_false (by omega)
    have s57 : decide (c ≤ 57) = false := decide_eq_false (by omega)
    have hl : letterB c = true := by unfold letterB; simp only [s97, s122, s65, s90]; simp; try omega
    have hd : digB c = false := by unfold digB; rw [s48, s57]; rfl
    have HV := Lib.hid (show R = (decide (k < 1024) && (true || (false && decide (0 < k)))) by rw [← HR.out]; unfold placeB; rw [hl, hd])
    clear hl hd HR
    by_cases hk : k < 1024
    · have k1 : decide ((k : Int) < 1024) = true := decide_eq_true (by omega)
      have k2 : decide (k < 1024) = true := decide_eq_true (by omega)
      go_enter Tryz.func123, Tryz.ntmps123
      go_wp2
      go_ret
      exact ⟨congrArg (fun x => Ending.returned (.bool x)) (show true = R by rw [HV.out, k2]; simp), rfl⟩
    · have k1 : decide ((k : Int) < 1024) = false := decide_eq_false (by omega)
      have k2 : decide (k < 1024) = false := decide_eq_false (by omega)
      go_enter Tryz.func123, Tryz.ntmps123
      go_wp2
      go_ret
      exact ⟨congrArg (fun x => Ending.returned (.bool x)) (show false = R by rw [HV.out, k2]; simp), rfl⟩
  by_cases h4 : c ≤ 94
  · have t97 : decide ((97 : Int) ≤ (c : Int)) = false := decide_eq_false (by omega)
    have s97 : decide (97 ≤ c) = false := decide_eq_false (by omega)
    have t122 : decide ((c : Int) ≤ (122 : Int)) = true := decide_eq_true (by omega)
    have s122 : decide (c ≤ 122) = true := decide_eq_true (by omega)
    have t65 : decide ((65 : Int) ≤ (c : Int)) = true := decide_eq_true (by omega)
    have s65 : decide (65 ≤ c) = true := decide_eq_true (by omega)
    have t90 : decide ((c : Int) ≤ (90 : Int)) = false := decide_eq_false (by omega)
    have s90 : decide (c ≤ 90) = false := decide_eq_false (by omega)
    have t95 : ((c : Int) == 95) = false := by simp; omega
    have t48 : decide ((48 : Int) ≤ (c : Int)) = true := decide_eq_true (by omega)
    have s48 : decide (48 ≤ c) = true := decide_eq_true (by omega)
    have t57 : decide ((c : Int) ≤ (57 : Int)) = false := decide_eq_false (by omega)
    have s57 : decide (c ≤ 57) = false := decide_eq_false (by omega)
    have hl : letterB c = false := by unfold letterB; simp only [s97, s122, s65, s90]; simp; try omega
    have hd : digB c = false := by unfold digB; rw [s48, s57]; rfl
    have HV := Lib.hid (show R = (decide (k < 1024) && (false || (false && decide (0 < k)))) by rw [← HR.out]; unfold placeB; rw [hl, hd])
    clear hl hd HR
    go_enter Tryz.func123, Tryz.ntmps123
    go_wp2
    go_ret
    exact ⟨congrArg (fun x => Ending.returned (.bool x)) (show false = R by rw [HV.out]; simp), rfl⟩
  by_cases h5 : c ≤ 95
  · have t97 : decide ((97 : Int) ≤ (c : Int)) = false := decide_eq_false (by omega)
    have s97 : decide (97 ≤ c) = false := decide_eq_false (by omega)
    have t122 : decide ((c : Int) ≤ (122 : Int)) = true := decide_eq_true (by omega)
    have s122 : decide (c ≤ 122) = true := decide_eq_true (by omega)
    have t65 : decide ((65 : Int) ≤ (c : Int)) = true := decide_eq_true (by omega)
    have s65 : decide (65 ≤ c) = true := decide_eq_true (by omega)
    have t90 : decide ((c : Int) ≤ (90 : Int)) = false := decide_eq_false (by omega)
    have s90 : decide (c ≤ 90) = false := decide_eq_false (by omega)
    have t95 : ((c : Int) == 95) = true := by simp; omega
    have t48 : decide ((48 : Int) ≤ (c : Int)) = true := decide_eq_true (by omega)
    have s48 : decide (48 ≤ c) = true := decide_eq_true (by omega)
    have t57 : decide ((c : Int) ≤ (57 : Int)) = false := decide_eq_false (by omega)
    have s57 : decide (c ≤ 57) = false := decide_eq_false (by omega)
    have hl : letterB c = true := by unfold letterB; simp only [s97, s122, s65, s90]; simp; try omega
    have hd : digB c = false := by unfold digB; rw [s48, s57]; rfl
    have HV := Lib.hid (show R = (decide (k < 1024) && (true || (false && decide (0 < k)))) by rw [← HR.out]; unfold placeB; rw [hl, hd])
    clear hl hd HR
    by_cases hk : k < 1024
    · have k1 : decide ((k : Int) < 1024) = true := decide_eq_true (by omega)
      have k2 : decide (k < 1024) = true := decide_eq_true (by omega)
      go_enter Tryz.func123, Tryz.ntmps123
      go_wp2
      go_ret
      exact ⟨congrArg (fun x => Ending.returned (.bool x)) (show true = R by rw [HV.out, k2]; simp), rfl⟩
    · have k1 : decide ((k : Int) < 1024) = false := decide_eq_false (by omega)
      have k2 : decide (k < 1024) = false := decide_eq_false (by omega)
      go_enter Tryz.func123, Tryz.ntmps123
      go_wp2
      go_ret
      exact ⟨congrArg (fun x => Ending.returned (.bool x)) (show false = R by rw [HV.out, k2]; simp), rfl⟩
  by_cases h6 : c ≤ 96
  · have t97 : decide ((97 : Int) ≤ (c : Int)) = false := decide_eq_false (by omega)
    have s97 : decide (97 ≤ c) = false := decide_eq_false (by omega)
    have t122 : decide ((c : Int) ≤ (122 : Int)) = true := decide_eq_true (by omega)
    have s122 : decide (c ≤ 122) = true := decide_eq_true (by omega)
    have t65 : decide ((65 : Int) ≤ (c : Int)) = true := decide_eq_true (by omega)
    have s65 : decide (65 ≤ c) = true := decide_eq_true (by omega)
    have t90 : decide ((c : Int) ≤ (90 : Int)) = false := decide_eq_false (by omega)
    have s90 : decide (c ≤ 90) = false := decide_eq_false (by omega)
    have t95 : ((c : Int) == 95) = false := by simp; omega
    have t48 : decide ((48 : Int) ≤ (c : Int)) = true := decide_eq_true (by omega)
    have s48 : decide (48 ≤ c) = true := decide_eq_true (by omega)
    have t57 : decide ((c : Int) ≤ (57 : Int)) = false := decide_eq_false (by omega)
    have s57 : decide (c ≤ 57) = false := decide_eq_false (by omega)
    have hl : letterB c = false := by unfold letterB; simp only [s97, s122, s65, s90]; simp; try omega
    have hd : digB c = false := by unfold digB; rw [s48, s57]; rfl
    have HV := Lib.hid (show R = (decide (k < 1024) && (false || (false && decide (0 < k)))) by rw [← HR.out]; unfold placeB; rw [hl, hd])
    clear hl hd HR
    go_enter Tryz.func123, Tryz.ntmps123
    go_wp2
    go_ret
    exact ⟨congrArg (fun x => Ending.returned (.bool x)) (show false = R by rw [HV.out]; simp), rfl⟩
  by_cases h7 : c ≤ 122
  · have t97 : decide ((97 : Int) ≤ (c : Int)) = true := decide_eq_true (by omega)
    have s97 : decide (97 ≤ c) = true := decide_eq_true (by omega)
    have t122 : decide ((c : Int) ≤ (122 : Int)) = true := decide_eq_true (by omega)
    have s122 : decide (c ≤ 122) = true := decide_eq_true (by omega)
    have t65 : decide ((65 : Int) ≤ (c : Int)) = true := decide_eq_true (by omega)
    have s65 : decide (65 ≤ c) = true := decide_eq_true (by omega)
    have t90 : decide ((c : Int) ≤ (90 : Int)) = false := decide_eq_false (by omega)
    have s90 : decide (c ≤ 90) = false := decide_eq_false (by omega)
    have t95 : ((c : Int) == 95) = false := by simp; omega
    have t48 : decide ((48 : Int) ≤ (c : Int)) = true := decide_eq_true (by omega)
    have s48 : decide (48 ≤ c) = true := decide_eq_true (by omega)
    have t57 : decide ((c : Int) ≤ (57 : Int)) = false := decide_eq_false (by omega)
    have s57 : decide (c ≤ 57) = false := decide_eq_false (by omega)
    have hl : letterB c = true := by unfold letterB; simp only [s97, s122, s65, s90]; simp; try omega
    have hd : digB c = false := by unfold digB; rw [s48, s57]; rfl
    have HV := Lib.hid (show R = (decide (k < 1024) && (true || (false && decide (0 < k)))) by rw [← HR.out]; unfold placeB; rw [hl, hd])
    clear hl hd HR
    by_cases hk : k < 1024
    · have k1 : decide ((k : Int) < 1024) = true := decide_eq_true (by omega)
      have k2 : decide (k < 1024) = true := decide_eq_true (by omega)
      go_enter Tryz.func123, Tryz.ntmps123
      go_wp2
      go_ret
      exact ⟨congrArg (fun x => Ending.returned (.bool x)) (show true = R by rw [HV.out, k2]; simp), rfl⟩
    · have k1 : decide ((k : Int) < 1024) = false := decide_eq_false (by omega)
      have k2 : decide (k < 1024) = false := decide_eq_false (by omega)
      go_enter Tryz.func123, Tryz.ntmps123
      go_wp2
      go_ret
      exact ⟨congrArg (fun x => Ending.returned (.bool x)) (show false = R by rw [HV.out, k2]; simp), rfl⟩
  have t97 : decide ((97 : Int) ≤ (c : Int)) = true := decide_eq_true (by omega)
  have s97 : decide (97 ≤ c) = true := decide_eq_true (by omega)
  have t122 : decide ((c : Int) ≤ (122 : Int)) = false := decide_eq_false (by omega)
  have s122 : decide (c ≤ 122) = false := decide_eq_false (by omega)
  have t65 : decide ((65 : Int) ≤ (c : Int)) = true := decide_eq_true (by omega)
  have s65 : decide (65 ≤ c) = true := decide_eq_true (by omega)
  have t90 : decide ((c : Int) ≤ (90 : Int)) = false := decide_eq_false (by omega)
  have s90 : decide (c ≤ 90) = false := decide_eq_false (by omega)
  have t95 : ((c : Int) == 95) = false := by simp; omega
  have t48 : decide ((48 : Int) ≤ (c : Int)) = true := decide_eq_true (by omega)
  have s48 : decide (48 ≤ c) = true := decide_eq_true (by omega)
  have t57 : decide ((c : Int) ≤ (57 : Int)) = false := decide_eq_false (by omega)
  have s57 : decide (c ≤ 57) = false := decide_eq_false (by omega)
  have hl : letterB c = false := by unfold letterB; simp only [s97, s122, s65, s90]; simp; try omega
  have hd : digB c = false := by unfold digB; rw [s48, s57]; rfl
  have HV := Lib.hid (show R = (decide (k < 1024) && (false || (false && decide (0 < k)))) by rw [← HR.out]; unfold placeB; rw [hl, hd])
  clear hl hd HR
  go_enter Tryz.func123, Tryz.ntmps123
  go_wp2
  go_ret
  exact ⟨congrArg (fun x => Ending.returned (.bool x)) (show false = R by rw [HV.out]; simp), rfl⟩
end Go.Proofs.YtiolghcjndoigaaGreatDoor
