/-
  WALKS: the document's own escapes.
-/
import Derived.Test.YthhlhiighgnkmaaGreatDoorEsB
namespace Go.Proofs.YthhlhiighgnkmaaGreatDoor
set_option linter.unusedVariables false
set_option linter.unusedSimpArgs false
open Go.RowKit Go.PlainAid
theorem rdigit_any (c : Nat) (hc : c < 256) (w : World) : Calls Tryz.prog 59 #[.int .u8 (c : Int)] w fun e w' => e = .returned (.bool (decide (48 ≤ c) && decide (c ≤ 57))) ∧ w' = w := by
  have d1 : decide ((c : Int) ≥ 48) = decide (48 ≤ c) := by congr 1; exact propext (by omega)
  have d3 : decide ((48 : Int) ≤ (c : Int)) = decide (48 ≤ c) := d1
  have d2 : decide ((c : Int) ≤ 57) = decide (c ≤ 57) := by congr 1; exact propext (by omega)
  obtain ⟨x, hx⟩ : ∃ x, decide (48 ≤ c) = x := ⟨_, rfl⟩
  obtain ⟨y, hy⟩ : ∃ y, decide (c ≤ 57) = y := ⟨_, rfl⟩
  rw [hx] at d1 d3 ⊢
  rw [hy] at d2 ⊢
  clear hx hy
  cases x
  · go_enter Tryz.func59, Tryz.ntmps59
    go_wp2
    go_ret
    exact ⟨rfl, rfl⟩
  · cases y
    · go_enter Tryz.func59, Tryz.ntmps59
      go_wp2
      go_ret
      exact ⟨rfl, rfl⟩
    · go_enter Tryz.func59, Tryz.ntmps59
      go_wp2
      go_ret
      exact ⟨rfl, rfl⟩
/-- a hex digit's value; -1 -/
def hexI (c : Nat) : Int := if hexV c < 16 then (hexV c : Int) else -1
set_option maxHeartbeats 1000000 in
theorem rhex_any (c : Nat) (hc : c < 256) (w : World) : Calls Tryz.prog 47 #[.int .u8 (c : Int)] w fun e w' => e = .returned (.int .i64 (hexI c)) ∧ w' = w := by
  have CD := Lib.hid (fun w => rdigit_any c hc w)
  unfold hexI
  by_cases h1 : 48 ≤ c ∧ c ≤ 57
  · have hv : hexV c = c - 48 := by unfold hexV; rw [if_pos h1]
    rw [hv, if_pos (by omega)]
    rw [decide_eq_true h1.1, decide_eq_true h1.2] at CD
    have e1 : IntKind.u8.wrap ((c : Int) - 48) = ((c - 48 : Nat) : Int) := by rw [IntKind.wrap_u8]; omega
    have e2 : IntKind.i64.wrap ((c - 48 : Nat) : Int) = ((c - 48 : Nat) : Int) := by rw [IntKind.wrap_i64]; omega
    obtain ⟨d, hd⟩ : ∃ d, c - 48 = d := ⟨_, rfl⟩
    rw [hd] at e1 e2 ⊢
    clear h1 hd hv
    go_enter Tryz.func47, Tryz.ntmps47
    go_wp2_with fail
    refine (CD.out _).mono ?_
    rintro e w1 ⟨rfl, rfl⟩
    go_wp2
    go_ret
    exact ⟨rfl, rfl⟩
  · have hf : (decide (48 ≤ c) && decide (c ≤ 57)) = false := by simp; omega
    rw [hf] at CD
    by_cases h2 : 97 ≤ c ∧ c ≤ 102
    · have hv : hexV c = c - 87 := by unfold hexV; rw [if_neg h1, if_pos h2]
      rw [hv, if_pos (by omega)]
      have d1a : decide ((c : Int) ≥ 97) = true := decide_eq_true (by omega)
      have d1b : decide ((97 : Int) ≤ (c : Int)) = true := decide_eq_true (by omega)
      have d1c : decide (97 ≤ c) = true := decide_eq_true (by omega)
      have d2a : decide ((c : Int) ≤ 102) = true := decide_eq_true (by omega)
      have d2c : decide (c ≤ 102) = true := decide_eq_true (by omega)
      have e1 : IntKind.u8.wrap ((c : Int) - 97) = ((c - 97 : Nat) : Int) := by rw [IntKind.wrap_u8]; omega
      have e2 : IntKind.i64.wrap ((c - 97 : Nat) : Int) = ((c - 97 : Nat) : Int) := by rw [IntKind.wrap_i64]; omega
      have e3 : IntKind.i64.wrap (((c - 97 : Nat) : Int) + 10) = ((c - 87 : Nat) : Int) := by rw [IntKind.wrap_i64]; omega
      obtain ⟨d, hd⟩ : ∃ d, c - 97 = d := ⟨_, rfl⟩
      obtain ⟨f, hf⟩ : ∃ d, c - 87 = d := ⟨_, rfl⟩
      rw [hd] at e1 e2 e3
      rw [hf] at e3 ⊢
      clear h1 hd hf h2 hv
      go_enter Tryz.func47, Tryz.ntmps47
      go_wp2_with fail
      refine (CD.out _).mono ?_
      rintro e w1 ⟨rfl, rfl⟩
      go_wp2
      go_ret
      exact ⟨rfl, rfl⟩
    · by_cases h3 : 65 ≤ c ∧ c ≤ 70
      · have hv : hexV c = c - 55 := by unfold hexV; rw [if_neg h1, if_neg h2, if_pos h3]
        rw [hv, if_pos (by omega)]
        have d1a : decide ((c : Int) ≥ 97) = false := decide_eq_false (by omega)
        have d1b : decide ((97 : Int) ≤ (c : Int)) = false := decide_eq_false (by omega)
        have d1c : decide (97 ≤ c) = false := decide_eq_false (by omega)
        have d3a : decide ((c : Int) ≥ 65) = true := decide_eq_true (by omega)
        have d3b : decide ((65 : Int) ≤ (c : Int)) = true := decide_eq_true (by omega)
        have d3c : decide (65 ≤ c) = true := decide_eq_true (by omega)
        have d4a : decide ((c : Int) ≤ 70) = true := decide_eq_true (by omega)
        have d4c : decide (c ≤ 70) = true := decide_eq_true (by omega)
        have e1 : IntKind.u8.wrap ((c : Int) - 65) = ((c - 65 : Nat) : Int) := by rw [IntKind.wrap_u8]; omega
        have e2 : IntKind.i64.wrap ((c - 65 : Nat) : Int) = ((c - 65 : Nat) : Int) := by rw [IntKind.wrap_i64]; omega
        have e3 : IntKind.i64.wrap (((c - 65 : Nat) : Int) + 10) = ((c - 55 : Nat) : Int) := by rw [IntKind.wrap_i64]; omega
        obtain ⟨d, hd⟩ : ∃ d, c - 65 = d := ⟨_, rfl⟩
        obtain ⟨f, hf⟩ : ∃ d, c - 55 = d := ⟨_, rfl⟩
        rw [hd] at e1 e2 e3
        rw [hf] at e3 ⊢
        clear h1 hd hf h2 h3 hv
        go_enter Tryz.func47, Tryz.ntmps47
        go_wp2_with fail
        refine (CD.out _).mono ?_
        rintro e w1 ⟨rfl, rfl⟩
        go_wp2
        go_ret
        exact ⟨rfl, rfl⟩
      · have hv : hexV c = 16 := by unfold hexV; rw [if_neg h1, if_neg h2, if_neg h3]
        rw [hv, if_neg (by decide)]
        clear h1 hv
        by_cases g1 : 97 ≤ c
        · have d1a : decide ((c : Int) ≥ 97) = true := decide_eq_true (by omega)
          have d1b : decide ((97 : Int) ≤ (c : Int)) = true := decide_eq_true (by omega)
          have d1c : decide (97 ≤ c) = true := decide_eq_true (by omega)
          have d2a : decide ((c : Int) ≤ 102) = false := decide_eq_false (by omega)
          have d2c : decide (c ≤ 102) = false := decide_eq_false (by omega)
          have d3a : decide ((c : Int) ≥ 65) = true := decide_eq_true (by omega)
          have d3b : decide ((65 : Int) ≤ (c : Int)) = true := decide_eq_true (by omega)
          have d3c : decide (65 ≤ c) = true := decide_eq_true (by omega)
          have d4a : decide ((c : Int) ≤ 70) = false := decide_eq_false (by omega)
          have d4c : decide (c ≤ 70) = false := decide_eq_false (by omega)
          clear h2 h3 g1
          go_enter Tryz.func47, Tryz.ntmps47
          go_wp2_with fail
          refine (CD.out _).mono ?_
          rintro e w1 ⟨rfl, rfl⟩
          go_wp2
          go_ret
          exact ⟨rfl, rfl⟩
        · by_cases g3 : 65 ≤ c
          · have d1a : decide ((c : Int) ≥ 97) = false := decide_eq_false (by omega)
            have d1b : decide ((97 : Int) ≤ (c : Int)) = false := decide_eq_false (by omega)
            have d1c : decide (97 ≤ c) = false := decide_eq_false (by omega)
            have d3a : decide ((c : Int) ≥ 65) = true := decide_eq_true (by omega)
            have d3b : decide ((65 : Int) ≤ (c : Int)) = true := decide_eq_true (by omega)
            have d3c : decide (65 ≤ c) = true := decide_eq_true (by omega)
            have d4a : decide ((c : Int) ≤ 70) = false := decide_eq_false (by omega)
            have d4c : decide (c ≤ 70) = false := decide_eq_false (by omega)
            clear h2 h3 g1 g3
            go_enter Tryz.func47, Tryz.ntmps47
            go_wp2_with fail
            refine (CD.out _).mono ?_
            rintro e w1 ⟨rfl, rfl⟩
            go_wp2
            go_ret
            exact ⟨rfl, rfl⟩
          · have d1a : decide ((c : Int) ≥ 97) = false := decide_eq_false (by omega)
            have d1b : decide ((97 : Int) ≤ (c : Int)) = false := decide_eq_false (by omega)
            have d1c : decide (97 ≤ c) = false := decide_eq_false (by omega)
            have d3a : decide ((c : Int) ≥ 65) = false := decide_eq_false (by omega)
            have d3b : decide ((65 : Int) ≤ (c : Int)) = false := decide_eq_false (by omega)
            have d3c : decide (65 ≤ c) = false := decide_eq_false (by omega)
            clear h2 h3 g1 g3
            go_enter Tryz.func47, Tryz.ntmps47
            go_wp2_with fail
            refine (CD.out _).mono ?_
            rintro e w1 ⟨rfl, rfl⟩
            go_wp2
            go_ret
            exact ⟨rfl, rfl⟩
def simpleI (c : Nat) : Int := match simpleV c with | some v => (v : Int) | none => -1
set_option maxHeartbeats 1000000 in
theorem rsimple_any (c : Nat) (hc : c < 256) (w : World) : Calls Tryz.prog 107 #[.int .u8 (c : Int)] w fun e w' => e = .returned (.int .i64 (simpleI c)) ∧ w' = w := by
  unfold simpleI
  cases hs : simpleV c with
  | some v =>
    have hcs := simple_cases hs
    clear hs hc
    rcases hcs with ⟨rfl, rfl⟩ | ⟨rfl, rfl⟩ | ⟨rfl, rfl⟩ | ⟨rfl, rfl⟩ | ⟨rfl, rfl⟩ | ⟨rfl, rfl⟩ | ⟨rfl, rfl⟩ | ⟨rfl, rfl⟩ | ⟨rfl, rfl⟩ | ⟨rfl, rfl⟩
    all_goals
      go_enter Tryz.func107, Tryz.ntmps107
      go_wp2
      go_ret
      exact ⟨rfl, rfl⟩
  | none =>
    have hsn : c ≠ 92 ∧ c ≠ 39 ∧ c ≠ 34 ∧ c ≠ 97 ∧ c ≠ 98 ∧ c ≠ 102 ∧ c ≠ 110 ∧ c ≠ 114 ∧ c ≠ 116 ∧ c ≠ 118 := by
      unfold simpleV at hs
      repeat' split at hs
      all_goals (try cases hs)
      all_goals omega
    have t92 : ((c : Int) == 92) = false := by simp; omega
    have t39 : ((c : Int) == 39) = false := by simp; omega
    have t34 : ((c : Int) == 34) = false := by simp; omega
    have t97 : ((c : Int) == 97) = false := by simp; omega
    have t98 : ((c : Int) == 98) = false := by simp; omega
    have t102 : ((c : Int) == 102) = false := by simp; omega
    have t110 : ((c : Int) == 110) = false := by simp; omega
    have t114 : ((c : Int) == 114) = false := by simp; omega
    have t116 : ((c : Int) == 116) = false := by simp; omega
    have t118 : ((c : Int) == 118) = false := by simp; omega
    clear hs hsn hc
    go_enter Tryz.func107, Tryz.ntmps107
    go_wp2
    go_ret
    exact ⟨rfl, rfl⟩
theorem laid_own (W : World) (ds : List Nat) (hl : ds.length ≤ 100) : Own (W.alloc (.cells (cellsOf ds).toArray 5)) W.heap.size (.slice (some ⟨W.heap.size, 0, none⟩) ds.length ds.length) ds :=
  Own.laid W ds (by unfold maxLen; omega) W.heap.size (Nat.le_refl _)
set_option maxHeartbeats 1000000 in
theorem rutf8_any (n : Nat) (hn : n ≤ 1114111) (w : World) : Calls Tryz.prog 108 #[.int .i64 (n : Int)] w fun e w' => ∃ v, e = .returned v ∧ Own w' w.heap.size v (utf8L n) ∧ Below w.heap.size w w' := by
  have BB := fun o : Obj => (Below.refl w.heap.size w).alloc (Nat.le_refl _) o
  by_cases h0 : n < 128
  · have c128a : decide ((n : Int) < 128) = true := decide_eq_true (by omega)
    have c128b : decide (n < 128) = true := decide_eq_true (by omega)
    have hu : utf8L n = [n] := by unfold utf8L; rw [if_pos h0]
    rw [hu]
    have e1 : IntKind.u8.wrap (n : Int) = (n : Int) := by rw [IntKind.wrap_u8]; omega
    have HW := Lib.hid (laid_own w [n] (by simp))
    have HBB := Lib.hid BB
    clear hu BB h0
    go_enter Tryz.func108, Tryz.ntmps108
    go_wp2
    go_ret
    exact ⟨_, rfl, HW.out, HBB.out _⟩
  by_cases h1 : n < 2048
  · have c128a : decide ((n : Int) < 128) = false := decide_eq_false (by omega)
    have c128b : decide (n < 128) = false := decide_eq_false (by omega)
    have c2048a : decide ((n : Int) < 2048) = true := decide_eq_true (by omega)
    have c2048b : decide (n < 2048) = true := decide_eq_true (by omega)
    obtain ⟨d0, hd0⟩ : ∃ d, n / 64 = d := ⟨_, rfl⟩
    have q0 : (n : Int) / 64 = (d0 : Int) := by omega
    have w0 : IntKind.i64.wrap (d0 : Int) = (d0 : Int) := by rw [IntKind.wrap_i64]; omega
    obtain ⟨p0, hp0⟩ : ∃ d, 192 + d0 = d := ⟨_, rfl⟩
    have a0 : IntKind.i64.wrap (192 + (d0 : Int)) = (p0 : Int) := by rw [IntKind.wrap_i64]; omega
    have b0 : IntKind.u8.wrap (p0 : Int) = (p0 : Int) := by rw [IntKind.wrap_u8]; omega
    obtain ⟨r1, hr1⟩ : ∃ d, n % 64 = d := ⟨_, rfl⟩
    have z1 : (n : Int) % 64 = (r1 : Int) := by omega
    obtain ⟨p1, hp1⟩ : ∃ d, 128 + r1 = d := ⟨_, rfl⟩
    have a1 : IntKind.i64.wrap (128 + (r1 : Int)) = (p1 : Int) := by rw [IntKind.wrap_i64]; omega
    have b1 : IntKind.u8.wrap (p1 : Int) = (p1 : Int) := by rw [IntKind.wrap_u8]; omega
    have hu : utf8L n = [p0, p1] := by unfold utf8L; rw [if_neg h0, if_pos h1]; subst hp1 hr1 hp0 hd0; rfl
    rw [hu]
    have HW := Lib.hid (laid_own w [p0, p1] (by simp))
    have HBB := Lib.hid BB
    clear hu hd0 hp0 hr1 hp1 BB h0 h1
    go_enter Tryz.func108, Tryz.ntmps108
    go_wp2
    go_ret
    exact ⟨_, rfl, HW.out, HBB.out _⟩
  by_cases h2 : n < 65536
  · have c128a : decide ((n : Int) < 128) = false := decide_eq_false (by omega)
    have c128b : decide (n < 128) = false := decide_eq_false (by omega)
    have c2048a : decide ((n : Int) < 2048) = false := decide_eq_false (by omega)
    have c2048b : decide (n < 2048) = false := decide_eq_false (by omega)
    have c65536a : decide ((n : Int) < 65536) = true := decide_eq_true (by omega)
    have c65536b : decide (n < 65536) = true := decide_eq_true (by omega)
    obtain ⟨d0, hd0⟩ : ∃ d, n / 4096 = d := ⟨_, rfl⟩
    have q0 : (n : Int) / 4096 = (d0 : Int) := by omega
    have w0 : IntKind.i64.wrap (d0 : Int) = (d0 : Int) := by rw [IntKind.wrap_i64]; omega
    obtain ⟨p0, hp0⟩ : ∃ d, 224 + d0 = d := ⟨_, rfl⟩
    have a0 : IntKind.i64.wrap (224 + (d0 : Int)) = (p0 : Int) := by rw [IntKind.wrap_i64]; omega
    have b0 : IntKind.u8.wrap (p0 : Int) = (p0 : Int) := by rw [IntKind.wrap_u8]; omega
    obtain ⟨d1, hd1⟩ : ∃ d, n / 64 = d := ⟨_, rfl⟩
    have q1 : (n : Int) / 64 = (d1 : Int) := by omega
    have w1 : IntKind.i64.wrap (d1 : Int) = (d1 : Int) := by rw [IntKind.wrap_i64]; omega
    obtain ⟨r1, hr1⟩ : ∃ d, d1 % 64 = d := ⟨_, rfl⟩
    have z1 : (d1 : Int) % 64 = (r1 : Int) := by omega
    obtain ⟨p1, hp1⟩ : ∃ d, 128 + r1 = d := ⟨_, rfl⟩
    have a1 : IntKind.i64.wrap (128 + (r1 : Int)) = (p1 : Int) := by rw [IntKind.wrap_i64]; omega
    have b1 : IntKind.u8.wrap (p1 : Int) = (p1 : Int) := by rw [IntKind.wrap_u8]; omega
    obtain ⟨r2, hr2⟩ : ∃ d, n % 64 = d := ⟨_, rfl⟩
    have z2 : (n : Int) % 64 = (r2 : Int) := by omega
    obtain ⟨p2, hp2⟩ : ∃ d, 128 + r2 = d := ⟨_, rfl⟩
    have a2 : IntKind.i64.wrap (128 + (r2 : Int)) = (p2 : Int) := by rw [IntKind.wrap_i64]; omega
    have b2 : IntKind.u8.wrap (p2 : Int) = (p2 : Int) := by rw [IntKind.wrap_u8]; omega
    have hu : utf8L n = [p0, p1, p2] := by unfold utf8L; rw [if_neg h0, if_neg h1, if_pos h2]; subst hp2 hr2 hp1 hr1 hd1 hp0 hd0; rfl
    rw [hu]
    have HW := Lib.hid (laid_own w [p0, p1, p2] (by simp))
    have HBB := Lib.hid BB
    clear hu hd0 hp0 hd1 hr1 hp1 hr2 hp2 BB h0 h1 h2
    go_enter Tryz.func108, Tryz.ntmps108
    go_wp2
    go_ret
    exact ⟨_, rfl, HW.out, HBB.out _⟩
  · have c128a : decide ((n : Int) < 128) = false := decide_eq_false (by omega)
    have c128b : decide (n < 128) = false := decide_eq_false (by omega)
    have c2048a : decide ((n : Int) < 2048) = false := decide_eq_false (by omega)
    have c2048b : decide (n < 2048) = false := decide_eq_false (by omega)
    have c65536a : decide ((n : Int) < 65536) = false := decide_eq_false (by omega)
    have c65536b : decide (n < 65536) = false := decide_eq_false (by omega)
    obtain ⟨d0, hd0⟩ : ∃ d, n / 262144 = d := ⟨_, rfl⟩
    have q0 : (n : Int) / 262144 = (d0 : Int) := by omega
    have w0 : IntKind.i64.wrap (d0 : Int) = (d0 : Int) := by rw [IntKind.wrap_i64]; omega
    obtain ⟨p0, hp0⟩ : ∃ d, 240 + d0 = d := ⟨_, rfl⟩
    have a0 : IntKind.i64.wrap (240 + (d0 : Int)) = (p0 : Int) := by rw [IntKind.wrap_i64]; omega
    have b0 : IntKind.u8.wrap (p0 : Int) = (p0 : Int) := by rw [IntKind.wrap_u8]; omega
    obtain ⟨d1, hd1⟩ : ∃ d, n / 4096 = d := ⟨_, rfl⟩
    have q1 : (n : Int) / 4096 = (d1 : Int) := by omega
    have w1 : IntKind.i64.wrap (d1 : Int) = (d1 : Int) := by rw [IntKind.wrap_i64]; omega
    obtain ⟨r1, hr1⟩ : ∃ d, d1 % 64 = d := ⟨_, rfl⟩
    have z1 : (d1 : Int) % 64 = (r1 : Int) := by omega
    obtain ⟨p1, hp1⟩ : ∃ d, 128 + r1 = d := ⟨_, rfl⟩
    have a1 : IntKind.i64.wrap (128 + (r1 : Int)) = (p1 : Int) := by rw [IntKind.wrap_i64]; omega
    have b1 : IntKind.u8.wrap (p1 : Int) = (p1 : Int) := by rw [IntKind.wrap_u8]; omega
    obtain ⟨d2, hd2⟩ : ∃ d, n / 64 = d := ⟨_, rfl⟩
    have q2 : (n : Int) / 64 = (d2 : Int) := by omega
    have w2 : IntKind.i64.wrap (d2 : Int) = (d2 : Int) := by rw [IntKind.wrap_i64]; omega
    obtain ⟨r2, hr2⟩ : ∃ d, d2 % 64 = d := ⟨_, rfl⟩
    have z2 : (d2 : Int) % 64 = (r2 : Int) := by omega
    obtain ⟨p2, hp2⟩ : ∃ d, 128 + r2 = d := ⟨_, rfl⟩
    have a2 : IntKind.i64.wrap (128 + (r2 : Int)) = (p2 : Int) := by rw [IntKind.wrap_i64]; omega
    have b2 : IntKind.u8.wrap (p2 : Int) = (p2 : Int) := by rw [IntKind.wrap_u8]; omega
    obtain ⟨r3, hr3⟩ : ∃ d, n % 64 = d := ⟨_, rfl⟩
    have z3 : (n : Int) % 64 = (r3 : Int) := by omega
    obtain ⟨p3, hp3⟩ : ∃ d, 128 + r3 = d := ⟨_, rfl⟩
    have a3 : IntKind.i64.wrap (128 + (r3 : Int)) = (p3 : Int) := by rw [IntKind.wrap_i64]; omega
    have b3 : IntKind.u8.wrap (p3 : Int) = (p3 : Int) := by rw [IntKind.wrap_u8]; omega
    have hu : utf8L n = [p0, p1, p2, p3] := by unfold utf8L; rw [if_neg h0, if_neg h1, if_neg h2]; subst hp3 hr3 hp2 hr2 hd2 hp1 hr1 hd1 hp0 hd0; rfl
    rw [hu]
    have HW := Lib.hid (laid_own w [p0, p1, p2, p3] (by simp))
    have HBB := Lib.hid BB
    clear hu hd0 hp0 hd1 hr1 hp1 hd2 hr2 hp2 hr3 hp3 BB h0 h1 h2
    go_enter Tryz.func108, Tryz.ntmps108
    go_wp2
    go_ret
    exact ⟨_, rfl, HW.out, HBB.out _⟩
end Go.Proofs.YthhlhiighgnkmaaGreatDoor
