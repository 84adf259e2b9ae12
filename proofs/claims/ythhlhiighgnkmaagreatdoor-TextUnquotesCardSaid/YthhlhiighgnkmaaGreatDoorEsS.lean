/-
  WALKS: the document's own escapes, whole.
-/
import Derived.Test.YthhlhiighgnkmaaGreatDoorEsR
import Derived.Test.YthhlhiighgnkmaaGreatDoorEsC
import Derived.Handy
namespace Go.Proofs.YthhlhiighgnkmaaGreatDoor
set_option linter.unusedVariables false
set_option linter.unusedSimpArgs false
open Go.RowKit Go.PlainAid
def RescPost (p : Nat) (w : World) : EscR → Ending → World → Prop
  | .ok xs p', e, w' => ∃ (v : Value) (d : Nat), e = .returned (.tuple #[v, .int .i64 ((d : Nat) : Int), .int .i64 0]) ∧ p + d = p' ∧ Own w' w.heap.size v xs ∧ Below w.heap.size w w'
  | .bad, e, w' => e = .returned (.tuple #[.slice none 0 0, .int .i64 0, .int .i64 1]) ∧ Below w.heap.size w w'
  | .ends, e, w' => e = .returned (.tuple #[.slice none 0 0, .int .i64 0, .int .i64 2]) ∧ Below w.heap.size w w'
theorem digsN_none {bs : List Nat} {base n p v : Nat} (h : bs[p]? = none) : digsN bs base (n + 1) p v = .ends := by rw [digsN, h]
theorem digsN_some {bs : List Nat} {base n p v c : Nat} (h : bs[p]? = some c) : digsN bs base (n + 1) p v = if hexV c < base then digsN bs base n (p + 1) (v * base + hexV c) else .bad := by rw [digsN, h]
theorem hexI_good {c h : Nat} (hh : hexV c = h) (hlt : h < 16) : hexI c = (h : Int) := by unfold hexI; rw [hh, if_pos hlt]
theorem hexI_none {c : Nat} (hh : ¬ hexV c < 16) : hexI c = -1 := by unfold hexI; rw [if_neg hh]
theorem simpleI_none {c : Nat} (h : simpleV c = none) : simpleI c = -1 := by unfold simpleI; rw [h]
theorem simpleI_some {c v : Nat} (h : simpleV c = some v) : simpleI c = (v : Int) := by unfold simpleI; rw [h]
set_option maxHeartbeats 1000000 in
theorem resc_none (bs : List Nat) (p : Nat) (hl : bs.length ≤ 30000) (hp : p ≤ 30001) (hc : bs[p]? = none) (w : World) : Calls Tryz.prog 61 #[.string (strOf bs), .int .i64 (p : Int)] w (RescPost p w .ends) := by
  have hsz := strOf_size bs
  have hge := List.getElem?_eq_none_iff.1 hc
  obtain ⟨L, hL⟩ : ∃ L, bs.length = L := ⟨_, rfl⟩
  rw [hL] at hsz hl hge
  have d1 : decide ((p : Int) ≥ (L : Int)) = true := decide_eq_true (by omega)
  have d2 : decide ((L : Int) ≤ (p : Int)) = true := decide_eq_true (by omega)
  have d3 : decide (L ≤ p) = true := decide_eq_true (by omega)
  clear hL hc hge
  go_enter Tryz.func61, Tryz.ntmps61
  go_wp2
  go_returns
  exact ⟨rfl, Below.refl _ _⟩
set_option maxHeartbeats 1000000 in
theorem resc_simple (bs : List Nat) (p c v : Nat) (hB : IsB bs) (hl : bs.length ≤ 30000) (hc : bs[p]? = some c) (hs : simpleV c = some v) (w : World) : Calls Tryz.prog 61 #[.string (strOf bs), .int .i64 (p : Int)] w (RescPost p w (.ok [v] (p + 1))) := by
  have hsz := strOf_size bs
  have hbt := get_bt (strOf bs)
  obtain ⟨hlt, hce⟩ := List.getElem?_eq_some_iff.1 hc
  have hb0 := strOf_bt bs hB p hlt
  rw [hce] at hb0
  have hc256 := at_isB hB hc
  have CS := Lib.hid (fun w => rsimple_any c hc256 w)
  have HLe := Lib.hid hlt
  obtain ⟨L, hL⟩ : ∃ L, bs.length = L := ⟨_, rfl⟩
  have HL := Lib.hid hL
  rw [hL] at hsz hl hlt
  have hpi : (p : Int) < (L : Int) := by omega
  have d1 : decide ((p : Int) ≥ (L : Int)) = false := decide_eq_false (by omega)
  have d2 : decide ((L : Int) ≤ (p : Int)) = false := decide_eq_false (by omega)
  have d3 : decide (L ≤ p) = false := decide_eq_false (by omega)
  rw [simpleI_some hs] at CS
  have hv : v < 256 := by have := simple_cases hs; omega
  have e1 : IntKind.u8.wrap (v : Int) = (v : Int) := by rw [IntKind.wrap_u8]; omega
  have g1 : decide ((v : Int) ≥ 0) = true := decide_eq_true (by omega)
  have g2 : decide ((0 : Int) ≤ (v : Int)) = true := decide_eq_true (by omega)
  have HW := Lib.hid (laid_own w [v] (by simp))
  have HBB := Lib.hid (fun o : Obj => (Below.refl w.heap.size w).alloc (Nat.le_refl _) o)
  clear hL HL hc hce hc256 hs hv hB hlt HLe
  go_enter Tryz.func61, Tryz.ntmps61
  go_wp2_with fail
  refine (CS.out _).mono ?_
  rintro e w1 ⟨rfl, rfl⟩
  go_wp2
  go_returns
  exact ⟨_, 1, rfl, rfl, HW.out, HBB.out _⟩
set_option maxRecDepth 100000 in
set_option maxHeartbeats 4000000 in
theorem resc_x (bs : List Nat) (p c : Nat) (hB : IsB bs) (hl : bs.length ≤ 30000) (hc : bs[p]? = some c) (hs : simpleV c = none) (hcc : c = 120) (w : World) : Calls Tryz.prog 61 #[.string (strOf bs), .int .i64 (p : Int)] w (RescPost p w (byteR (p + 1 + 2) (digsN bs 16 2 (p + 1) 0))) := by
  have hsz := strOf_size bs
  have hbt := get_bt (strOf bs)
  obtain ⟨hlt, hce⟩ := List.getElem?_eq_some_iff.1 hc
  have hb0 := strOf_bt bs hB p hlt
  rw [hce] at hb0
  have hc256 := at_isB hB hc
  have CS := Lib.hid (fun w => rsimple_any c hc256 w)
  have HLe := Lib.hid hlt
  obtain ⟨L, hL⟩ : ∃ L, bs.length = L := ⟨_, rfl⟩
  have HL := Lib.hid hL
  rw [hL] at hsz hl hlt
  have hpi : (p : Int) < (L : Int) := by omega
  have d1 : decide ((p : Int) ≥ (L : Int)) = false := decide_eq_false (by omega)
  have d2 : decide ((L : Int) ≤ (p : Int)) = false := decide_eq_false (by omega)
  have d3 : decide (L ≤ p) = false := decide_eq_false (by omega)
  rw [simpleI_none hs] at CS
  have t120 : ((c : Int) == 120) = true := by simp; omega
  have eF : IntKind.i64.wrap ((p : Int) + 1) = ((p + 1 : Nat) : Int) := by rw [IntKind.wrap_i64]; omega
  obtain ⟨T, hT⟩ : ∃ T, digsN bs 16 2 (p + 1) 0 = T := ⟨_, rfl⟩
  have HT := Lib.hid hT
  rw [hT]
  have HS := Lib.hid (fun k hk => strOf_bt bs hB k hk)
  have HB := Lib.hid hB
  have HLB := Lib.hid hl
  obtain ⟨F, hF⟩ : ∃ F, p + 1 = F := ⟨_, rfl⟩
  have HF := Lib.hid hF
  have HFL := Lib.hid (show F ≤ L by omega)
  rw [hF] at HT
  rw [hF] at eF
  have eG : IntKind.i64.wrap ((F : Int) - (p : Int)) = 1 := by rw [IntKind.wrap_i64]; omega
  clear hL hc hce hc256 hs hB HLe hcc hT hF hlt
  go_enter Tryz.func61, Tryz.ntmps61
  go_wp2_with fail
  refine (CS.out _).mono ?_
  rintro e w1 ⟨rfl, rfl⟩
  go_wp2
  go_loopw [12, 13] (fun a i wr => ∃ (k n : Nat), k ≤ 2 ∧ i = .int .i64 k ∧ a = .int .i64 ((n : Nat) : Int) ∧ Hid (n + 1 ≤ 16 ^ k) ∧ Hid (digsN bs 16 (2 - k) (F + k) n = T) ∧ Hid (Below w1.heap.size w1 wr)) (fun _ i _ => (2 - intOf i).toNat)
  case atStart => exact ⟨0, 0, by omega, rfl, rfl, Lib.hid (by decide), HT, Lib.hid (Below.refl _ _)⟩
  case round =>
    obtain ⟨k, n, hk, rfl, rfl, HA, HD, HBL⟩ := hrel
    by_cases hkn : k < 2
    · have da : decide ((k : Int) < 2) = true := decide_eq_true (by omega)
      have da2 : decide (k < 2) = true := decide_eq_true hkn
      have hstep := HD.out
      obtain ⟨m, hm⟩ : ∃ m, 2 - k = m + 1 := ⟨2 - k - 1, by omega⟩
      have HMm := Lib.hid (show 2 - (k + 1) = m by omega)
      rw [hm] at hstep
      clear hm
      have eq0 : IntKind.i64.wrap ((F : Int) + (k : Int)) = ((F + k : Nat) : Int) := by have := HFL.out; have := HLB.out; rw [IntKind.wrap_i64]; omega
      obtain ⟨Q, hQ⟩ : ∃ Q, F + k = Q := ⟨_, rfl⟩
      rw [hQ] at eq0 hstep
      have HQ := Lib.hid hQ
      cases hcq : bs[Q]? with
      | none =>
        have hqe := List.getElem?_eq_none_iff.1 hcq
        rw [HL.out] at hqe
        rw [digsN_none hcq] at hstep
        have HSt := Lib.hid hstep
        have q1 : decide ((Q : Int) ≥ (L : Int)) = true := decide_eq_true (by omega)
        have q2 : decide ((L : Int) ≤ (Q : Int)) = true := decide_eq_true (by omega)
        have q3 : decide (L ≤ Q) = true := decide_eq_true (by omega)
        clear hstep hcq hqe hQ hkn
        go_wp2
        go_returns
        rw [← HSt.out]
        exact ⟨rfl, HBL.out⟩
      | some c2 =>
        obtain ⟨hql, hqe⟩ := List.getElem?_eq_some_iff.1 hcq
        have hbq := HS.out Q hql
        rw [hqe] at hbq
        rw [HL.out] at hql
        rw [digsN_some hcq] at hstep
        have h256 := at_isB HB.out hcq
        have hqi : (Q : Int) < (L : Int) := by omega
        have q1 : decide ((Q : Int) ≥ (L : Int)) = false := decide_eq_false (by omega)
        have q2 : decide ((L : Int) ≤ (Q : Int)) = false := decide_eq_false (by omega)
        have q3 : decide (L ≤ Q) = false := decide_eq_false (by omega)
        have CV := Lib.hid (fun w => rhex_any c2 h256 w)
        obtain ⟨h, hh⟩ : ∃ h, hexV c2 = h := ⟨_, rfl⟩
        by_cases h16 : h < 16
        · rw [hexI_good hh h16] at CV
          rw [hh] at hstep
          have z1 : decide ((h : Int) < 0) = false := decide_eq_false (by omega)
          by_cases hv : h < 16
          · simp only [if_pos hv] at hstep
            have hpow : 16 ^ (k + 1) ≤ 16 ^ 8 := Nat.pow_le_pow_right (by decide) (by omega)
            have hA2 : (n + 1) * 16 ≤ 16 ^ (k + 1) := by rw [Nat.pow_succ]; exact Nat.mul_le_mul_right _ HA.out
            have HAA := Lib.hid (show n * 16 + h + 1 ≤ 16 ^ (k + 1) by omega)
            obtain ⟨m2, hm2⟩ : ∃ m, n * 16 = m := ⟨_, rfl⟩
            rw [hm2] at HAA hstep
            have em : ((16 : Int) * (n : Int)) = (m2 : Int) := by omega
            have em2 : ((n : Int) * (16 : Int)) = (m2 : Int) := by omega
            have HAA2 := HAA.out
            have e1 : IntKind.i64.wrap (m2 : Int) = (m2 : Int) := by rw [IntKind.wrap_i64]; omega
            have e2 : IntKind.i64.wrap ((m2 : Int) + (h : Int)) = ((m2 + h : Nat) : Int) := by rw [IntKind.wrap_i64]; omega
            have ya : decide ((h : Int) ≥ 16) = false := decide_eq_false (by omega)
            have yb : decide ((16 : Int) ≤ (h : Int)) = false := decide_eq_false (by omega)
            have yc : decide (16 ≤ h) = false := decide_eq_false (by omega)
            have HSt := Lib.hid hstep
            have HK1 := Lib.hid (show k + 1 ≤ 2 by omega)
            clear hh hm2 h256 hcq hpow hA2 hstep hv h16 HAA2 hqe hQ hkn
            go_wp2_with fail
            refine (CV.out _).mono ?_
            rintro e w2 ⟨rfl, rfl⟩
            go_wp2
            go_roundw
            case rel => exact ⟨k + 1, m2 + h, HK1.out, rfl, rfl, HAA, Lib.hid (by rw [HMm.out, ← Nat.add_assoc, HQ.out]; exact HSt.out), HBL⟩
            case measure => have := HK1.out; simp [intOf]; omega
          · simp only [if_neg hv] at hstep
            have ya : decide ((h : Int) ≥ 16) = true := decide_eq_true (by omega)
            have yb : decide ((16 : Int) ≤ (h : Int)) = true := decide_eq_true (by omega)
            have yc : decide (16 ≤ h) = true := decide_eq_true (by omega)
            have HSt := Lib.hid hstep
            clear hh h256 hcq hstep hv h16 hqe hQ hkn
            go_wp2_with fail
            refine (CV.out _).mono ?_
            rintro e w2 ⟨rfl, rfl⟩
            go_wp2
            go_returns
            rw [← HSt.out]
            exact ⟨rfl, HBL.out⟩
        · rw [hexI_none (by rw [hh]; exact h16)] at CV
          rw [hh, if_neg (show ¬ h < 16 by omega)] at hstep
          have HSt := Lib.hid hstep
          clear hh h256 hcq hstep h16 hqe hQ hkn
          go_wp2_with fail
          refine (CV.out _).mono ?_
          rintro e w2 ⟨rfl, rfl⟩
          go_wp2
          go_returns
          rw [← HSt.out]
          exact ⟨rfl, HBL.out⟩
    · obtain rfl : k = 2 := by omega
      have da : decide (((2 : Nat) : Int) < 2) = false := decide_eq_false (by omega)
      have hstep := HD.out
      rw [Nat.sub_self] at hstep
      unfold digsN at hstep
      have HSt := Lib.hid hstep
      have hlim : n + 1 ≤ 16 ^ 2 := HA.out
      clear hstep
      by_cases hv : n ≤ 255
      · have HRT := Lib.hid (show byteR (p + 1 + 2) T = .ok [n] (p + 1 + 2) by rw [← HSt.out]; exact if_pos hv)
        have va : decide ((n : Int) > 255) = false := decide_eq_false (by omega)
        have vb : decide ((255 : Int) < (n : Int)) = false := decide_eq_false (by omega)
        have vc : decide (255 < n) = false := decide_eq_false (by omega)
        have e8 : IntKind.u8.wrap (n : Int) = (n : Int) := by rw [IntKind.wrap_u8]; omega
        have HW := Lib.hid ((laid_own wr [n] (by simp)).lower (b2 := w1.heap.size) HBL.out.size)
        have HBB := Lib.hid (fun o : Obj => HBL.out.alloc HBL.out.size o)
        clear hv hlim
        go_wp2
        go_returns
        rw [HRT.out]
        exact ⟨_, 3, rfl, rfl, HW.out, HBB.out _⟩
      · have HRT := Lib.hid (show byteR (p + 1 + 2) T = .bad by rw [← HSt.out]; exact if_neg hv)
        have va : decide ((n : Int) > 255) = true := decide_eq_true (by omega)
        have vb : decide ((255 : Int) < (n : Int)) = true := decide_eq_true (by omega)
        have vc : decide (255 < n) = true := decide_eq_true (by omega)
        clear hv hlim
        go_wp2
        go_returns
        rw [HRT.out]
        exact ⟨rfl, HBL.out⟩
set_option maxRecDepth 100000 in
set_option maxHeartbeats 4000000 in
theorem resc_u (bs : List Nat) (p c : Nat) (hB : IsB bs) (hl : bs.length ≤ 30000) (hc : bs[p]? = some c) (hs : simpleV c = none) (hcc : c = 117) (w : World) : Calls Tryz.prog 61 #[.string (strOf bs), .int .i64 (p : Int)] w (RescPost p w (runeR (p + 1 + 4) (digsN bs 16 4 (p + 1) 0))) := by
  have hsz := strOf_size bs
  have hbt := get_bt (strOf bs)
  obtain ⟨hlt, hce⟩ := List.getElem?_eq_some_iff.1 hc
  have hb0 := strOf_bt bs hB p hlt
  rw [hce] at hb0
  have hc256 := at_isB hB hc
  have CS := Lib.hid (fun w => rsimple_any c hc256 w)
  have HLe := Lib.hid hlt
  obtain ⟨L, hL⟩ : ∃ L, bs.length = L := ⟨_, rfl⟩
  have HL := Lib.hid hL
  rw [hL] at hsz hl hlt
  have hpi : (p : Int) < (L : Int) := by omega
  have d1 : decide ((p : Int) ≥ (L : Int)) = false := decide_eq_false (by omega)
  have d2 : decide ((L : Int) ≤ (p : Int)) = false := decide_eq_false (by omega)
  have d3 : decide (L ≤ p) = false := decide_eq_false (by omega)
  rw [simpleI_none hs] at CS
  have t120 : ((c : Int) == 120) = false := by simp; omega
  have t117 : ((c : Int) == 117) = true := by simp; omega
  have eF : IntKind.i64.wrap ((p : Int) + 1) = ((p + 1 : Nat) : Int) := by rw [IntKind.wrap_i64]; omega
  obtain ⟨T, hT⟩ : ∃ T, digsN bs 16 4 (p + 1) 0 = T := ⟨_, rfl⟩
  have HT := Lib.hid hT
  rw [hT]
  have HS := Lib.hid (fun k hk => strOf_bt bs hB k hk)
  have HB := Lib.hid hB
  have HLB := Lib.hid hl
  obtain ⟨F, hF⟩ : ∃ F, p + 1 = F := ⟨_, rfl⟩
  have HF := Lib.hid hF
  have HFL := Lib.hid (show F ≤ L by omega)
  rw [hF] at HT
  rw [hF] at eF
  have eG : IntKind.i64.wrap ((F : Int) - (p : Int)) = 1 := by rw [IntKind.wrap_i64]; omega
  clear hL hc hce hc256 hs hB HLe hcc hT hF hlt
  go_enter Tryz.func61, Tryz.ntmps61
  go_wp2_with fail
  refine (CS.out _).mono ?_
  rintro e w1 ⟨rfl, rfl⟩
  go_wp2
  go_loopw [12, 13] (fun a i wr => ∃ (k n : Nat), k ≤ 4 ∧ i = .int .i64 k ∧ a = .int .i64 ((n : Nat) : Int) ∧ Hid (n + 1 ≤ 16 ^ k) ∧ Hid (digsN bs 16 (4 - k) (F + k) n = T) ∧ Hid (Below w1.heap.size w1 wr)) (fun _ i _ => (4 - intOf i).toNat)
  case atStart => exact ⟨0, 0, by omega, rfl, rfl, Lib.hid (by decide), HT, Lib.hid (Below.refl _ _)⟩
  case round =>
    obtain ⟨k, n, hk, rfl, rfl, HA, HD, HBL⟩ := hrel
    by_cases hkn : k < 4
    · have da : decide ((k : Int) < 4) = true := decide_eq_true (by omega)
      have da2 : decide (k < 4) = true := decide_eq_true hkn
      have hstep := HD.out
      obtain ⟨m, hm⟩ : ∃ m, 4 - k = m + 1 := ⟨4 - k - 1, by omega⟩
      have HMm := Lib.hid (show 4 - (k + 1) = m by omega)
      rw [hm] at hstep
      clear hm
      have eq0 : IntKind.i64.wrap ((F : Int) + (k : Int)) = ((F + k : Nat) : Int) := by have := HFL.out; have := HLB.out; rw [IntKind.wrap_i64]; omega
      obtain ⟨Q, hQ⟩ : ∃ Q, F + k = Q := ⟨_, rfl⟩
      rw [hQ] at eq0 hstep
      have HQ := Lib.hid hQ
      cases hcq : bs[Q]? with
      | none =>
        have hqe := List.getElem?_eq_none_iff.1 hcq
        rw [HL.out] at hqe
        rw [digsN_none hcq] at hstep
        have HSt := Lib.hid hstep
        have q1 : decide ((Q : Int) ≥ (L : Int)) = true := decide_eq_true (by omega)
        have q2 : decide ((L : Int) ≤ (Q : Int)) = true := decide_eq_true (by omega)
        have q3 : decide (L ≤ Q) = true := decide_eq_true (by omega)
        clear hstep hcq hqe hQ hkn
        go_wp2
        go_returns
        rw [← HSt.out]
        exact ⟨rfl, HBL.out⟩
      | some c2 =>
        obtain ⟨hql, hqe⟩ := List.getElem?_eq_some_iff.1 hcq
        have hbq := HS.out Q hql
        rw [hqe] at hbq
        rw [HL.out] at hql
        rw [digsN_some hcq] at hstep
        have h256 := at_isB HB.out hcq
        have hqi : (Q : Int) < (L : Int) := by omega
        have q1 : decide ((Q : Int) ≥ (L : Int)) = false := decide_eq_false (by omega)
        have q2 : decide ((L : Int) ≤ (Q : Int)) = false := decide_eq_false (by omega)
        have q3 : decide (L ≤ Q) = false := decide_eq_false (by omega)
        have CV := Lib.hid (fun w => rhex_any c2 h256 w)
        obtain ⟨h, hh⟩ : ∃ h, hexV c2 = h := ⟨_, rfl⟩
        by_cases h16 : h < 16
        · rw [hexI_good hh h16] at CV
          rw [hh] at hstep
          have z1 : decide ((h : Int) < 0) = false := decide_eq_false (by omega)
          by_cases hv : h < 16
          · simp only [if_pos hv] at hstep
            have hpow : 16 ^ (k + 1) ≤ 16 ^ 8 := Nat.pow_le_pow_right (by decide) (by omega)
            have hA2 : (n + 1) * 16 ≤ 16 ^ (k + 1) := by rw [Nat.pow_succ]; exact Nat.mul_le_mul_right _ HA.out
            have HAA := Lib.hid (show n * 16 + h + 1 ≤ 16 ^ (k + 1) by omega)
            obtain ⟨m2, hm2⟩ : ∃ m, n * 16 = m := ⟨_, rfl⟩
            rw [hm2] at HAA hstep
            have em : ((16 : Int) * (n : Int)) = (m2 : Int) := by omega
            have em2 : ((n : Int) * (16 : Int)) = (m2 : Int) := by omega
            have HAA2 := HAA.out
            have e1 : IntKind.i64.wrap (m2 : Int) = (m2 : Int) := by rw [IntKind.wrap_i64]; omega
            have e2 : IntKind.i64.wrap ((m2 : Int) + (h : Int)) = ((m2 + h : Nat) : Int) := by rw [IntKind.wrap_i64]; omega
            have ya : decide ((h : Int) ≥ 16) = false := decide_eq_false (by omega)
            have yb : decide ((16 : Int) ≤ (h : Int)) = false := decide_eq_false (by omega)
            have yc : decide (16 ≤ h) = false := decide_eq_false (by omega)
            have HSt := Lib.hid hstep
            have HK1 := Lib.hid (show k + 1 ≤ 4 by omega)
            clear hh hm2 h256 hcq hpow hA2 hstep hv h16 HAA2 hqe hQ hkn
            go_wp2_with fail
            refine (CV.out _).mono ?_
            rintro e w2 ⟨rfl, rfl⟩
            go_wp2
            go_roundw
            case rel => exact ⟨k + 1, m2 + h, HK1.out, rfl, rfl, HAA, Lib.hid (by rw [HMm.out, ← Nat.add_assoc, HQ.out]; exact HSt.out), HBL⟩
            case measure => have := HK1.out; simp [intOf]; omega
          · simp only [if_neg hv] at hstep
            have ya : decide ((h : Int) ≥ 16) = true := decide_eq_true (by omega)
            have yb : decide ((16 : Int) ≤ (h : Int)) = true := decide_eq_true (by omega)
            have yc : decide (16 ≤ h) = true := decide_eq_true (by omega)
            have HSt := Lib.hid hstep
            clear hh h256 hcq hstep hv h16 hqe hQ hkn
            go_wp2_with fail
            refine (CV.out _).mono ?_
            rintro e w2 ⟨rfl, rfl⟩
            go_wp2
            go_returns
            rw [← HSt.out]
            exact ⟨rfl, HBL.out⟩
        · rw [hexI_none (by rw [hh]; exact h16)] at CV
          rw [hh, if_neg (show ¬ h < 16 by omega)] at hstep
          have HSt := Lib.hid hstep
          clear hh h256 hcq hstep h16 hqe hQ hkn
          go_wp2_with fail
          refine (CV.out _).mono ?_
          rintro e w2 ⟨rfl, rfl⟩
          go_wp2
          go_returns
          rw [← HSt.out]
          exact ⟨rfl, HBL.out⟩
    · obtain rfl : k = 4 := by omega
      have da : decide (((4 : Nat) : Int) < 4) = false := decide_eq_false (by omega)
      have hstep := HD.out
      rw [Nat.sub_self] at hstep
      unfold digsN at hstep
      have HSt := Lib.hid hstep
      have hlim : n + 1 ≤ 16 ^ 4 := HA.out
      clear hstep
      by_cases hv : n < 55296 ∨ (57343 < n ∧ n ≤ 1114111)
      · have HRT := Lib.hid (show runeR (p + 1 + 4) T = .ok (utf8L n) (p + 1 + 4) by rw [← HSt.out]; exact if_pos hv)
        have va : decide ((n : Int) > 1114111) = false := decide_eq_false (by omega)
        have vb : decide ((1114111 : Int) < (n : Int)) = false := decide_eq_false (by omega)
        have vc : decide (1114111 < n) = false := decide_eq_false (by omega)
        have CU := Lib.hid (fun w => rutf8_any n (by omega) w)
        by_cases h5 : n < 55296
        · 
          have sa : decide ((n : Int) ≥ 55296) = false := decide_eq_false (by omega)
          have sb : decide ((55296 : Int) ≤ (n : Int)) = false := decide_eq_false (by omega)
          have sc : decide (55296 ≤ n) = false := decide_eq_false (by omega)
          clear hv hlim h5
          go_wp2_with fail
          refine (CU.out _).mono ?_
          rintro e w2 ⟨v, rfl, g1, g2⟩
          have G1 := Lib.hid (g1.lower (b2 := w1.heap.size) HBL.out.size)
          have G2 := Lib.hid (HBL.out.trans (g2.mono HBL.out.size))
          clear g1 g2
          go_wp2
          go_returns
          rw [HRT.out]
          exact ⟨_, 5, rfl, rfl, G1.out, G2.out⟩
        · 
          have sa : decide ((n : Int) ≥ 55296) = true := decide_eq_true (by omega)
          have sb : decide ((55296 : Int) ≤ (n : Int)) = true := decide_eq_true (by omega)
          have sc : decide (55296 ≤ n) = true := decide_eq_true (by omega)
          have ra : decide ((n : Int) ≤ 57343) = false := decide_eq_false (by omega)
          have rc : decide (n ≤ 57343) = false := decide_eq_false (by omega)
          clear hv hlim h5
          go_wp2_with fail
          refine (CU.out _).mono ?_
          rintro e w2 ⟨v, rfl, g1, g2⟩
          have G1 := Lib.hid (g1.lower (b2 := w1.heap.size) HBL.out.size)
          have G2 := Lib.hid (HBL.out.trans (g2.mono HBL.out.size))
          clear g1 g2
          go_wp2
          go_returns
          rw [HRT.out]
          exact ⟨_, 5, rfl, rfl, G1.out, G2.out⟩
      · have HRT := Lib.hid (show runeR (p + 1 + 4) T = .bad by rw [← HSt.out]; exact if_neg hv)
        by_cases h5 : n ≤ 57343
        · 
          have va : decide ((n : Int) > 1114111) = false := decide_eq_false (by omega)
          have vb : decide ((1114111 : Int) < (n : Int)) = false := decide_eq_false (by omega)
          have vc : decide (1114111 < n) = false := decide_eq_false (by omega)
          have sa : decide ((n : Int) ≥ 55296) = true := decide_eq_true (by omega)
          have sb : decide ((55296 : Int) ≤ (n : Int)) = true := decide_eq_true (by omega)
          have sc : decide (55296 ≤ n) = true := decide_eq_true (by omega)
          have ra : decide ((n : Int) ≤ 57343) = true := decide_eq_true (by omega)
          have rc : decide (n ≤ 57343) = true := decide_eq_true (by omega)
          clear hv hlim h5
          go_wp2
          go_returns
          rw [HRT.out]
          exact ⟨rfl, HBL.out⟩
        · 
          have va : decide ((n : Int) > 1114111) = true := decide_eq_true (by omega)
          have vb : decide ((1114111 : Int) < (n : Int)) = true := decide_eq_true (by omega)
          have vc : decide (1114111 < n) = true := decide_eq_true (by omega)
          clear hv hlim h5
          go_wp2
          go_returns
          rw [HRT.out]
          exact ⟨rfl, HBL.out⟩
set_option maxRecDepth 100000 in
set_option maxHeartbeats 4000000 in
theorem resc_v (bs : List Nat) (p c : Nat) (hB : IsB bs) (hl : bs.length ≤ 30000) (hc : bs[p]? = some c) (hs : simpleV c = none) (hcc : c = 85) (w : World) : Calls Tryz.prog 61 #[.string (strOf bs), .int .i64 (p : Int)] w (RescPost p w (runeR (p + 1 + 8) (digsN bs 16 8 (p + 1) 0))) := by
  have hsz := strOf_size bs
  have hbt := get_bt (strOf bs)
  obtain ⟨hlt, hce⟩ := List.getElem?_eq_some_iff.1 hc
  have hb0 := strOf_bt bs hB p hlt
  rw [hce] at hb0
  have hc256 := at_isB hB hc
  have CS := Lib.hid (fun w => rsimple_any c hc256 w)
  have HLe := Lib.hid hlt
  obtain ⟨L, hL⟩ : ∃ L, bs.length = L := ⟨_, rfl⟩
  have HL := Lib.hid hL
  rw [hL] at hsz hl hlt
  have hpi : (p : Int) < (L : Int) := by omega
  have d1 : decide ((p : Int) ≥ (L : Int)) = false := decide_eq_false (by omega)
  have d2 : decide ((L : Int) ≤ (p : Int)) = false := decide_eq_false (by omega)
  have d3 : decide (L ≤ p) = false := decide_eq_false (by omega)
  rw [simpleI_none hs] at CS
  have t120 : ((c : Int) == 120) = false := by simp; omega
  have t117 : ((c : Int) == 117) = false := by simp; omega
  have t85 : ((c : Int) == 85) = true := by simp; omega
  have eF : IntKind.i64.wrap ((p : Int) + 1) = ((p + 1 : Nat) : Int) := by rw [IntKind.wrap_i64]; omega
  obtain ⟨T, hT⟩ : ∃ T, digsN bs 16 8 (p + 1) 0 = T := ⟨_, rfl⟩
  have HT := Lib.hid hT
  rw [hT]
  have HS := Lib.hid (fun k hk => strOf_bt bs hB k hk)
  have HB := Lib.hid hB
  have HLB := Lib.hid hl
  obtain ⟨F, hF⟩ : ∃ F, p + 1 = F := ⟨_, rfl⟩
  have HF := Lib.hid hF
  have HFL := Lib.hid (show F ≤ L by omega)
  rw [hF] at HT
  rw [hF] at eF
  have eG : IntKind.i64.wrap ((F : Int) - (p : Int)) = 1 := by rw [IntKind.wrap_i64]; omega
  clear hL hc hce hc256 hs hB HLe hcc hT hF hlt
  go_enter Tryz.func61, Tryz.ntmps61
  go_wp2_with fail
  refine (CS.out _).mono ?_
  rintro e w1 ⟨rfl, rfl⟩
  go_wp2
  go_loopw [12, 13] (fun a i wr => ∃ (k n : Nat), k ≤ 8 ∧ i = .int .i64 k ∧ a = .int .i64 ((n : Nat) : Int) ∧ Hid (n + 1 ≤ 16 ^ k) ∧ Hid (digsN bs 16 (8 - k) (F + k) n = T) ∧ Hid (Below w1.heap.size w1 wr)) (fun _ i _ => (8 - intOf i).toNat)
  case atStart => exact ⟨0, 0, by omega, rfl, rfl, Lib.hid (by decide), HT, Lib.hid (Below.refl _ _)⟩
  case round =>
    obtain ⟨k, n, hk, rfl, rfl, HA, HD, HBL⟩ := hrel
    by_cases hkn : k < 8
    · have da : decide ((k : Int) < 8) = true := decide_eq_true (by omega)
      have da2 : decide (k < 8) = true := decide_eq_true hkn
      have hstep := HD.out
      obtain ⟨m, hm⟩ : ∃ m, 8 - k = m + 1 := ⟨8 - k - 1, by omega⟩
      have HMm := Lib.hid (show 8 - (k + 1) = m by omega)
      rw [hm] at hstep
      clear hm
      have eq0 : IntKind.i64.wrap ((F : Int) + (k : Int)) = ((F + k : Nat) : Int) := by have := HFL.out; have := HLB.out; rw [IntKind.wrap_i64]; omega
      obtain ⟨Q, hQ⟩ : ∃ Q, F + k = Q := ⟨_, rfl⟩
      rw [hQ] at eq0 hstep
      have HQ := Lib.hid hQ
      cases hcq : bs[Q]? with
      | none =>
        have hqe := List.getElem?_eq_none_iff.1 hcq
        rw [HL.out] at hqe
        rw [digsN_none hcq] at hstep
        have HSt := Lib.hid hstep
        have q1 : decide ((Q : Int) ≥ (L : Int)) = true := decide_eq_true (by omega)
        have q2 : decide ((L : Int) ≤ (Q : Int)) = true := decide_eq_true (by omega)
        have q3 : decide (L ≤ Q) = true := decide_eq_true (by omega)
        clear hstep hcq hqe hQ hkn
        go_wp2
        go_returns
        rw [← HSt.out]
        exact ⟨rfl, HBL.out⟩
      | some c2 =>
        obtain ⟨hql, hqe⟩ := List.getElem?_eq_some_iff.1 hcq
        have hbq := HS.out Q hql
        rw [hqe] at hbq
        rw [HL.out] at hql
        rw [digsN_some hcq] at hstep
        have h256 := at_isB HB.out hcq
        have hqi : (Q : Int) < (L : Int) := by omega
        have q1 : decide ((Q : Int) ≥ (L : Int)) = false := decide_eq_false (by omega)
        have q2 : decide ((L : Int) ≤ (Q : Int)) = false := decide_eq_false (by omega)
        have q3 : decide (L ≤ Q) = false := decide_eq_false (by omega)
        have CV := Lib.hid (fun w => rhex_any c2 h256 w)
        obtain ⟨h, hh⟩ : ∃ h, hexV c2 = h := ⟨_, rfl⟩
        by_cases h16 : h < 16
        · rw [hexI_good hh h16] at CV
          rw [hh] at hstep
          have z1 : decide ((h : Int) < 0) = false := decide_eq_false (by omega)
          by_cases hv : h < 16
          · simp only [if_pos hv] at hstep
            have hpow : 16 ^ (k + 1) ≤ 16 ^ 8 := Nat.pow_le_pow_right (by decide) (by omega)
            have hA2 : (n + 1) * 16 ≤ 16 ^ (k + 1) := by rw [Nat.pow_succ]; exact Nat.mul_le_mul_right _ HA.out
            have HAA := Lib.hid (show n * 16 + h + 1 ≤ 16 ^ (k + 1) by omega)
            obtain ⟨m2, hm2⟩ : ∃ m, n * 16 = m := ⟨_, rfl⟩
            rw [hm2] at HAA hstep
            have em : ((16 : Int) * (n : Int)) = (m2 : Int) := by omega
            have em2 : ((n : Int) * (16 : Int)) = (m2 : Int) := by omega
            have HAA2 := HAA.out
            have e1 : IntKind.i64.wrap (m2 : Int) = (m2 : Int) := by rw [IntKind.wrap_i64]; omega
            have e2 : IntKind.i64.wrap ((m2 : Int) + (h : Int)) = ((m2 + h : Nat) : Int) := by rw [IntKind.wrap_i64]; omega
            have ya : decide ((h : Int) ≥ 16) = false := decide_eq_false (by omega)
            have yb : decide ((16 : Int) ≤ (h : Int)) = false := decide_eq_false (by omega)
            have yc : decide (16 ≤ h) = false := decide_eq_false (by omega)
            have HSt := Lib.hid hstep
            have HK1 := Lib.hid (show k + 1 ≤ 8 by omega)
            clear hh hm2 h256 hcq hpow hA2 hstep hv h16 HAA2 hqe hQ hkn
            go_wp2_with fail
            refine (CV.out _).mono ?_
            rintro e w2 ⟨rfl, rfl⟩
            go_wp2
            go_roundw
            case rel => exact ⟨k + 1, m2 + h, HK1.out, rfl, rfl, HAA, Lib.hid (by rw [HMm.out, ← Nat.add_assoc, HQ.out]; exact HSt.out), HBL⟩
            case measure => have := HK1.out; simp [intOf]; omega
          · simp only [if_neg hv] at hstep
            have ya : decide ((h : Int) ≥ 16) = true := decide_eq_true (by omega)
            have yb : decide ((16 : Int) ≤ (h : Int)) = true := decide_eq_true (by omega)
            have yc : decide (16 ≤ h) = true := decide_eq_true (by omega)
            have HSt := Lib.hid hstep
            clear hh h256 hcq hstep hv h16 hqe hQ hkn
            go_wp2_with fail
            refine (CV.out _).mono ?_
            rintro e w2 ⟨rfl, rfl⟩
            go_wp2
            go_returns
            rw [← HSt.out]
            exact ⟨rfl, HBL.out⟩
        · rw [hexI_none (by rw [hh]; exact h16)] at CV
          rw [hh, if_neg (show ¬ h < 16 by omega)] at hstep
          have HSt := Lib.hid hstep
          clear hh h256 hcq hstep h16 hqe hQ hkn
          go_wp2_with fail
          refine (CV.out _).mono ?_
          rintro e w2 ⟨rfl, rfl⟩
          go_wp2
          go_returns
          rw [← HSt.out]
          exact ⟨rfl, HBL.out⟩
    · obtain rfl : k = 8 := by omega
      have da : decide (((8 : Nat) : Int) < 8) = false := decide_eq_false (by omega)
      have hstep := HD.out
      rw [Nat.sub_self] at hstep
      unfold digsN at hstep
      have HSt := Lib.hid hstep
      have hlim : n + 1 ≤ 16 ^ 8 := HA.out
      clear hstep
      by_cases hv : n < 55296 ∨ (57343 < n ∧ n ≤ 1114111)
      · have HRT := Lib.hid (show runeR (p + 1 + 8) T = .ok (utf8L n) (p + 1 + 8) by rw [← HSt.out]; exact if_pos hv)
        have va : decide ((n : Int) > 1114111) = false := decide_eq_false (by omega)
        have vb : decide ((1114111 : Int) < (n : Int)) = false := decide_eq_false (by omega)
        have vc : decide (1114111 < n) = false := decide_eq_false (by omega)
        have CU := Lib.hid (fun w => rutf8_any n (by omega) w)
        by_cases h5 : n < 55296
        · 
          have sa : decide ((n : Int) ≥ 55296) = false := decide_eq_false (by omega)
          have sb : decide ((55296 : Int) ≤ (n : Int)) = false := decide_eq_false (by omega)
          have sc : decide (55296 ≤ n) = false := decide_eq_false (by omega)
          clear hv hlim h5
          go_wp2_with fail
          refine (CU.out _).mono ?_
          rintro e w2 ⟨v, rfl, g1, g2⟩
          have G1 := Lib.hid (g1.lower (b2 := w1.heap.size) HBL.out.size)
          have G2 := Lib.hid (HBL.out.trans (g2.mono HBL.out.size))
          clear g1 g2
          go_wp2
          go_returns
          rw [HRT.out]
          exact ⟨_, 9, rfl, rfl, G1.out, G2.out⟩
        · 
          have sa : decide ((n : Int) ≥ 55296) = true := decide_eq_true (by omega)
          have sb : decide ((55296 : Int) ≤ (n : Int)) = true := decide_eq_true (by omega)
          have sc : decide (55296 ≤ n) = true := decide_eq_true (by omega)
          have ra : decide ((n : Int) ≤ 57343) = false := decide_eq_false (by omega)
          have rc : decide (n ≤ 57343) = false := decide_eq_false (by omega)
          clear hv hlim h5
          go_wp2_with fail
          refine (CU.out _).mono ?_
          rintro e w2 ⟨v, rfl, g1, g2⟩
          have G1 := Lib.hid (g1.lower (b2 := w1.heap.size) HBL.out.size)
          have G2 := Lib.hid (HBL.out.trans (g2.mono HBL.out.size))
          clear g1 g2
          go_wp2
          go_returns
          rw [HRT.out]
          exact ⟨_, 9, rfl, rfl, G1.out, G2.out⟩
      · have HRT := Lib.hid (show runeR (p + 1 + 8) T = .bad by rw [← HSt.out]; exact if_neg hv)
        by_cases h5 : n ≤ 57343
        · 
          have va : decide ((n : Int) > 1114111) = false := decide_eq_false (by omega)
          have vb : decide ((1114111 : Int) < (n : Int)) = false := decide_eq_false (by omega)
          have vc : decide (1114111 < n) = false := decide_eq_false (by omega)
          have sa : decide ((n : Int) ≥ 55296) = true := decide_eq_true (by omega)
          have sb : decide ((55296 : Int) ≤ (n : Int)) = true := decide_eq_true (by omega)
          have sc : decide (55296 ≤ n) = true := decide_eq_true (by omega)
          have ra : decide ((n : Int) ≤ 57343) = true := decide_eq_true (by omega)
          have rc : decide (n ≤ 57343) = true := decide_eq_true (by omega)
          clear hv hlim h5
          go_wp2
          go_returns
          rw [HRT.out]
          exact ⟨rfl, HBL.out⟩
        · 
          have va : decide ((n : Int) > 1114111) = true := decide_eq_true (by omega)
          have vb : decide ((1114111 : Int) < (n : Int)) = true := decide_eq_true (by omega)
          have vc : decide (1114111 < n) = true := decide_eq_true (by omega)
          clear hv hlim h5
          go_wp2
          go_returns
          rw [HRT.out]
          exact ⟨rfl, HBL.out⟩
set_option maxRecDepth 100000 in
set_option maxHeartbeats 4000000 in
theorem resc_o (bs : List Nat) (p c : Nat) (hB : IsB bs) (hl : bs.length ≤ 30000) (hc : bs[p]? = some c) (hs : simpleV c = none) (hcc : 48 ≤ c ∧ c ≤ 55) (w : World) : Calls Tryz.prog 61 #[.string (strOf bs), .int .i64 (p : Int)] w (RescPost p w (byteR (p + 3) (digsN bs 8 3 (p) 0))) := by
  have hsz := strOf_size bs
  have hbt := get_bt (strOf bs)
  obtain ⟨hlt, hce⟩ := List.getElem?_eq_some_iff.1 hc
  have hb0 := strOf_bt bs hB p hlt
  rw [hce] at hb0
  have hc256 := at_isB hB hc
  have CS := Lib.hid (fun w => rsimple_any c hc256 w)
  have HLe := Lib.hid hlt
  obtain ⟨L, hL⟩ : ∃ L, bs.length = L := ⟨_, rfl⟩
  have HL := Lib.hid hL
  rw [hL] at hsz hl hlt
  have hpi : (p : Int) < (L : Int) := by omega
  have d1 : decide ((p : Int) ≥ (L : Int)) = false := decide_eq_false (by omega)
  have d2 : decide ((L : Int) ≤ (p : Int)) = false := decide_eq_false (by omega)
  have d3 : decide (L ≤ p) = false := decide_eq_false (by omega)
  rw [simpleI_none hs] at CS
  have t120 : ((c : Int) == 120) = false := by simp; omega
  have t117 : ((c : Int) == 117) = false := by simp; omega
  have t85 : ((c : Int) == 85) = false := by simp; omega
  have ga : decide ((c : Int) ≥ 48) = true := decide_eq_true (by omega)
  have gb : decide ((48 : Int) ≤ (c : Int)) = true := decide_eq_true (by omega)
  have gc : decide (48 ≤ c) = true := decide_eq_true (by omega)
  have la : decide ((c : Int) ≤ 55) = true := decide_eq_true (by omega)
  have lc : decide (c ≤ 55) = true := decide_eq_true (by omega)
  have eF : IntKind.i64.wrap ((p : Int) + 1) = ((p + 1 : Nat) : Int) := by rw [IntKind.wrap_i64]; omega
  obtain ⟨T, hT⟩ : ∃ T, digsN bs 8 3 (p) 0 = T := ⟨_, rfl⟩
  have HT := Lib.hid hT
  rw [hT]
  have HS := Lib.hid (fun k hk => strOf_bt bs hB k hk)
  have HB := Lib.hid hB
  have HLB := Lib.hid hl
  obtain ⟨F, hF⟩ : ∃ F, p = F := ⟨_, rfl⟩
  have HF := Lib.hid hF
  have HFL := Lib.hid (show F ≤ L by omega)
  rw [hF] at HT
  clear eF
  subst hF
  have eG : IntKind.i64.wrap ((p : Int) - (p : Int)) = 0 := by rw [IntKind.wrap_i64]; omega
  clear hL hc hce hc256 hs hB HLe hcc hT  hlt
  go_enter Tryz.func61, Tryz.ntmps61
  go_wp2_with fail
  refine (CS.out _).mono ?_
  rintro e w1 ⟨rfl, rfl⟩
  go_wp2
  go_loopw [12, 13] (fun a i wr => ∃ (k n : Nat), k ≤ 3 ∧ i = .int .i64 k ∧ a = .int .i64 ((n : Nat) : Int) ∧ Hid (n + 1 ≤ 16 ^ k) ∧ Hid (digsN bs 8 (3 - k) (p + k) n = T) ∧ Hid (Below w1.heap.size w1 wr)) (fun _ i _ => (3 - intOf i).toNat)
  case atStart => exact ⟨0, 0, by omega, rfl, rfl, Lib.hid (by decide), HT, Lib.hid (Below.refl _ _)⟩
  case round =>
    obtain ⟨k, n, hk, rfl, rfl, HA, HD, HBL⟩ := hrel
    by_cases hkn : k < 3
    · have da : decide ((k : Int) < 3) = true := decide_eq_true (by omega)
      have da2 : decide (k < 3) = true := decide_eq_true hkn
      have hstep := HD.out
      obtain ⟨m, hm⟩ : ∃ m, 3 - k = m + 1 := ⟨3 - k - 1, by omega⟩
      have HMm := Lib.hid (show 3 - (k + 1) = m by omega)
      rw [hm] at hstep
      clear hm
      have eq0 : IntKind.i64.wrap ((p : Int) + (k : Int)) = ((p + k : Nat) : Int) := by have := HFL.out; have := HLB.out; rw [IntKind.wrap_i64]; omega
      obtain ⟨Q, hQ⟩ : ∃ Q, p + k = Q := ⟨_, rfl⟩
      rw [hQ] at eq0 hstep
      have HQ := Lib.hid hQ
      cases hcq : bs[Q]? with
      | none =>
        have hqe := List.getElem?_eq_none_iff.1 hcq
        rw [HL.out] at hqe
        rw [digsN_none hcq] at hstep
        have HSt := Lib.hid hstep
        have q1 : decide ((Q : Int) ≥ (L : Int)) = true := decide_eq_true (by omega)
        have q2 : decide ((L : Int) ≤ (Q : Int)) = true := decide_eq_true (by omega)
        have q3 : decide (L ≤ Q) = true := decide_eq_true (by omega)
        clear hstep hcq hqe hQ hkn
        go_wp2
        go_returns
        rw [← HSt.out]
        exact ⟨rfl, HBL.out⟩
      | some c2 =>
        obtain ⟨hql, hqe⟩ := List.getElem?_eq_some_iff.1 hcq
        have hbq := HS.out Q hql
        rw [hqe] at hbq
        rw [HL.out] at hql
        rw [digsN_some hcq] at hstep
        have h256 := at_isB HB.out hcq
        have hqi : (Q : Int) < (L : Int) := by omega
        have q1 : decide ((Q : Int) ≥ (L : Int)) = false := decide_eq_false (by omega)
        have q2 : decide ((L : Int) ≤ (Q : Int)) = false := decide_eq_false (by omega)
        have q3 : decide (L ≤ Q) = false := decide_eq_false (by omega)
        have CV := Lib.hid (fun w => rhex_any c2 h256 w)
        obtain ⟨h, hh⟩ : ∃ h, hexV c2 = h := ⟨_, rfl⟩
        by_cases h16 : h < 16
        · rw [hexI_good hh h16] at CV
          rw [hh] at hstep
          have z1 : decide ((h : Int) < 0) = false := decide_eq_false (by omega)
          by_cases hv : h < 8
          · simp only [if_pos hv] at hstep
            have hpow : 16 ^ (k + 1) ≤ 16 ^ 8 := Nat.pow_le_pow_right (by decide) (by omega)
            have hA2 : (n + 1) * 16 ≤ 16 ^ (k + 1) := by rw [Nat.pow_succ]; exact Nat.mul_le_mul_right _ HA.out
            have HAA := Lib.hid (show n * 8 + h + 1 ≤ 16 ^ (k + 1) by omega)
            obtain ⟨m2, hm2⟩ : ∃ m, n * 8 = m := ⟨_, rfl⟩
            rw [hm2] at HAA hstep
            have em : ((8 : Int) * (n : Int)) = (m2 : Int) := by omega
            have em2 : ((n : Int) * (8 : Int)) = (m2 : Int) := by omega
            have HAA2 := HAA.out
            have e1 : IntKind.i64.wrap (m2 : Int) = (m2 : Int) := by rw [IntKind.wrap_i64]; omega
            have e2 : IntKind.i64.wrap ((m2 : Int) + (h : Int)) = ((m2 + h : Nat) : Int) := by rw [IntKind.wrap_i64]; omega
            have ya : decide ((h : Int) ≥ 8) = false := decide_eq_false (by omega)
            have yb : decide ((8 : Int) ≤ (h : Int)) = false := decide_eq_false (by omega)
            have yc : decide (8 ≤ h) = false := decide_eq_false (by omega)
            have HSt := Lib.hid hstep
            have HK1 := Lib.hid (show k + 1 ≤ 3 by omega)
            clear hh hm2 h256 hcq hpow hA2 hstep hv h16 HAA2 hqe hQ hkn
            go_wp2_with fail
            refine (CV.out _).mono ?_
            rintro e w2 ⟨rfl, rfl⟩
            go_wp2
            go_roundw
            case rel => exact ⟨k + 1, m2 + h, HK1.out, rfl, rfl, HAA, Lib.hid (by rw [HMm.out, ← Nat.add_assoc, HQ.out]; exact HSt.out), HBL⟩
            case measure => have := HK1.out; simp [intOf]; omega
          · simp only [if_neg hv] at hstep
            have ya : decide ((h : Int) ≥ 8) = true := decide_eq_true (by omega)
            have yb : decide ((8 : Int) ≤ (h : Int)) = true := decide_eq_true (by omega)
            have yc : decide (8 ≤ h) = true := decide_eq_true (by omega)
            have HSt := Lib.hid hstep
            clear hh h256 hcq hstep hv h16 hqe hQ hkn
            go_wp2_with fail
            refine (CV.out _).mono ?_
            rintro e w2 ⟨rfl, rfl⟩
            go_wp2
            go_returns
            rw [← HSt.out]
            exact ⟨rfl, HBL.out⟩
        · rw [hexI_none (by rw [hh]; exact h16)] at CV
          rw [hh, if_neg (show ¬ h < 8 by omega)] at hstep
          have HSt := Lib.hid hstep
          clear hh h256 hcq hstep h16 hqe hQ hkn
          go_wp2_with fail
          refine (CV.out _).mono ?_
          rintro e w2 ⟨rfl, rfl⟩
          go_wp2
          go_returns
          rw [← HSt.out]
          exact ⟨rfl, HBL.out⟩
    · obtain rfl : k = 3 := by omega
      have da : decide (((3 : Nat) : Int) < 3) = false := decide_eq_false (by omega)
      have hstep := HD.out
      rw [Nat.sub_self] at hstep
      unfold digsN at hstep
      have HSt := Lib.hid hstep
      have hlim : n + 1 ≤ 16 ^ 3 := HA.out
      clear hstep
      by_cases hv : n ≤ 255
      · have HRT := Lib.hid (show byteR (p + 3) T = .ok [n] (p + 3) by rw [← HSt.out]; exact if_pos hv)
        have va : decide ((n : Int) > 255) = false := decide_eq_false (by omega)
        have vb : decide ((255 : Int) < (n : Int)) = false := decide_eq_false (by omega)
        have vc : decide (255 < n) = false := decide_eq_false (by omega)
        have e8 : IntKind.u8.wrap (n : Int) = (n : Int) := by rw [IntKind.wrap_u8]; omega
        have HW := Lib.hid ((laid_own wr [n] (by simp)).lower (b2 := w1.heap.size) HBL.out.size)
        have HBB := Lib.hid (fun o : Obj => HBL.out.alloc HBL.out.size o)
        clear hv hlim
        go_wp2
        go_returns
        rw [HRT.out]
        exact ⟨_, 3, rfl, rfl, HW.out, HBB.out _⟩
      · have HRT := Lib.hid (show byteR (p + 3) T = .bad by rw [← HSt.out]; exact if_neg hv)
        have va : decide ((n : Int) > 255) = true := decide_eq_true (by omega)
        have vb : decide ((255 : Int) < (n : Int)) = true := decide_eq_true (by omega)
        have vc : decide (255 < n) = true := decide_eq_true (by omega)
        clear hv hlim
        go_wp2
        go_returns
        rw [HRT.out]
        exact ⟨rfl, HBL.out⟩
set_option maxHeartbeats 1000000 in
theorem resc_other (bs : List Nat) (p c : Nat) (hB : IsB bs) (hl : bs.length ≤ 30000) (hc : bs[p]? = some c) (hs : simpleV c = none) (h1 : c ≠ 120) (h2 : c ≠ 117) (h3 : c ≠ 85) (h4 : ¬ (48 ≤ c ∧ c ≤ 55)) (w : World) : Calls Tryz.prog 61 #[.string (strOf bs), .int .i64 (p : Int)] w (RescPost p w .bad) := by
  have hsz := strOf_size bs
  have hbt := get_bt (strOf bs)
  obtain ⟨hlt, hce⟩ := List.getElem?_eq_some_iff.1 hc
  have hb0 := strOf_bt bs hB p hlt
  rw [hce] at hb0
  have hc256 := at_isB hB hc
  have CS := Lib.hid (fun w => rsimple_any c hc256 w)
  have HLe := Lib.hid hlt
  obtain ⟨L, hL⟩ : ∃ L, bs.length = L := ⟨_, rfl⟩
  have HL := Lib.hid hL
  rw [hL] at hsz hl hlt
  have hpi : (p : Int) < (L : Int) := by omega
  have d1 : decide ((p : Int) ≥ (L : Int)) = false := decide_eq_false (by omega)
  have d2 : decide ((L : Int) ≤ (p : Int)) = false := decide_eq_false (by omega)
  have d3 : decide (L ≤ p) = false := decide_eq_false (by omega)
  rw [simpleI_none hs] at CS
  have t120 : ((c : Int) == 120) = false := by simp; omega
  have t117 : ((c : Int) == 117) = false := by simp; omega
  have t85 : ((c : Int) == 85) = false := by simp; omega
  have eF : IntKind.i64.wrap ((p : Int) + 1) = ((p + 1 : Nat) : Int) := by rw [IntKind.wrap_i64]; omega
  obtain ⟨F, hF⟩ : ∃ F, p + 1 = F := ⟨_, rfl⟩
  rw [hF] at eF
  by_cases h5 : 48 ≤ c
  · 
    have ga : decide ((c : Int) ≥ 48) = true := decide_eq_true (by omega)
    have gb : decide ((48 : Int) ≤ (c : Int)) = true := decide_eq_true (by omega)
    have gc : decide (48 ≤ c) = true := decide_eq_true (by omega)
    have la : decide ((c : Int) ≤ 55) = false := decide_eq_false (by omega)
    have lc : decide (c ≤ 55) = false := decide_eq_false (by omega)
    clear hL HL hc hce hc256 hs hB hlt HLe h1 h2 h3 h4 h5 hF
    go_enter Tryz.func61, Tryz.ntmps61
    go_wp2_with fail
    refine (CS.out _).mono ?_
    rintro e w1 ⟨rfl, rfl⟩
    go_wp2
    go_returns
    exact ⟨rfl, Below.refl _ _⟩
  · 
    have ga : decide ((c : Int) ≥ 48) = false := decide_eq_false (by omega)
    have gb : decide ((48 : Int) ≤ (c : Int)) = false := decide_eq_false (by omega)
    have gc : decide (48 ≤ c) = false := decide_eq_false (by omega)
    clear hL HL hc hce hc256 hs hB hlt HLe h1 h2 h3 h4 h5 hF
    go_enter Tryz.func61, Tryz.ntmps61
    go_wp2_with fail
    refine (CS.out _).mono ?_
    rintro e w1 ⟨rfl, rfl⟩
    go_wp2
    go_returns
    exact ⟨rfl, Below.refl _ _⟩
theorem resc_any (bs : List Nat) (p : Nat) (hB : IsB bs) (hl : bs.length ≤ 30000) (hp : p ≤ 30001) (w : World) : Calls Tryz.prog 61 #[.string (strOf bs), .int .i64 (p : Int)] w (RescPost p w (escF bs p)) := by
  cases hc : bs[p]? with
  | none => rw [escF_none hc]; exact resc_none bs p hl hp hc w
  | some c =>
    cases hs : simpleV c with
    | some v => rw [escF_simple hc hs]; exact resc_simple bs p c v hB hl hc hs w
    | none =>
      rw [escF_other hc hs]
      by_cases h1 : c = 120
      · rw [if_pos h1]; exact resc_x bs p c hB hl hc hs h1 w
      rw [if_neg h1]
      by_cases h2 : c = 117
      · rw [if_pos h2]; exact resc_u bs p c hB hl hc hs h2 w
      rw [if_neg h2]
      by_cases h3 : c = 85
      · rw [if_pos h3]; exact resc_v bs p c hB hl hc hs h3 w
      rw [if_neg h3]
      by_cases h4 : 48 ≤ c ∧ c ≤ 55
      · rw [if_pos h4]; exact resc_o bs p c hB hl hc hs h4 w
      rw [if_neg h4]; exact resc_other bs p c hB hl hc hs h1 h2 h3 h4 w
end Go.Proofs.YthhlhiighgnkmaaGreatDoor
