/-
  WALKS: the library's readFloat on a point, digits and an exponent below nought.
-/
import Derived.Test.YthhlhiighgnkmaaGreatDoorPaC
namespace Go.Proofs.YthhlhiighgnkmaaGreatDoor
set_option linter.unusedVariables false
set_option linter.unusedSimpArgs false
open Go.RowKit Go.PlainAid
set_option maxRecDepth 100000 in
set_option maxHeartbeats 8000000 in
theorem readfloat_neg (ds : List Nat) (u : Nat) (hd : Nr.Digs ds) (hl1 : 1 ≤ ds.length) (hl2 : ds.length ≤ 2000) (hu : u < 100000) (w : World) :
    Calls Tryz.prog 244 #[.string (strOf (ptE ds true u))] w fun e w' => e = .returned (.tuple #[.int .u64 (Nr.mantF ds : Int), .int .i64 (if Nr.mantF ds = 0 then 0 else -(u : Int) - Nr.lead ds - Nr.ndMF ds), .bool false, .bool (Nr.truncF ds), .bool false, .int .i64 ((ptE ds true u).length : Int), .bool true]) ∧ w' = w := by
  have CE := Lib.hid lower_e
  have hlen : (ptE ds true u).length = ds.length + 3 + (decN u).length := by unfold ptE itT; simp; omega
  have hdl : (decN u).length ≤ 5 := decN_len 4 u (by omega)
  have hdl1 : 1 ≤ (decN u).length := by rw [← dd_decN u u (Nat.le_refl _)]; exact Nr.dd_len_pos u
  have hisB : IsB (ptE ds true u) := by
    unfold ptE itT
    refine IsB.cons (by decide) (IsB.app (fun c hc => by have := hd c hc; omega) (IsB.cons (by decide) (show IsB (45 :: decN u) from IsB.cons (by decide) (decN_isB u))))
  have hbt := get_bt (strOf (ptE ds true u))
  have hsz := strOf_size (ptE ds true u)
  rw [hlen] at hsz
  have h0 : bt (strOf (ptE ds true u)) 0 = 46 := by
    rw [strOf_bt _ hisB 0 (by omega)]; rfl
  have HD : Hid (∀ k c, ds[k]? = some c → bt (strOf (ptE ds true u)) (k + 1) = ((c : Nat) : Int)) := Lib.hid (fun k c hk => by
    have hk2 := (List.getElem?_eq_some_iff.1 hk).1
    rw [strOf_bt _ hisB (k + 1) (by omega)]
    congr 1
    have : (ptE ds true u)[k + 1]? = some c := by
      unfold ptE
      rw [List.getElem?_cons_succ, List.getElem?_append_left hk2]; exact hk
    rw [List.getElem?_eq_getElem (by omega)] at this
    exact Option.some.inj this)
  have hE : bt (strOf (ptE ds true u)) (ds.length + 1) = 101 := by
    rw [strOf_bt _ hisB (ds.length + 1) (by omega)]
    have : (ptE ds true u)[ds.length + 1]? = some 101 := by
      unfold ptE
      rw [List.getElem?_cons_succ, List.getElem?_append_right (Nat.le_refl _), Nat.sub_self]; rfl
    rw [List.getElem?_eq_getElem (by omega)] at this
    have := Option.some.inj this
    rw [this]; rfl
  have hM45 : bt (strOf (ptE ds true u)) (ds.length + 2) = 45 := by
    rw [strOf_bt _ hisB (ds.length + 2) (by omega)]
    have : (ptE ds true u)[ds.length + 2]? = some 45 := by
      unfold ptE itT
      rw [List.getElem?_cons_succ, List.getElem?_append_right (by omega), show ds.length + 1 - ds.length = 1 by omega]; rfl
    rw [List.getElem?_eq_getElem (by omega)] at this
    have := Option.some.inj this
    rw [this]; rfl
  have HX : Hid (∀ k c, (decN u)[k]? = some c → bt (strOf (ptE ds true u)) (ds.length + 3 + k) = ((c : Nat) : Int)) := Lib.hid (fun k c hk => by
    have hk2 := (List.getElem?_eq_some_iff.1 hk).1
    rw [strOf_bt _ hisB (ds.length + 3 + k) (by omega)]
    congr 1
    have : (ptE ds true u)[ds.length + 3 + k]? = some c := by
      unfold ptE itT
      rw [show ds.length + 3 + k = (ds.length + (k + 2)) + 1 by omega, List.getElem?_cons_succ, List.getElem?_append_right (by omega), show ds.length + (k + 2) - ds.length = (k + 1) + 1 by omega, List.getElem?_cons_succ]
      exact hk
    rw [List.getElem?_eq_getElem (by omega)] at this
    exact Option.some.inj this)
  rw [hlen]
  obtain ⟨S, hS⟩ : ∃ S, strOf (ptE ds true u) = S := ⟨_, rfl⟩
  rw [hS] at hbt hsz h0 HD hE HX hM45 ⊢
  have HDg := Lib.hid hd
  have HUd := Lib.hid (fun c hc => Nr.dd_digs u u (Nat.le_refl _) c (by rw [dd_decN u u (Nat.le_refl _)]; exact hc) : ∀ c ∈ decN u, 48 ≤ c ∧ c ≤ 57)
  obtain ⟨n, hn⟩ : ∃ n, ds.length = n := ⟨_, rfl⟩
  obtain ⟨q, hq⟩ : ∃ q, (decN u).length = q := ⟨_, rfl⟩
  rw [hn] at hsz hE HX hM45 hl1 hl2 ⊢
  rw [hq] at hsz hdl hdl1 ⊢
  have HNN := Lib.hid hn
  have HQQ := Lib.hid hq
  have s3 : 2 < S.size := by omega
  have s3I : (2 : Int) < (S.size : Int) := by omega
  have s0 : 0 < S.size := by omega
  have g0 : decide ((S.size : Int) ≤ 0) = false := decide_eq_false (by omega)
  have g1 : decide (S.size ≤ 0) = false := decide_eq_false (by omega)
  have g2 : decide (2 < S.size) = true := decide_eq_true (by omega)
  have g3 : decide ((2 : Int) < (S.size : Int)) = true := decide_eq_true (by omega)
  have g4 : decide (S.size = 0) = false := decide_eq_false (by omega)
  clear hisB hlen hS hd hn hq
  go_enter Tryz.func244, Tryz.ntmps244
  go_wp2
  go_step3
  go_wp2
  go_step3
  go_wp2
  go_loopw [7, 2, 5, 9, 13, 14, 15, 16, 17] (fun i ma tr un sd sg nd nm dp wr => wr = w ∧ un = .bool false ∧ ((i = .int .i64 0 ∧ ma = .int .u64 0 ∧ tr = .bool false ∧ sd = .bool false ∧ sg = .bool false ∧ nd = .int .i64 0 ∧ nm = .int .i64 0 ∧ dp = .int .i64 0) ∨
    (∃ k : Nat, k ≤ n ∧ i = .int .i64 ((k + 1 : Nat) : Int) ∧ ma = .int .u64 (Nr.mantF (ds.take k) : Int) ∧ tr = .bool (Nr.truncF (ds.take k)) ∧ sd = .bool true ∧ sg = .bool (decide (0 < k)) ∧ nd = .int .i64 (Nr.ndF (ds.take k) : Int) ∧ nm = .int .i64 (Nr.ndMF (ds.take k) : Int) ∧ dp = .int .i64 (-(Nr.lead (ds.take k) : Int))))) (fun i _ _ _ _ _ _ _ _ _ => S.size - (intOf i).toNat)
  case atStart => exact ⟨rfl, rfl, .inl ⟨rfl, rfl, rfl, rfl, rfl, rfl, rfl, rfl⟩⟩
  case round =>
    obtain ⟨rfl, rfl, hrel⟩ := hrel
    rcases hrel with ⟨rfl, rfl, rfl, rfl, rfl, rfl, rfl, rfl⟩ | ⟨k, hk, rfl, rfl, rfl, rfl, rfl, rfl, rfl, rfl⟩
    · have l0 : decide ((0 : Int) < (S.size : Int)) = true := decide_eq_true (by omega)
      have l0b : decide (0 < S.size) = true := decide_eq_true s0
      go_wp2
      go_roundw
      case rel => exact ⟨trivial, rfl, .inr ⟨0, Nat.zero_le _, rfl, rfl, rfl, rfl, rfl, rfl, rfl, rfl⟩⟩
      case measure => simp only [intOf]; omega
    · have hRW := Nr.mantF_lt (ds.take k) (Nr.take_digs ds HDg.out k)
      have hNM := Nr.ndMF_le (ds.take k)
      have hlb := Nr.lead_body (ds.take k)
      have hndd : Nr.ndF (ds.take k) = (Nr.body (ds.take k)).length := rfl
      have hndm : Nr.ndMF (ds.take k) = min 19 (Nr.body (ds.take k)).length := rfl
      have htl : (ds.take k).length = k := by rw [List.length_take, HNN.out]; omega
      have kI : (k : Int) + 1 < (S.size : Int) := by omega
      have kN : k + 1 < S.size := by omega
      have k1 : decide ((k : Int) + 1 < (S.size : Int)) = true := decide_eq_true kI
      have k2 : decide (k + 1 < S.size) = true := decide_eq_true kN
      have k3 : decide (((k + 1 : Nat) : Int) < (S.size : Int)) = true := decide_eq_true (by omega)
      by_cases hkn : k < n
      · obtain ⟨c, hc⟩ : ∃ c, ds[k]? = some c := ⟨ds[k]'(by rw [HNN.out]; exact hkn), List.getElem?_eq_getElem (by rw [HNN.out]; exact hkn)⟩
        have hcv := HD.out k c hc
        have hcr := HDg.out c (List.mem_of_getElem? hc)
        have hts : ds.take (k + 1) = ds.take k ++ [c] := by rw [List.take_add_one, hc]; rfl
        have c1 : (c == 95) = false := by rw [beq_eq_false_iff_ne]; omega
        have c2 : (c == 46) = false := by rw [beq_eq_false_iff_ne]; omega
        have c3 : ((c : Int) == 95) = false := by rw [beq_eq_false_iff_ne]; omega
        have c4 : ((c : Int) == 46) = false := by rw [beq_eq_false_iff_ne]; omega
        have c5 : decide ((48 : Int) ≤ (c : Int)) = true := decide_eq_true (by omega)
        have c6 : decide ((c : Int) ≤ 57) = true := decide_eq_true (by omega)
        have c7 : decide (48 ≤ c) = true := decide_eq_true (by omega)
        have c8 : decide (c ≤ 57) = true := decide_eq_true (by omega)
        have c9 : decide (c = 95) = false := decide_eq_false (by omega)
        have c10 : decide (c = 46) = false := decide_eq_false (by omega)
        by_cases hz : Nr.ndF (ds.take k) = 0 ∧ c = 48
        · obtain ⟨hz1, rfl⟩ := hz
          obtain ⟨e1, e2, e3, e4, e5⟩ := Nr.step_nought (ds.take k) hz1
          rw [← hts] at e1 e2 e3 e4 e5
          have HE5 := Lib.hid e5
          have HE1 := Lib.hid (And.intro e1 (And.intro e2 (And.intro e3 e4)))
          obtain ⟨D, hD⟩ : ∃ D, Nr.lead (ds.take k) = D := ⟨_, rfl⟩
          rw [hD] at HE5 hlb ⊢
          have hDk : D ≤ 2000 := by omega
          have x1 : IntKind.i64.wrap (-(D : Int) - 1) = -((D + 1 : Nat) : Int) := by rw [IntKind.wrap_i64]; omega
          rw [hz1]
          clear hRW hNM hndd hndm e1 e2 e3 e4 e5 hc hts hD
          go_wp2
          go_roundw
          case rel =>
            refine ⟨trivial, rfl, .inr ⟨k + 1, hkn, ?_, ?_, ?_, rfl, ?_, ?_, ?_, ?_⟩⟩
            · congr 1
            · rw [HE1.out.1]
            · rw [HE1.out.2.2.2]
            · rw [decide_eq_true (Nat.succ_pos k)]
            · rw [HE1.out.2.1]
            · rw [HE1.out.2.2.1]
            · rw [HE5.out]; rfl
          case measure => simp only [intOf]; omega
        · obtain ⟨N, hN⟩ : ∃ N, Nr.ndF (ds.take k) = N := ⟨_, rfl⟩
          obtain ⟨M, hM⟩ : ∃ M, Nr.mantF (ds.take k) = M := ⟨_, rfl⟩
          obtain ⟨J, hJ⟩ : ∃ J, Nr.ndMF (ds.take k) = J := ⟨_, rfl⟩
          obtain ⟨T, hT⟩ : ∃ T, Nr.truncF (ds.take k) = T := ⟨_, rfl⟩
          obtain ⟨D, hD⟩ : ∃ D, Nr.lead (ds.take k) = D := ⟨_, rfl⟩
          have hNle : N ≤ 2000 := by omega
          have u1 : IntKind.u8.wrap ((c : Int) - 48) = ((c - 48 : Nat) : Int) := by rw [IntKind.wrap_u8]; omega
          have u2 : IntKind.u64.wrap ((c - 48 : Nat) : Int) = ((c - 48 : Nat) : Int) := by rw [IntKind.wrap_u64]; omega
          have n1 : IntKind.i64.wrap ((N : Int) + 1) = ((N + 1 : Nat) : Int) := by rw [IntKind.wrap_i64]; omega
          have j1 : IntKind.i64.wrap ((J : Int) + 1) = ((J + 1 : Nat) : Int) := by rw [IntKind.wrap_i64]; omega
          have z1 : ¬ (c = 48 ∧ N = 0) := fun e => hz ⟨by omega, e.1⟩
          by_cases h19 : N < 19
          · obtain ⟨e1, e2, e3, e4, e5, e6⟩ := Nr.step_more (ds.take k) c hz (by omega)
            rw [← hts] at e1 e2 e3 e5 e6
            have hJN : J = N := by omega
            subst hJN
            have HE1 := Lib.hid (And.intro e1 (And.intro e2 (And.intro e3 (And.intro e5 e6))))
            rw [hM, hN, hJ, hT, hD] at HE1
            rw [hM, hJ] at hRW
            have hM18 : M < 10 ^ 18 := Nat.lt_of_lt_of_le hRW (Nat.pow_le_pow_right (by decide) (by omega))
            have m1 : IntKind.u64.wrap ((M : Int) * 10) = ((M * 10 : Nat) : Int) := by rw [IntKind.wrap_u64]; omega
            have m2 : IntKind.u64.wrap (((M * 10 : Nat) : Int) + ((c - 48 : Nat) : Int)) = ((10 * M + (c - 48) : Nat) : Int) := by rw [IntKind.wrap_u64]; omega
            have m3 : IntKind.u64.wrap ((M : Int) * 10 + ((c - 48 : Nat) : Int)) = ((10 * M + (c - 48) : Nat) : Int) := by rw [IntKind.wrap_u64]; omega
            rw [hM, hN, hJ, hT, hD]
            clear hRW hNM hndd hndm e1 e2 e3 e4 e5 e6 hc hts hD hN hM hJ hT hM18 hlb
            by_cases h48 : c = 48
            · subst h48
              go_wp2
              go_roundw
              case rel =>
                refine ⟨trivial, rfl, .inr ⟨k + 1, hkn, ?_, ?_, ?_, rfl, ?_, ?_, ?_, ?_⟩⟩
                · congr 1
                · rw [HE1.out.1]; congr 1; try omega
                · rw [HE1.out.2.2.2.1]
                · rw [decide_eq_true (Nat.succ_pos k)]
                · rw [HE1.out.2.1]; rfl
                · rw [HE1.out.2.2.1]; rfl
                · rw [HE1.out.2.2.2.2]
              case measure => simp only [intOf]; omega
            · have z2 : decide ((c : Int) = 48) = false := decide_eq_false (by omega)
              have z3 : decide (c = 48) = false := decide_eq_false h48
              go_wp2
              go_roundw
              case rel =>
                refine ⟨trivial, rfl, .inr ⟨k + 1, hkn, ?_, ?_, ?_, rfl, ?_, ?_, ?_, ?_⟩⟩
                · congr 1
                · rw [HE1.out.1]; congr 1; try omega
                · rw [HE1.out.2.2.2.1]
                · rw [decide_eq_true (Nat.succ_pos k)]
                · rw [HE1.out.2.1]; rfl
                · rw [HE1.out.2.2.1]; rfl
                · rw [HE1.out.2.2.2.2]
              case measure => simp only [intOf]; omega
          · obtain ⟨e1, e2, e3, e4, e5, e6⟩ := Nr.step_past (ds.take k) c (by omega)
            rw [← hts] at e1 e2 e3 e5 e6
            have HE1 := Lib.hid (And.intro e1 (And.intro e2 (And.intro e3 (And.intro e5 e6))))
            rw [hM, hN, hT, hD] at HE1
            have hJ19 : J = 19 := by omega
            subst hJ19
            rw [hM, hN, hJ, hT, hD]
            clear hRW hNM hndd hndm e1 e2 e3 e4 e5 e6 hc hts hD hN hM hJ hT hlb
            by_cases h48 : c = 48
            · subst h48
              go_wp2
              go_roundw
              case rel =>
                refine ⟨trivial, rfl, .inr ⟨k + 1, hkn, ?_, ?_, ?_, rfl, ?_, ?_, ?_, ?_⟩⟩
                · congr 1
                · rw [HE1.out.1]
                · rw [HE1.out.2.2.2.1]; cases T <;> rfl
                · rw [decide_eq_true (Nat.succ_pos k)]
                · rw [HE1.out.2.1]; rfl
                · rw [HE1.out.2.2.1]
                · rw [HE1.out.2.2.2.2]
              case measure => simp only [intOf]; omega
            · have z2 : decide ((c : Int) = 48) = false := decide_eq_false (by omega)
              have z3 : decide (c = 48) = false := decide_eq_false h48
              have z4 : Nr.isN c = false := by unfold Nr.isN; exact z3
              go_wp2
              go_roundw
              case rel =>
                refine ⟨trivial, rfl, .inr ⟨k + 1, hkn, ?_, ?_, ?_, rfl, ?_, ?_, ?_, ?_⟩⟩
                · congr 1
                · rw [HE1.out.1]
                · rw [HE1.out.2.2.2.1, z4]; cases T <;> rfl
                · rw [decide_eq_true (Nat.succ_pos k)]
                · rw [HE1.out.2.1]; rfl
                · rw [HE1.out.2.2.1]; rfl
                · rw [HE1.out.2.2.2.2]
              case measure => simp only [intOf]; omega
      · have hkn2 : k = n := by omega
        subst hkn2
        have hta : ds.take k = ds := by rw [← HNN.out]; exact List.take_length
        rw [hta] at *
        have hk0 : decide (0 < k) = true := decide_eq_true hl1
        have q1 : decide ((k : Int) + 1 + 1 < (S.size : Int)) = true := decide_eq_true (by omega)
        have q2 : decide (k + 1 + 1 < S.size) = true := decide_eq_true (by omega)
        have q3 : decide ((S.size : Int) ≤ (k : Int) + 1 + 1) = false := decide_eq_false (by omega)
        have q4 : decide (S.size ≤ k + 1 + 1) = false := decide_eq_false (by omega)
        have q5 : decide ((S.size : Int) ≤ (k : Int) + 2) = false := decide_eq_false (by omega)
        have q6 : decide (S.size ≤ k + 2) = false := decide_eq_false (by omega)
        have q7 : decide ((k : Int) + 1 + 1 + 1 < (S.size : Int)) = true := decide_eq_true (by omega)
        have q8 : decide (k + 1 + 1 + 1 < S.size) = true := decide_eq_true (by omega)
        have q9 : decide ((S.size : Int) ≤ (k : Int) + 1 + 1 + 1) = false := decide_eq_false (by omega)
        have q10 : decide (S.size ≤ k + 1 + 1 + 1) = false := decide_eq_false (by omega)
        have q11 : decide ((S.size : Int) ≤ (k : Int) + 3) = false := decide_eq_false (by omega)
        have q12 : decide (S.size ≤ k + 3) = false := decide_eq_false (by omega)
        have q13 : k + 3 < S.size := by omega
        obtain ⟨N, hN⟩ : ∃ N, Nr.ndF ds = N := ⟨_, rfl⟩
        obtain ⟨M, hM⟩ : ∃ M, Nr.mantF ds = M := ⟨_, rfl⟩
        obtain ⟨J, hJ⟩ : ∃ J, Nr.ndMF ds = J := ⟨_, rfl⟩
        obtain ⟨T, hT⟩ : ∃ T, Nr.truncF ds = T := ⟨_, rfl⟩
        obtain ⟨D, hD⟩ : ∃ D, Nr.lead ds = D := ⟨_, rfl⟩
        rw [hM, hN, hJ, hT, hD]
        have hdv : decV 0 (decN u) = u := decV_decN u u (Nat.le_refl _)
        have HDV := Lib.hid hdv
        obtain ⟨c0, hc0⟩ : ∃ c, (decN u)[0]? = some c := ⟨(decN u)[0]'(by rw [HQQ.out]; omega), List.getElem?_eq_getElem (by rw [HQQ.out]; omega)⟩
        have hv0 := HX.out 0 c0 hc0
        have hr0 := HUd.out c0 (List.mem_of_getElem? hc0)
        rw [Nat.add_zero] at hv0
        have b1 : (c0 == 43) = false := by rw [beq_eq_false_iff_ne]; omega
        have b2 : (c0 == 45) = false := by rw [beq_eq_false_iff_ne]; omega
        have b3 : decide (c0 = 43) = false := decide_eq_false (by omega)
        have b4 : decide (c0 = 45) = false := decide_eq_false (by omega)
        have b5 : decide ((c0 : Int) < 48) = false := decide_eq_false (by omega)
        have b6 : decide ((57 : Int) < (c0 : Int)) = false := decide_eq_false (by omega)
        have b7 : decide (c0 < 48) = false := decide_eq_false (by omega)
        have b8 : decide (57 < c0) = false := decide_eq_false (by omega)
        have hND : ((M : Int) = 0) = (M = 0) := by simp
        have HM := Lib.hid hM
        have HN := Lib.hid hN
        have HJ := Lib.hid hJ
        have HT := Lib.hid hT
        have HDd := Lib.hid hD
        have hJ19 : J ≤ 19 := by rw [← hJ]; exact Nr.ndMF_le ds
        have hDle : D ≤ 2000 := by have := Nr.lead_body ds; rw [HNN.out] at this; omega
        clear hRW hNM hndd hndm hlb hdv hc0 hN hM hJ hT hD hta
        go_wp2_with fail
        refine (CE.out _).mono ?_
        rintro e w1 ⟨rfl, rfl⟩
        go_wp2
        go_loopw [7, 20, 9] (fun i ev un wr => wr = w1 ∧ un = .bool false ∧ ∃ j : Nat, j ≤ q ∧ i = .int .i64 ((k + 3 + j : Nat) : Int) ∧ ev = .int .i64 (decV 0 ((decN u).take j) : Int)) (fun i _ _ _ => S.size - (intOf i).toNat)
        case atStart => exact ⟨rfl, rfl, 0, Nat.zero_le _, rfl, rfl⟩
        case round =>
          obtain ⟨rfl, rfl, j, hj, rfl, rfl⟩ := hrel
          have hEl : decV 0 ((decN u).take j) < 10 ^ j := by
            have := Nr.dv_lt ((decN u).take j) (fun c hc => HUd.out c (List.mem_of_mem_take hc))
            rw [List.length_take, Nat.min_eq_left (by rw [HQQ.out]; exact hj)] at this
            exact this
          by_cases hjq : j < q
          · obtain ⟨c, hc⟩ : ∃ c, (decN u)[j]? = some c := ⟨(decN u)[j]'(by rw [HQQ.out]; exact hjq), List.getElem?_eq_getElem (by rw [HQQ.out]; exact hjq)⟩
            have hcv := HX.out j c hc
            have hcr := HUd.out c (List.mem_of_getElem? hc)
            have hts : (decN u).take (j + 1) = (decN u).take j ++ [c] := by rw [List.take_add_one, hc]; rfl
            have hst : decV 0 ((decN u).take (j + 1)) = 10 * decV 0 ((decN u).take j) + (c - 48) := by rw [hts]; exact Nr.dv_snoc 0 _ c
            have HST := Lib.hid hst
            obtain ⟨E, hE2⟩ : ∃ E, decV 0 ((decN u).take j) = E := ⟨_, rfl⟩
            rw [hE2] at hEl HST ⊢
            have hE4 : E < 10000 := Nat.lt_of_lt_of_le hEl (Nat.pow_le_pow_right (by decide) (show j ≤ 4 by omega))
            have c1 : decide ((k : Int) + 3 + (j : Int) < (S.size : Int)) = true := decide_eq_true (by omega)
            have c2 : decide (k + 3 + j < S.size) = true := decide_eq_true (by omega)
            have c3 : (c == 95) = false := by rw [beq_eq_false_iff_ne]; omega
            have c5 : decide ((48 : Int) ≤ (c : Int)) = true := decide_eq_true (by omega)
            have c6 : decide ((c : Int) ≤ 57) = true := decide_eq_true (by omega)
            have c7 : decide (48 ≤ c) = true := decide_eq_true (by omega)
            have c8 : decide (c ≤ 57) = true := decide_eq_true (by omega)
            have c9 : decide (c = 95) = false := decide_eq_false (by omega)
            have c10 : decide ((E : Int) < 10000) = true := decide_eq_true (by omega)
            have c11 : decide (E < 10000) = true := decide_eq_true hE4
            have w1 : IntKind.i64.wrap ((E : Int) * 10) = (E : Int) * 10 := by rw [IntKind.wrap_i64]; omega
            have w2 : IntKind.i64.wrap (c : Int) = (c : Int) := by rw [IntKind.wrap_i64]; omega
            have w3 : IntKind.i64.wrap ((E : Int) * 10 + (c : Int)) = (E : Int) * 10 + (c : Int) := by rw [IntKind.wrap_i64]; omega
            have w4 : IntKind.i64.wrap ((E : Int) * 10 + (c : Int) - 48) = ((10 * E + (c - 48) : Nat) : Int) := by rw [IntKind.wrap_i64]; omega
            clear hEl hst hts hc hE2
            go_wp2
            go_roundw
            case rel =>
              refine ⟨trivial, rfl, j + 1, hjq, ?_, ?_⟩
              · congr 1
              · rw [HST.out]; congr 1; try omega
            case measure => simp only [intOf]; omega
          · have hjq2 : j = q := by omega
            subst hjq2
            have hE5 : decV 0 ((decN u).take j) = u := by rw [List.take_of_length_le (by rw [HQQ.out]; exact Nat.le_refl _)]; exact HDV.out
            rw [hE5]
            have c1 : decide ((k : Int) + 3 + (j : Int) < (S.size : Int)) = false := decide_eq_false (by omega)
            have c2 : decide (k + 3 + j < S.size) = false := decide_eq_false (by omega)
            have w1 : IntKind.i64.wrap (-(u : Int)) = -(u : Int) := by rw [IntKind.wrap_i64]; omega
            have w3 : IntKind.i64.wrap (-(D : Int) + -(u : Int)) = -(D : Int) + -(u : Int) := by rw [IntKind.wrap_i64]; omega
            have w4 : IntKind.i64.wrap (-(D : Int) + -(u : Int) - (J : Int)) = -(u : Int) - (D : Int) - (J : Int) := by rw [IntKind.wrap_i64]; omega
            clear hEl hE5
            by_cases hM0 : M = 0
            · subst hM0
              go_wp2
              go_returns
              rw [HT.out]
              exact ⟨rfl, rfl⟩
            · have m1 : ((M : Int) == 0) = false := by rw [beq_eq_false_iff_ne]; omega
              have m2 : (M == 0) = false := by rw [beq_eq_false_iff_ne]; omega
              have m3 : decide (M = 0) = false := decide_eq_false hM0
              go_wp2
              rw [Exit.noGoto_ret]
              show bodyPost Tryz.prog Tryz.f244 _ _ _ _
              go_returns
              rw [HM.out, HT.out, HJ.out, HDd.out, if_neg hM0]
              exact ⟨rfl, rfl⟩
end Go.Proofs.YthhlhiighgnkmaaGreatDoor
