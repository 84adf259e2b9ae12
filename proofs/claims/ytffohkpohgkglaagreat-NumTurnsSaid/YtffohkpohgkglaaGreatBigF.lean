/-
  WALK of the document's own rounding.
-/
import Derived.Test.YtffohkpohgkglaaGreatBigE
import Derived.Deep.Cut
namespace Go.Proofs.YtffohkpohgkglaaGreat
set_option linter.unusedVariables false
set_option linter.unusedSimpArgs false
open Go.RowKit
def sgn (s : Bool) : Nat := if s then 9223372036854775808 else 0
theorem sgn_true : ((sgn true : Nat) : Int) = 9223372036854775808 := by unfold sgn; rw [if_pos rfl]; simp
theorem sgn_false : ((sgn false : Nat) : Int) = 0 := by unfold sgn; rw [if_neg (by decide)]; simp
theorem round_zero (s : Bool) (e : Int) (more : Bool) : Nm.round s 0 e more = sgn s := by
  unfold Nm.round Nm.word sgn
  rw [if_pos rfl]
def quoN (n : Nat) (l : Int) : Nat := if 0 < l then n / 2 ^ l.toNat else n * 2 ^ (-l).toNat
def upN (n : Nat) (l : Int) (more : Bool) : Bool := if 0 < l then Nm.goes n l.toNat more else false
theorem kept_parts (n : Nat) (e : Int) (more : Bool) : Nm.kept n e more = quoN n (Nm.los n e) + (upN n (Nm.los n e) more).toNat := by
  unfold Nm.kept quoN upN
  split
  · rfl
  · rfl
theorem or_sgn (s : Bool) (r : Nat) (h : r < 2 ^ 63) : bits .or .u64 ((sgn s : Nat) : Int) (r : Int) = ((Nm.word s r : Nat) : Int) := by
  cases s
  · rw [u64_or_nat (sgn false) r (by unfold sgn; decide) (by omega)]
    congr 1
    unfold sgn Nm.word
    rw [if_neg (by decide), if_neg (by decide)]
    exact Nat.zero_or r
  · rw [u64_or_nat (sgn true) r (by unfold sgn; decide) (by omega)]
    congr 1
    unfold sgn Nm.word
    rw [if_pos rfl, if_pos rfl]
    exact nat_join 63 9223372036854775808 r (by decide) h
theorem or_word (s : Bool) (t m : Nat) (ht : t ≤ 2046) (hm : m < 2 ^ 52) : bits .or .u64 ((Nm.word s (t * 2 ^ 52) : Nat) : Int) (m : Int) = ((Nm.word s (t * 2 ^ 52 + m) : Nat) : Int) := by
  have hw : Nm.word s (t * 2 ^ 52) < 18446744073709551616 := by unfold Nm.word; split <;> omega
  rw [u64_or_nat _ m hw (by omega)]
  congr 1
  rw [nat_join 52 (Nm.word s (t * 2 ^ 52)) m (by unfold Nm.word; split <;> omega) hm]
  unfold Nm.word
  split <;> omega
theorem kept_lt (n : Nat) (e : Int) (more : Bool) : Nm.kept n e more < 2 ^ 64 := Nat.lt_of_le_of_lt (Nm.kept_le n e more) (by decide)
set_option maxRecDepth 100000 in
set_option maxHeartbeats 4000000 in
theorem round_any (s more : Bool) (v1 : Value) (n : Nat) (e : Int) (w : World) (H1 : Big w v1 n) (hx : (Nm.wds n).length ≤ 300000) (he1 : -5000000 ≤ e) (he2 : e ≤ 5000000) :
    Calls Tryz.prog 76 #[.bool s, v1, .int .i64 e, .bool more] w (Gives w (.int .u64 (Nm.round s n e more : Nat))) := by
  obtain ⟨a1, cap1, rfl, hcap1, hW1⟩ := H1
  obtain ⟨L1, hL1⟩ : ∃ L, (Nm.wds n).length = L := ⟨_, rfl⟩
  have HBig : Hid (Big w (.slice a1 L1 cap1) n) := Lib.hid ⟨a1, cap1, by rw [hL1], hcap1, hW1⟩
  have X1 := Lib.hid hL1
  have HX := Lib.hid hx
  rw [hL1] at hx ⊢
  clear hW1 hL1 hcap1
  go_enter Tryz.func76, Tryz.ntmps76
  go_upto_if 16 with fail
  go_cut [9] from 16 (fun o wx => o = .int .u64 (sgn s : Nat) ∧ wx = w)
  case first =>
    cases s
    · go_wp2_with fail
      go_meet
      case rel => exact ⟨by rw [sgn_false], rfl⟩
    · go_wp2_with fail
      go_meet
      case rel => exact ⟨by rw [sgn_true], rfl⟩
  case rest =>
    obtain ⟨rfl, rfl⟩ := hcut
    obtain ⟨S, hS⟩ : ∃ S, sgn s = S := ⟨_, rfl⟩
    have HSg := Lib.hid hS
    rw [hS]
    clear hS
    by_cases h0 : L1 = 0
    · have hn : n = 0 := Nm.wds_nil.1 (by rw [X1.out]; exact h0)
      subst hn
      subst h0
      go_wp2
      go_ret
      refine ⟨?_, Below.refl _ _⟩
      rw [round_zero, HSg.out]
      rfl
    · have d0 : ((L1 : Int) == 0) = false := by simp; omega
      have hn0 : n ≠ 0 := fun h => h0 (by rw [← X1.out]; exact Nm.wds_nil.2 h)
      obtain ⟨N, hN⟩ : ∃ N, Nm.nb n = N := ⟨_, rfl⟩
      have hN2 : N ≤ 32 * L1 := by
        have h1 := Nm.lt_wds n
        rw [X1.out, Nm.Bp] at h1
        rw [← hN]
        exact (Nm.nb_le_iff n _).2 h1
      obtain ⟨lo, hlo⟩ : ∃ l, max ((N : Int) - 53) (-1074 - e) = l := ⟨_, rfl⟩
      have hlo2 : (if (N : Int) - 53 < -1074 - e then -1074 - e else (N : Int) - 53) = lo := by rw [← hlo]; split <;> omega
      have HLO := Lib.hid (show Nm.los n e = lo by unfold Nm.los; rw [hN]; exact hlo)
      have HN := Lib.hid hN
      have hl1 : -10000000 ≤ lo := by omega
      have hl2 : lo ≤ 9700000 := by omega
      clear hN hlo
      go_upto_if 29 with (go_at_call 74; refine (bits_any _ n _ HBig.out).mono ?_; rintro e' w1 ⟨rfl, rfl⟩; rw [HN.out])
      have KP := Lib.hid (kept_parts n e more)
      obtain ⟨Q, hQ⟩ : ∃ q, quoN n (Nm.los n e) = q := ⟨_, rfl⟩
      obtain ⟨U, hU⟩ : ∃ q, upN n (Nm.los n e) more = q := ⟨_, rfl⟩
      have HQ := Lib.hid (show quoN n lo = Q by rw [← hQ, HLO.out])
      have HU := Lib.hid (show upN n lo more = U by rw [← hU, HLO.out])
      obtain ⟨K, hK⟩ : ∃ q, Nm.kept n e more = q := ⟨_, rfl⟩
      have HK := Lib.hid (show K = Q + U.toNat by rw [← hK, KP.out, hQ, hU])
      have HK2 := Lib.hid (show K ≤ 2 ^ 53 by rw [← hK]; exact Nm.kept_le n e more)
      have HK3 := Lib.hid hK
      clear hQ hU hK KP
      go_cut [11, 12] from 16 (fun q u wx => Big wx q Q ∧ u = .bool U ∧ Hid (Below w1.heap.size w1 wx))
      case first =>
        by_cases hpos : 0 < lo
        · have dp : decide (0 < lo) = true := decide_eq_true hpos
          obtain ⟨l, hl⟩ : ∃ l : Nat, lo = (l : Int) := ⟨lo.toNat, by omega⟩
          obtain ⟨m, hm⟩ : ∃ m : Nat, l = m + 1 := ⟨l - 1, by omega⟩
          have hl3 : l ≤ 9700000 := by omega
          have hQl : n / 2 ^ l = Q := by
            have := HQ.out
            unfold quoN at this
            rw [if_pos hpos, hl, Int.toNat_natCast] at this
            exact this
          have hUl : (n.testBit m && ((decide (1 < l) && n % 2 ^ m != 0) || more || Q.testBit 0)) = U := by
            have := HU.out
            unfold upN Nm.goes at this
            rw [if_pos hpos, hl, Int.toNat_natCast, hm, Nat.add_sub_cancel] at this
            rw [← this, ← hQl, hm]
            congr 2
            rw [Nat.testBit_zero, Bool.eq_iff_iff]
            simp
          have hlm : (l : Int) - 1 = (m : Int) := by omega
          obtain ⟨hb, hhb⟩ : ∃ x, n.testBit m = x := ⟨_, rfl⟩
          obtain ⟨lb, hlb⟩ : ∃ x, (n % 2 ^ m != 0) = x := ⟨_, rfl⟩
          obtain ⟨qb, hqb⟩ : ∃ x, Q.testBit 0 = x := ⟨_, rfl⟩
          rw [hhb, hlb, hqb] at hUl
          have CD : Hid (∀ w, Big w (.slice a1 L1 cap1) n → Calls Tryz.prog 108 #[.slice a1 L1 cap1, .int .i64 (l : Int)] w (DownPost w Q (n % 2 ^ l != 0))) := Lib.hid (by rw [← hQl]; exact fun w H => down_any _ n l w H (by have := HX.out; omega) (by omega))
          have CM : Hid (∀ w, Big w (.slice a1 L1 cap1) n → Calls Tryz.prog 108 #[.slice a1 L1 cap1, .int .i64 (m : Int)] w (DownPost w (n / 2 ^ m) lb)) := Lib.hid (by rw [← hlb]; exact fun w H => down_any _ n m w H (by have := HX.out; omega) (by omega))
          have CB : Hid (∀ w, Big w (.slice a1 L1 cap1) n → Calls Tryz.prog 109 #[.slice a1 L1 cap1, .int .i64 (m : Int)] w fun e w' => e = .returned (.bool hb) ∧ w' = w) := Lib.hid (by rw [← hhb]; exact fun w H => bit_any _ n m w H (by omega))
          have CQ : Hid (∀ w v, Big w v Q → Calls Tryz.prog 109 #[v, .int .i64 0] w fun e w' => e = .returned (.bool qb) ∧ w' = w) := Lib.hid (by rw [← hqb]; exact fun w v H => bit_any v Q 0 w H (by omega))
          have HUL := Lib.hid hUl
          have HM := Lib.hid hm
          clear hUl hqb hlb hhb hQl hm hlo2
          subst hl
          by_cases h1 : 1 < l
          · have d1 : decide ((1 : Int) < (l : Int)) = true := decide_eq_true (by omega)
            have d2 : decide (1 < l) = true := decide_eq_true h1
            rw [d2] at HUL
            clear h1
            cases hb
            ·
              go_wp2_with fail
              refine (CD.out _ HBig.out).mono ?_
              rintro e' w2 ⟨v2, rfl, hbig2, hb2⟩
              have G2 := Lib.hid hbig2
              have B2 := Lib.hid hb2
              have HB2 := Lib.hid (HBig.out.below hb2)
              clear hbig2 hb2
              go_wp2_with fail
              refine (CM.out _ HB2.out).mono ?_
              rintro e' w3 ⟨v3, rfl, hbig3, hb3⟩
              have B3 := Lib.hid (B2.out.trans (hb3.mono B2.out.size))
              have HB3 := Lib.hid (HB2.out.below hb3)
              have G3 := Lib.hid (G2.out.below hb3)
              clear hbig3 hb3 B2 HB2 G2
              go_wp2_with fail
              refine (CB.out _ HB3.out).mono ?_
              rintro e' w4 ⟨rfl, rfl⟩
              go_wp2
              go_meet
              case rel => exact ⟨G3.out, by first | rfl | (rw [← HUL.out]; rfl) | (rw [← HUL.out]; simp), B3⟩
            · cases lb
              ·
                cases more
                ·
                  go_wp2_with fail
                  refine (CD.out _ HBig.out).mono ?_
                  rintro e' w2 ⟨v2, rfl, hbig2, hb2⟩
                  have G2 := Lib.hid hbig2
                  have B2 := Lib.hid hb2
                  have HB2 := Lib.hid (HBig.out.below hb2)
                  clear hbig2 hb2
                  go_wp2_with fail
                  refine (CM.out _ HB2.out).mono ?_
                  rintro e' w3 ⟨v3, rfl, hbig3, hb3⟩
                  have B3 := Lib.hid (B2.out.trans (hb3.mono B2.out.size))
                  have HB3 := Lib.hid (HB2.out.below hb3)
                  have G3 := Lib.hid (G2.out.below hb3)
                  clear hbig3 hb3 B2 HB2 G2
                  go_wp2_with fail
                  refine (CB.out _ HB3.out).mono ?_
                  rintro e' w4 ⟨rfl, rfl⟩
                  go_wp2_with fail
                  refine (CQ.out _ _ G3.out).mono ?_
                  rintro e' w5 ⟨rfl, rfl⟩
                  go_wp2
                  go_meet
                  case rel => exact ⟨G3.out, by first | rfl | (rw [← HUL.out]; rfl) | (rw [← HUL.out]; simp), B3⟩
                ·
                  go_wp2_with fail
                  refine (CD.out _ HBig.out).mono ?_
                  rintro e' w2 ⟨v2, rfl, hbig2, hb2⟩
                  have G2 := Lib.hid hbig2
                  have B2 := Lib.hid hb2
                  have HB2 := Lib.hid (HBig.out.below hb2)
                  clear hbig2 hb2
                  go_wp2_with fail
                  refine (CM.out _ HB2.out).mono ?_
                  rintro e' w3 ⟨v3, rfl, hbig3, hb3⟩
                  have B3 := Lib.hid (B2.out.trans (hb3.mono B2.out.size))
                  have HB3 := Lib.hid (HB2.out.below hb3)
                  have G3 := Lib.hid (G2.out.below hb3)
                  clear hbig3 hb3 B2 HB2 G2
                  go_wp2_with fail
                  refine (CB.out _ HB3.out).mono ?_
                  rintro e' w4 ⟨rfl, rfl⟩
                  go_wp2
                  go_meet
                  case rel => exact ⟨G3.out, by first | rfl | (rw [← HUL.out]; rfl) | (rw [← HUL.out]; simp), B3⟩
              ·
                go_wp2_with fail
                refine (CD.out _ HBig.out).mono ?_
                rintro e' w2 ⟨v2, rfl, hbig2, hb2⟩
                have G2 := Lib.hid hbig2
                have B2 := Lib.hid hb2
                have HB2 := Lib.hid (HBig.out.below hb2)
                clear hbig2 hb2
                go_wp2_with fail
                refine (CM.out _ HB2.out).mono ?_
                rintro e' w3 ⟨v3, rfl, hbig3, hb3⟩
                have B3 := Lib.hid (B2.out.trans (hb3.mono B2.out.size))
                have HB3 := Lib.hid (HB2.out.below hb3)
                have G3 := Lib.hid (G2.out.below hb3)
                clear hbig3 hb3 B2 HB2 G2
                go_wp2_with fail
                refine (CB.out _ HB3.out).mono ?_
                rintro e' w4 ⟨rfl, rfl⟩
                go_wp2
                go_meet
                case rel => exact ⟨G3.out, by first | rfl | (rw [← HUL.out]; rfl) | (rw [← HUL.out]; simp), B3⟩
          · have d1 : decide ((1 : Int) < (l : Int)) = false := decide_eq_false (by omega)
            have d2 : decide (1 < l) = false := decide_eq_false h1
            rw [d2] at HUL
            clear h1
            cases hb
            ·
              go_wp2_with fail
              refine (CD.out _ HBig.out).mono ?_
              rintro e' w2 ⟨v2, rfl, hbig2, hb2⟩
              have G2 := Lib.hid hbig2
              have B2 := Lib.hid hb2
              have HB2 := Lib.hid (HBig.out.below hb2)
              clear hbig2 hb2
              go_wp2_with fail
              refine (CB.out _ HB2.out).mono ?_
              rintro e' w4 ⟨rfl, rfl⟩
              go_wp2
              go_meet
              case rel => exact ⟨G2.out, by first | rfl | (rw [← HUL.out]; rfl) | (rw [← HUL.out]; simp), B2⟩
            · cases more
              ·
                go_wp2_with fail
                refine (CD.out _ HBig.out).mono ?_
                rintro e' w2 ⟨v2, rfl, hbig2, hb2⟩
                have G2 := Lib.hid hbig2
                have B2 := Lib.hid hb2
                have HB2 := Lib.hid (HBig.out.below hb2)
                clear hbig2 hb2
                go_wp2_with fail
                refine (CB.out _ HB2.out).mono ?_
                rintro e' w4 ⟨rfl, rfl⟩
                go_wp2_with fail
                refine (CQ.out _ _ G2.out).mono ?_
                rintro e' w5 ⟨rfl, rfl⟩
                go_wp2
                go_meet
                case rel => exact ⟨G2.out, by first | rfl | (rw [← HUL.out]; rfl) | (rw [← HUL.out]; simp), B2⟩
              ·
                go_wp2_with fail
                refine (CD.out _ HBig.out).mono ?_
                rintro e' w2 ⟨v2, rfl, hbig2, hb2⟩
                have G2 := Lib.hid hbig2
                have B2 := Lib.hid hb2
                have HB2 := Lib.hid (HBig.out.below hb2)
                clear hbig2 hb2
                go_wp2_with fail
                refine (CB.out _ HB2.out).mono ?_
                rintro e' w4 ⟨rfl, rfl⟩
                go_wp2
                go_meet
                case rel => exact ⟨G2.out, by first | rfl | (rw [← HUL.out]; rfl) | (rw [← HUL.out]; simp), B2⟩
        · have dp : decide (0 < lo) = false := decide_eq_false hpos
          obtain ⟨l, hl⟩ : ∃ l : Nat, -lo = (l : Int) := ⟨(-lo).toNat, by omega⟩
          have hwr : IntKind.i64.wrap (-lo) = (l : Int) := by rw [IntKind.wrap_i64]; omega
          have hQl : n * 2 ^ l = Q := by
            have := HQ.out
            unfold quoN at this
            rw [if_neg hpos, hl, Int.toNat_natCast] at this
            exact this
          have hUl : U = false := by
            have := HU.out
            unfold upN at this
            rw [if_neg hpos] at this
            exact this.symm
          subst hUl
          have CU : Hid (∀ w, Big w (.slice a1 L1 cap1) n → Calls Tryz.prog 99 #[.slice a1 L1 cap1, .int .i64 (l : Int)] w (BigPost w Q)) := Lib.hid (by rw [← hQl]; exact fun w H => up_any _ n l w H (by have := HX.out; omega) (by omega))
          clear hQl hlo2
          go_wp2_with fail
          refine (CU.out _ HBig.out).mono ?_
          rintro e' w2 ⟨v2, rfl, hbig2, hb2⟩
          have G2 := Lib.hid hbig2
          have B2 := Lib.hid hb2
          clear hbig2 hb2
          go_wp2
          go_meet
          case rel => exact ⟨G2.out, rfl, B2⟩
      case rest =>
        obtain ⟨hbq, rfl, HBw⟩ := hcut
        have GQ := Lib.hid hbq
        clear hbq
        have hwq : (Nm.wds Q).length ≤ 2 := Nm.wds_len2 (Nat.lt_of_le_of_lt (show Q ≤ 2 ^ 53 by have := HK.out; have := HK2.out; omega) (by decide))
        have HWQ := Lib.hid hwq
        clear hwq
        go_upto_if 64 with fail
        go_cut [11] from 16 (fun q wx => Big wx q K ∧ Hid (Below w1.heap.size w1 wx))
        case first =>
          cases U
          · have hKQ : K = Q := by have := HK.out; simpa using this
            subst hKQ
            go_wp2_with fail
            go_meet
            case rel => exact ⟨GQ.out, HBw⟩
          · have hKQ : K = Q + 1 := by have := HK.out; simpa using this
            subst hKQ
            go_wp2_with fail
            refine (from_any 1 (by decide) _).mono ?_
            rintro e' w2 ⟨v2, rfl, hbig2, hb2⟩
            have G2 := Lib.hid hbig2
            have GQ2 := Lib.hid (GQ.out.below hb2)
            have B2 := Lib.hid (HBw.out.trans (hb2.mono HBw.out.size))
            clear hbig2 hb2
            go_wp2_with fail
            refine (plus_any _ _ Q 1 _ GQ2.out G2.out (by have := HWQ.out; omega) (by have := Nm.wds_len2 (show 1 < 2 ^ (32 * 1) by decide); omega)).mono ?_
            rintro e' w3 ⟨v3, rfl, hbig3, hb3⟩
            have G3 := Lib.hid hbig3
            have B3 := Lib.hid (B2.out.trans (hb3.mono B2.out.size))
            clear hbig3 hb3
            go_wp2
            go_meet
            case rel => exact ⟨G3.out, B3⟩
        case rest =>
          obtain ⟨hbk, HBk⟩ := hcut
          have GK := Lib.hid hbk
          have HWK := Lib.hid (show (Nm.wds K).length ≤ 2 from Nm.wds_len2 (Nat.lt_of_le_of_lt HK2.out (by decide)))
          have HE := Lib.hid (show -1074 ≤ e + lo by
            have : -1074 - e ≤ lo := by rw [← hlo2]; split <;> omega
            omega)
          obtain ⟨NK, hNK⟩ : ∃ q, Nm.nb K = q := ⟨_, rfl⟩
          have HNK := Lib.hid hNK
          obtain ⟨K2, hK2⟩ : ∃ q, (if 53 < NK then K / 2 else K) = q := ⟨_, rfl⟩
          obtain ⟨E2, hE2⟩ : ∃ q, (if 53 < NK then e + lo + 1 else e + lo) = q := ⟨_, rfl⟩
          have HR := Lib.hid (show Nm.round s n e more = Nm.word s (Nm.lay K2 E2) by
            unfold Nm.round Nm.refRung
            rw [if_neg hn0, HLO.out, HK3.out, hNK, ← hK2, ← hE2]
            split <;> rfl)
          have hNK3 : NK ≤ 54 := by rw [← hNK]; exact (Nm.nb_le_iff K 54).2 (Nat.lt_of_le_of_lt HK2.out (by decide))
          have HK5 := Lib.hid (show K2 < 2 ^ 53 by
            rw [← hK2]
            have := HK2.out
            split
            · omega
            · exact (Nm.nb_le_iff K 53).1 (by omega))
          have HE5 := Lib.hid (show -1074 ≤ E2 by rw [← hE2]; have := HE.out; split <;> omega)
          have hE6 : E2 ≤ 20000000 := by rw [← hE2]; split <;> omega
          clear hbk hNK hlo2
          go_upto_if 73 with (go_at_call 74; refine (bits_any _ K _ GK.out).mono ?_; rintro e' wz ⟨rfl, rfl⟩; rw [HNK.out])
          go_cut [2, 11] from 16 (fun e3 q wx => e3 = .int .i64 E2 ∧ Big wx q K2 ∧ Hid (Below w1.heap.size w1 wx))
          case first =>
            by_cases h53 : 53 < NK
            · have d53 : decide ((53 : Int) < (NK : Int)) = true := decide_eq_true (by omega)
              have d53b : decide (53 < NK) = true := decide_eq_true h53
              rw [if_pos h53] at hK2 hE2
              subst hK2
              have CD : Hid (∀ w v, Big w v K → Calls Tryz.prog 108 #[v, .int .i64 1] w (DownPost w (K / 2) (K % 2 ^ 1 != 0))) := Lib.hid (fun w v H => down_any v K 1 w H (by have := HWK.out; omega) (by omega))
              go_wp2_with fail
              refine (CD.out _ _ GK.out).mono ?_
              rintro e' w2 ⟨v2, rfl, hbig2, hb2⟩
              have G2 := Lib.hid hbig2
              have B2 := Lib.hid (HBk.out.trans (hb2.mono HBk.out.size))
              clear hbig2 hb2
              go_wp2
              go_meet
              case rel => exact ⟨by rw [← hE2], G2.out, B2⟩
            · have d53 : decide ((53 : Int) < (NK : Int)) = false := decide_eq_false (by omega)
              have d53b : decide (53 < NK) = false := decide_eq_false h53
              rw [if_neg h53] at hK2 hE2
              subst hK2
              go_wp2_with fail
              go_meet
              case rel => exact ⟨by rw [← hE2], GK.out, HBk⟩
          case rest =>
            obtain ⟨rfl, hb5, HB5⟩ := hcut
            have G5 := Lib.hid hb5
            have hm64 : K2 % 2 ^ 64 = K2 := Nat.mod_eq_of_lt (Nat.lt_trans HK5.out (by decide))
            have CL : Hid (∀ w v, Big w v K2 → Calls Tryz.prog 101 #[v] w fun e w' => e = .returned (.int .u64 (K2 : Int)) ∧ w' = w) := Lib.hid (fun w v H => by have := low_any v K2 w H; rw [hm64] at this; exact this)
            have hr := HR.out
            unfold Nm.lay at hr
            clear hb5 hm64 hK2 hE2
            have HSO : Hid (∀ r : Nat, r < 2 ^ 63 → bits .or .u64 (S : Int) (r : Int) = ((Nm.word s r : Nat) : Int)) := Lib.hid (by rw [← HSg.out]; exact fun r => or_sgn s r)
            have h53 := HK5.out
            by_cases hlt : K2 < 2 ^ 52
            · have c1 : decide ((K2 : Int) < 4503599627370496) = true := decide_eq_true (by omega)
              have c2 : decide (K2 < 4503599627370496) = true := decide_eq_true (by omega)
              rw [if_pos hlt] at hr
              have ho := HSO.out K2 (by omega)
              obtain ⟨R, hR⟩ : ∃ R, Nm.word s K2 = R := ⟨_, rfl⟩
              rw [hR] at ho hr
              have HRR := Lib.hid hr
              clear hr
              go_wp2_with fail
              refine (CL.out _ _ G5.out).mono ?_
              rintro e' w2 ⟨rfl, rfl⟩
              go_wp2
              go_ret
              exact ⟨by rw [HRR.out]; rfl, HB5.out⟩
            · have c1 : decide ((K2 : Int) < 4503599627370496) = false := decide_eq_false (by omega)
              have c2 : decide (K2 < 4503599627370496) = false := decide_eq_false (by omega)
              rw [if_neg hlt] at hr
              by_cases hbig : 2047 ≤ E2 + 1075
              · have c3 : decide (2047 ≤ E2 + 1075) = true := decide_eq_true hbig
                rw [if_pos hbig] at hr
                have ho := HSO.out 9218868437227405312 (by decide)
                rw [show ((9218868437227405312 : Nat) : Int) = 9218868437227405312 from rfl] at ho
                rw [show 2047 * 2 ^ 52 = 9218868437227405312 from rfl] at hr
                obtain ⟨R, hR⟩ : ∃ R, Nm.word s 9218868437227405312 = R := ⟨_, rfl⟩
                rw [hR] at ho hr
                have HRR := Lib.hid hr
                clear hr
                go_wp2_with fail
                refine (CL.out _ _ G5.out).mono ?_
                rintro e' w2 ⟨rfl, rfl⟩
                go_wp2
                go_ret
                exact ⟨by rw [HRR.out]; rfl, HB5.out⟩
              · have c3 : decide (2047 ≤ E2 + 1075) = false := decide_eq_false hbig
                rw [if_neg hbig] at hr
                obtain ⟨t, ht⟩ : ∃ t : Nat, E2 + 1075 = (t : Int) := ⟨(E2 + 1075).toNat, by have := HE5.out; omega⟩
                have ht2 : t ≤ 2046 := by omega
                have c4 : decide ((2047 : Int) ≤ (t : Int)) = false := decide_eq_false (by omega)
                have c5 : decide (2047 ≤ t) = false := decide_eq_false (by omega)
                obtain ⟨M2, hM2⟩ : ∃ q, K2 - 2 ^ 52 = q := ⟨_, rfl⟩
                have hM3 : (K2 : Int) - 4503599627370496 = (M2 : Int) := by omega
                have hM4 : M2 < 2 ^ 52 := by omega
                have ho := HSO.out (t * 2 ^ 52) (by omega)
                rw [ht, Int.toNat_natCast, hM2] at hr
                have hor := or_word s t M2 ht2 hM4
                obtain ⟨R, hR⟩ : ∃ R, Nm.word s (t * 2 ^ 52 + M2) = R := ⟨_, rfl⟩
                obtain ⟨R1, hR1⟩ : ∃ R, Nm.word s (t * 2 ^ 52) = R := ⟨_, rfl⟩
                rw [hR1] at ho hor
                rw [hR] at hor hr
                have HRR := Lib.hid hr
                clear hr
                have ho2 : bits .or .u64 (S : Int) ((t : Int) * 4503599627370496) = (R1 : Int) := by
                  rw [← ho]; congr 1
                clear ho hM2 hR hR1
                go_wp2_with fail
                refine (CL.out _ _ G5.out).mono ?_
                rintro e' w2 ⟨rfl, rfl⟩
                go_wp2
                go_ret
                exact ⟨by rw [HRR.out]; rfl, HB5.out⟩
end Go.Proofs.YtffohkpohgkglaaGreat
