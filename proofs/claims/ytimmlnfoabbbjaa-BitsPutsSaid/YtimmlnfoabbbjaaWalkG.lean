/-
  WALKS of the reader's Signed, of 'SameBytes', of 'known'.
-/
import Derived.Test.YtimmlnfoabbbjaaWalkF
import Derived.Laws.DeepNot64
namespace Go.Proofs.Ytimmlnfoabbbjaa
open Go.RowKit
def RsPost (w : World) (p g : Nat) (ds : List Nat) (at_ : Nat) (e : Ending) (w' : World) : Prop :=
  e = .returned (.tuple #[.int .i64 (Bt.uz (Bt.rv ((Bt.unpack ds).drop at_)).1), .int .u16 (((Bt.rv ((Bt.unpack ds).drop at_)).2.1 : Nat) : Int)]) ∧ TakePost w p g ds (at_ + (Bt.rv ((Bt.unpack ds).drop at_)).2.2) w'
set_option maxHeartbeats 400000 in
theorem rsigned_any (p g : Nat) (ds : List Nat) (at_ : Nat) (w : World) (H : Rd w p g ds at_) (hbd : ds.length ≤ 1000000000) :
    Calls Try.prog 26 #[.pointer (some ⟨p, 0, none⟩)] w (RsPost w p g ds at_) := by
  have H0 := Lib.hid H
  obtain ⟨t, ht⟩ : ∃ t, (Bt.rv ((Bt.unpack ds).drop at_)).1 = t := ⟨_, rfl⟩
  have hlt : t < 18446744073709551616 := by rw [← ht]; exact Bt.rv_lt _
  have HT := Lib.hid ht
  have hl2 : t / 2 < 9223372036854775808 := by omega
  have HU : Hid (Bt.uz t = if t % 2 = 1 then -1 - ((t / 2 : Nat) : Int) else ((t / 2 : Nat) : Int)) := by unfold Bt.uz; show _ = _; split <;> omega
  clear H ht
  by_cases h : t % 2 = 1
  · have hn := i64_not (t / 2) hl2
    have HN := Lib.hid hn
    have hd : ((t : Int) % 2 == 1) = true := by simp; omega
    rw [if_pos h] at HU
    clear hn h
    go_enter Try.func26, Try.ntmps26
    go_wp2_with fail
    refine (rvarint_any p g ds at_ _ H0.out hbd).mono ?_
    rintro e w1 ⟨rfl, hp⟩
    rw [HT.out] at ⊢
    have HP := Lib.hid hp
    clear hp
    go_wp2
    go_ret2
    exact ⟨by rw [HT.out, HU.out, ← HN.out]; rfl, HP.out⟩
  · have hd : ((t : Int) % 2 == 1) = false := by simp; omega
    rw [if_neg h] at HU
    clear h
    go_enter Try.func26, Try.ntmps26
    go_wp2_with fail
    refine (rvarint_any p g ds at_ _ H0.out hbd).mono ?_
    rintro e w1 ⟨rfl, hp⟩
    rw [HT.out] at ⊢
    have HP := Lib.hid hp
    clear hp
    go_wp2
    go_ret2
    exact ⟨by rw [HT.out, HU.out]; rfl, HP.out⟩
/-- two slices of the same bytes -/
theorem same_any (a a2 : Option Addr) (bs : List Nat) (cap cap2 : Nat) (w : World) (H : Bys w a bs) (H2 : Bys w a2 bs) :
    Calls Try.prog 13 #[.slice a bs.length cap, .slice a2 bs.length cap2] w fun e w' => e = .returned (.bool true) ∧ Below w.heap.size w w' := by
  have hlen := H.1
  unfold maxLen at hlen
  have A1 := Lib.hid H
  have A2 := Lib.hid H2
  clear H H2
  go_enter Try.func13, Try.ntmps13
  go_wp2
  go_loopw [5] (fun i wr => ∃ k : Nat, k ≤ bs.length ∧ i = .int .i64 k ∧ Hid (Below w.heap.size w wr)) (fun i _ => bs.length - (intOf i).toNat)
  case atStart => exact ⟨0, Nat.zero_le _, rfl, Lib.hid (Below.refl _ _)⟩
  case round =>
    obtain ⟨k, hk, rfl, HB⟩ := hrel
    by_cases hlt : k < bs.length
    · obtain ⟨b, off, rfl, hb, hc⟩ := (A1.out.below HB.out).at k hlt
      obtain ⟨b2, off2, rfl, hb2, hc2⟩ := (A2.out.below HB.out).at k hlt
      generalize bs[k] = c at *
      have hi : (k : Int) < (bs.length : Int) := by omega
      have hd : decide ((k : Int) < (bs.length : Int)) = true := by simp; omega
      go_wp2
      go_quiet (fail)
      go_wp2
      go_roundw
      case rel => exact ⟨k + 1, by omega, by go_num, Lib.hid ((Only.of_below HB.out []).drewN _ |>.below (Nat.le_refl _) (by simp))⟩
      case measure => simp [intOf]; omega
    · obtain rfl : k = bs.length := by omega
      go_wp2
      go_ret
      exact ⟨rfl, HB.out⟩
theorem vb300 : Bt.vb 300 = Bt.unpack [172, 2] := by
  rw [Bt.vb_big (by decide), Bt.vb_small (by decide)]; rfl
theorem rv300 : Bt.rv ((Bt.unpack [172, 2]).drop 0) = (300, 0, 16) := by decide
theorem rd300 : Bt.rd ((Bt.unpack [172, 2]).drop (0 + 16)) 1 = (0, 20, 0) := by decide
theorem packs300 {k : Nat} {bs : List Nat} (hk : k < 8) (h : Bt.Packs k bs (Bt.vb 300)) : bs = [172, 2] :=
  Bt.packs_unique h (j := 0) ⟨by decide, by rw [vb300]; simp⟩ hk (by decide)
set_option maxHeartbeats 400000 in
theorem known_any (w : World) : Calls Try.prog 8 #[] w fun e w' => e = .returned (.bool true) ∧ Below w.heap.size w w' := by
  go_enter Try.func8, Try.ntmps8
  go_wp2_with fail
  refine (new_any _).mono ?_
  rintro e w1 ⟨rfl, hw1, hb1, hs1⟩
  have W1 := Lib.hid hw1
  have B1 := Lib.hid hb1
  clear hw1 hb1 hs1
  go_wp2_with fail
  refine (wvarint_any _ _ [] 300 (by decide) _ W1.out (by decide)).mono ?_
  rintro e w2 ⟨rfl, d2, hw2, hd2, ho2⟩
  have W2 := Lib.hid hw2
  have B2 := Lib.hid (B1.out.trans (ho2.below (Below.size B1.out) (by intro x hx; simp at hx; omega)))
  clear hw2 ho2 hd2 W1 B1
  go_wp2_with fail
  refine (wbytes_any _ _ _ _ W2.out (by rw [List.nil_append, Bt.vb_length]; have := Bt.vg_ten 300 (by decide); omega)).mono ?_
  rintro e w3 ⟨bs, k, hk, hP, a, cap, g, rfl, hR, hg, hb3⟩
  obtain rfl := packs300 hk hP
  have HY := Lib.hid (hR.bys (by decide)).2
  have hc0 : a = none → cap = 0 := by
    intro ha
    subst ha
    rcases hR.value with ⟨h, _⟩ | ⟨_, _, h, _⟩
    · cases h
    · cases h
  have HC := Lib.hid hc0
  have B3 := Lib.hid (B2.out.trans (hb3.mono (Below.size B2.out)))
  clear hP hR hg hb3 hc0 W2 B2 hk
  go_wp2_with fail
  refine (read_any a [172, 2] cap _ HY.out HC.out (by decide)).mono ?_
  rintro e w4 ⟨p4, g4, rfl, hp4, hg4, hrd, hb4⟩
  have R4 := Lib.hid hrd
  have X4 := Lib.hid hb4
  have B4 := Lib.hid (B3.out.trans (hb4.mono (Below.size B3.out)))
  have hp5 : w.heap.size ≤ p4 := Nat.le_trans (Below.size B3.out) hp4
  clear hrd hb4 HC B3 hg4
  go_wp2_with fail
  refine (rvarint_any p4 g4 [172, 2] 0 _ R4.out (by decide)).mono ?_
  rintro e w5 ⟨rfl, ht5⟩
  rw [rv300] at ht5 ⊢
  have R5 := Lib.hid ht5.1
  have B5 := Lib.hid (B4.out.trans (ht5.2.below (Below.size B4.out) (by intro x hx; simp at hx; omega)))
  have X5 := Lib.hid (X4.out.trans (ht5.2.below (Below.size X4.out) (by intro x hx; simp at hx; omega)))
  clear ht5 R4 X4 B4
  go_wp2_with fail
  refine (rbit_any p4 g4 [172, 2] (0 + 16) _ R5.out (by decide)).mono ?_
  rintro e w6 ⟨rfl, ht6⟩
  rw [rd300] at ht6 ⊢
  have B6 := Lib.hid (B5.out.trans (ht6.2.below (Below.size B5.out) (by intro x hx; simp at hx; omega)))
  have X6 := Lib.hid (X5.out.trans (ht6.2.below (Below.size X5.out) (by intro x hx; simp at hx; omega)))
  obtain ⟨b0, off, rfl, hb0, hcs⟩ := (HY.out.below X6.out).2.2 (by decide)
  have h0 := hcs 0 (by decide)
  have h1 := hcs 1 (by decide)
  simp only [List.getElem_cons_zero, List.getElem_cons_succ, Nat.add_zero] at h0 h1
  clear ht6 R5 X5 B5 hcs HY X6 hp4 hp5
  go_wp2
  go_ret
  exact ⟨rfl, B6.out⟩
end Go.Proofs.Ytimmlnfoabbbjaa
