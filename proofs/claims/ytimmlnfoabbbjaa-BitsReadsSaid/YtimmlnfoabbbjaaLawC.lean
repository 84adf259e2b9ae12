/-
  THE WALK of the statement BitsReads.
-/
import Derived.Test.YtimmlnfoabbbjaaRefC
import Derived.Test.YtimmlnfoabbbjaaOps
namespace Go.Proofs.Ytimmlnfoabbbjaa
open Go.RowKit
/-- both readers stand at one place -/
structure Both (w : World) (bs : List Nat) (p g q h at_ : Nat) (wr : World) : Prop where
  rd : Rd wr p g bs at_
  rf : Rf wr q h (Bt.unpack bs) at_
  below : Below w.heap.size w wr
/-- their memory is apart, and new -/
structure Apart (N p g q h : Nat) : Prop where
  np : N ≤ p
  nq : N ≤ q
  pq : p ≠ q
  gq : g ≠ q
  hp : h ≠ p
theorem Both.le {w wr : World} {bs : List Nat} {p g q h at_ : Nat} (H : Both w bs p g q h at_ wr) : at_ ≤ 8 * bs.length := by
  obtain ⟨⟨_, _, _, _, _, h, _⟩, _⟩ := H
  exact h
theorem Both.step {w wr w1 w2 : World} {bs : List Nat} {p g q h at_ c : Nat} (H : Both w bs p g q h at_ wr) (A : Apart w.heap.size p g q h) (h1 : TakePost wr p g bs (at_ + c) w1) (h2 : Rf w2 q h (Bt.unpack bs) (at_ + c)) (h3 : Only [q] w1 w2) : Both w bs p g q h (at_ + c) w2 :=
  ⟨h1.1.only h3 (by simpa using A.pq) (by simpa using A.gq), h2, (H.below.trans (h1.2.below H.below.size (by intro x hx; simp at hx; have := A.np; omega))).trans (h3.below (Nat.le_trans H.below.size h1.2.size) (by intro x hx; simp at hx; have := A.nq; omega))⟩
theorem Both.mid {w wr w1 : World} {bs : List Nat} {p g q h at_ x : Nat} (H : Both w bs p g q h at_ wr) (A : Apart w.heap.size p g q h) (h1 : TakePost wr p g bs x w1) : Rf w1 q h (Bt.unpack bs) at_ :=
  H.rf.only h1.2 (by simpa using fun e => A.pq e.symm) (by simpa using A.hp)
theorem rd_bit (S : List Bool) : (Bt.rd S 1).1 = 0 ∨ (Bt.rd S 1).1 = 1 := by
  unfold Bt.rd
  rw [if_neg (by omega)]
  split
  · exact .inl rfl
  · have := Bt.val_lt (S.take (Int.toNat 1))
    have h2 : (S.take (Int.toNat 1)).length ≤ 1 := by rw [List.length_take]; exact Nat.min_le_left _ _
    have h3 := Nat.pow_le_pow_right (n := 2) (by decide) h2
    show Bt.val _ = 0 ∨ Bt.val _ = 1
    omega
set_option maxRecDepth 100000 in
set_option maxHeartbeats 1000000 in
theorem reads_law (a0 : Option Addr) (bs : List Nat) (cap : Nat) (a1 : Option Addr) (os : List Call3) (cap1 : Nat) (w : World) (H : Bys w a0 bs) (hc0 : a0 = none → cap = 0) (H1 : Ops w a1 os) :
    Calls Try.prog 4 #[.slice a0 bs.length cap, .slice a1 os.length cap1] w fun e w' => e = .returned (.bool true) ∧ Below w.heap.size w w' := by
  have A0 := Lib.hid H
  have C0 := Lib.hid hc0
  have O0 := Lib.hid H1
  have hl := H.1
  unfold maxLen at hl
  clear H hc0 H1
  by_cases hbig : 100000 < bs.length
  · have hd : decide ((bs.length : Int) > 100000) = true := by simp; omega
    go_enter Try.func4, Try.ntmps4
    go_wp2
    go_ret
    exact ⟨rfl, Below.refl _ _⟩
  · have hd : decide ((bs.length : Int) > 100000) = false := by simp; omega
    have hsm : bs.length ≤ 100000 := by omega
    go_enter Try.func4, Try.ntmps4
    go_wp2_with fail
    refine (lent_any a0 bs cap _ A0.out C0.out hsm).mono ?_
    rintro e w1 ⟨g0, hg0, rfl, L1, hb1⟩
    have XL := Lib.hid L1
    have Y1 := Lib.hid (L1.bytes A0.out.1 A0.out.2.1)
    have B1 := Lib.hid hb1
    clear L1 hb1
    go_wp2_with fail
    refine (read_any (some ⟨g0, 0, none⟩) bs (bs.length + 2) _ Y1.out (fun h => by cases h) (by omega)).mono ?_
    rintro e w2 ⟨p, g, rfl, hp, hg, hrd, hb2⟩
    have R2 := Lib.hid hrd
    have L2 := Lib.hid (XL.out.below hb2)
    have B2 := Lib.hid (B1.out.trans (hb2.mono (Below.size B1.out)))
    have hg0p : g0 < p ∧ g0 < g := by
      have : g0 < w1.heap.size := (Array.getElem?_eq_some_iff.1 XL.out).1
      omega
    have hpw : w.heap.size ≤ p := by omega
    clear hrd hb2 XL Y1 B1 hp hg
    go_wp2_with fail
    refine (whole_any g0 a0 bs cap _ L2.out (A0.out.below B2.out) hsm).mono ?_
    rintro e w3 ⟨rfl, hb3⟩
    have R3 := Lib.hid (R2.out.below hb3)
    have L3 := Lib.hid (L2.out.below hb3)
    have B3 := Lib.hid (B2.out.trans (hb3.mono (Below.size B2.out)))
    clear hb3 R2 L2 B2
    go_wp2_with fail
    refine (spoil_any g0 bs.length (bs.length + 2) _ (by omega) (by omega) _ L3.out (by simp [cellsOf])).mono ?_
    rintro e w4 ⟨rfl, ho4⟩
    have R4 := Lib.hid (R3.out.only ho4 (by simp; omega) (by simp; omega))
    have B4 := Lib.hid (B3.out.trans (ho4.below (Below.size B3.out) (by intro x hx; simp at hx; omega)))
    clear ho4 R3 L3 B3
    go_wp2_with fail
    refine (known_any _).mono ?_
    rintro e w5 ⟨rfl, hb5⟩
    have R5 := Lib.hid (R4.out.below hb5)
    have B5 := Lib.hid (B4.out.trans (hb5.mono (Below.size B4.out)))
    clear hb5 R4 B4
    go_wp2_with fail
    refine (fread_any a0 bs cap _ (A0.out.below B5.out) (by omega)).mono ?_
    rintro e w6 ⟨q, h, rfl, hq, hh, hrf, hb6⟩
    have AP : Apart w.heap.size p g q h := by
      have h1 := R5.out.lt
      have h2 := Below.size B5.out
      exact ⟨hpw, by omega, by omega, by omega, by omega⟩
    have D6 := Lib.hid (show Both w bs p g q h 0 w6 from ⟨R5.out.below hb6, hrf, B5.out.trans (hb6.mono (Below.size B5.out))⟩)
    have HAP := Lib.hid AP
    clear hrf hb6 R5 B5 hq hh AP hg0 hg0p
    go_wp2
    go_loopw [9] (fun i wr => ∃ k at_ : Nat, k ≤ os.length ∧ k ≤ 2000 ∧ i = .int .i64 (k : Nat) ∧ Hid (Both w bs p g q h at_ wr)) (fun i _ => 2000 - (intOf i).toNat)
    case atStart => exact ⟨0, 0, Nat.zero_le _, Nat.zero_le _, rfl, D6⟩
    case round =>
      obtain ⟨k, at_, hk, hk2, rfl, HD⟩ := hrel
      have hU : (Bt.unpack bs).length = 8 * bs.length := Bt.unpack_length bs
      have hle := HD.out.le
      by_cases hlt : k < os.length
      · by_cases hlt2 : k < 2000
        · obtain ⟨b, off, rfl, hb, hcs⟩ := O0.out.2 (by intro h; rw [h] at hlt; simp at hlt)
          obtain ⟨k1w, k2w, k3w⟩ := hcs k hlt
          have hft := (O0.out).1 _ (List.getElem_mem hlt)
          obtain ⟨⟨kd, v, n⟩, hoo⟩ : ∃ o, o = os[k] := ⟨_, rfl⟩
          rw [← hoo] at k1w k2w k3w hft
          obtain ⟨hf1, hf2, hf3, hf4⟩ := hft
          simp only at k1w k2w k3w hf1 hf2 hf3 hf4
          have k1 : wr.cell? ⟨b, off + k * 3, none⟩ = some (.int .u8 (kd : Nat)) := (HD.out.below.cell (p := ⟨b, off + k * 3, none⟩) hb).trans k1w
          have k3 : wr.cell? ⟨b, off + k * 3 + 2, none⟩ = some (.int .i64 n) := (HD.out.below.cell (p := ⟨b, off + k * 3 + 2, none⟩) hb).trans k3w
          clear hcs hoo k1w k2w
          have hd1 : decide (k < os.length) = true := by simpa using hlt
          have hd2 : decide ((k : Int) < 2000) = true := by simp; omega
          have hi1 : (k : Int) < (os.length : Int) := by omega
          have hkk : kd % 4 = 0 ∨ kd % 4 = 1 ∨ kd % 4 = 2 ∨ kd % 4 = 3 := by omega
          rcases hkk with hkk | hkk | hkk | hkk
          · have q0 : ((kd : Int) % 4 == 0) = true := by simp; omega
            clear hkk
            obtain ⟨x, hx⟩ : ∃ x, (Bt.rd ((Bt.unpack bs).drop at_) 1).1 = x := ⟨_, rfl⟩
            obtain ⟨y, hy⟩ : ∃ y, (Bt.rd ((Bt.unpack bs).drop at_) 1).2.1 = y := ⟨_, rfl⟩
            obtain ⟨c, hc⟩ : ∃ c, (Bt.rd ((Bt.unpack bs).drop at_) 1).2.2 = c := ⟨_, rfl⟩
            have HX := Lib.hid hx
            have HY := Lib.hid hy
            have HC := Lib.hid hc
            clear hx hy hc
            have hx1 : x = 0 ∨ x = 1 := by rw [← HX.out]; exact rd_bit _
            rcases hx1 with rfl | rfl
            all_goals
              go_wp2_with fail
              refine (rbit_any p g bs at_ _ HD.out.rd (by omega)).mono ?_
              rintro e w7 ⟨rfl, ht⟩
              have HT := Lib.hid ht
              have M7 := Lib.hid (HD.out.mid HAP.out ht)
              have HB7 := Lib.hid (HD.out.below.trans (ht.2.below (Below.size HD.out.below) (by intro x hx; simp at hx; have := HAP.out.np; omega)))
              have k3b : w7.cell? ⟨b, off + k * 3 + 2, none⟩ = some (.int .i64 n) := (HB7.out.cell (p := ⟨b, off + k * 3 + 2, none⟩) hb).trans k3w
              clear ht
              rw [HX.out, HY.out] at ⊢
              rw [HC.out] at HT
              go_wp2_with fail
              refine (fnext_any q h (Bt.unpack bs) at_ 1 _ M7.out (by omega) (by omega)).mono ?_
              rintro e w8 ⟨rfl, hr, ho⟩
              rw [HC.out] at hr
              rw [HX.out, HY.out] at ⊢
              have DN := Lib.hid (HD.out.step HAP.out HT.out hr ho)
              have hleN := DN.out.le
              obtain ⟨at2, hat2⟩ : ∃ at2, at_ + c = at2 := ⟨_, rfl⟩
              rw [hat2] at DN hleN
              clear hr ho hat2
              go_wp2_with fail
              refine (left_any p g bs at2 _ DN.out.rd (by omega)).mono ?_
              rintro e w9 ⟨rfl, hb9⟩
              have D9 := Lib.hid (show Both w bs p g q h at2 w9 from ⟨DN.out.rd.below hb9, DN.out.rf.below hb9, DN.out.below.trans (hb9.mono (Below.size DN.out.below))⟩)
              clear hb9
              go_wp2_with fail
              refine (fleft_any q h (Bt.unpack bs) at2 _ D9.out.rf (by omega) (by omega)).mono ?_
              rintro e w10 ⟨rfl, hb10⟩
              rw [hU]
              have D10 := Lib.hid (show Both w bs p g q h at2 w10 from ⟨D9.out.rd.below hb10, D9.out.rf.below hb10, D9.out.below.trans (hb10.mono (Below.size D9.out.below))⟩)
              clear hb10
              go_wp2
              go_roundw
              case rel => exact ⟨k + 1, at2, by omega, by omega, by go_num, D10⟩
              case measure => simp [intOf]; omega
          · have q0 : ((kd : Int) % 4 == 0) = false := by simp; omega
            have q1 : ((kd : Int) % 4 == 1) = true := by simp; omega
            clear hkk
            obtain ⟨x, hx⟩ : ∃ x, (Bt.rd ((Bt.unpack bs).drop at_) n).1 = x := ⟨_, rfl⟩
            obtain ⟨y, hy⟩ : ∃ y, (Bt.rd ((Bt.unpack bs).drop at_) n).2.1 = y := ⟨_, rfl⟩
            obtain ⟨c, hc⟩ : ∃ c, (Bt.rd ((Bt.unpack bs).drop at_) n).2.2 = c := ⟨_, rfl⟩
            have HX := Lib.hid hx
            have HY := Lib.hid hy
            have HC := Lib.hid hc
            clear hx hy hc
            go_wp2_with fail
            refine (rbits_any p g bs at_ n _ HD.out.rd (by omega)).mono ?_
            rintro e w7 ⟨rfl, ht⟩
            have HT := Lib.hid ht
            have M7 := Lib.hid (HD.out.mid HAP.out ht)
            have HB7 := Lib.hid (HD.out.below.trans (ht.2.below (Below.size HD.out.below) (by intro x hx; simp at hx; have := HAP.out.np; omega)))
            have k3b : w7.cell? ⟨b, off + k * 3 + 2, none⟩ = some (.int .i64 n) := (HB7.out.cell (p := ⟨b, off + k * 3 + 2, none⟩) hb).trans k3w
            clear ht
            rw [HX.out, HY.out] at ⊢
            rw [HC.out] at HT
            go_wp2_with fail
            refine (fnext_any q h (Bt.unpack bs) at_ n _ M7.out (by omega) (by omega)).mono ?_
            rintro e w8 ⟨rfl, hr, ho⟩
            rw [HC.out] at hr
            rw [HX.out, HY.out] at ⊢
            have DN := Lib.hid (HD.out.step HAP.out HT.out hr ho)
            have hleN := DN.out.le
            obtain ⟨at2, hat2⟩ : ∃ at2, at_ + c = at2 := ⟨_, rfl⟩
            rw [hat2] at DN hleN
            clear hr ho hat2
            go_wp2_with fail
            refine (left_any p g bs at2 _ DN.out.rd (by omega)).mono ?_
            rintro e w9 ⟨rfl, hb9⟩
            have D9 := Lib.hid (show Both w bs p g q h at2 w9 from ⟨DN.out.rd.below hb9, DN.out.rf.below hb9, DN.out.below.trans (hb9.mono (Below.size DN.out.below))⟩)
            clear hb9
            go_wp2_with fail
            refine (fleft_any q h (Bt.unpack bs) at2 _ D9.out.rf (by omega) (by omega)).mono ?_
            rintro e w10 ⟨rfl, hb10⟩
            rw [hU]
            have D10 := Lib.hid (show Both w bs p g q h at2 w10 from ⟨D9.out.rd.below hb10, D9.out.rf.below hb10, D9.out.below.trans (hb10.mono (Below.size D9.out.below))⟩)
            clear hb10
            go_wp2
            go_roundw
            case rel => exact ⟨k + 1, at2, by omega, by omega, by go_num, D10⟩
            case measure => simp [intOf]; omega
          · have q0 : ((kd : Int) % 4 == 0) = false := by simp; omega
            have q1 : ((kd : Int) % 4 == 1) = false := by simp; omega
            have q2 : ((kd : Int) % 4 == 2) = true := by simp; omega
            clear hkk
            obtain ⟨x, hx⟩ : ∃ x, (Bt.rv ((Bt.unpack bs).drop at_)).1 = x := ⟨_, rfl⟩
            obtain ⟨y, hy⟩ : ∃ y, (Bt.rv ((Bt.unpack bs).drop at_)).2.1 = y := ⟨_, rfl⟩
            obtain ⟨c, hc⟩ : ∃ c, (Bt.rv ((Bt.unpack bs).drop at_)).2.2 = c := ⟨_, rfl⟩
            have HX := Lib.hid hx
            have HY := Lib.hid hy
            have HC := Lib.hid hc
            clear hx hy hc
            go_wp2_with fail
            refine (rvarint_any p g bs at_ _ HD.out.rd (by omega)).mono ?_
            rintro e w7 ⟨rfl, ht⟩
            have HT := Lib.hid ht
            have M7 := Lib.hid (HD.out.mid HAP.out ht)
            have HB7 := Lib.hid (HD.out.below.trans (ht.2.below (Below.size HD.out.below) (by intro x hx; simp at hx; have := HAP.out.np; omega)))
            have k3b : w7.cell? ⟨b, off + k * 3 + 2, none⟩ = some (.int .i64 n) := (HB7.out.cell (p := ⟨b, off + k * 3 + 2, none⟩) hb).trans k3w
            clear ht
            rw [HX.out, HY.out] at ⊢
            rw [HC.out] at HT
            go_wp2_with fail
            refine (fvarint_any q h (Bt.unpack bs) at_ _ M7.out (by omega) (by omega)).mono ?_
            rintro e w8 ⟨rfl, hr, ho⟩
            rw [HC.out] at hr
            rw [HX.out, HY.out] at ⊢
            have DN := Lib.hid (HD.out.step HAP.out HT.out hr ho)
            have hleN := DN.out.le
            obtain ⟨at2, hat2⟩ : ∃ at2, at_ + c = at2 := ⟨_, rfl⟩
            rw [hat2] at DN hleN
            clear hr ho hat2
            go_wp2_with fail
            refine (left_any p g bs at2 _ DN.out.rd (by omega)).mono ?_
            rintro e w9 ⟨rfl, hb9⟩
            have D9 := Lib.hid (show Both w bs p g q h at2 w9 from ⟨DN.out.rd.below hb9, DN.out.rf.below hb9, DN.out.below.trans (hb9.mono (Below.size DN.out.below))⟩)
            clear hb9
            go_wp2_with fail
            refine (fleft_any q h (Bt.unpack bs) at2 _ D9.out.rf (by omega) (by omega)).mono ?_
            rintro e w10 ⟨rfl, hb10⟩
            rw [hU]
            have D10 := Lib.hid (show Both w bs p g q h at2 w10 from ⟨D9.out.rd.below hb10, D9.out.rf.below hb10, D9.out.below.trans (hb10.mono (Below.size D9.out.below))⟩)
            clear hb10
            go_wp2
            go_roundw
            case rel => exact ⟨k + 1, at2, by omega, by omega, by go_num, D10⟩
            case measure => simp [intOf]; omega
          · have q0 : ((kd : Int) % 4 == 0) = false := by simp; omega
            have q1 : ((kd : Int) % 4 == 1) = false := by simp; omega
            have q2 : ((kd : Int) % 4 == 2) = false := by simp; omega
            clear hkk
            obtain ⟨x, hx⟩ : ∃ x, (Bt.rv ((Bt.unpack bs).drop at_)).1 = x := ⟨_, rfl⟩
            obtain ⟨y, hy⟩ : ∃ y, (Bt.rv ((Bt.unpack bs).drop at_)).2.1 = y := ⟨_, rfl⟩
            obtain ⟨c, hc⟩ : ∃ c, (Bt.rv ((Bt.unpack bs).drop at_)).2.2 = c := ⟨_, rfl⟩
            have HX := Lib.hid hx
            have HY := Lib.hid hy
            have HC := Lib.hid hc
            clear hx hy hc
            go_wp2_with fail
            refine (rsigned_any p g bs at_ _ HD.out.rd (by omega)).mono ?_
            rintro e w7 ⟨rfl, ht⟩
            have HT := Lib.hid ht
            have M7 := Lib.hid (HD.out.mid HAP.out ht)
            have HB7 := Lib.hid (HD.out.below.trans (ht.2.below (Below.size HD.out.below) (by intro x hx; simp at hx; have := HAP.out.np; omega)))
            have k3b : w7.cell? ⟨b, off + k * 3 + 2, none⟩ = some (.int .i64 n) := (HB7.out.cell (p := ⟨b, off + k * 3 + 2, none⟩) hb).trans k3w
            clear ht
            rw [HX.out, HY.out] at ⊢
            rw [HC.out] at HT
            obtain ⟨z, hz⟩ : ∃ z, Bt.uz x = z := ⟨_, rfl⟩
            have HZ := Lib.hid hz
            rw [hz]
            clear hz
            go_wp2_with fail
            refine (fsigned_any q h (Bt.unpack bs) at_ _ M7.out (by omega) (by omega)).mono ?_
            rintro e w8 ⟨rfl, hr, ho⟩
            rw [HC.out] at hr
            rw [HX.out, HY.out, HZ.out] at ⊢
            have DN := Lib.hid (HD.out.step HAP.out HT.out hr ho)
            have hleN := DN.out.le
            obtain ⟨at2, hat2⟩ : ∃ at2, at_ + c = at2 := ⟨_, rfl⟩
            rw [hat2] at DN hleN
            clear hr ho hat2
            go_wp2_with fail
            refine (left_any p g bs at2 _ DN.out.rd (by omega)).mono ?_
            rintro e w9 ⟨rfl, hb9⟩
            have D9 := Lib.hid (show Both w bs p g q h at2 w9 from ⟨DN.out.rd.below hb9, DN.out.rf.below hb9, DN.out.below.trans (hb9.mono (Below.size DN.out.below))⟩)
            clear hb9
            go_wp2_with fail
            refine (fleft_any q h (Bt.unpack bs) at2 _ D9.out.rf (by omega) (by omega)).mono ?_
            rintro e w10 ⟨rfl, hb10⟩
            rw [hU]
            have D10 := Lib.hid (show Both w bs p g q h at2 w10 from ⟨D9.out.rd.below hb10, D9.out.rf.below hb10, D9.out.below.trans (hb10.mono (Below.size D9.out.below))⟩)
            clear hb10
            go_wp2
            go_roundw
            case rel => exact ⟨k + 1, at2, by omega, by omega, by go_num, D10⟩
            case measure => simp [intOf]; omega
        · have hd1 : decide ((k : Int) < (os.length : Int)) = true := by simp; omega
          have hd2 : decide ((k : Int) < 2000) = false := by simp; omega
          go_wp2
          go_ret
          exact ⟨rfl, HD.out.below⟩
      · have hd1 : decide (k < os.length) = false := by simp; omega
        go_wp2
        go_ret
        exact ⟨rfl, HD.out.below⟩
end Go.Proofs.Ytimmlnfoabbbjaa
