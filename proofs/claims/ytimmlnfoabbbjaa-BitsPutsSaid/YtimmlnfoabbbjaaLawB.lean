/-
  THE WALK of the statement BitsBack.
-/
import Derived.Test.YtimmlnfoabbbjaaOps
import Derived.Test.YtimmlnfoabbbjaaLawA
namespace Go.Proofs.Ytimmlnfoabbbjaa
open Go.RowKit
/-- the writer has the bits of these calls -/
def PutAt (w : World) (os : List Call3) (p N : Nat) (wr : World) : Prop := ∃ d, Wr wr p d (encs os) ∧ Below N w wr ∧ N ≤ p ∧ N ≤ d
theorem put_next {w wr w' : World} {os : List Call3} {k p d : Nat} {x : List Bool} (hb : Below w.heap.size w wr) (hp : w.heap.size ≤ p) (hd : w.heap.size ≤ d) (he : encs (os.take (k + 1)) = encs (os.take k) ++ x)
    (h : PutPost wr p d (encs (os.take k) ++ x) w') : PutAt w (os.take (k + 1)) p w.heap.size w' := by
  obtain ⟨d', h1, h2, h3⟩ := h
  have hs := hb.size
  refine ⟨d', by rw [he]; exact h1, hb.trans (h3.below hs (by intro y hy; simp at hy; omega)), hp, ?_⟩
  rcases h2 with h | h <;> omega
theorem put_same {w wr : World} {os : List Call3} {k p d : Nat} (hb : Below w.heap.size w wr) (hp : w.heap.size ≤ p) (hd : w.heap.size ≤ d) (he : encs (os.take (k + 1)) = encs (os.take k))
    (h : Wr wr p d (encs (os.take k))) : PutAt w (os.take (k + 1)) p w.heap.size wr := ⟨d, by rw [he]; exact h, hb, hp, hd⟩
/-- the reader has read these calls' bits -/
def RdAt (w : World) (os : List Call3) (p g : Nat) (ds : List Nat) (k : Nat) (wr : World) : Prop := Rd wr p g ds (encs (os.take k)).length ∧ Below w.heap.size w wr
theorem row_nil {w : World} {g n cap : Nat} {a : Option Addr} {ds : List Nat} (h : Row w g (.slice a n cap) ds) : a = none → cap = 0 := by
  rintro rfl
  rcases h.value with ⟨h, _⟩ | ⟨_, _, h, _⟩
  · cases h; rfl
  · cases h
theorem stream {ds : List Nat} {os : List Call3} {N k j : Nat} (hP : Bt.Packs j ds (encs (os.take N))) (hk : k < N) (hN : N ≤ os.length) :
    ∃ R, (Bt.unpack ds).drop (encs (os.take k)).length = enc1 (os[k]'(by omega)) ++ R := by
  refine ⟨encs ((os.take N).drop (k + 1)) ++ List.replicate j false, ?_⟩
  have e : os.take N = os.take k ++ os[k]'(by omega) :: (os.take N).drop (k + 1) := by
    have h1 := (List.take_append_drop k (os.take N)).symm
    rw [List.take_take, Nat.min_eq_left (by omega)] at h1
    have h2 : (os.take N).drop k = os[k]'(by omega) :: (os.take N).drop (k + 1) := by
      rw [List.drop_eq_getElem_cons (by rw [List.length_take]; omega), List.getElem_take]
    rw [h2] at h1
    exact h1
  have e2 : encs (os.take N) = encs (os.take k) ++ (enc1 (os[k]'(by omega)) ++ encs ((os.take N).drop (k + 1))) := by
    have h3 := congrArg encs e
    rw [encs_append] at h3
    exact h3
  rw [hP.2, e2, List.append_assoc, List.drop_left, List.append_assoc]
theorem rd_next {w wr w0 w' : World} {os : List Call3} {p g k c : Nat} {ds : List Nat} {x : List Bool} (hb : Below w.heap.size w wr) (he : encs (os.take (k + 1)) = encs (os.take k) ++ x) (hp : w.heap.size ≤ p) (h0 : Below wr.heap.size wr w0)
    (ht : TakePost w0 p g ds c w') (hc : c = (encs (os.take k)).length + x.length) : RdAt w os p g ds (k + 1) w' := by
  have hb0 := hb.trans (h0.mono hb.size)
  refine ⟨by rw [he, List.length_append, ← hc]; exact ht.1, hb0.trans (ht.2.below hb0.size (by intro y hy; simp at hy; omega))⟩
theorem box3 {wr w' : World} {p : Nat} {a b c : Value} (h : Only [p] (wr.alloc (.cells #[a, b, c] 68)) w') (hp : p < wr.heap.size) :
    w'.cell? ⟨wr.heap.size, 0, none⟩ = some a ∧ w'.cell? ⟨wr.heap.size, 1, none⟩ = some b ∧ w'.cell? ⟨wr.heap.size, 2, none⟩ = some c := by
  have hg : w'.heap[wr.heap.size]? = some (.cells #[a, b, c] 68 (0, 0)) := (h.block _ (by simp) (by simp; omega)).trans (heap_alloc_new _ _)
  exact ⟨by rw [cell_of_row _ _ _ _ _ _ hg]; rfl, by rw [cell_of_row _ _ _ _ _ _ hg]; rfl, by rw [cell_of_row _ _ _ _ _ _ hg]; rfl⟩
theorem rd_one (b : Bool) (R : List Bool) : Bt.rd ([b] ++ R) 1 = (b.toNat, 0, 1) := by
  unfold Bt.rd; rw [if_neg (by omega), if_neg (by simp)]
  cases b <;> rfl
theorem toNat_one (b : Bool) : (((b.toNat : Nat) : Int) == 1) = b := by cases b <;> rfl
theorem rd_top (v m : Nat) (R : List Bool) (h : m ≤ 64) : Bt.rd (Bt.top v m ++ R) (m : Int) = (v % 2 ^ m, 0, m) := by
  unfold Bt.rd; rw [if_neg (by omega), Int.toNat_natCast, if_neg (by rw [List.length_append, Bt.top_length]; omega), List.take_append_of_le_length (by rw [Bt.top_length]; exact Nat.le_refl _), List.take_of_length_le (by rw [Bt.top_length]; exact Nat.le_refl _), Bt.val_top]
theorem mask_spell (v m : Nat) (hv : v < 18446744073709551616) (hm : m ≤ 64) : bits .and .u64 (v : Int) (IntKind.u64.wrap (IntKind.u64.wrap (2 ^ m) - 1)) = (v : Int) % 2 ^ m := by
  have h1 : IntKind.u64.wrap (IntKind.u64.wrap (2 ^ m) - 1) = ((2 ^ m - 1 : Nat) : Int) := by
    have hp : (0 : Nat) < 2 ^ m := Nat.two_pow_pos m
    have e : (2 : Int) ^ m = ((2 ^ m : Nat) : Int) := by simp
    rw [IntKind.wrap_u64, IntKind.wrap_u64, e]
    by_cases h : m = 64
    · subst h; rfl
    · have h2 : 2 ^ m ≤ 2 ^ 63 := Nat.pow_le_pow_right (by decide) (by omega)
      generalize 2 ^ m = x at *
      omega
  have h3 : 2 ^ m - 1 < 18446744073709551616 := by
    have := pow_le64 m hm
    have hp : (0 : Nat) < 2 ^ m := Nat.two_pow_pos m
    omega
  rw [h1, u64_and_nat v _ hv h3, Nat.and_two_pow_sub_one_eq_mod]
  simp
theorem bit_spell (v : Nat) : ((v : Int) % 2 == 1) = (v % 2 == 1) := by
  rw [Bool.eq_iff_iff]; simp; omega
theorem sgn_spell (v : Nat) (h : v < 18446744073709551616) : wrap64 (v : Int) = sgn v := by
  unfold sgn wrap64
  split <;> omega
set_option maxRecDepth 100000 in
set_option maxHeartbeats 1000000 in
theorem back_law (a0 : Option Addr) (os : List Call3) (cap : Nat) (w : World) (H : Ops w a0 os) (hlen : os.length ≤ maxLen) :
    Calls Try.prog 5 #[.slice a0 os.length cap] w fun e w' => e = .returned (.bool true) ∧ Below w.heap.size w w' := by
  have O0 := Lib.hid H
  unfold maxLen at hlen
  clear H
  obtain ⟨N, hN1, hN2, hmin⟩ : ∃ N : Nat, N ≤ os.length ∧ N ≤ 2000 ∧ (if (2000 : Int) < (os.length : Int) then (2000 : Int) else (os.length : Int)) = (N : Int) := by
    by_cases h : 2000 < os.length
    · exact ⟨2000, by omega, by omega, by rw [if_pos (by omega)]; rfl⟩
    · exact ⟨os.length, by omega, by omega, by rw [if_neg (by omega)]⟩
  go_enter Try.func5, Try.ntmps5
  go_wp2_with fail
  refine (new_at _).mono ?_
  rintro e w1 ⟨p, rfl, hw1, hb1, hl1, hs1⟩
  have W1 := Lib.hid hw1
  have B1 := Lib.hid hb1
  clear hw1 hb1 hs1
  go_wp2_with fail
  refine (known_any _).mono ?_
  rintro e w2 ⟨rfl, hb2⟩
  have P2 := Lib.hid (show PutAt w [] p w.heap.size w2 from ⟨p, W1.out.below hb2, B1.out.trans (hb2.mono (Below.size B1.out)), hl1, hl1⟩)
  clear hb2 W1 B1
  go_wp2
  go_loopw [5] (fun i wr => ∃ k : Nat, k ≤ N ∧ i = .int .i64 (k : Nat) ∧ Hid (PutAt w (os.take k) p w.heap.size wr)) (fun i _ => N - (intOf i).toNat)
  case atStart => exact ⟨0, Nat.zero_le _, rfl, P2⟩
  case round =>
    obtain ⟨k, hk, rfl, d, HW, hbel, hp, hd⟩ := hrel
    have XW := Lib.hid HW
    have XB := Lib.hid hbel
    clear HW hbel
    by_cases hlt : k < N
    · have hko : k < os.length := by omega
      obtain ⟨b, off, rfl, hb, hcs⟩ := (O0.out.below XB.out).2 (by intro h; rw [h] at hko; simp at hko)
      obtain ⟨k1, k2, k3⟩ := hcs k hko
      have hft := (O0.out).1 _ (List.getElem_mem hko)
      have henc := ops_take os k hko
      obtain ⟨⟨kd, v, n⟩, ho⟩ : ∃ o, o = os[k] := ⟨_, rfl⟩
      rw [← ho] at k1 k2 k3 hft henc
      obtain ⟨hf1, hf2, hf3, hf4⟩ := hft
      simp only at k1 k2 k3 hf1 hf2 hf3 hf4
      have HE := Lib.hid henc
      clear hcs ho henc
      have hd1 : decide ((k : Int) < (N : Int)) = true := by simp; omega
      have hi1 : (k : Int) < (os.length : Int) := by omega
      have hBl : (encs (os.take k)).length ≤ 160000 := by
        have := encs_le (os.take k) (fun o h => O0.out.1 o (List.mem_of_mem_take h))
        rw [List.length_take] at this; omega
      have hkk : kd % 4 = 0 ∨ kd % 4 = 1 ∨ kd % 4 = 2 ∨ kd % 4 = 3 := by omega
      rcases hkk with hkk | hkk | hkk | hkk
      · have q0 : ((kd : Int) % 4 == 0) = true := by simp; omega
        rw [enc1, if_pos hkk] at HE
        clear hkk
        go_wp2_with fail
        rw [bit_spell]
        refine (wbit_any p d _ (v % 2 == 1) _ XW.out (by omega)).mono ?_
        rintro e w' ⟨rfl, hpp⟩
        have PN := Lib.hid (put_next XB.out hp hd HE.out hpp)
        clear hpp
        go_wp2
        go_roundw
        case rel => exact ⟨k + 1, by omega, by go_num, PN⟩
        case measure => simp [intOf]; omega
      · have q0 : ((kd : Int) % 4 == 0) = false := by simp; omega
        have q1 : ((kd : Int) % 4 == 1) = true := by simp; omega
        rw [enc1, if_neg (by simp only; omega), if_pos hkk] at HE
        simp only at HE
        clear hkk
        go_wp2_with fail
        refine wp_region_still_tail 11 (by kernel_rfl) (by kernel_rfl) ?_
        change wpStill _ _ wr.drew (fun a' => wpList _ _ _ _ a' wr.drew) _ _
        simp only [List.take_succ_cons, List.take_zero, List.drop_succ_cons, List.drop_zero]
        repeat still_step
        refine wpStill_nil ?_
        go_wp2_with fail
        by_cases hn : n < 0 ∨ 64 < n
        · rw [if_pos hn, List.append_nil] at HE
          refine (wbits_bad p v n hn _).mono ?_
          rintro e w' ⟨rfl, rfl⟩
          have PN := Lib.hid (put_same (wr := wr.drew) (XB.out.drew) hp hd HE.out XW.out)
          go_wp2
          go_roundw
          case rel => exact ⟨k + 1, by omega, by go_num, PN⟩
          case measure => simp [intOf]; omega
        · obtain ⟨m, rfl⟩ := Int.eq_ofNat_of_zero_le (a := n) (by omega)
          rw [if_neg hn, Int.toNat_natCast] at HE
          refine (wbits_good p d _ v m (by omega) wr.drew XW.out (by omega)).mono ?_
          rintro e w' ⟨rfl, hpp⟩
          have PN := Lib.hid (put_next (wr := wr.drew) XB.out.drew hp hd HE.out hpp)
          clear hpp
          go_wp2
          go_roundw
          case rel => exact ⟨k + 1, by omega, by go_num, PN⟩
          case measure => simp [intOf]; omega
      · have q0 : ((kd : Int) % 4 == 0) = false := by simp; omega
        have q1 : ((kd : Int) % 4 == 1) = false := by simp; omega
        have q2 : ((kd : Int) % 4 == 2) = true := by simp; omega
        rw [enc1, if_neg (by simp only; omega), if_neg (by simp only; omega), if_pos hkk] at HE
        clear hkk
        go_wp2_with fail
        refine (wvarint_any p d _ v hf2 _ XW.out (by omega)).mono ?_
        rintro e w' ⟨rfl, hpp⟩
        have PN := Lib.hid (put_next XB.out hp hd HE.out hpp)
        clear hpp
        go_wp2
        go_roundw
        case rel => exact ⟨k + 1, by omega, by go_num, PN⟩
        case measure => simp [intOf]; omega
      · have q0 : ((kd : Int) % 4 == 0) = false := by simp; omega
        have q1 : ((kd : Int) % 4 == 1) = false := by simp; omega
        have q2 : ((kd : Int) % 4 == 2) = false := by simp; omega
        rw [enc1, if_neg (by simp only; omega), if_neg (by simp only; omega), if_neg (by simp only; omega)] at HE
        clear hkk
        go_wp2_with fail
        rw [sgn_spell v hf2]
        refine (wsigned_any p d _ (sgn v) (sgn_bd v hf2).1 (sgn_bd v hf2).2 _ XW.out (by omega)).mono ?_
        rintro e w' ⟨rfl, hpp⟩
        have PN := Lib.hid (put_next XB.out hp hd HE.out hpp)
        clear hpp
        go_wp2
        go_roundw
        case rel => exact ⟨k + 1, by omega, by go_num, PN⟩
        case measure => simp [intOf]; omega
    · obtain rfl : k = N := by omega
      have hBl : (encs (os.take k)).length ≤ 160000 := by
        have := encs_le (os.take k) (fun o h => O0.out.1 o (List.mem_of_mem_take h))
        rw [List.length_take] at this; omega
      go_wp2_with fail
      refine (wbytes_any p d _ _ XW.out (by omega)).mono ?_
      rintro e w3 ⟨bs, j, hj, hP, a, cp, g, rfl, hR, hg, hb3⟩
      have HY := Lib.hid (hR.bys hP.1).2
      have HC := Lib.hid (row_nil hR)
      have HP := Lib.hid hP
      have B3 := Lib.hid (XB.out.trans (hb3.mono (Below.size XB.out)))
      have hbl : bs.length ≤ 1000000 := by have := hP.length; omega
      clear hR hg hb3 hP XW XB
      go_wp2_with fail
      refine (read_any a bs cp _ HY.out HC.out (by omega)).mono ?_
      rintro e w4 ⟨p2, g2, rfl, hp2, hg2, hrd, hb4⟩
      have hpw : w.heap.size ≤ p2 := Nat.le_trans (Below.size B3.out) hp2
      have B4 := Lib.hid (B3.out.trans (hb4.mono (Below.size B3.out)))
      have R4 := Lib.hid (show RdAt w os p2 g2 bs 0 w4 from ⟨hrd, B4.out⟩)
      clear hrd hb4 hp2 hg2 HY HC B3 B4
      go_wp2
      go_loopw [7] (fun i wr => ∃ k2 : Nat, k2 ≤ k ∧ i = .int .i64 (k2 : Nat) ∧ Hid (RdAt w os p2 g2 bs k2 wr)) (fun i _ => k - (intOf i).toNat)
      case atStart => exact ⟨0, Nat.zero_le _, rfl, R4⟩
      case round =>
        obtain ⟨k2, hk2, rfl, HRd, hbel2⟩ := hrel
        have X1 := Lib.hid HRd
        have X2 := Lib.hid hbel2
        clear HRd hbel2
        by_cases hlt2 : k2 < k
        · have hko : k2 < os.length := by omega
          obtain ⟨b, off, rfl, hb, hcs⟩ := (O0.out.below X2.out).2 (by intro h; rw [h] at hko; simp at hko)
          obtain ⟨k1, k2c, k3⟩ := hcs k2 hko
          have hft := (O0.out).1 _ (List.getElem_mem hko)
          have henc := ops_take os k2 hko
          obtain ⟨R, hS⟩ := stream HP.out hlt2 hN1
          obtain ⟨⟨kd, v, n⟩, ho⟩ : ∃ o, o = os[k2] := ⟨_, rfl⟩
          rw [← ho] at k1 k2c k3 hft henc hS
          obtain ⟨hf1, hf2, hf3, hf4⟩ := hft
          simp only at k1 k2c k3 hf1 hf2 hf3 hf4
          have HE := Lib.hid henc
          have HS := Lib.hid hS
          clear hcs ho henc hS
          have hd1 : decide ((k2 : Int) < (k : Int)) = true := by simp; omega
          have hi1 : (k2 : Int) < (os.length : Int) := by omega
          have hkk : kd % 4 = 0 ∨ kd % 4 = 1 ∨ kd % 4 = 2 ∨ kd % 4 = 3 := by omega
          have hpl := X1.out.lt.1
          have HA := Lib.hid ((Below.refl wr.heap.size wr).alloc (Nat.le_refl _) (.cells #[.int .u8 (kd : Nat), .int .u64 (v : Nat), .int .i64 n] 68))
          have XA := Lib.hid (X1.out.below HA.out)
          rcases hkk with hkk | hkk | hkk | hkk
          · have q0 : ((kd : Int) % 4 == 0) = true := by simp; omega
            rw [enc1, if_pos hkk] at HE HS
            clear hkk
            go_wp2_with fail
            refine (rbit_any p2 g2 bs _ _ XA.out (by omega)).mono ?_
            rintro e w' ⟨rfl, ht⟩
            rw [HS.out, rd_one] at ht ⊢
            simp only at ht
            rw [toNat_one, ← bit_spell]
            obtain ⟨m0, m1, m2⟩ := box3 ht.2 hpl
            have RN := Lib.hid (rd_next X2.out HE.out hpw HA.out ht (by rfl))
            clear ht
            go_wp2
            go_roundw
            case rel => exact ⟨k2 + 1, by omega, by go_num, RN⟩
            case measure => simp [intOf]; omega
          · have q0 : ((kd : Int) % 4 == 0) = false := by simp; omega
            have q1 : ((kd : Int) % 4 == 1) = true := by simp; omega
            rw [enc1, if_neg (by simp only; omega), if_pos hkk] at HE HS
            simp only at HE HS
            clear hkk
            by_cases hn : n < 0 ∨ 64 < n
            · rw [if_pos hn] at HE HS
              have hrd : Bt.rd ((Bt.unpack bs).drop (encs (os.take k2)).length) n = (0, 1, 0) := by unfold Bt.rd; rw [if_pos hn]
              have HRD := Lib.hid hrd
              clear hrd
              rcases hn with hn | hn
              · have hd2 : decide (n < 0) = true := by simpa using hn
                go_wp2_with fail
                refine (rbits_any p2 g2 bs _ n _ XA.out (by omega)).mono ?_
                rintro e w' ⟨rfl, ht⟩
                rw [HRD.out] at ht ⊢
                simp only at ht
                obtain ⟨m0, m1, m2⟩ := box3 ht.2 hpl
                have RN := Lib.hid (rd_next X2.out HE.out hpw HA.out ht (by rfl))
                clear ht
                go_wp2
                go_roundw
                case rel => exact ⟨k2 + 1, by omega, by go_num, RN⟩
                case measure => simp [intOf]; omega
              · have hd2 : decide (n < 0) = false := by simp; omega
                have hd3 : decide (n > 64) = true := by simpa using hn
                go_wp2_with fail
                refine (rbits_any p2 g2 bs _ n _ XA.out (by omega)).mono ?_
                rintro e w' ⟨rfl, ht⟩
                rw [HRD.out] at ht ⊢
                simp only at ht
                obtain ⟨m0, m1, m2⟩ := box3 ht.2 hpl
                have RN := Lib.hid (rd_next X2.out HE.out hpw HA.out ht (by rfl))
                clear ht
                go_wp2
                go_roundw
                case rel => exact ⟨k2 + 1, by omega, by go_num, RN⟩
                case measure => simp [intOf]; omega
            · obtain ⟨m, rfl⟩ := Int.eq_ofNat_of_zero_le (a := n) (by omega)
              rw [if_neg hn, Int.toNat_natCast] at HE HS
              have hm : m ≤ 64 := by omega
              have hd2 : decide ((m : Int) < 0) = false := by simp
              have hd3 : decide ((m : Int) > 64) = false := by simp; omega
              clear hn
              go_wp2_with fail
              refine (rbits_any p2 g2 bs _ _ _ XA.out (by omega)).mono ?_
              rintro e w' ⟨rfl, ht⟩
              rw [HS.out, rd_top v m R hm] at ht ⊢
              simp only at ht
              obtain ⟨m0, m1, m2⟩ := box3 ht.2 hpl
              have RN := Lib.hid (rd_next X2.out HE.out hpw HA.out ht (by rw [Bt.top_length]))
              have EM := mask_spell v m hf2 hm
              clear ht
              go_wp2
              go_roundw
              case rel => exact ⟨k2 + 1, by omega, by go_num, RN⟩
              case measure => simp [intOf]; omega
          · have q0 : ((kd : Int) % 4 == 0) = false := by simp; omega
            have q1 : ((kd : Int) % 4 == 1) = false := by simp; omega
            have q2 : ((kd : Int) % 4 == 2) = true := by simp; omega
            rw [enc1, if_neg (by simp only; omega), if_neg (by simp only; omega), if_pos hkk] at HE HS
            clear hkk
            go_wp2_with fail
            refine (rvarint_any p2 g2 bs _ _ XA.out (by omega)).mono ?_
            rintro e w' ⟨rfl, ht⟩
            rw [HS.out, Bt.rv_back v R hf2] at ht ⊢
            simp only at ht
            obtain ⟨m0, m1, m2⟩ := box3 ht.2 hpl
            have RN := Lib.hid (rd_next X2.out HE.out hpw HA.out ht (by rfl))
            clear ht
            go_wp2
            go_roundw
            case rel => exact ⟨k2 + 1, by omega, by go_num, RN⟩
            case measure => simp [intOf]; omega
          · have q0 : ((kd : Int) % 4 == 0) = false := by simp; omega
            have q1 : ((kd : Int) % 4 == 1) = false := by simp; omega
            have q2 : ((kd : Int) % 4 == 2) = false := by simp; omega
            rw [enc1, if_neg (by simp only; omega), if_neg (by simp only; omega), if_neg (by simp only; omega)] at HE HS
            clear hkk
            go_wp2_with fail
            refine (rsigned_any p2 g2 bs _ _ XA.out (by omega)).mono ?_
            rintro e w' ⟨rfl, ht⟩
            rw [HS.out, Bt.rv_back _ R (Bt.zz_lt _ (sgn_bd v hf2).1 (sgn_bd v hf2).2)] at ht ⊢
            simp only at ht
            rw [Bt.uz_zz, ← sgn_spell v hf2]
            obtain ⟨m0, m1, m2⟩ := box3 ht.2 hpl
            have RN := Lib.hid (rd_next X2.out HE.out hpw HA.out ht (by rfl))
            clear ht
            go_wp2
            go_roundw
            case rel => exact ⟨k2 + 1, by omega, by go_num, RN⟩
            case measure => simp [intOf]; omega
        · obtain rfl : k2 = k := by omega
          have hle : 8 * bs.length - (encs (os.take k2)).length = j := by
            have h1 := HP.out.length
            omega
          have hdj : decide ((j : Int) < 8) = true := by simp; omega
          go_wp2_with fail
          refine (left_any p2 g2 bs _ _ X1.out (by omega)).mono ?_
          rintro e w5 ⟨rfl, hb5⟩
          rw [hle]
          have HB5 := Lib.hid (X2.out.trans (hb5.mono (Below.size X2.out)))
          clear hb5
          go_wp2
          go_ret
          exact ⟨rfl, HB5.out⟩
end Go.Proofs.Ytimmlnfoabbbjaa
