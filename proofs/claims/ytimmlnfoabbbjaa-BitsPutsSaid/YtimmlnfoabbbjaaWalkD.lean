/-
  WALKS of the reader: Left, take, Bits, Bit.
-/
import Derived.Test.YtimmlnfoabbbjaaWalkC
namespace Go.Proofs.Ytimmlnfoabbbjaa
open Go.RowKit
theorem rd_slice {w : World} {p g : Nat} {ds : List Nat} {at_ : Nat} (h : Rd w p g ds at_) : ∃ a cap, w.cell? ⟨p, 0, none⟩ = some (.slice a ds.length cap) ∧ w.cell? ⟨p, 1, none⟩ = some (.int .i64 (at_ : Nat)) ∧ w.frozen? ⟨p, 1, none⟩ = false ∧ at_ ≤ 8 * ds.length ∧
    ∀ i (hi : i < ds.length), a = some ⟨g, 0, none⟩ ∧ w.cell? ⟨g, i, none⟩ = some (.int .u8 ((ds[i] : Nat) : Int)) := by
  obtain ⟨v, hp, hR, _, _, ha, _⟩ := h
  obtain ⟨c0, c1, _, f1⟩ := cell2 hp
  rcases hR.value with ⟨rfl, rfl⟩ | ⟨cap, _, rfl, _⟩
  · exact ⟨_, _, c0, c1, f1, ha, fun i hi => by simp at hi⟩
  · refine ⟨_, _, c0, c1, f1, ha, fun i hi => ⟨rfl, ?_⟩⟩
    obtain ⟨_, _, _, _, hc, _⟩ := hR.cell i hi
    exact hc
set_option maxHeartbeats 400000 in
theorem left_any (p g : Nat) (ds : List Nat) (at_ : Nat) (w : World) (H : Rd w p g ds at_) (hbd : ds.length ≤ 1000000000) :
    Calls Try.prog 28 #[.pointer (some ⟨p, 0, none⟩)] w fun e w' => e = .returned (.int .i64 ((8 * ds.length - at_ : Nat) : Int)) ∧ Below w.heap.size w w' := by
  obtain ⟨a, cap, c0, c1, f1, ha, _⟩ := rd_slice H
  clear H
  have E : (ds.length : Int) * 8 - (at_ : Int) = ((8 * ds.length - at_ : Nat) : Int) := by omega
  have HE := Lib.hid E
  clear E
  go_enter Try.func28, Try.ntmps28
  go_wp2
  go_quiet (fail)
  go_wp2
  go_ret
  exact ⟨by rw [← HE.out]; rfl, (Only.refl [] _).drewN _ |>.below (Nat.le_refl _) (by simp)⟩
theorem pow_le64 (k : Nat) (h : k ≤ 64) : 2 ^ k ≤ 18446744073709551616 := Nat.pow_le_pow_right (n := 2) (by decide) h
theorem take_value {ds : List Nat} {at_ k s A c : Nat} (hA : at_ + k = A) (hl : A < 8 * ds.length) (hc : ∀ h, ds[A / 8]'h = c) (hs : s ≤ 8 - A % 8) (h64 : k + s ≤ 64) (hle : A + s ≤ 8 * ds.length) :
    bits .or .u64 (IntKind.u64.wrap (((Bt.val (((Bt.unpack ds).drop at_).take k) : Nat) : Int) * 2 ^ s)) (IntKind.u64.wrap ((c : Int) * 2 ^ (A % 8) % 256 / 2 ^ (8 - s))) = ((Bt.val (((Bt.unpack ds).drop at_).take (k + s)) : Nat) : Int) := by
  have hq : A / 8 < ds.length := by omega
  have hr := Bt.read_here ds A s hq (by omega)
  rw [hc hq] at hr
  have hU := Bt.unpack_length ds
  have hv := Bt.val_take_add ((Bt.unpack ds).drop at_) k s (by rw [List.length_drop]; omega)
  rw [List.drop_drop, hA] at hv
  have hV : Bt.val (((Bt.unpack ds).drop at_).take k) < 2 ^ k := by
    have := Bt.val_lt (((Bt.unpack ds).drop at_).take k)
    rwa [List.length_take, List.length_drop, Nat.min_eq_left (by omega)] at this
  have hP : Bt.val (((Bt.unpack ds).drop A).take s) < 2 ^ s := by
    have := Bt.val_lt (((Bt.unpack ds).drop A).take s)
    rwa [List.length_take, List.length_drop, Nat.min_eq_left (by omega)] at this
  have e1 : ((c : Int) * 2 ^ (A % 8) % 256 / 2 ^ (8 - s)) = ((Bt.val (((Bt.unpack ds).drop A).take s) : Nat) : Int) := by
    rw [← hr, Nat.shiftRight_eq_div_pow, Nat.shiftLeft_eq]
    simp only [Int.natCast_ediv, Int.natCast_emod, Int.natCast_mul, Int.natCast_pow, Int.cast_ofNat_Int]
  rw [e1, hv]
  generalize Bt.val (((Bt.unpack ds).drop at_).take k) = V at *
  generalize Bt.val (((Bt.unpack ds).drop A).take s) = P at *
  have h1 : V * 2 ^ s < 18446744073709551616 := by
    have h2 : V * 2 ^ s < 2 ^ k * 2 ^ s := (Nat.mul_lt_mul_right (Nat.two_pow_pos s)).2 hV
    rw [← Nat.pow_add] at h2
    exact Nat.lt_of_lt_of_le h2 (pow_le64 _ h64)
  have h3 : P < 18446744073709551616 := Nat.lt_of_lt_of_le hP (pow_le64 _ (by omega))
  have e2 : (V : Int) * 2 ^ s = ((V * 2 ^ s : Nat) : Int) := by simp only [Int.natCast_mul, Int.natCast_pow, Int.cast_ofNat_Int]
  rw [e2]
  have w1 : IntKind.u64.wrap ((V * 2 ^ s : Nat) : Int) = ((V * 2 ^ s : Nat) : Int) := by rw [IntKind.wrap_u64]; omega
  have w2 : IntKind.u64.wrap (P : Int) = (P : Int) := by rw [IntKind.wrap_u64]; omega
  rw [w1, w2, u64_or_nat _ _ h1 h3, nat_join s _ _ (Nat.mul_mod_left _ _) hP]
def TakePost (w : World) (p g : Nat) (ds : List Nat) (at_ : Nat) (w' : World) : Prop := Rd w' p g ds at_ ∧ Only [p] w w'
set_option maxHeartbeats 400000 in
theorem take_any (p g : Nat) (ds : List Nat) (at_ n : Nat) (w : World) (H : Rd w p g ds at_) (hbd : ds.length ≤ 1000000000) (hn : n ≤ 64) (hle : at_ + n ≤ 8 * ds.length) :
    Calls Try.prog 71 #[.pointer (some ⟨p, 0, none⟩), .int .i64 (n : Nat)] w fun e w' => e = .returned (.int .u64 ((Bt.val (((Bt.unpack ds).drop at_).take n) : Nat) : Int)) ∧ TakePost w p g ds (at_ + n) w' := by
  have H0 := Lib.hid H
  clear H
  go_enter Try.func71, Try.ntmps71
  go_wp2
  go_loopw [1, 5] (fun i v wr => ∃ k : Nat, k ≤ n ∧ i = .int .i64 ((n - k : Nat) : Int) ∧ v = .int .u64 ((Bt.val (((Bt.unpack ds).drop at_).take k) : Nat) : Int) ∧ Hid (TakePost w p g ds (at_ + k) wr)) (fun i _ _ => (intOf i).toNat)
  case atStart => exact ⟨0, Nat.zero_le _, rfl, rfl, Lib.hid ⟨H0.out, Only.refl _ _⟩⟩
  case round =>
    obtain ⟨k, hk, rfl, rfl, HT⟩ := hrel
    by_cases hlt : k < n
    · obtain ⟨m, hm0, hm⟩ : ∃ m, 0 < m ∧ n - k = m := ⟨n - k, by omega, rfl⟩
      have hm1 : k + m = n := by omega
      obtain ⟨A, hA⟩ : ∃ A, at_ + k = A := ⟨_, rfl⟩
      have HMM := Lib.hid hm
      have HAA := Lib.hid hA
      have hAl : A < 8 * ds.length := by omega
      rw [hA] at HT
      rw [hm]
      clear hm hA
      obtain ⟨a, cap, c0, c1, f1, ha, hcells⟩ := rd_slice HT.out.1
      obtain ⟨rfl, hcell⟩ := hcells (A / 8) (by omega)
      have hc8 : ds[A / 8] < 256 := by
        obtain ⟨_, _, _, _, _, _, h8⟩ := HT.out.1
        exact h8 _ (List.getElem_mem _)
      obtain ⟨c, hcc⟩ : ∃ c, ds[A / 8] = c := ⟨_, rfl⟩
      have HC := Lib.hid hcc
      rw [hcc] at hcell hc8
      clear hcc hcells
      obtain ⟨s, hs1, hs2, hs0, hsmin⟩ : ∃ s : Nat, s ≤ 8 - A % 8 ∧ s ≤ m ∧ 0 < s ∧ (if m < 8 - A % 8 then (m : Int) else ((8 - A % 8 : Nat) : Int)) = (s : Int) := by
        by_cases h : m < 8 - A % 8
        · exact ⟨m, by omega, by omega, by omega, by rw [if_pos (by omega)]⟩
        · exact ⟨8 - A % 8, by omega, by omega, by omega, by rw [if_neg (by omega)]⟩
      have e1 : (8 : Int) - (A : Int) % 8 = ((8 - A % 8 : Nat) : Int) := by omega
      obtain ⟨q, hq⟩ : ∃ q, A / 8 = q := ⟨_, rfl⟩
      have HQ := Lib.hid hq
      rw [hq] at hcell
      have hql : (q : Int) < (ds.length : Int) := by omega
      have hqd : ((A : Int) / 8) = (q : Int) := by omega
      clear hq
      go_wp2
      have E1 : IntKind.i64.wrap ((A : Int).tdiv 8) = (q : Int) := by rw [Int.tdiv_eq_ediv_of_nonneg (by omega), hqd]; exact IntWalk.i64_in _ (by omega)
      have E2 : IntKind.i64.wrap (8 - (s : Int)) = ((8 - s : Nat) : Int) := by rw [show (8 : Int) - (s : Int) = ((8 - s : Nat) : Int) by omega]; exact IntWalk.i64_in _ (by omega)
      go_quiet (fail)
      clear E1 E2
      go_wp2
      have ev := take_value (ds := ds) (at_ := at_) (k := k) (s := s) (A := A) (c := c) HAA.out hAl (fun _ => HC.out) hs1 (by omega) (by have := HAA.out; omega)
      have EV := Lib.hid ev
      clear ev
      go_roundw
      case rel =>
        refine ⟨k + s, by omega, ?_, by rw [EV.out], Lib.hid ?_⟩
        · congr 1; have := HMM.out; omega
        · obtain ⟨⟨v, hp, hR, hne, hgl, _, h8⟩, hO⟩ := HT.out
          have e2 : at_ + (k + s) = A + s := by have := HAA.out; omega
          rw [e2]
          have hgp : v.ownBlock = none ∨ g ∉ [p] := by
            rcases hne with h | h
            · exact .inl h
            · exact .inr (by simpa using h)
          have hon : Only [p] wr ((wr.drewN nq).setCell ⟨p, 1, none⟩ (.int .i64 ((A : Int) + (s : Int)))) := ((Only.refl [p] wr).drewN nq).setCell (p := ⟨p, 1, none⟩) (.inl (by simp)) _
          refine ⟨⟨v, ?_, ?_, hne, ?_, by have := HAA.out; omega, h8⟩, hO.trans hon (fun x hx => .inl hx)⟩
          · rw [set2b (w := wr.drewN nq) hp]; rfl
          · rcases hgp with h | h
            · rcases hR.value with ⟨rfl, rfl⟩ | ⟨_, _, rfl, _⟩
              · exact Row.nil _ _
              · cases h
            · exact hR.only hon h
          · exact Nat.lt_of_lt_of_le hgl hon.size
      case measure => simp [intOf]; omega
    · obtain rfl : k = n := by omega
      rw [Nat.sub_self]
      go_wp2
      go_ret
      exact ⟨rfl, HT.out⟩
end Go.Proofs.Ytimmlnfoabbbjaa
