/-
  WALKS of the document's own reckoning ('barographref01.More', 'Sum') and of 'known'.
-/
import Derived.Test.YtniajoocpnhhgaaWalkC
import Derived.Lib.SlBytesConst
namespace Go.Proofs.Ytniajoocpnhhgaa
open Go.RowKit
set_option maxHeartbeats 800000 in
theorem refmore_any (s : Nat) (hs : s < 4294967296) (a : Option Addr) (bs : List Nat) (cap : Nat) (w : World) (H : Bys w a bs) :
    Calls Try.prog 13 #[.int .u32 s, .slice a bs.length cap] w fun e w' => e = .returned (.int .u32 (Crc.More s bs : Nat)) ∧ w = w' := by
  have hlen := H.1
  unfold maxLen at hlen
  have hx := not_u32 s hs
  have hk : IntKind.u32.signed = false := rfl
  have HH := Lib.hid H.2.1
  have HC := Lib.hid H.2.2
  clear H
  go_enter Try.func13, Try.ntmps13
  go_wp2
  go_loop [5, 6] (fun r i => ∃ k : Nat, k ≤ bs.length ∧ i = .int .i64 k ∧ r = .int .u32 (Crc.R (Crc.C s) (bs.take k) : Nat)) (fun _ i => bs.length - (intOf i).toNat)
  case atStart => exact ⟨0, Nat.zero_le _, rfl, rfl⟩
  case round =>
    obtain ⟨k, hk, rfl, rfl⟩ := hrel
    have hr : Crc.R (Crc.C s) (bs.take k) < 4294967296 := Crc.R_lt _ (fun c hc => Nat.lt_of_lt_of_le (HH.out c (List.mem_of_mem_take hc)) (by decide)) _ (Crc.C_lt s)
    by_cases hlt : k < bs.length
    · obtain ⟨b, off, rfl, hb, hc0⟩ := HC.out (by intro h; rw [h] at hlt; simp at hlt)
      obtain ⟨c, hc⟩ : ∃ c, c = bs[k] := ⟨_, rfl⟩
      have hcell : w.cell? ⟨b, off + k, none⟩ = some (.int .u8 (c : Nat)) := by rw [hc]; exact hc0 k hlt
      have hc2 : c < 256 := by rw [hc]; exact HH.out _ (List.getElem_mem _)
      have HR : Hid (Crc.R (Crc.C s) (bs.take (k + 1)) = Crc.B (Crc.R (Crc.C s) (bs.take k)) c) := by rw [take_snoc bs k hlt, Crc.R_snoc, hc]; exact Lib.hid rfl
      clear hc hc0
      generalize Crc.R (Crc.C s) (bs.take k) = r at *
      have hxr := u32_xor_nat r c hr (by omega)
      have hl1 : r ^^^ c < 4294967296 := Nat.xor_lt_two_pow (n := 32) hr (by omega)
      have H4 : Hid (Crc.B r c = Crc.It 8 (r ^^^ c)) := Lib.hid rfl
      have hd : decide ((k : Int) < (bs.length : Int)) = true := by simp; omega
      go_wp2
      generalize r ^^^ c = q at *
      go_loop [5, 7] (fun r i => ∃ m : Nat, m ≤ 8 ∧ i = .int .i64 m ∧ r = .int .u32 (Crc.It m q : Nat)) (fun _ i => 8 - (intOf i).toNat)
      case atStart => exact ⟨0, Nat.zero_le _, rfl, rfl⟩
      case round =>
        obtain ⟨m, hm, rfl, rfl⟩ := hrel
        have hb := Crc.It_lt m q hl1
        by_cases hl2 : m < 8
        · have HS := Lib.hid (Crc.It_succ m q)
          generalize Crc.It m q = x at *
          have ho : x % 2 = 1 ∨ x % 2 = 0 := by omega
          rcases ho with ho | ho
          · have e1 := and1_odd x hb ho
            have HO := Lib.hid (Crc.S_odd x ho)
            have e2 := xor_poly x hb
            clear ho
            go_wp2
            go_round
            case rel => exact ⟨m + 1, by omega, by go_num, by rw [HS.out, HO.out]⟩
            case measure => simp [intOf]; omega
          · have e1 := and1_even x hb ho
            have HO := Lib.hid (Crc.S_even x ho)
            clear ho
            go_wp2
            go_round
            case rel => exact ⟨m + 1, by omega, by go_num, by rw [HS.out, HO.out]; rfl⟩
            case measure => simp [intOf]; omega
        · obtain rfl : m = 8 := by omega
          go_wp2
          go_round
          case rel => exact ⟨k + 1, by omega, by go_num, by rw [HR.out, H4.out]⟩
          case measure => simp [intOf]; omega
    · obtain rfl : k = bs.length := by omega
      have hx2 := not_u32 _ hr
      have HE : Hid (Crc.More s bs = Crc.C (Crc.R (Crc.C s) (bs.take bs.length))) := by rw [List.take_length]; exact Lib.hid rfl
      generalize Crc.R (Crc.C s) (bs.take bs.length) = r at *
      go_wp2
      go_ret
      exact ⟨ret_u32 (by rw [HE.out]), rfl⟩
theorem refsum_any (a : Option Addr) (bs : List Nat) (cap : Nat) (w : World) (H : Bys w a bs) :
    Calls Try.prog 12 #[.slice a bs.length cap] w fun e w' => e = .returned (.int .u32 (Crc.More 0 bs : Nat)) ∧ w = w' := by
  have H0 := Lib.hid H
  clear H
  go_enter Try.func12, Try.ntmps12
  go_wp2_with (go_at_call 13; refine (refmore_any 0 (by decide) a bs cap _ H0.out).mono ?_; rintro e w' ⟨rfl, rfl⟩)
  go_ret
  exact ⟨rfl, rfl⟩
/-! what 'known' asks -/
theorem lit_bytes (fr : Nat × Nat) (W : World) (bs : List Nat) (h : ∀ c ∈ bs, c < 256) (hl : bs.length ≤ maxLen) : Bys (W.alloc (.cells (bs.map fun c => Value.int .u8 ((c : Nat) : Int)).toArray 5 fr)) (some ⟨W.heap.size, 0, none⟩) bs := by
  refine ⟨hl, h, fun _ => ⟨W.heap.size, 0, rfl, by simp, fun i hi => ?_⟩⟩
  rw [cell_of_row _ _ _ _ _ _ (heap_alloc_new W _)]
  simp [hi]
theorem sum_lit (n : Nat) (a : Option Addr) (bs : List Nat) (cap : Nat) (w : World) (H : Bys w a bs) (hn : Crc.More 0 bs = n) :
    Calls Try.prog 8 #[.slice a bs.length cap] w fun e w' => e = .returned (.int .u32 (n : Int)) ∧ Below w.heap.size w w' := by
  rw [← hn]; exact sum_any a bs cap w H
theorem nil_bytes (W : World) (a : Option Addr) : Bys W a [] := ⟨Nat.zero_le _, fun _ h => absurd h (by simp), fun h => absurd rfl h⟩
theorem known1 : Crc.More 0 [49, 50, 51, 52, 53, 54, 55, 56, 57] = 3808858755 := by decide +kernel
theorem known2 : Crc.More 0 [0] = 1383945041 := by decide +kernel
theorem known3 : Crc.More 0 [] = 0 := by decide +kernel
set_option maxHeartbeats 400000 in
theorem known_any (w : World) : Calls Try.prog 11 #[] w fun e w' => e = .returned (.bool true) ∧ Below w.heap.size w w' := by
  have kc := fun (w : World) (C : Array Value) (n c : Nat) => Lib.run_convert_bytes_const (P := Try.prog) w 23 5 C n c Try.underlying23 Try.underlying5
  have L1 := Lib.hid (lit_bytes (9, 10) w [49, 50, 51, 52, 53, 54, 55, 56, 57] (by decide) (by decide))
  go_enter Try.func11, Try.ntmps11
  go_wp2_with fail
  refine (sum_lit 3808858755 _ [49, 50, 51, 52, 53, 54, 55, 56, 57] 9 _ L1.out known1).mono ?_
  rintro e w1 ⟨rfl, hb1⟩
  have HB1 := Lib.hid hb1
  clear hb1 L1
  have L2 := Lib.hid (lit_bytes (0, 0) w1 [0] (by decide) (by decide))
  go_wp2_with fail
  refine (sum_lit 1383945041 _ [0] 1 _ L2.out known2).mono ?_
  rintro e w2 ⟨rfl, hb2⟩
  have HB2 := Lib.hid hb2
  clear hb2 L2
  go_wp2_with fail
  refine (sum_lit 0 _ [] 0 _ (nil_bytes _ _) known3).mono ?_
  rintro e w3 ⟨rfl, hb3⟩
  have HB3 := Lib.hid hb3
  clear hb3
  go_wp2
  go_ret
  have b1 := HB1.out
  have b2 := HB2.out
  have b3 := HB3.out
  have s1 := b1.size
  have s2 := b2.size
  simp at s1 s2
  exact ⟨rfl, ((((Below.refl _ _).alloc (Nat.le_refl _) _).trans (b1.mono (by simp))).alloc (by omega) _).trans ((b2.mono (by simp; omega)).trans (b3.mono (by omega)))⟩
end Go.Proofs.Ytniajoocpnhhgaa
