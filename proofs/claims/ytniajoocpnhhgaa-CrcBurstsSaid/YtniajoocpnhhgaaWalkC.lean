/-
  WALKS of 'crc.More' and 'crc.Sum'.
-/
import Derived.Test.YtniajoocpnhhgaaWalkB
namespace Go.Proofs.Ytniajoocpnhhgaa
open Go.RowKit
/-- a slice's address leads to these bytes -/
def Bys (w : World) (a : Option Addr) (bs : List Nat) : Prop :=
  bs.length ≤ maxLen ∧ (∀ c ∈ bs, c < 256) ∧ (bs ≠ [] → ∃ b off, a = some ⟨b, off, none⟩ ∧ b < w.heap.size ∧ ∀ i (h : i < bs.length), w.cell? ⟨b, off + i, none⟩ = some (.int .u8 ((bs[i] : Nat) : Int)))
theorem Bys.below {w w' : World} {a : Option Addr} {bs : List Nat} (h : Bys w a bs) (hb : Below w.heap.size w w') : Bys w' a bs := by
  obtain ⟨h1, h2, h3⟩ := h
  refine ⟨h1, h2, fun hn => ?_⟩
  obtain ⟨b, off, ha, hlt, hc⟩ := h3 hn
  exact ⟨b, off, ha, Nat.lt_of_lt_of_le hlt hb.size, fun i hi => (hb.cell (p := ⟨b, off + i, none⟩) hlt).trans (hc i hi)⟩
theorem take_snoc (bs : List Nat) (k : Nat) (h : k < bs.length) : bs.take (k + 1) = bs.take k ++ [bs[k]] := by
  rw [List.take_succ_eq_append_getElem h]
/-- the world in which a call of More has laid its table -/
theorem laid_table {w w1 : World} (hb : Below w.heap.size w w1) :
    Tab ((w1.alloc (.cells (Tb 0) 34)).setRow w1.heap.size (Tb 16)) w1.heap.size ∧ Below w.heap.size w ((w1.alloc (.cells (Tb 0) 34)).setRow w1.heap.size (Tb 16)) := by
  have h1 := setRow_heap (w1.alloc (.cells (Tb 0) 34)) w1.heap.size (Tb 0) (Tb 16) 34 (0, 0) (heap_alloc_new _ _)
  refine ⟨fun j hj => ?_, below_setRow (hb.alloc hb.size _) hb.size _⟩
  rw [cell_of_row _ _ _ _ _ _ h1, Tb_get 16 j hj, if_pos hj]
theorem tb_sizes : (Tb 0).size = (Tb 16).size := by rw [Tb_size, Tb_size]
theorem not_u32 (n : Nat) (h : n < 4294967296) : bits .xor .u32 IntKind.u32.max (n : Int) = ((Crc.C n : Nat) : Int) := by
  rw [show IntKind.u32.max = 4294967295 from rfl]
  have := u32_xor_nat 4294967295 n (by decide) h
  rw [Nat.xor_comm, ← Crc.C_xor n h] at this
  exact this
set_option maxHeartbeats 400000 in
theorem more_any (s : Nat) (hs : s < 4294967296) (a : Option Addr) (bs : List Nat) (cap : Nat) (w : World) (H : Bys w a bs) :
    Calls Try.prog 9 #[.int .u32 s, .slice a bs.length cap] w fun e w' => e = .returned (.int .u32 (Crc.More s bs : Nat)) ∧ Below w.heap.size w w' := by
  have hlen := H.1
  unfold maxLen at hlen
  have hx := not_u32 s hs
  have hk : IntKind.u32.signed = false := rfl
  by_cases hn : bs = []
  · subst hn
    have HZ := Lib.hid tb_sizes
    have hx2 := not_u32 _ (Crc.C_lt s)
    have HE := Lib.hid (Crc.C_C s hs)
    clear hlen H
    go_enter Try.func9, Try.ntmps9
    go_wp2_with (first | (go_at_call 14; refine (table_any _).mono ?_; rintro e w1 ⟨rfl, hb1⟩; have HB1 := Lib.hid hb1; clear hb1) | (refine wpList_store_row rfl 34 (.tmp 5) (.tmp 9) rfl _ (Tb 16) rfl rfl 34 (Tb 0) (heap_alloc_new _ _) (by kernel_rfl) HZ.out (Tb_one 16) ?_))
    have HB2 := Lib.hid (laid_table HB1.out)
    rw [Tb_zero] at HB2
    generalize hg : w1.heap.size = g at *
    generalize hW : (w1.alloc _).setRow g (Tb 16) = W at *
    clear hW hg
    go_loop [6, 14] (fun r i => i = .int .i64 0 ∧ r = .int .u32 (Crc.C s : Nat)) (fun _ i => 0)
    case atStart => exact ⟨rfl, rfl⟩
    case round =>
      obtain ⟨rfl, rfl⟩ := hrel
      go_wp2
      go_ret
      exact ⟨ret_u32 (by show _ = ((Crc.C (Crc.C s) : Nat) : Int); rfl), HB2.out.2⟩
  · obtain ⟨b, off, rfl, hb, hc⟩ := H.2.2 hn
    have Hc := Lib.hid hc
    have HH := Lib.hid H.2.1
    clear hc H
    have HN := Lib.hid hn
    clear hn
    have HZ := Lib.hid tb_sizes
    go_enter Try.func9, Try.ntmps9
    go_wp2_with (first | (go_at_call 14; refine (table_any _).mono ?_; rintro e w1 ⟨rfl, hb1⟩; have HB1 := Lib.hid hb1; clear hb1) | (refine wpList_store_row rfl 34 (.tmp 5) (.tmp 9) rfl _ (Tb 16) rfl rfl 34 (Tb 0) (heap_alloc_new _ _) (by kernel_rfl) HZ.out (Tb_one 16) ?_))
    have HB2 := Lib.hid (laid_table HB1.out)
    rw [Tb_zero] at HB2
    generalize hg : w1.heap.size = g at *
    generalize hW : (w1.alloc _).setRow g (Tb 16) = W at *
    clear hW hg
    go_loop [6, 14] (fun r i => ∃ k : Nat, k ≤ bs.length ∧ i = .int .i64 k ∧ r = .int .u32 (Crc.R (Crc.C s) (bs.take k) : Nat)) (fun _ i => bs.length - (intOf i).toNat)
    case atStart => exact ⟨0, Nat.zero_le _, rfl, rfl⟩
    case round =>
      obtain ⟨k, hk, rfl, rfl⟩ := hrel
      have hr : Crc.R (Crc.C s) (bs.take k) < 4294967296 := Crc.R_lt _ (fun c hc => Nat.lt_of_lt_of_le (HH.out c (List.mem_of_mem_take hc)) (by decide)) _ (Crc.C_lt s)
      by_cases hlt : k < bs.length
      · obtain ⟨c, hc⟩ : ∃ c, c = bs[k] := ⟨_, rfl⟩
        have hcell : W.cell? ⟨b, off + k, none⟩ = some (.int .u8 (c : Nat)) := by rw [hc]; exact (HB2.out.2.cell (p := ⟨b, off + k, none⟩) hb).trans (Hc.out k hlt)
        have hc2 : c < 256 := by rw [hc]; exact HH.out _ (List.getElem_mem _)
        have HR : Hid (Crc.R (Crc.C s) (bs.take (k + 1)) = Crc.B (Crc.R (Crc.C s) (bs.take k)) c) := by rw [take_snoc bs k hlt, Crc.R_snoc, hc]; exact Lib.hid rfl
        clear hc
        generalize Crc.R (Crc.C s) (bs.take k) = r at *
        have hxr := u32_xor_nat r c hr (by omega)
        have hl1 : r ^^^ c < 4294967296 := Nat.xor_lt_two_pow (n := 32) hr (by omega)
        have hl2 := Crc.It_lt 4 _ hl1
        have H4 := Lib.hid (Crc.B_four r c)
        go_wp2_with (go_at_call 15; refine (four_any _ _ (by assumption) _ HB2.out.1).mono ?_; rintro e w' ⟨rfl, rfl⟩)
        go_round
        case rel => exact ⟨k + 1, by omega, by go_num, by rw [HR.out, H4.out]⟩
        case measure => simp [intOf]; omega
      · obtain rfl : k = bs.length := by omega
        have hx2 := not_u32 _ hr
        have HE : Hid (Crc.More s bs = Crc.C (Crc.R (Crc.C s) (bs.take bs.length))) := by rw [List.take_length]; exact Lib.hid rfl
        generalize Crc.R (Crc.C s) (bs.take bs.length) = r at *
        go_wp2
        go_ret
        exact ⟨ret_u32 (by rw [HE.out]), HB2.out.2⟩
/-- 'crc.Sum' -/
theorem sum_any (a : Option Addr) (bs : List Nat) (cap : Nat) (w : World) (H : Bys w a bs) :
    Calls Try.prog 8 #[.slice a bs.length cap] w fun e w' => e = .returned (.int .u32 (Crc.More 0 bs : Nat)) ∧ Below w.heap.size w w' := by
  have H0 := Lib.hid H
  clear H
  go_enter Try.func8, Try.ntmps8
  go_wp2_with (go_at_call 9; refine (more_any 0 (by decide) a bs cap _ H0.out).mono ?_; rintro e w' ⟨rfl, hb⟩; have HB := Lib.hid hb; clear hb)
  go_ret
  exact ⟨rfl, HB.out⟩
end Go.Proofs.Ytniajoocpnhhgaa
