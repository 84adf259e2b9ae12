/-
  THE WALK of the statement CrcBursts.
-/
import Derived.Test.YtniajoocpnhhgaaMathB
import Derived.Test.YtniajoocpnhhgaaLawB
namespace Go.Proofs.Ytniajoocpnhhgaa
open Go.RowKit
/-- block g begins with these bytes -/
def Xat (wr : World) (g : Nat) (bs : List Nat) : Prop := ∃ cur : Array Value, wr.heap[g]? = some (.cells cur 5 (0, 0)) ∧ cur.toList.take bs.length = cellsOf bs
theorem Xat.cell {wr : World} {g : Nat} {bs : List Nat} (h : Xat wr g bs) (k : Nat) (hk : k < bs.length) : wr.cell? ⟨g, k, none⟩ = some (.int .u8 ((bs[k] : Nat) : Int)) := by
  obtain ⟨cur, hg, ht⟩ := h
  rw [cell_of_row _ _ _ _ _ _ hg]
  have h1 : (cellsOf bs)[k]? = cur.toList[k]? := by rw [← ht, List.getElem?_take, if_pos hk]
  rw [← Array.getElem?_toList, ← h1]
  simp [cellsOf, hk]
theorem Xat.frozen {wr : World} {g : Nat} {bs : List Nat} (h : Xat wr g bs) (k : Nat) : wr.frozen? ⟨g, k, none⟩ = false := by
  obtain ⟨cur, hg, _⟩ := h
  exact frozen_of_row wr _ _ _ _ hg
theorem Xat.set {wr : World} {g : Nat} {bs : List Nat} (h : Xat wr g bs) (k v : Nat) : Xat (wr.setCell ⟨g, k, none⟩ (.int .u8 (v : Int))) g (bs.set k v) := by
  obtain ⟨cur, hg, ht⟩ := h
  refine ⟨cur.setIfInBounds k (.int .u8 (v : Int)), heap_setCell_same _ _ _ _ _ _ hg, ?_⟩
  rw [Array.toList_setIfInBounds, List.length_set, List.take_set, ht]
  simp [cellsOf]
theorem Xat.bytes {wr : World} {g : Nat} {bs : List Nat} (h : Xat wr g bs) (hl : bs.length ≤ maxLen) (h8 : ∀ c ∈ bs, c < 256) : Bys wr (some ⟨g, 0, none⟩) bs := by
  have h0 := h
  obtain ⟨cur, hg, _⟩ := h0
  exact ⟨hl, h8, fun _ => ⟨g, 0, rfl, (Array.getElem?_eq_some_iff.1 hg).1, fun i hi => by rw [Nat.zero_add]; exact h.cell i hi⟩⟩
theorem owns_xat {w : World} {base : Nat} {v : Value} {n : Nat} {bs : List Nat} (hn : n = bs.length) (h : w.ownsRow base 5 1 v n (cellsOf bs)) (h0 : bs ≠ []) : ∃ g cap, v = .slice (some ⟨g, 0, none⟩) n cap ∧ base ≤ g ∧ n ≤ cap ∧ Xat w g bs := by
  subst hn
  rcases h.2 with ⟨_, h1⟩ | ⟨g, cap, cur, rfl, hb, hg, hc, _, _, ht⟩
  · exact absurd (List.length_eq_zero_iff.1 h1) h0
  · exact ⟨g, cap, rfl, hb, hc, cur, hg, by rw [Nat.mul_one] at ht; exact ht⟩
/-- where the run begins, by the sign of the number that came in -/
theorem from_cases (x : Int) (n : Nat) (h : 0 < n) : ∃ f : Nat, f < 8 * n ∧
    ((0 ≤ x ∧ x % (8 * (n : Int)) = (f : Int)) ∨ (x < 0 ∧ x.tmod (8 * (n : Int)) = (f : Int)) ∨ (∃ t : Int, x < 0 ∧ t < 0 ∧ x.tmod (8 * (n : Int)) = t ∧ t + 8 * (n : Int) = (f : Int))) := by
  have hN : (0 : Int) < 8 * (n : Int) := by omega
  have a0 := Int.emod_nonneg x (show 8 * (n : Int) ≠ 0 by omega)
  have a1 := Int.emod_lt_of_pos x hN
  by_cases hx : 0 ≤ x
  · exact ⟨(x % (8 * (n : Int))).toNat, by omega, .inl ⟨hx, by omega⟩⟩
  · have b0 := Int.emod_nonneg (-x) (show 8 * (n : Int) ≠ 0 by omega)
    have b1 := Int.emod_lt_of_pos (-x) hN
    have e : x.tmod (8 * (n : Int)) = -((-x) % (8 * (n : Int))) := by
      have h1 := Int.neg_tmod x (8 * (n : Int))
      have h2 := Int.tmod_eq_emod_of_nonneg (a := -x) (b := 8 * (n : Int)) (by omega)
      omega
    by_cases hz : (-x) % (8 * (n : Int)) = 0
    · exact ⟨0, by omega, .inr (.inl ⟨by omega, by rw [e, hz]; rfl⟩)⟩
    · exact ⟨(-((-x) % (8 * (n : Int))) + 8 * (n : Int)).toNat, by omega, .inr (.inr ⟨_, by omega, by omega, e, by omega⟩)⟩
/-- behind k rounds -/
def Turned (w : World) (g : Nat) (bs : List Nat) (c f k : Nat) (wr : World) (y : Bool) : Prop :=
  ∃ m : List Nat, m.length = bs.length ∧ (∀ x ∈ m, x < 256) ∧ (∀ r, Crc.R r m = Crc.R r bs ^^^ Crc.It (8 * bs.length - f) (Crc.Wm c f (8 * bs.length) k)) ∧ Xat wr g m ∧ Below w.heap.size w wr ∧
    (y = true ↔ Crc.Wm c f (8 * bs.length) k ≠ 0)
theorem turned_start {w w2 : World} {g : Nat} {bs : List Nat} {c f : Nat} (h8 : ∀ x ∈ bs, x < 256) (hX : Xat w2 g bs) (hB : Below w.heap.size w w2) : Turned w g bs c f 0 w2 false :=
  ⟨bs, rfl, h8, fun r => by rw [show Crc.Wm c f (8 * bs.length) 0 = 0 from rfl, Crc.It_zero, Nat.xor_zero], hX, hB, by simp [Crc.Wm]⟩
theorem turned_no {w wr : World} {g : Nat} {bs : List Nat} {c f k : Nat} {y : Bool} (h : Turned w g bs c f k wr y) (hn : ¬ (c.testBit k = true ∧ f + k < 8 * bs.length)) : Turned w g bs c f (k + 1) wr y := by
  unfold Turned
  rw [Crc.Wm_no c f _ k hn]
  exact h
theorem cast_bit (c k : Nat) : ((c / 2 ^ k : Nat) : Int) = (c : Int) / 2 ^ k := by
  rw [Int.natCast_ediv, Int.natCast_pow]; rfl
theorem bit_yes {c k : Nat} (hc : c < 4294967296) (h : c.testBit k = true) : bits .and .u32 ((c : Int) / 2 ^ k) 1 = 1 := by
  rw [← cast_bit]
  refine and1_odd _ (Nat.lt_of_le_of_lt (Nat.div_le_self _ _) hc) ?_
  simpa [Nat.testBit_eq_decide_div_mod_eq] using h
theorem bit_no {c k : Nat} (hc : c < 4294967296) (h : ¬ c.testBit k = true) : bits .and .u32 ((c : Int) / 2 ^ k) 1 = 0 := by
  rw [← cast_bit]
  refine and1_even _ (Nat.lt_of_le_of_lt (Nat.div_le_self _ _) hc) ?_
  have : ¬ c / 2 ^ k % 2 = 1 := by simpa [Nat.testBit_eq_decide_div_mod_eq] using h
  omega
theorem put_bit {x j : Nat} (hx : x < 256) (hj : j < 8) : bits .xor .u8 (x : Int) (2 ^ j % 256) = ((x ^^^ 2 ^ j : Nat) : Int) := by
  have h2 : 2 ^ j < 256 := Nat.lt_of_lt_of_le (Nat.pow_lt_pow_right (by decide) hj) (by decide)
  rw [← u8_xor_nat x (2 ^ j) hx h2]
  congr 1
  have e : ((2 ^ j : Nat) : Int) = 2 ^ j := by rw [Int.natCast_pow]; rfl
  rw [← e]
  generalize (2 ^ j : Nat) = z at h2 ⊢
  omega
theorem turned_at {w wr : World} {g : Nat} {bs : List Nat} {c f k : Nat} {y : Bool} (h : Turned w g bs c f k wr y) (q : Nat) (hq : q < bs.length) : wr.frozen? ⟨g, q, none⟩ = false ∧ ∃ x : Nat, x < 256 ∧ wr.cell? ⟨g, q, none⟩ = some (.int .u8 (x : Int)) := by
  obtain ⟨m, hml, hm8, _, hmX, _, _⟩ := h
  exact ⟨hmX.frozen q, m[q]'(by omega), hm8 _ (List.getElem_mem _), hmX.cell q (by omega)⟩
theorem turned_yes {w wr : World} {g : Nat} {bs : List Nat} {c f k x : Nat} {y : Bool} (h : Turned w g bs c f k wr y) (hg : w.heap.size ≤ g) (hbit : c.testBit k = true) (hin : f + k < 8 * bs.length) (hx : x < 256)
    (hc : wr.cell? ⟨g, (f + k) / 8, none⟩ = some (.int .u8 (x : Int))) : Turned w g bs c f (k + 1) (wr.setCell ⟨g, (f + k) / 8, none⟩ (.int .u8 (bits .xor .u8 (x : Int) (2 ^ ((f + k) % 8) % 256)))) true := by
  obtain ⟨m, hml, hm8, hmR, hmX, hmB, hmy⟩ := h
  have hq : (f + k) / 8 < m.length := by omega
  have hj : (f + k) % 8 < 8 := by omega
  have hxe : m[(f + k) / 8] = x := by
    have := hmX.cell _ hq
    rw [hc] at this
    simp only [Option.some.injEq, Value.int.injEq, true_and] at this
    omega
  rw [put_bit hx hj]
  refine ⟨m.set ((f + k) / 8) (m[(f + k) / 8] ^^^ 2 ^ ((f + k) % 8)), by simp [hml], fun z hz => ?_, fun r => ?_, ?_, hmB.setCell hg _, ?_⟩
  · rcases List.mem_or_eq_of_mem_set hz with hz | rfl
    · exact hm8 z hz
    · exact Nat.xor_lt_two_pow (n := 8) (hm8 _ (List.getElem_mem _)) (Nat.lt_of_lt_of_le (Nat.pow_lt_pow_right (by decide) hj) (by decide))
  · rw [Crc.Wm_yes c f _ k hbit hin]
    exact Crc.turn bs m f k _ _ _ hml hmR hin hj (by omega) hq r
  · rw [hxe]; exact hmX.set _ _
  · exact ⟨fun _ => Crc.Wm_ne c f _ k hbit hin, fun _ => rfl⟩
theorem sum_at (n : Nat) (a : Option Addr) (bs : List Nat) (cap : Nat) (w : World) (hn : bs.length = n) (H : Bys w a bs) :
    Calls Try.prog 8 #[.slice a n cap] w fun e w' => e = .returned (.int .u32 (Crc.More 0 bs : Nat)) ∧ Below w.heap.size w w' := by
  subst hn; exact sum_any a bs cap w H
theorem told_bool {x z w : Nat} {y : Bool} (h : x = z ↔ w = 0) (hy : y = true ↔ w ≠ 0) : (((x : Int) != (z : Int)) == y) = true := by
  by_cases hw : w = 0
  · have hxz := h.2 hw
    subst hxz
    have : y = false := by cases y; rfl; exact absurd hw (hy.1 rfl)
    subst this
    simp
  · have hxz : x ≠ z := fun e => hw (h.1 e)
    have : y = true := hy.2 hw
    subst this
    simp; omega
set_option maxHeartbeats 2000000 in
theorem bursts_law (a : Option Addr) (bs : List Nat) (cap : Nat) (at' : Int) (c : Nat) (w : World) (H : Bys w a bs) (hc : c < 4294967296) :
    Calls Try.prog 6 #[.slice a bs.length cap, .int .i64 at', .int .u32 c] w fun e w' => e = .returned (.bool true) ∧ Below w.heap.size w w' := by
  obtain ⟨i0, hi, hz0, hz1, hz2⟩ := info_parts info5
  have A1 := Lib.hid H
  have hl := H.1
  unfold maxLen at hl
  clear H
  by_cases h0 : bs = []
  · subst h0
    have hd : ((([] : List Nat).length : Int) == 0) = true := by simp
    go_enter Try.func6, Try.ntmps6
    go_wp2_with (go_at_call 11; refine (known_any _).mono ?_; rintro e w1 ⟨rfl, hb1⟩; have HB1 := Lib.hid hb1; clear hb1)
    go_ret
    exact ⟨rfl, HB1.out⟩
  · have hpos : 0 < bs.length := List.length_pos_iff.2 h0
    have hd : ((bs.length : Int) == 0) = false := by simp; exact h0
    by_cases hbig : 100000 < bs.length
    · go_enter Try.func6, Try.ntmps6
      go_wp2_with (go_at_call 11; refine (known_any _).mono ?_; rintro e w1 ⟨rfl, hb1⟩; have HB1 := Lib.hid hb1; clear hb1)
      go_ret
      exact ⟨rfl, HB1.out⟩
    · have hd2 : decide ((100000 : Int) < (bs.length : Int)) = false := by simp; omega
      have hsm : bs.length ≤ 100000 := by omega
      obtain ⟨b, off, rfl, hb, _⟩ := A1.out.2.2 h0
      have hcs := from_cases at' bs.length hpos
      obtain ⟨f, hf, hcs⟩ := hcs
      clear hbig hd
      have hd : ((bs.length : Int) == 0) = false := by simp; exact h0
      have hd3 : decide ((f : Int) < 0) = false := by simp
      rcases hcs with ⟨hp, hr⟩ | ⟨hp, hr⟩ | ⟨t, hp, ht, hr, hs⟩
      all_goals
        go_enter Try.func6, Try.ntmps6
        go_wp2_with ((at_builtin; refine wpList_append_own _ rfl (.tmp 33) (.tmp 34) 23 rfl w.heap.size 5 i0 (.int .u8 0) 1 1 Try.underlying23 hi hz0 hz1 hz2 rfl (by decide) _ 0 [] rfl (World.ownsRow_nil _ _ _ _) ⟨b, off, none⟩ bs.length cap (cellsOf bs) rfl (by rw [cellsOf_length]; omega) (cellsOf_at A1.out) (cellsOf_one _) (by unfold maxLen; omega) (by omega) (Nat.le_refl _) ?_; intro v' w2 hown2 hgr2 _; have HB2 := Lib.hid (grown_below_own (Below.refl _ _) (World.ownsRow_nil _ _ _ _) hgr2 (Nat.le_refl _)); have HX2 := Lib.hid (owns_xat (Nat.zero_add _) hown2 h0); clear hown2 hgr2))
      all_goals
        obtain ⟨g, cp, rfl, hg, hcp, hX⟩ := HX2.out
        have HX := Lib.hid (turned_start A1.out.2.1 hX HB2.out : Turned w g bs c f 0 w2 false)
        clear hX HX2
        go_loopw [9, 10] (fun tb i wr => ∃ (k : Nat) (y : Bool), k ≤ 32 ∧ i = .int .i64 k ∧ tb = .bool y ∧ Hid (Turned w g bs c f k wr y)) (fun _ i _ => 32 - (intOf i).toNat)
        case atStart => exact ⟨0, false, Nat.zero_le _, rfl, rfl, HX⟩
        case round =>
          obtain ⟨k, y, hk, rfl, rfl, HT⟩ := hrel
          by_cases hlt : k < 32
          · by_cases hbit : c.testBit k = true
            · by_cases hin : f + k < 8 * bs.length
              · obtain ⟨hfz, x, hx8, hcell⟩ := turned_at HT.out ((f + k) / 8) (by omega)
                have hb1 := bit_yes hc hbit
                have HN := Lib.hid (turned_yes HT.out hg hbit hin hx8 hcell)
                have hbit' := Lib.hid hbit
                clear hbit
                go_wp2
                go_roundw
                case rel => exact ⟨k + 1, true, by omega, by go_num, rfl, HN⟩
                case measure => simp [intOf]; omega
              · have hb1 := bit_yes hc hbit
                have HN := Lib.hid (turned_no HT.out (fun hh => hin hh.2))
                clear hbit
                go_wp2
                go_roundw
                case rel => exact ⟨k + 1, y, by omega, by go_num, rfl, HN⟩
                case measure => simp [intOf]; omega
            · have hb1 := bit_no hc hbit
              have HN := Lib.hid (turned_no HT.out (fun hh => hbit hh.1))
              clear hbit
              go_wp2
              go_roundw
              case rel => exact ⟨k + 1, y, by omega, by go_num, rfl, HN⟩
              case measure => simp [intOf]; omega
          · obtain rfl : k = 32 := by omega
            obtain ⟨m, hml, hm8, hmR, hmX, hmB, hmy⟩ := HT.out
            have HM := Lib.hid (hmX.bytes (by rw [hml]; exact hl) hm8)
            have HA := Lib.hid (A1.out.below hmB)
            have HBr := Lib.hid hmB
            have hw := Nat.lt_of_lt_of_le (Crc.Wm_lt c f (8 * bs.length) 32) (show (2 : Nat) ^ 32 ≤ 4294967296 from Nat.le_refl _)
            have HTold := Lib.hid (Crc.told bs m f _ (fun x hx => Nat.lt_of_lt_of_le (A1.out.2.1 x hx) (by decide)) (fun x hx => Nat.lt_of_lt_of_le (hm8 x hx) (by decide)) hmR hw)
            have HML := Lib.hid hml
            have HMY := Lib.hid hmy
            clear hml hm8 hmR hmX hmB hmy hw HT
            go_wp2_with fail
            refine (known_any _).mono ?_
            rintro e w4 ⟨rfl, hb4⟩
            have HB4 := Lib.hid hb4
            clear hb4
            go_wp2_with fail
            refine (sum_at bs.length _ m cp _ HML.out (HM.out.below HB4.out)).mono ?_
            rintro e w5 ⟨rfl, hb5⟩
            have HB5 := Lib.hid hb5
            clear hb5
            go_wp2_with fail
            refine (sum_at bs.length _ bs cap _ rfl ((HA.out.below HB4.out).below HB5.out)).mono ?_
            rintro e w6 ⟨rfl, hb6⟩
            have HB6 := Lib.hid hb6
            clear hb6
            have hB := Lib.hid (((HBr.out.trans (HB4.out.mono HBr.out.size)).trans (HB5.out.mono (HBr.out.trans (HB4.out.mono HBr.out.size)).size)).trans (HB6.out.mono ((HBr.out.trans (HB4.out.mono HBr.out.size)).trans (HB5.out.mono (HBr.out.trans (HB4.out.mono HBr.out.size)).size)).size))
            have hfin := Lib.hid (told_bool HTold.out HMY.out)
            go_wp2
            go_ret
            exact ⟨congrArg (fun v => Ending.returned (Value.bool v)) hfin.out, hB.out⟩
end Go.Proofs.Ytniajoocpnhhgaa
