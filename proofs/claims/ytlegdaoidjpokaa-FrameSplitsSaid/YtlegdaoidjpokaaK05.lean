/-
  PACKED: LawFO, FrT
-/
import Derived.Test.YtlegdaoidjpokaaK04
namespace Go.Proofs.Ytlegdaoidjpokaa
set_option linter.unusedVariables false
set_option linter.unusedSimpArgs false
open Go.RowKit
open B2 (Only Row Lots owns_only)
theorem others_much (seg other k n cap : Nat) (a : Option Addr) (hn : 2000 < n) (w : World) :
    Calls Try.prog 7 #[.int .u32 seg, .int .u32 other, .int .u8 k, .slice a n cap] w fun e w' => e = .returned (.bool true) ∧ Below w.heap.size w w' := by
  have d1 : decide ((2000 : Int) < (n : Int)) = true := by simp; omega
  have CK := Lib.hid (known_any w)
  go_enter Try.func7, Try.ntmps7
  go_wp2_with fail
  go_at_call 14
  refine CK.out.mono ?_
  rintro e w1 ⟨rfl, hb⟩
  have HB := Lib.hid hb
  clear hb
  go_wp2_with fail
  go_ret
  exact ⟨rfl, HB.out⟩
theorem sum_none : Crc.More 0 [] = 0 := by decide
set_option maxHeartbeats 8000000 in
set_option maxRecDepth 100000 in
theorem others_law (seg other at8 n cap : Nat) (a : Option Addr) (bs : List Nat) (hn : bs.length = n) (hn2 : n ≤ 2000) (hs : seg < 4294967296) (ho : other < 4294967296) (h8 : at8 < 256) (hc : n ≤ cap) (hc0 : a = none → cap = 0) (w : World) (H : Bys w a bs) (hold : ∀ x, a = some x → x.block < w.heap.size ∨ bs = []) :
    Calls Try.prog 7 #[.int .u32 seg, .int .u32 other, .int .u8 at8, .slice a n cap] w fun e w' => e = .returned (.bool true) ∧ Below w.heap.size w w' := by
  have d1 : decide ((2000 : Int) < (n : Int)) = false := by simp; omega
  have d9 : ¬ 2000 < n := by omega
  have CK := Lib.hid (known_any w)
  obtain ⟨k, hk⟩ : ∃ k : Nat, at8 % 20 = k := ⟨_, rfl⟩
  have hk20 : k < 20 := by omega
  have hkm : (at8 : Int) % 20 = (k : Int) := by omega
  have hkt : (at8 : Int).tmod 20 = (k : Int) := by rw [Int.tmod_eq_emod_of_nonneg (by omega)]; exact hkm
  have hnd : Fr.need n ≤ 9 := by unfold Fr.need; omega
  have hnp := Fr.need_pos n
  have CS := Lib.hid (fun W hB hO => spl_ok a bs n cap other k hn hc hc0 (by omega) ho (by omega) W hB hO)
  have HBY := Lib.hid (And.intro H hold)
  have hscan1 : seg = other → k = 0 → Fr.scan seg (Fr.cutS other k bs) = ([bs], Fr.need n) := by
    rintro rfl rfl
    rw [← hn]
    exact Fr.scan_one seg bs (by omega)
  have hscan2 : ¬ (seg = other ∧ k = 0) → Fr.scan seg (Fr.cutS other k bs) = ([], 0) := fun h => Fr.scan_other seg other k bs hs ho (by omega) h
  have hSl : (Fr.cutS other k bs).length = Fr.need n := by rw [Fr.cutS_len, hn]
  obtain ⟨nd, hnd2⟩ : ∃ nd, Fr.need n = nd := ⟨_, rfl⟩
  obtain ⟨S, hS⟩ : ∃ S, Fr.cutS other k bs = S := ⟨_, rfl⟩
  rw [hnd2] at CS hnd hnp hscan1 hSl
  rw [hS] at CS hscan1 hscan2 hSl
  have HSL := Lib.hid hSl
  have HSC := Lib.hid (And.intro hscan1 hscan2)
  clear hn hc hc0 H hold hk hnd2 hS hscan1 hscan2 hSl
  go_enter Try.func7, Try.ntmps7
  go_wp2_with fail
  go_at_call 14
  refine CK.out.mono ?_
  rintro e w1 ⟨rfl, hb1⟩
  have HB1 := Lib.hid hb1
  clear hb1 CK
  go_wp2_with fail
  go_at_call 9
  refine (CS.out w1 (HBY.out.1.below HB1.out) (fun x hx => (HBY.out.2 x hx).imp (fun h => Nat.lt_of_lt_of_le h HB1.out.size) id)).mono ?_
  rintro e w2 ⟨h, m, rfl, hSp, hb2⟩
  have HS2 := Lib.hid (And.intro hSp (HB1.out.trans (hb2.mono HB1.out.size)))
  have C9 := Lib.hid (scan_any (some ⟨h, 0, none⟩) S nd nd seg HSL.out (by omega) hs w2 hSp.rws)
  clear hSp hb2 HB1 CS
  go_wp2_with fail
  go_at_call 19
  refine C9.out.mono ?_
  rintro e w3 ⟨hb3, v, X, rfl, hO⟩
  obtain ⟨av, cv, rfl⟩ := hO.shape
  have HB3 := Lib.hid (HS2.out.2.trans (hb3.mono HS2.out.2.size))
  have CR := Lib.hid (refsum_any none [] 0 w3 (nil_bytes _ _))
  rw [sum_none] at CR
  have hl0 : ([] : List Nat).length = 0 := rfl
  rw [hl0] at CR
  have CR2 := CR.out
  simp only [Int.cast_ofNat_Int] at CR2
  have CR := Lib.hid CR2
  clear CR2 hl0 hb3 hO HS2 C9
  by_cases e1 : seg = other
  · by_cases e2 : k = 0
    · have hs1 := HSC.out.1 e1 e2
      subst e1 e2
      rw [hs1]
      have hl1 : ([bs] : List (List Nat)).length = 1 := rfl
      rw [hl1]
      clear hs1 hl1 HSC
      go_wp2_with fail
      go_at_call 23
      refine CR.out.mono ?_
      rintro e w4 ⟨rfl, hw4⟩
      obtain rfl : w3 = w4 := hw4
      clear CR
      go_wp2_with fail
      go_ret
      exact ⟨rfl, HB3.out⟩
    · have hs1 := HSC.out.2 (fun h => e2 h.2)
      subst e1
      rw [hs1]
      have hl1 : ([] : List (List Nat)).length = 0 := rfl
      rw [hl1]
      have hk0 : ((k : Int) == 0) = false := by simp; omega
      have hnd0 : ((0 : Int) == (nd : Int)) = false := by simp; omega
      clear hs1 hl1 HSC
      go_wp2_with fail
      go_at_call 23
      refine CR.out.mono ?_
      rintro e w4 ⟨rfl, hw4⟩
      obtain rfl : w3 = w4 := hw4
      clear CR
      go_wp2_with fail
      go_ret
      exact ⟨rfl, HB3.out⟩
  · have hs1 := HSC.out.2 (fun h => e1 h.1)
    rw [hs1]
    have hl1 : ([] : List (List Nat)).length = 0 := rfl
    rw [hl1]
    have hso : ((seg : Int) == (other : Int)) = false := by simp; omega
    have hnd0 : ((0 : Int) == (nd : Int)) = false := by simp; omega
    clear hs1 hl1 HSC
    go_wp2_with fail
    go_at_call 23
    refine CR.out.mono ?_
    rintro e w4 ⟨rfl, hw4⟩
    obtain rfl : w3 = w4 := hw4
    clear CR
    go_wp2_with fail
    go_ret
    exact ⟨rfl, HB3.out⟩
/-- what came in lies below what is new -/
theorem bys_old {w : World} {a : Option Addr} {bs : List Nat} (h : Bys w a bs) : ∀ x, a = some x → x.block < w.heap.size ∨ bs = [] := by
  intro x hx
  by_cases hb : bs = []
  · exact .inr hb
  · obtain ⟨b, off, ha, hlt, _⟩ := h.2.2 hb
    rw [ha] at hx
    injection hx with hx
    subst hx
    exact .inl hlt
end Go.Proofs.Ytlegdaoidjpokaa
namespace Go.Proofs.Ytlegdaoidjpokaa
set_option linter.unusedVariables false
set_option linter.unusedSimpArgs false
open Go.RowKit
/-- block g begins with these bytes -/
def Xat (wr : World) (g : Nat) (bs : List Nat) : Prop := ∃ cur : Array Value, wr.heap[g]? = some (.cells cur 5 (0, 0)) ∧ cur.toList.take bs.length = cellsOf bs
theorem Xat.cell {wr : World} {g : Nat} {bs : List Nat} (h : Xat wr g bs) (k : Nat) (hk : k < bs.length) : wr.cell? ⟨g, k, none⟩ = some (.int .u8 ((bs[k] : Nat) : Int)) := by
  obtain ⟨cur, hg, ht⟩ := h
  rw [cell_of_row _ _ _ _ _ _ hg]
  have h1 : (cellsOf bs)[k]? = cur.toList[k]? := by rw [← ht, List.getElem?_take, if_pos hk]
  rw [← Array.getElem?_toList, ← h1]
  simp [cellsOf, hk]
theorem Xat.frozen {wr : World} {g : Nat} {bs : List Nat} (h : Xat wr g bs) (k : Nat) : wr.frozen? ⟨g, k, none⟩ = false := by
  obtain ⟨cur, hg, _⟩ := h
  exact frozen_of_row wr _ _ _ _ hg
theorem Xat.set {wr : World} {g : Nat} {bs : List Nat} (h : Xat wr g bs) (k v : Nat) : Xat (wr.setCell ⟨g, k, none⟩ (.int .u8 (v : Int))) g (bs.set k v) := by
  obtain ⟨cur, hg, ht⟩ := h
  refine ⟨cur.setIfInBounds k (.int .u8 (v : Int)), heap_setCell_same _ _ _ _ _ _ hg, ?_⟩
  rw [Array.toList_setIfInBounds, List.length_set, List.take_set, ht]
  simp [cellsOf]
theorem Xat.bytes {wr : World} {g : Nat} {bs : List Nat} (h : Xat wr g bs) (hl : bs.length ≤ maxLen) (h8 : ∀ c ∈ bs, c < 256) : Bys wr (some ⟨g, 0, none⟩) bs := by
  have h0 := h
  obtain ⟨cur, hg, _⟩ := h0
  exact ⟨hl, h8, fun _ => ⟨g, 0, rfl, (Array.getElem?_eq_some_iff.1 hg).1, fun i hi => by rw [Nat.zero_add]; exact h.cell i hi⟩⟩
theorem owns_xat {w : World} {base : Nat} {v : Value} {n : Nat} {bs : List Nat} (hn : n = bs.length) (h : w.ownsRow base 5 1 v n (cellsOf bs)) (h0 : bs ≠ []) : ∃ g cap, v = .slice (some ⟨g, 0, none⟩) n cap ∧ base ≤ g ∧ n ≤ cap ∧ Xat w g bs := by
  subst hn
  rcases h.2 with ⟨_, h1⟩ | ⟨g, cap, cur, rfl, hb, hg, hc, _, _, ht⟩
  · exact absurd (List.length_eq_zero_iff.1 h1) h0
  · exact ⟨g, cap, rfl, hb, hc, cur, hg, by rw [Nat.mul_one] at ht; exact ht⟩
/-- where the run begins, by the sign of the number that came in -/
theorem from_cases (x : Int) (n : Nat) (h : 0 < n) : ∃ f : Nat, f < 8 * n ∧
    ((0 ≤ x ∧ x % (8 * (n : Int)) = (f : Int)) ∨ (x < 0 ∧ x.tmod (8 * (n : Int)) = (f : Int)) ∨ (∃ t : Int, x < 0 ∧ t < 0 ∧ x.tmod (8 * (n : Int)) = t ∧ t + 8 * (n : Int) = (f : Int))) := by
  have hN : (0 : Int) < 8 * (n : Int) := by omega
  have a0 := Int.emod_nonneg x (show 8 * (n : Int) ≠ 0 by omega)
  have a1 := Int.emod_lt_of_pos x hN
  by_cases hx : 0 ≤ x
  · exact ⟨(x % (8 * (n : Int))).toNat, by omega, .inl ⟨hx, by omega⟩⟩
  · have b0 := Int.emod_nonneg (-x) (show 8 * (n : Int) ≠ 0 by omega)
    have b1 := Int.emod_lt_of_pos (-x) hN
    have e : x.tmod (8 * (n : Int)) = -((-x) % (8 * (n : Int))) := by
      have h1 := Int.neg_tmod x (8 * (n : Int))
      have h2 := Int.tmod_eq_emod_of_nonneg (a := -x) (b := 8 * (n : Int)) (by omega)
      omega
    by_cases hz : (-x) % (8 * (n : Int)) = 0
    · exact ⟨0, by omega, .inr (.inl ⟨by omega, by rw [e, hz]; rfl⟩)⟩
    · exact ⟨(-((-x) % (8 * (n : Int))) + 8 * (n : Int)).toNat, by omega, .inr (.inr ⟨_, by omega, by omega, e, by omega⟩)⟩
/-- behind k rounds -/
def Turned (w : World) (g : Nat) (bs : List Nat) (c f k : Nat) (wr : World) (y : Bool) : Prop :=
  ∃ m : List Nat, m.length = bs.length ∧ (∀ x ∈ m, x < 256) ∧ (∀ r, Crc.R r m = Crc.R r bs ^^^ Crc.It (8 * bs.length - f) (Crc.Wm c f (8 * bs.length) k)) ∧ Xat wr g m ∧ Below w.heap.size w wr ∧
    (y = true ↔ Crc.Wm c f (8 * bs.length) k ≠ 0) ∧ (y = false → m = bs)
theorem turned_start {w w2 : World} {g : Nat} {bs : List Nat} {c f : Nat} (h8 : ∀ x ∈ bs, x < 256) (hX : Xat w2 g bs) (hB : Below w.heap.size w w2) : Turned w g bs c f 0 w2 false :=
  ⟨bs, rfl, h8, fun r => by rw [show Crc.Wm c f (8 * bs.length) 0 = 0 from rfl, Crc.It_zero, Nat.xor_zero], hX, hB, by simp [Crc.Wm], fun _ => rfl⟩
theorem turned_no {w wr : World} {g : Nat} {bs : List Nat} {c f k : Nat} {y : Bool} (h : Turned w g bs c f k wr y) (hn : ¬ (c.testBit k = true ∧ f + k < 8 * bs.length)) : Turned w g bs c f (k + 1) wr y := by
  unfold Turned
  rw [Crc.Wm_no c f _ k hn]
  exact h
theorem cast_bit (c k : Nat) : ((c / 2 ^ k : Nat) : Int) = (c : Int) / 2 ^ k := by
  rw [Int.natCast_ediv, Int.natCast_pow]; rfl
theorem bit_yes {c k : Nat} (hc : c < 4294967296) (h : c.testBit k = true) : bits .and .u32 ((c : Int) / 2 ^ k) 1 = 1 := by
  rw [← cast_bit]
  refine and1_odd _ (Nat.lt_of_le_of_lt (Nat.div_le_self _ _) hc) ?_
  simpa [Nat.testBit_eq_decide_div_mod_eq] using h
theorem bit_no {c k : Nat} (hc : c < 4294967296) (h : ¬ c.testBit k = true) : bits .and .u32 ((c : Int) / 2 ^ k) 1 = 0 := by
  rw [← cast_bit]
  refine and1_even _ (Nat.lt_of_le_of_lt (Nat.div_le_self _ _) hc) ?_
  have : ¬ c / 2 ^ k % 2 = 1 := by simpa [Nat.testBit_eq_decide_div_mod_eq] using h
  omega
theorem put_bit {x j : Nat} (hx : x < 256) (hj : j < 8) : bits .xor .u8 (x : Int) (2 ^ j % 256) = ((x ^^^ 2 ^ j : Nat) : Int) := by
  have h2 : 2 ^ j < 256 := Nat.lt_of_lt_of_le (Nat.pow_lt_pow_right (by decide) hj) (by decide)
  rw [← u8_xor_nat x (2 ^ j) hx h2]
  congr 1
  have e : ((2 ^ j : Nat) : Int) = 2 ^ j := by rw [Int.natCast_pow]; rfl
  rw [← e]
  generalize (2 ^ j : Nat) = z at h2 ⊢
  omega
theorem turned_at {w wr : World} {g : Nat} {bs : List Nat} {c f k : Nat} {y : Bool} (h : Turned w g bs c f k wr y) (q : Nat) (hq : q < bs.length) : wr.frozen? ⟨g, q, none⟩ = false ∧ ∃ x : Nat, x < 256 ∧ wr.cell? ⟨g, q, none⟩ = some (.int .u8 (x : Int)) := by
  obtain ⟨m, hml, hm8, _, hmX, _, _, _⟩ := h
  exact ⟨hmX.frozen q, m[q]'(by omega), hm8 _ (List.getElem_mem _), hmX.cell q (by omega)⟩
theorem turned_yes {w wr : World} {g : Nat} {bs : List Nat} {c f k x : Nat} {y : Bool} (h : Turned w g bs c f k wr y) (hg : w.heap.size ≤ g) (hbit : c.testBit k = true) (hin : f + k < 8 * bs.length) (hx : x < 256)
    (hc : wr.cell? ⟨g, (f + k) / 8, none⟩ = some (.int .u8 (x : Int))) : Turned w g bs c f (k + 1) (wr.setCell ⟨g, (f + k) / 8, none⟩ (.int .u8 (bits .xor .u8 (x : Int) (2 ^ ((f + k) % 8) % 256)))) true := by
  obtain ⟨m, hml, hm8, hmR, hmX, hmB, hmy, _⟩ := h
  have hq : (f + k) / 8 < m.length := by omega
  have hj : (f + k) % 8 < 8 := by omega
  have hxe : m[(f + k) / 8] = x := by
    have := hmX.cell _ hq
    rw [hc] at this
    simp only [Option.some.injEq, Value.int.injEq, true_and] at this
    omega
  rw [put_bit hx hj]
  refine ⟨m.set ((f + k) / 8) (m[(f + k) / 8] ^^^ 2 ^ ((f + k) % 8)), by simp [hml], fun z hz => ?_, fun r => ?_, ?_, hmB.setCell hg _, ?_, fun h => by cases h⟩
  · rcases List.mem_or_eq_of_mem_set hz with hz | rfl
    · exact hm8 z hz
    · exact Nat.xor_lt_two_pow (n := 8) (hm8 _ (List.getElem_mem _)) (Nat.lt_of_lt_of_le (Nat.pow_lt_pow_right (by decide) hj) (by decide))
  · rw [Crc.Wm_yes c f _ k hbit hin]
    exact Crc.turn bs m f k _ _ _ hml hmR hin hj (by omega) hq r
  · rw [hxe]; exact hmX.set _ _
  · exact ⟨fun _ => Crc.Wm_ne c f _ k hbit hin, fun _ => rfl⟩
end Go.Proofs.Ytlegdaoidjpokaa
