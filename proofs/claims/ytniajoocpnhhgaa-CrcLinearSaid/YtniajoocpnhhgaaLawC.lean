/-
  THE WALK of the statement CrcLinear.
-/
import Derived.Test.YtniajoocpnhhgaaOpen
import Derived.Deep.RegionHeld3
namespace Go.Proofs.Ytniajoocpnhhgaa
open Go.RowKit
theorem len_of_row {k : IntKind} {w : World} {a : Option Addr} {len cap : Nat} {zs : List Int} (h : IsRow k w a len cap zs) : len ≤ cap := by
  rcases h with ⟨_, rfl, rfl, _⟩ | ⟨_, _, h, _⟩
  · exact Nat.le_refl _
  · exact h
theorem Bys.take {w : World} {a : Option Addr} {bs : List Nat} (h : Bys w a bs) (n : Nat) (hn : n ≤ bs.length) : Bys w a (bs.take n) := by
  refine ⟨by have := h.1; simp; omega, fun c hc => h.2.1 c (List.mem_of_mem_take hc), fun hne => ?_⟩
  have h0 : bs ≠ [] := by rintro rfl; simp at hne
  obtain ⟨b, off, e, hb, hc⟩ := h.2.2 h0
  refine ⟨b, off, e, hb, fun i hi => ?_⟩
  have hi' : i < bs.length := by simp at hi; omega
  rw [hc i hi']
  simp
/-- the row that is filled: k of its places are -/
def Zr (z : List Nat) (k : Nat) : Array Value := (cellsOf (z.take k ++ List.replicate (z.length - k) 0)).toArray
theorem Zr_zero (z : List Nat) : (Zr z 0).toList = cellsOf (List.replicate z.length 0) := by simp [Zr]
theorem Zr_all (z : List Nat) : Zr z z.length = (cellsOf z).toArray := by simp [Zr]
theorem Zr_set (z : List Nat) (k : Nat) (h : k < z.length) : (Zr z k).setIfInBounds k (Value.int .u8 ((z[k] : Nat) : Int)) = Zr z (k + 1) := by
  unfold Zr
  rw [List.setIfInBounds_toArray]
  congr 1
  unfold cellsOf
  rw [← List.map_set]
  congr 1
  rw [List.set_append_right _ _ (by simp; omega)]
  rw [List.take_succ_eq_append_getElem h, List.append_assoc]
  congr 1
  rw [List.length_take, Nat.min_eq_left (by omega), Nat.sub_self]
  obtain ⟨m, hm⟩ : ∃ m, z.length - k = m + 1 := ⟨z.length - k - 1, by omega⟩
  rw [hm, List.replicate_succ, List.set_cons_zero, show z.length - (k + 1) = m by omega]
  rfl
/-- the world in which k places of block g are filled in -/
def FillAt (w wr : World) (g : Nat) (z : List Nat) (k : Nat) : Prop := wr.heap[g]? = some (.cells (Zr z k) 5 (0, 0)) ∧ Below w.heap.size w wr
theorem fill_step {w wr : World} {g : Nat} {z : List Nat} {k : Nat} (hk : k < z.length) (hg : w.heap.size ≤ g) (h : FillAt w wr g z k) : FillAt w (wr.setCell ⟨g, k, none⟩ (.int .u8 ((z[k] : Nat) : Int))) g z (k + 1) := by
  refine ⟨?_, h.2.setCell hg _⟩
  rw [heap_setCell_same _ _ _ _ _ _ h.1, Zr_set z k hk]
theorem fill_cell {w wr : World} {g : Nat} {z : List Nat} {k : Nat} (hk : k < z.length) (h : FillAt w wr g z k) : wr.cell? ⟨g, k, none⟩ = some (.int .u8 0) := by
  rw [cell_of_row wr _ _ _ _ _ h.1]
  unfold Zr cellsOf
  rw [List.getElem?_toArray, List.getElem?_map, List.getElem?_append_right (by simp; omega), List.length_take, Nat.min_eq_left (by omega), Nat.sub_self, List.getElem?_replicate, if_pos (by omega)]
  rfl
theorem fill_frozen {w wr : World} {g : Nat} {z : List Nat} {k : Nat} (h : FillAt w wr g z k) : wr.frozen? ⟨g, k, none⟩ = false := frozen_of_row wr _ _ _ _ h.1
theorem block_bytes {w : World} {g : Nat} {bs : List Nat} {fr : Nat × Nat} (h : w.heap[g]? = some (.cells (cellsOf bs).toArray 5 fr)) (hl : bs.length ≤ maxLen) (h8 : ∀ c ∈ bs, c < 256) : Bys w (some ⟨g, 0, none⟩) bs := by
  refine ⟨hl, h8, fun _ => ⟨g, 0, rfl, (Array.getElem?_eq_some_iff.1 h).1, fun i hi => ?_⟩⟩
  rw [Nat.zero_add, cell_of_row _ _ _ _ _ _ h]
  simp [cellsOf, hi]
theorem fill_bytes {w wr : World} {g : Nat} {z : List Nat} (h : FillAt w wr g z z.length) (hl : z.length ≤ maxLen) (h8 : ∀ c ∈ z, c < 256) : Bys wr (some ⟨g, 0, none⟩) z := block_bytes (by rw [h.1, Zr_all]) hl h8
theorem made_zeros (n : Nat) : madeCells (Value.int .u8 0).cells n = (cellsOf (List.replicate n 0)).toArray := by
  apply Array.ext'
  apply List.ext_getElem?
  intro i
  by_cases hi : i < n
  · simp [madeCells, Value.cells, cellsOf, hi, Nat.mod_one]
  · have h1 : (madeCells (Value.int .u8 0).cells n).toList.length = n := by simp [madeCells]
    have h2 : (cellsOf (List.replicate n 0)).length = n := by simp [cellsOf]
    rw [List.getElem?_eq_none (by omega), List.getElem?_eq_none (by simp only; omega)]
/-- the exclusive or, place by place -/
def xors (p q : List Nat) : List Nat := List.zipWith (· ^^^ ·) p q
theorem xors_lt {p q : List Nat} (hp : ∀ c ∈ p, c < 256) (hq : ∀ c ∈ q, c < 256) : ∀ c ∈ xors p q, c < 256 := by
  intro c hc
  obtain ⟨i, hi, rfl⟩ := List.getElem_of_mem hc
  simp only [xors, List.getElem_zipWith]
  exact Nat.xor_lt_two_pow (n := 8) (hp _ (List.getElem_mem _)) (hq _ (List.getElem_mem _))
theorem fill_xor {w wr : World} {g : Nat} {p q : List Nat} {k : Nat} (hp : k < p.length) (hq : k < q.length) (hg : w.heap.size ≤ g) (h : FillAt w wr g (xors p q) k) :
    FillAt w (wr.setCell ⟨g, k, none⟩ (.int .u8 ((p[k] ^^^ q[k] : Nat) : Int))) g (xors p q) (k + 1) := by
  have hk : k < (xors p q).length := by simp [xors]; omega
  have := fill_step hk hg h
  simpa [xors] using this
/-- a row of noughts, as make lays it -/
def ZZ (n : Nat) : Array Value := (cellsOf (List.replicate n 0)).toArray
theorem make_zeros {i0 : TypeInfo} (hi : Try.prog.info? 5 = some i0) (hz0 : i0.zero = some (Value.int .u8 0)) (hz1 : i0.size = 1) (hz2 : i0.bytes = 1) (n : Nat) (hn : n ≤ 100000) (W : World) :
    (Instr.makeSlice 23 (.int .i64 n) (.int .i64 n)).run Try.prog W = .ok (.slice (some ⟨W.heap.size, 0, none⟩) n n) (W.alloc (.cells (ZZ n) 5)) := by
  have h := run_make (P := Try.prog) W 23 5 i0 (.int .u8 0) Try.underlying23 hi hz0 .i64 .i64 n n (by omega) (Int.le_refl _) (by rw [hz2]; omega) (by omega)
  rw [h, hz1, Int.toNat_natCast, Nat.mul_one, made_zeros]
  rfl
theorem zz_bytes (W : World) (n : Nat) (hn : n ≤ 100000) : Bys (W.alloc (.cells (ZZ n) 5)) (some ⟨W.heap.size, 0, none⟩) (List.replicate n 0) :=
  block_bytes (heap_alloc_new W _) (by simp; unfold maxLen; omega) (fun c hc => by rw [List.eq_of_mem_replicate hc]; omega)
theorem fill_start (w : World) (z : List Nat) : FillAt w (w.alloc (.cells (ZZ z.length) 5)) w.heap.size z 0 := by
  refine ⟨?_, (Below.refl _ _).alloc (Nat.le_refl _) _⟩
  rw [heap_alloc_new]
  simp [Zr, ZZ]
/-- what was there ahead of a statement is there still -/
structure Since (a b : World) : Prop where
  out : Below a.heap.size a b
theorem Since.start (a : World) : Since a a.drew := ⟨(Below.refl _ _).drew⟩
theorem Since.next {a b c : World} (h : Since a b) (k : Below b.heap.size b c) : Since a c := ⟨h.out.trans (k.mono h.out.size)⟩
theorem Since.alloc {a b : World} (h : Since a b) (o : Obj) : Since a (b.alloc o) := ⟨h.out.alloc h.out.size o⟩
theorem sum_n (n : Nat) (a : Option Addr) (bs : List Nat) (cap : Nat) (w : World) (hn : bs.length = n) (H : Bys w a bs) :
    Calls Try.prog 8 #[.slice a n cap] w fun e w' => e = .returned (.int .u32 (Crc.More 0 bs : Nat)) ∧ Below w.heap.size w w' := by
  subst hn; exact sum_any a bs cap w H
theorem min_cast (p q : Nat) : (if q < p then (q : Int) else (p : Int)) = ((min p q : Nat) : Int) := by
  split <;> omega
set_option maxHeartbeats 1000000 in
theorem linear_law (a b : Option Addr) (p q : List Nat) (ca cb : Nat) (w : World) (H : Bys w a p) (H2 : Bys w b q) (hca : p.length ≤ ca) (hcb : q.length ≤ cb) :
    Calls Try.prog 5 #[.slice a p.length ca, .slice b q.length cb] w fun e w' => e = .returned (.bool true) ∧ Below w.heap.size w w' := by
  obtain ⟨i0, hi, hz0, hz1, hz2⟩ := info_parts info5
  have A1 := Lib.hid H
  have A2 := Lib.hid H2
  have hlp := H.1
  have hlq := H2.1
  unfold maxLen at hlp hlq
  clear H H2
  have hmin := min_cast p.length q.length
  have hnp : min p.length q.length ≤ p.length := Nat.min_le_left _ _
  have hnq : min p.length q.length ≤ q.length := Nat.min_le_right _ _
  generalize min p.length q.length = n at *
  by_cases hbig : 100000 < n
  · go_enter Try.func5, Try.ntmps5
    go_wp2
    go_ret
    exact ⟨rfl, Below.refl _ _⟩
  · have hd : decide ((100000 : Int) < (n : Int)) = false := by simp; omega
    have hsm : n ≤ 100000 := by omega
    have hmk := make_zeros hi hz0 hz1 hz2 n hsm
    have B1 := Lib.hid (A1.out.take n hnp)
    have B2 := Lib.hid (A2.out.take n hnq)
    have hl1 : (p.take n).length = n := by simp; omega
    have hl2 : (q.take n).length = n := by simp; omega
    generalize p.take n = p1 at *
    generalize q.take n = q1 at *
    have hzl : (xors p1 q1).length = n := by simp [xors, hl1, hl2]
    have hz8 := Lib.hid (xors_lt B1.out.2.1 B2.out.2.1)
    have HFS := fill_start w (xors p1 q1)
    rw [hzl] at HFS
    have HF0 := Lib.hid HFS
    have HL1 := Lib.hid hl1
    have HL2 := Lib.hid hl2
    have HZL := Lib.hid hzl
    clear hl1 hl2 hzl HFS
    go_enter Try.func5, Try.ntmps5
    go_wp2
    go_loopw [7] (fun i wr => ∃ k : Nat, k ≤ n ∧ i = .int .i64 k ∧ Hid (FillAt w wr w.heap.size (xors p1 q1) k)) (fun i _ => n - (intOf i).toNat)
    case atStart => exact ⟨0, Nat.zero_le _, rfl, HF0⟩
    case round =>
      obtain ⟨k, hk, rfl, HF⟩ := hrel
      have Q1 := Lib.hid (B1.out.below HF.out.2)
      have Q2 := Lib.hid (B2.out.below HF.out.2)
      by_cases hlt : k < n
      · have k1 : k < p1.length := by have := HL1.out; omega
        have k2 : k < q1.length := by have := HL2.out; omega
        obtain ⟨b1, off1, rfl, hb1, hc1⟩ := Q1.out.at k k1
        obtain ⟨b2, off2, rfl, hb2, hc2⟩ := Q2.out.at k k2
        have hx1 : p1[k] < 256 := Q1.out.2.1 _ (List.getElem_mem _)
        have hx2 : q1[k] < 256 := Q2.out.2.1 _ (List.getElem_mem _)
        have hst := fill_xor k1 k2 (Nat.le_refl _) HF.out
        have hcl := fill_cell (by have := HZL.out; omega) HF.out
        have hfz := fill_frozen (k := k) HF.out
        have hxr := u8_xor_nat _ _ hx1 hx2
        have HST := Lib.hid hst
        clear hst
        generalize p1[k] = x1 at *
        generalize q1[k] = x2 at *
        clear hmk hi hz0 hz1 hz2 Q1 Q2 k1 k2
        have g0 : (0 : Int) ≤ (k : Int) := by omega
        have g1 : (k : Int) < (p.length : Int) := by omega
        have g2 : (k : Int) < (q.length : Int) := by omega
        have g3 : (k : Int) < (n : Int) := by omega
        go_wp2
        go_region
        go_wp2
        go_roundw
        case rel => exact ⟨k + 1, by omega, by go_num, Lib.hid ⟨HST.out.1, HST.out.2.drew⟩⟩
        case measure => simp [intOf]; omega
      · obtain rfl : k = n := by omega
        have Q3 := Lib.hid (fill_bytes (z := xors p1 q1) (by rw [HZL.out]; exact HF.out) (by rw [HZL.out]; unfold maxLen; omega) hz8.out)
        have HSw := Lib.hid HF.out.2
        have e1 := u32_xor_nat _ _ (Crc.More_lt 0 p1) (Crc.More_lt 0 q1)
        have e2 := u32_xor_nat _ _ (Nat.xor_lt_two_pow (n := 32) (Crc.More_lt 0 p1) (Crc.More_lt 0 q1)) (Crc.More_lt 0 (xors p1 q1))
        have e3 : bits .xor .u32 ((Crc.More 0 p1 ^^^ Crc.More 0 q1 ^^^ Crc.More 0 (xors p1 q1) : Nat) : Int) ((Crc.More 0 (List.replicate k 0) : Nat) : Int) = 0 := by
          rw [u32_xor_nat _ _ (Nat.xor_lt_two_pow (n := 32) (Nat.xor_lt_two_pow (n := 32) (Crc.More_lt 0 p1) (Crc.More_lt 0 q1)) (Crc.More_lt 0 (xors p1 q1))) (Crc.More_lt 0 _)]
          have := Crc.linear p1 q1 (by rw [HL1.out, HL2.out]) (fun c hc => Nat.lt_of_lt_of_le (B1.out.2.1 c hc) (by decide)) (fun c hc => Nat.lt_of_lt_of_le (B2.out.2.1 c hc) (by decide))
          rw [HL1.out] at this
          unfold xors
          rw [this]; rfl
        have g1 : (k : Int) ≤ (ca : Int) := by omega
        have g2 : (k : Int) ≤ (cb : Int) := by omega
        have g3 : (0 : Int) ≤ (k : Int) := by omega
        clear HF hi hz0 hz1 hz2 hd hmin B1 B2 A1 A2 HF0
        go_wp2_with fail
        go_region_held3 (fun w' => Since wr w') ((first | exact Since.start _ | (refine Since.next ?_ (by assumption); assumption) | (refine Since.alloc ?_ _; assumption)))
          ((first
            | (go_at_call 11; refine (known_any _).mono ?_; rintro e w' ⟨rfl, hb⟩)
            | (go_at_call 8; refine (sum_n _ a p1 ca _ HL1.out (Q1.out.below (Since.out (by assumption)))).mono ?_; rintro e w' ⟨rfl, hb⟩)
            | (go_at_call 8; refine (sum_n _ b q1 cb _ HL2.out (Q2.out.below (Since.out (by assumption)))).mono ?_; rintro e w' ⟨rfl, hb⟩)
            | (go_at_call 8; refine (sum_n _ (some ⟨w.heap.size, 0, none⟩) (xors p1 q1) k _ HZL.out (Q3.out.below (Since.out (by assumption)))).mono ?_; rintro e w' ⟨rfl, hb⟩)
            | (go_at_call 8; refine (sum_n _ _ (List.replicate k 0) k _ (List.length_replicate ..) (by first | exact zz_bytes _ _ hsm | (refine Bys.below ?_ (by assumption); exact zz_bytes _ _ hsm) | (refine Bys.below ?_ (by assumption); refine Bys.below ?_ (by assumption); exact zz_bytes _ _ hsm) | (refine Bys.below ?_ (by assumption); refine Bys.below ?_ (by assumption); refine Bys.below ?_ (by assumption); exact zz_bytes _ _ hsm))).mono ?_; rintro e w' ⟨rfl, hb⟩)))
        all_goals go_wp2
        all_goals go_ret
        all_goals exact ⟨rfl, HSw.out.trans ((Since.out (a := wr) (by assumption)).mono HSw.out.size)⟩
end Go.Proofs.Ytniajoocpnhhgaa
