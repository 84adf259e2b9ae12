/-
  ShA, ShB, ShC, ShD, ShE, ShF, ShG, put together (a claim holds at most 60 files).
-/
import Derived.Test.YthhlhiighgnkmaaGreatDoorNumZ
import Derived.Lib.ItoaMem
import Derived.Deep.AppendLies
import Derived.OwnWalk
/-! ## WALKS: one tenth is shown: scaling. -/
namespace Go.Proofs.YthhlhiighgnkmaaGreatDoor
set_option linter.unusedVariables false
set_option linter.unusedSimpArgs false
open Go.RowKit Go.PlainAid
theorem log10_m56 (w : World) : Calls Tryz.prog 177 #[.int .i64 (-56)] w fun e w' => e = .returned (.int .i64 (-17)) ∧ w' = w := by
  go_enter Tryz.func177, Tryz.ntmps177
  go_wp2
  go_ret
  exact ⟨rfl, rfl⟩
theorem log2_17 (w : World) : Calls Tryz.prog 221 #[.int .i64 17] w fun e w' => e = .returned (.int .i64 56) ∧ w' = w := by
  go_enter Tryz.func221, Tryz.ntmps221
  go_wp2
  go_ret
  exact ⟨rfl, rfl⟩
theorem nudge_zero (u : Nat) (hu : u < 2 ^ 60) (w : World) : Calls Tryz.prog 223 #[.int .u64 (u : Int), .int .i64 0] w fun e w' => e = .returned (.int .u64 (u : Int)) ∧ w' = w := by
  have e0 : IntKind.u64.wrap 0 = 0 := by decide
  have e1 : IntKind.u64.wrap (u : Int) = (u : Int) := by rw [IntKind.wrap_u64]; omega
  have e2 : IntKind.u64.wrap ((u : Int) + 0) = (u : Int) := by rw [IntKind.wrap_u64]; omega
  clear hu
  go_enter Tryz.func223, Tryz.ntmps223
  go_wp2
  go_ret
  exact ⟨rfl, rfl⟩
theorem ceil_min (w : World) : Calls Tryz.prog 224 #[.int .u64 39999999999999999] w fun e w' => e = .returned (.int .u64 10000000000000000) ∧ w' = w := by
  go_enter Tryz.func224, Tryz.ntmps224
  go_wp2
  go_ret
  exact ⟨rfl, rfl⟩
theorem floor_max (w : World) : Calls Tryz.prog 225 #[.int .u64 40000000000000005] w fun e w' => e = .returned (.int .u64 10000000000000001) ∧ w' = w := by
  go_enter Tryz.func225, Tryz.ntmps225
  go_wp2
  go_ret
  exact ⟨rfl, rfl⟩
/-- the scaler of one tenth -/
def Pre (w : World) (P : Nat) : Prop := w.heap[P]? = some (.cells #[.int .u64 12800000000000000000, .int .u64 0, .int .i64 8] 255 (0, 0))
theorem Pre.c0 {w : World} {P : Nat} (h : Pre w P) : w.cell? ⟨P, 0, none⟩ = some (.int .u64 12800000000000000000) := by rw [cell_of_row _ _ _ _ _ _ h]; rfl
theorem Pre.c1 {w : World} {P : Nat} (h : Pre w P) : w.cell? ⟨P, 1, none⟩ = some (.int .u64 0) := by rw [cell_of_row _ _ _ _ _ _ h]; rfl
theorem Pre.c2 {w : World} {P : Nat} (h : Pre w P) : w.cell? ⟨P, 2, none⟩ = some (.int .i64 8) := by rw [cell_of_row _ _ _ _ _ _ h]; rfl
theorem uscale_min (P : Nat) (w : World) (H : Pre w P) : Calls Tryz.prog 222 #[.int .u64 14757395258967641088, .pointer (some ⟨P, 0, none⟩)] w fun e w' => e = .returned (.int .u64 39999999999999999) ∧ w' = w := by
  have c0 := H.c0
  have c2 := H.c2
  have CM := Lib.hid (fun w => Tryz.bits_Mul64 14757395258967641088 12800000000000000000 (by decide) (by decide) w)
  rw [show (14757395258967641088 * 12800000000000000000 / 18446744073709551616 : Nat) = 10239999999999999857 by decide, show (14757395258967641088 * 12800000000000000000 % 18446744073709551616 : Nat) = 16444402540465881088 by decide] at CM
  have hb8 : bits .and .i64 8 63 = 8 := by decide +kernel
  have hor : bits .or .u64 39999999999999999 1 = 39999999999999999 := by decide +kernel
  clear H
  go_enter Tryz.func222, Tryz.ntmps222
  go_wp2_with fail
  refine (CM.out _).mono ?_
  rintro e w1 ⟨rfl, rfl⟩
  go_wp2
  go_ret
  exact ⟨rfl, rfl⟩
theorem uscale_max (P : Nat) (w : World) (H : Pre w P) : Calls Tryz.prog 222 #[.int .u64 14757395258967643136, .pointer (some ⟨P, 0, none⟩)] w fun e w' => e = .returned (.int .u64 40000000000000005) ∧ w' = w := by
  have c0 := H.c0
  have c2 := H.c2
  have CM := Lib.hid (fun w => Tryz.bits_Mul64 14757395258967643136 12800000000000000000 (by decide) (by decide) w)
  rw [show (14757395258967643136 * 12800000000000000000 / 18446744073709551616 : Nat) = 10240000000000001278 by decide, show (14757395258967643136 * 12800000000000000000 % 18446744073709551616 : Nat) = 18021073799193034752 by decide] at CM
  have hb8 : bits .and .i64 8 63 = 8 := by decide +kernel
  have hor : bits .or .u64 40000000000000004 1 = 40000000000000005 := by decide +kernel
  clear H
  go_enter Tryz.func222, Tryz.ntmps222
  go_wp2_with fail
  refine (CM.out _).mono ?_
  rintro e w1 ⟨rfl, rfl⟩
  go_wp2
  go_ret
  exact ⟨rfl, rfl⟩
theorem prescale_17 (P : Nat) (w : World) (x : Value) (hP : w.heap[P]? = some (.cells #[.int .u64 0, .int .u64 0, .int .i64 0] 255 (0, 0))) (h1 : w.cell? ⟨11, 730, none⟩ = some (.int .u64 12800000000000000000)) (h2 : w.cell? ⟨11, 731, none⟩ = some (.int .u64 0)) (hne : P ≠ 11) :
    Calls Tryz.prog 220 #[.pointer (some ⟨P, 0, none⟩), .int .i64 (-67), .int .i64 17, .int .i64 56] w fun e w' => e = .returned (.tuple #[]) ∧ Only [P] w w' ∧ Pre w' P := by
  have f0 : w.frozen? ⟨P, 0, none⟩ = false := frozen_of_row _ _ _ _ _ hP
  have f1 : w.frozen? ⟨P, 1, none⟩ = false := frozen_of_row _ _ _ _ _ hP
  have f2 : w.frozen? ⟨P, 2, none⟩ = false := frozen_of_row _ _ _ _ _ hP
  have c0 : w.cell? ⟨P, 0, none⟩ = some (.int .u64 0) := by rw [cell_of_row _ _ _ _ _ _ hP]; rfl
  have c1 : w.cell? ⟨P, 1, none⟩ = some (.int .u64 0) := by rw [cell_of_row _ _ _ _ _ _ hP]; rfl
  have c2 : w.cell? ⟨P, 2, none⟩ = some (.int .i64 0) := by rw [cell_of_row _ _ _ _ _ _ hP]; rfl
  have hlt : P < w.heap.size := (Array.getElem?_eq_some_iff.1 hP).1
  have HP := Lib.hid hP
  clear hP
  go_enter Tryz.func220, Tryz.ntmps220
  go_wp2
  go_returns
  have k0 := heap_setCell_same _ _ 0 _ _ (.int .u64 12800000000000000000) HP.out
  have k1 := heap_setCell_same _ _ 1 _ _ (.int .u64 0) k0
  have k2 := heap_setCell_same _ _ 2 _ _ (.int .i64 8) k1
  exact ⟨rfl, (((Only.refl [P] w).setCell (.inl (by simp)) _).setCell (.inl (by simp)) _).setCell (.inl (by simp)) _, k2⟩
end Go.Proofs.YthhlhiighgnkmaaGreatDoor
/-! ## WALKS: one tenth is shown: its shortest digits. -/
namespace Go.Proofs.YthhlhiighgnkmaaGreatDoor
set_option linter.unusedVariables false
set_option linter.unusedSimpArgs false
open Go.RowKit Go.PlainAid
theorem Pre.below {w w' : World} {P B : Nat} (h : Pre w P) (hb : Below B w w') (hB : P < B) : Pre w' P := (hb.block P hB).trans h
set_option maxRecDepth 100000 in
set_option maxHeartbeats 1000000 in
theorem short_tenth (w : World) (h1 : w.cell? ⟨11, 730, none⟩ = some (.int .u64 12800000000000000000)) (h2 : w.cell? ⟨11, 731, none⟩ = some (.int .u64 0)) (hS : 18 ≤ w.heap.size) :
    Calls Tryz.prog 204 #[.int .u64 14757395258967642112, .int .i64 (-67)] w (Gives w (.tuple #[.int .u64 1000000000000000, .int .i64 (-16)])) := by
  have C1 := Lib.hid log10_m56
  have C2 := Lib.hid log2_17
  have hA : ∀ o : Obj, Below w.heap.size w (w.alloc o) := fun o => (Below.refl _ w).alloc (Nat.le_refl _) o
  have C3 := Lib.hid (prescale_17 w.heap.size (w.alloc (.cells #[.int .u64 0, .int .u64 0, .int .i64 0] 255)) .nilIface (heap_alloc_new w _) (((hA _).cell (p := ⟨11, 730, none⟩) (show 11 < _ by omega)).trans h1) (((hA _).cell (p := ⟨11, 731, none⟩) (show 11 < _ by omega)).trans h2) (by omega))
  have HA := Lib.hid hA
  have C4 := Lib.hid (fun w1 H => uscale_min w.heap.size w1 H)
  have C5 := Lib.hid (fun w1 H => uscale_max w.heap.size w1 H)
  have C6 := Lib.hid (fun w => nudge_zero 39999999999999999 (by decide) w)
  have C7 := Lib.hid (fun w => nudge_zero 40000000000000005 (by decide) w)
  have C8 := Lib.hid ceil_min
  have C9 := Lib.hid floor_max
  have hb0 : bits .and .i64 7205759403792794 1 = 0 := by decide +kernel
  clear h1 h2 hA hS
  go_enter Tryz.func204, Tryz.ntmps204
  go_wp2_with fail
  refine (C1.out _).mono ?_
  rintro e w1 ⟨rfl, rfl⟩
  go_wp2_with fail
  refine (C2.out _).mono ?_
  rintro e w1 ⟨rfl, rfl⟩
  go_wp2_with fail
  refine C3.out.mono ?_
  rintro e w2 ⟨rfl, ho, hp⟩
  have B2 := Lib.hid (Below.trans (HA.out _) (ho.below (B := w1.heap.size) (by simp) (by simp)))
  have P2 := Lib.hid hp
  clear ho hp
  go_wp2_with fail
  refine (C4.out _ P2.out).mono ?_
  rintro e w3 ⟨rfl, rfl⟩
  go_wp2_with fail
  refine (C6.out _).mono ?_
  rintro e w4 ⟨rfl, rfl⟩
  go_wp2_with fail
  refine (C8.out _).mono ?_
  rintro e w4 ⟨rfl, rfl⟩
  go_wp2_with fail
  refine (C5.out _ P2.out).mono ?_
  rintro e w4 ⟨rfl, rfl⟩
  go_wp2_with fail
  refine (C7.out _).mono ?_
  rintro e w4 ⟨rfl, rfl⟩
  go_wp2_with fail
  refine (C9.out _).mono ?_
  rintro e w4 ⟨rfl, rfl⟩
  go_wp2
  go_returns
  exact ⟨rfl, B2.out⟩
end Go.Proofs.YthhlhiighgnkmaaGreatDoor
/-! ## WALKS: one tenth is shown: its digits as bytes. -/
namespace Go.Proofs.YthhlhiighgnkmaaGreatDoor
set_option linter.unusedVariables false
set_option linter.unusedSimpArgs false
open Go.RowKit Go.PlainAid
open Go.Sort (Holds putRow holds_putRow size_putRow)
def encB : UInt8 → Value := fun b => Value.int .u8 (b.toNat : Int)
theorem only_putRow (w : World) (b off : Nat) (d : Array UInt8) (n : Nat) : Only [b] w ((putRow encB w b off d).drewN n) :=
  ⟨rfl, rfl, rfl, by show _ ≤ (putRow encB w b off d).heap.size; rw [size_putRow]; exact Nat.le_refl _, fun k hk hn => by
    show (w.heap.modify b _)[k]? = _
    rw [Array.getElem?_modify, if_neg (by simpa using fun h => hn (by simp [h]))]⟩
theorem dg_first : Lib.dg 1000000000000000 15 = 49 := by decide +kernel
theorem dg_other (j : Nat) (h1 : 1 ≤ j) (h2 : j < 16) : Lib.dg 1000000000000000 (16 - 1 - j) = 48 := by
  have : ∀ j : Fin 16, 1 ≤ j.val → Lib.dg 1000000000000000 (16 - 1 - j.val) = 48 := by decide +kernel
  exact this ⟨j, h2⟩ h1
set_option maxRecDepth 100000 in
set_option maxHeartbeats 1000000 in
theorem setdigits_tenth (b : Nat) (w : World) (H : Holds encB w b 0 (Array.replicate 16 (0 : UInt8))) (hb : b < w.heap.size) :
    Calls Tryz.prog 199 #[.slice (some ⟨b, 0, none⟩) 32 32, .int .u64 1000000000000000, .int .i64 (-16), .int .i64 16] w fun e w' => e = .returned (.tuple #[.int .i64 0, .int .i64 1]) ∧ Only [b] w w' ∧ w'.cell? ⟨b, 0, none⟩ = some (.int .u8 49) := by
  have CF : Hid (Calls Tryz.prog 140 #[.slice (some ⟨b, 0, none⟩) 16 32, .int .u64 1000000000000000] w fun e w' => e = .returned (.tuple #[]) ∧ Only [b] w w' ∧ w'.cell? ⟨b, 0, none⟩ = some (.int .u8 49) ∧ ∀ j, 1 ≤ j → j < 16 → w'.cell? ⟨b, j, none⟩ = some (.int .u8 48)) := by
    refine Lib.hid ?_
    have h := Tryz.internal_strconv_formatBase10 b 0 32 1000000000000000 (Array.replicate 16 (0 : UInt8)) w H (by decide +kernel) (by decide) (by decide)
    rw [Array.size_replicate] at h
    refine h.mono ?_
    rintro e w' ⟨rfl, n, v', dk, rfl, hF⟩
    have hP := holds_putRow encB w b 0 (Array.replicate 16 (0 : UInt8)) dk H (by rw [hF.size, Array.size_replicate])
    refine ⟨rfl, only_putRow w b 0 dk n, ?_, fun j h1 h2 => ?_⟩
    · have h0 := (hP 0 (by rw [hF.size]; decide)).1
      rw [hF.done 0 (Nat.zero_le _) (by decide), dg_first] at h0
      exact h0
    · have h0 := (hP j (by rw [hF.size]; exact h2)).1
      rw [hF.done j (Nat.zero_le _) h2, dg_other j h1 h2, Nat.zero_add] at h0
      exact h0
  clear H
  go_enter Tryz.func199, Tryz.ntmps199
  go_wp2_with fail
  refine CF.out.mono ?_
  rintro e w2 ⟨rfl, ho, h0, hj⟩
  have O2 := Lib.hid ho
  have H0 := Lib.hid h0
  have c1 := hj 1 (by decide) (by decide)
  have c2 := hj 2 (by decide) (by decide)
  have c3 := hj 3 (by decide) (by decide)
  have c4 := hj 4 (by decide) (by decide)
  have c5 := hj 5 (by decide) (by decide)
  have c6 := hj 6 (by decide) (by decide)
  have c7 := hj 7 (by decide) (by decide)
  have c8 := hj 8 (by decide) (by decide)
  have c9 := hj 9 (by decide) (by decide)
  have c10 := hj 10 (by decide) (by decide)
  have c11 := hj 11 (by decide) (by decide)
  have c12 := hj 12 (by decide) (by decide)
  have c13 := hj 13 (by decide) (by decide)
  have c14 := hj 14 (by decide) (by decide)
  have c15 := hj 15 (by decide) (by decide)
  clear ho hj CF
  go_wp2_with fail
  refine wp_loop_rounds 16 ?_
  iterate 15 (rw [rounds_succ]; go_wp2)
  rw [rounds_succ]
  go_wp2
  go_returns
  exact ⟨rfl, O2.out, H0.out⟩
end Go.Proofs.YthhlhiighgnkmaaGreatDoor
/-! ## WALKS: one tenth is shown: its digits as text. -/
namespace Go.Proofs.YthhlhiighgnkmaaGreatDoor
set_option linter.unusedVariables false
set_option linter.unusedSimpArgs false
open Go.RowKit Go.PlainAid
theorem app_next {w wr : World} {w2 : World} {base : Nat} {o v2 : Value} {ds es : List Nat} {n : Nat} {x : Obj} (h : w2.ownsRow base 5 1 v2 n (cellsOf ds ++ cellsOf es)) (hn : n = ds.length + es.length) (hO : ∀ k, o.ownBlock = some k → base ≤ k) (hg : (wr.alloc x).grownBy w2 o.ownBlock) (hB : Hid (Below base w wr)) (hs : Hid (base ≤ wr.heap.size)) (h0 : Hid (base ≤ w.heap.size)) :
    ∃ a c, v2 = .slice a n c ∧ Hid (Own w2 base v2 (ds ++ es)) ∧ Hid (Below base w w2) ∧ Hid (base ≤ w2.heap.size) ∧ Hid (∀ y, (w2.alloc y).ownsRow base 5 1 v2 n (cellsOf (ds ++ es))) := by
  obtain ⟨g1, g2⟩ := own_grow h hn hO hg (hB.out.alloc hs.out _) (by have := hs.out; simp; omega)
  obtain ⟨a, c, hv⟩ := own_shape g1
  refine ⟨a, c, by rw [hv, List.length_append, hn], Lib.hid g1, Lib.hid g2, Lib.hid (Nat.le_trans h0.out g2.size), Lib.hid (fun y => ?_)⟩
  have h := g1.below ((Below.refl w2.heap.size w2).alloc (Nat.le_refl _) y)
  unfold Own at h
  rw [List.length_append, ← hn] at h
  exact h
set_option maxRecDepth 100000 in
set_option maxHeartbeats 2000000 in
theorem fmt_tenth (base b : Nat) (w : World) (v : Value) (hO : Own w base v []) (hbase : base ≤ w.heap.size) (hc : w.cell? ⟨b, 0, none⟩ = some (.int .u8 49)) :
    Calls Tryz.prog 197 #[v, .bool false, .slice (some ⟨b, 0, none⟩) 32 32, .int .i64 0, .int .i64 1, .int .i64 0, .int .u8 101, .bool true] w fun e w' => ∃ v', e = .returned v' ∧ Own w' base v' [49, 101, 45, 48, 49] ∧ Below base w w' := by
  obtain ⟨i0, hi, hz0, hz1, hz2⟩ := info_parts info5
  obtain ⟨a0, c0, rfl⟩ := own_shape hO
  have HO0 := Lib.hid hO
  have HB0 := Lib.hid (Below.refl base w)
  have HW0 := Lib.hid hbase
  have HOA0 : Hid (∀ o, (w.alloc o).ownsRow base 5 1 (.slice a0 0 c0) 0 (cellsOf [])) := Lib.hid (fun o => HO0.out.below ((Below.refl _ _).alloc (Nat.le_refl _) o))
  clear hO hbase
  rw [show ([] : List Nat).length = 0 from rfl]
  go_enter Tryz.func197, Tryz.ntmps197
  go_wp2_with (at_builtin; first
    | (refine wpList_append_own _ rfl (.tmp 87) (.tmp 89) 87 rfl base 5 i0 (.int .u8 0) 1 1 Tryz.underlying87 hi hz0 hz1 hz2 rfl (by decide) (.slice a0 0 c0) 0 (cellsOf []) rfl (HOA0.out _) ⟨w.heap.size, 0, none⟩ 1 1 (cellsOf [49]) rfl rfl (alloc_row _ [49]) (cellsOf_one _) (by unfold maxLen; omega) (by omega) (by have := HW0.out; simp; omega) ?_; intro v1 w1 hown2 hgr2 hne2; obtain ⟨a1, c1, rfl, HO1, HB1, HW1, HOA1⟩ := app_next (ds := []) (es := [49]) hown2 rfl (own_block HO0.out) hgr2 HB0 HW0 HW0; clear hown2 hgr2 hne2)
    | (refine wpList_append_own _ rfl (.tmp 120) (.tmp 122) 87 rfl base 5 i0 (.int .u8 0) 1 1 Tryz.underlying87 hi hz0 hz1 hz2 rfl (by decide) (.slice a1 1 c1) 1 (cellsOf [49]) rfl (HOA1.out _) ⟨w1.heap.size, 0, none⟩ 1 1 (cellsOf [101]) rfl rfl (alloc_row _ [101]) (cellsOf_one _) (by unfold maxLen; omega) (by omega) (by have := HW1.out; simp; omega) ?_; intro v2 w2 hown2 hgr2 hne2; obtain ⟨a2, c2, rfl, HO2, HB2, HW2, HOA2⟩ := app_next (ds := [49]) (es := [101]) hown2 rfl (own_block HO1.out) hgr2 HB1 HW1 HW0; clear hown2 hgr2 hne2)
    | (refine wpList_append_own _ rfl (.tmp 132) (.tmp 134) 87 rfl base 5 i0 (.int .u8 0) 1 1 Tryz.underlying87 hi hz0 hz1 hz2 rfl (by decide) (.slice a2 2 c2) 2 (cellsOf [49, 101]) rfl (HOA2.out _) ⟨w2.heap.size, 0, none⟩ 1 1 (cellsOf [45]) rfl rfl (alloc_row _ [45]) (cellsOf_one _) (by unfold maxLen; omega) (by omega) (by have := HW2.out; simp; omega) ?_; intro v3 w3 hown2 hgr2 hne2; obtain ⟨a3, c3, rfl, HO3, HB3, HW3, HOA3⟩ := app_next (ds := [49, 101]) (es := [45]) hown2 rfl (own_block HO2.out) hgr2 HB2 HW2 HW0; clear hown2 hgr2 hne2)
    | (refine wpList_append_own _ rfl (.tmp 155) (.tmp 159) 87 rfl base 5 i0 (.int .u8 0) 1 1 Tryz.underlying87 hi hz0 hz1 hz2 rfl (by decide) (.slice a3 3 c3) 3 (cellsOf [49, 101, 45]) rfl (HOA3.out _) ⟨w3.heap.size, 0, none⟩ 2 2 (cellsOf [48, 49]) rfl rfl (alloc_row _ [48, 49]) (cellsOf_one _) (by unfold maxLen; omega) (by omega) (by have := HW3.out; simp; omega) ?_; intro v4 w4 hown2 hgr2 hne2; obtain ⟨a4, c4, rfl, HO4, HB4, HW4, HOA4⟩ := app_next (ds := [49, 101, 45]) (es := [48, 49]) hown2 rfl (own_block HO3.out) hgr2 HB3 HW3 HW0; clear hown2 hgr2 hne2))
  go_returns
  exact ⟨_, rfl, HO4.out, HB4.out⟩
end Go.Proofs.YthhlhiighgnkmaaGreatDoor
/-! ## WALKS: one tenth is shown: the library's ftoa64. -/
namespace Go.Proofs.YthhlhiighgnkmaaGreatDoor
set_option linter.unusedVariables false
set_option linter.unusedSimpArgs false
open Go.RowKit Go.PlainAid
open Go.Sort (Holds)
/-- what showing one tenth needs of the library's variables -/
structure ShTab (w : World) (m : Int) : Prop where
  hi : w.cell? ⟨11, 730, none⟩ = some (.int .u64 12800000000000000000)
  lo : w.cell? ⟨11, 731, none⟩ = some (.int .u64 0)
  ten : w.cell? ⟨2, 15, none⟩ = some (.int .u64 1000000000000000)
  max : w.cell? ⟨3, 0, none⟩ = some (.int .i64 m)
  size : 18 ≤ w.heap.size
theorem ShTab.below {w w' : World} {m : Int} {B : Nat} (h : ShTab w m) (hb : Below B w w') (hB : 12 ≤ B) : ShTab w' m :=
  ⟨(hb.cell (p := ⟨11, 730, none⟩) (show 11 < B by omega)).trans h.hi, (hb.cell (p := ⟨11, 731, none⟩) (show 11 < B by omega)).trans h.lo, (hb.cell (p := ⟨2, 15, none⟩) (show 2 < B by omega)).trans h.ten, (hb.cell (p := ⟨3, 0, none⟩) (show 3 < B by omega)).trans h.max, Nat.le_trans h.size hb.size⟩
theorem own_lt {w : World} {base : Nat} {v : Value} {ds : List Nat} (h : Own w base v ds) : ∀ k, v.ownBlock = some k → k < w.heap.size := by
  intro k hk
  obtain ⟨_, h2⟩ := h
  rcases h2 with ⟨rfl, _⟩ | ⟨g, cap, cur, rfl, hg, hc, _⟩
  · cases hk
  · simp only [Value.ownBlock, Option.some.injEq] at hk
    subst hk
    exact (Array.getElem?_eq_some_iff.1 hc).1
theorem bits194 (a : Nat) (w : World) : (callFunc 194 #[.float .f64 a]).run Tryz.prog w = .ok (.value (.int .u64 (a : Int))) w := by
  rw [run_callFunc_extern (e := Extern.MathFloatBits.float64bits) Tryz.func194 (by kernel_rfl) (by kernel_rfl) (by kernel_rfl) (by kernel_rfl)]
  rw [show Extern.MathFloatBits.float64bits #[.float .f64 a] = pure (.int .u64 (a : Int)) from rfl]
  rfl
theorem ndigits_tenth (w : World) (h : w.cell? ⟨2, 15, none⟩ = some (.int .u64 1000000000000000)) : Calls Tryz.prog 139 #[.int .u64 1000000000000000] w fun e w' => e = .returned (.int .i64 16) ∧ w' = w := by
  have C1 := Lib.hid (fun w => Tryz.bits_Len64 1000000000000000 w (by decide) (by decide))
  rw [show (Lib.bitLen (1000000000000000 : Int).toNat : Int) = 50 by decide +kernel] at C1
  have C2 := Lib.hid (fun w => Tryz.internal_strconv_log10Pow2 50 (by decide) w)
  rw [show (Lib.l10 50 : Int) = 15 by decide +kernel] at C2
  have C3 := Lib.hid (fun w => Tryz.internal_strconv_bool2_int true w)
  go_enter Tryz.func139, Tryz.ntmps139
  go_wp2_with fail
  refine (C1.out _).mono ?_
  rintro e w1 ⟨rfl, rfl⟩
  go_wp2_with fail
  refine (C2.out _).mono ?_
  rintro e w1 ⟨rfl, rfl⟩
  go_wp2_with fail
  refine (C3.out _).mono ?_
  rintro e w1 ⟨rfl, rfl⟩
  go_wp2
  go_ret
  exact ⟨rfl, rfl⟩
set_option maxRecDepth 100000 in
set_option maxHeartbeats 2000000 in
theorem ftoa_tenth (base : Nat) (m : Int) (w : World) (v : Value) (hO : Own w base v []) (hbase : base ≤ w.heap.size) (T : ShTab w m) :
    Calls Tryz.prog 164 #[v, .float .f64 4591870180066957722, .int .u8 101, .int .i64 (-1)] w fun e w' => ∃ v', e = .returned v' ∧ Own w' base v' [49, 101, 45, 48, 49] ∧ Below base w w' := by
  have hx := bits194 4591870180066957722
  have C1 := Lib.hid (fun w => Tryz.bits_Len64 7205759403792794 w (by decide) (by decide))
  rw [show (Lib.bitLen (7205759403792794 : Int).toNat : Int) = 53 by decide +kernel] at C1
  have b1 : bits .and .i64 1019 2047 = 1019 := by decide +kernel
  have b2 : bits .and .u64 4591870180066957722 4503599627370495 = 2702159776422298 := by decide +kernel
  have b3 : bits .or .u64 2702159776422298 4503599627370496 = 7205759403792794 := by decide +kernel
  have HO0 := Lib.hid hO
  have HW0 := Lib.hid hbase
  have HT := Lib.hid T
  have CS := Lib.hid (fun w1 (T : ShTab w1 m) => short_tenth w1 T.hi T.lo T.size)
  have CN := Lib.hid (fun w1 (T : ShTab w1 m) => ndigits_tenth w1 T.ten)
  have CD := Lib.hid (fun w1 H h => setdigits_tenth w.heap.size w1 H h)
  have CF := Lib.hid (fun w1 v hO hb hc => fmt_tenth base w.heap.size w1 v hO hb hc)
  have hsz := T.size
  have KB : Hid (∀ n o, Below w.heap.size w ((w.drewN n).alloc o)) := Lib.hid (fun n o => (below_drewN (Below.refl w.heap.size w) n).alloc (Nat.le_refl _) o)
  have KH : Hid (∀ n, Holds encB ((w.drewN n).alloc (.cells (Array.replicate 32 (.int .u8 0)) 227)) w.heap.size 0 (Array.replicate 16 (0 : UInt8))) := Lib.hid (fun n j hj => by
    have hj' : j < 16 := by simpa using hj
    refine ⟨?_, World.frozen?_alloc_new (w.drewN n) _ _ _⟩
    rw [show w.heap.size = (w.drewN n).heap.size from rfl, World.cell?_alloc_new, Nat.zero_add, Array.getElem?_replicate, if_pos (by omega), getElem!_pos _ j hj, Array.getElem_replicate]
    rfl)
  clear hO hbase T hsz
  go_enter Tryz.func164, Tryz.ntmps164
  go_wp2_with fail
  go_quiet (fail)
  go_wp2_with fail
  refine (C1.out _).mono ?_
  rintro e w1 ⟨rfl, hw1⟩
  have hw1' : w1 = (w.drewN nq).alloc (.cells (Array.replicate 32 (.int .u8 0)) 227) := hw1
  have B1 : Hid (Below w.heap.size w w1) := Lib.hid (by rw [hw1']; exact KB.out nq _)
  have H1 : Hid (Holds encB w1 w.heap.size 0 (Array.replicate 16 (0 : UInt8))) := Lib.hid (by rw [hw1']; exact KH.out nq)
  have L1 : Hid (w.heap.size < w1.heap.size) := Lib.hid (by rw [hw1']; simp)
  have T1 : Hid (ShTab w1 m) := Lib.hid (HT.out.below B1.out (by have := HT.out.size; omega))
  clear hw1 hw1' KH KB
  go_wp2_with fail
  refine (CS.out _ T1.out).mono ?_
  rintro e w2 ⟨rfl, hb⟩
  have B2 := Lib.hid (B1.out.trans (hb.mono (by have := L1.out; omega)))
  have H2 : Hid (Holds encB w2 w.heap.size 0 (Array.replicate 16 (0 : UInt8))) := Lib.hid (fun j hj => by
    have h := H1.out j hj
    exact ⟨(hb.cell (p := ⟨w.heap.size, 0 + j, none⟩) L1.out).trans h.1, (hb.frozen (p := ⟨w.heap.size, 0 + j, none⟩) L1.out).trans h.2⟩)
  have L2 : Hid (w.heap.size < w2.heap.size) := Lib.hid (Nat.lt_of_lt_of_le L1.out hb.size)
  have T2 : Hid (ShTab w2 m) := Lib.hid (T1.out.below hb (by have := T1.out.size; omega))
  clear hb H1 B1 L1 T1
  have CN2 := Lib.hid (CN.out w2.drew (T2.out.below (below_drewN (Below.refl w2.heap.size w2) 1) (by have := T2.out.size; omega)))
  have CD2 := Lib.hid (CD.out w2.drew (fun j hj => H2.out j hj) L2.out)
  clear CN CD H2
  go_wp2_with fail
  go_region_law (first
    | (go_simp; go_at_call 139; refine CN2.out.mono ?_; rintro e w3 ⟨rfl, rfl⟩; go_simp)
    | (go_simp; go_at_call 199; refine CD2.out.mono ?_; rintro e w3 ⟨rfl, ho, hc⟩; go_simp))
  all_goals
    have O3 : Hid (Own w3 base v []) := Lib.hid (Own.only (w := w2.drew) (Own.below (w := w) HO0.out (below_drewN B2.out 1)) ho (fun k hk h => by
      rw [List.mem_singleton] at hk
      have := own_lt HO0.out k h
      omega))
    have L3 : Hid (base ≤ w3.heap.size) := Lib.hid (by have h1 := HW0.out; have h2 := L2.out; have h3 := ho.size; have h4 : w2.drew.heap.size = w2.heap.size := rfl; omega)
    have B3 : Hid (Below base w w3) := Lib.hid (Below.trans (b := w2.drew) (below_drewN (B2.out.mono HW0.out) 1) (ho.below (B := base) (by have h1 := HW0.out; have h2 := L2.out; have h4 : w2.drew.heap.size = w2.heap.size := rfl; omega) (fun x hx => by rw [List.mem_singleton] at hx; have := HW0.out; omega)))
    have C3 := Lib.hid (CF.out w3 v O3.out L3.out hc)
    clear ho hc
    go_wp2_with fail
    refine C3.out.mono ?_
    rintro e w4 ⟨v4, rfl, ho4, hb4⟩
    have O4 := Lib.hid ho4
    have B4 := Lib.hid (B3.out.trans hb4)
    clear ho4 hb4
    go_wp2
    go_returns
    exact ⟨_, rfl, O4.out, B4.out⟩
end Go.Proofs.YthhlhiighgnkmaaGreatDoor
/-! ## WALKS: one tenth is shown: FormatFloat, shortest. -/
namespace Go.Proofs.YthhlhiighgnkmaaGreatDoor
set_option linter.unusedVariables false
set_option linter.unusedSimpArgs false
open Go.RowKit Go.PlainAid
set_option maxRecDepth 100000 in
set_option maxHeartbeats 1000000 in
theorem format_tenth (m : Int) (w : World) (T : ShTab w m) :
    Calls Tryz.prog 119 #[.float .f64 4591870180066957722, .int .u8 101, .int .i64 (-1), .int .i64 64] w (Gives w (.string (strOf [49, 101, 45, 48, 49]))) := by
  obtain ⟨i0, hi, hz0, hz1, hz2⟩ := info_parts info5
  have CF := Lib.hid (fun w1 v hO hb T => ftoa_tenth w.heap.size m w1 v hO hb T)
  have HT := Lib.hid T
  have hmax : max (3 : Int) 24 = 24 := by decide
  clear T
  go_enter Tryz.func119, Tryz.ntmps119
  go_wp2_with (refine wpList_make_own _ rfl (.const (.int .i64 0)) (.tmp 25) 87 rfl w.heap.size 5 i0 (.int .u8 0) 1 Tryz.underlying87 hi hz0 hz1 .i64 .i64 24 24 rfl rfl rfl (by rw [hz2]; decide) (by decide) (Nat.le_refl _) ?_; intro w1 hown hgr; have O1 := Lib.hid (show Own w1 w.heap.size (.slice (some ⟨w.heap.size, 0, none⟩) 0 24) [] from hown); have B1 := Lib.hid ((Below.refl w.heap.size w).grown hgr (Nat.le_refl _) (fun k hk => by cases hk)); clear hown hgr)
  refine (CF.out _ _ O1.out B1.out.size (HT.out.below B1.out (by have := HT.out.size; omega))).mono ?_
  rintro e w2 ⟨v2, rfl, ho, hb⟩
  have hcv := conv_own ho (by unfold IsB; decide)
  have B2 := Lib.hid (B1.out.trans hb)
  clear ho hb
  go_wp2
  go_ret
  exact ⟨rfl, B2.out⟩
theorem format70_tenth (m : Int) (w : World) (T : ShTab w m) :
    Calls Tryz.prog 70 #[.float .f64 4591870180066957722, .int .u8 101, .int .i64 (-1), .int .i64 64] w (Gives w (.string (strOf [49, 101, 45, 48, 49]))) := by
  have CF := Lib.hid (format_tenth m w T)
  obtain ⟨S, hS⟩ : ∃ S, strOf [49, 101, 45, 48, 49] = S := ⟨_, rfl⟩
  rw [hS] at CF ⊢
  clear hS T
  go_enter Tryz.func70, Tryz.ntmps70
  go_wp2_with fail
  refine CF.out.mono ?_
  rintro e w2 ⟨rfl, hb⟩
  have B2 := Lib.hid hb
  clear hb
  go_wp2
  go_ret
  exact ⟨rfl, B2.out⟩
theorem from68 (a : Nat) (w : World) : (callFunc 68 #[.int .u64 (a : Int)]).run Tryz.prog w = .ok (.value (.float .f64 a)) w := by
  rw [run_callFunc_extern (e := Extern.MathFloatBits.float64frombits) Tryz.func68 (by kernel_rfl) (by kernel_rfl) (by kernel_rfl) (by kernel_rfl)]
  rw [show Extern.MathFloatBits.float64frombits #[.int .u64 (a : Int)] = pure (.float .f64 (a : Int).toNat) from rfl, Int.toNat_natCast]
  rfl
theorem cut_tenth : Lib.cut (strOf [49, 101, 45, 48, 49]).data.toList (ByteArray.mk #[101]).data.toList = ([49], [45, 48, 49], true) := by decide +kernel
set_option maxRecDepth 100000 in
set_option maxHeartbeats 1000000 in
theorem shortest_tenth (m : Int) (w : World) (T : ShTab w m) :
    Calls Tryz.prog 34 #[.int .u64 4591870180066957722] w (Gives w (.tuple #[.string { data := #[49] }, .int .i64 0])) := by
  have h68 : ∀ w, (callFunc 68 #[.int .u64 4591870180066957722]).run Tryz.prog w = .ok (.value (.float .f64 4591870180066957722)) w := fun w => from68 4591870180066957722 w
  have CF := Lib.hid (format70_tenth m w T)
  have CC := Lib.hid (fun w1 (T : ShTab w1 m) => Tryz.strings_Cut (strOf [49, 101, 45, 48, 49]) { data := #[101] } m w1 (by decide) T.max)
  rw [cut_tenth] at CC
  have CA := Lib.hid (fun w1 => Tryz.strconv_Atoi_ok { data := #[45, 48, 49] } (by decide) (-1) (by decide +kernel) w1)
  have CR := Lib.hid (fun w1 (T : ShTab w1 m) => Tryz.strings_Replace_absent { data := #[49] } { data := #[46] } { data := #[] } 1 m w1 (by decide) T.max (by decide) (by decide) (by decide) (by decide +kernel))
  have HT := Lib.hid T
  obtain ⟨S, hS⟩ : ∃ S, strOf [49, 101, 45, 48, 49] = S := ⟨_, rfl⟩
  rw [hS] at CF CC
  clear hS T
  go_enter Tryz.func34, Tryz.ntmps34
  go_wp2_with fail
  refine CF.out.mono ?_
  rintro e w2 ⟨rfl, hb⟩
  have B2 := Lib.hid hb
  have T2 := Lib.hid (HT.out.below hb (by have := HT.out.size; omega))
  clear hb
  go_wp2_with fail
  refine (CC.out w2 T2.out).mono ?_
  rintro e w3 ⟨rfl, n3, rfl⟩
  go_wp2_with fail
  refine (CA.out _).mono ?_
  rintro e w4 ⟨rfl, hw4⟩
  have B4 := Lib.hid (show Below (w2.drewN n3).heap.size (w2.drewN n3) w4 by
    rcases hw4 with rfl | ⟨t, rfl⟩
    · exact Below.refl _ _
    · exact Lib.bytesWorld_below _ 5 t)
  have T4 := Lib.hid (T2.out.below (w' := w4) (B := w2.heap.size) ((below_drewN (Below.refl w2.heap.size w2) n3).trans B4.out) (by have := T2.out.size; omega))
  have B5 := Lib.hid ((below_drewN B2.out n3).trans (B4.out.mono (B2.out.size)))
  clear hw4
  go_wp2_with fail
  refine (CR.out w4 T4.out).mono ?_
  rintro e w5 ⟨rfl, rfl⟩
  go_wp2
  go_ret2
  exact ⟨rfl, B5.out⟩
end Go.Proofs.YthhlhiighgnkmaaGreatDoor
/-! ## WALKS: one tenth is shown: the number's order, sign and point. -/
namespace Go.Proofs.YthhlhiighgnkmaaGreatDoor
set_option linter.unusedVariables false
set_option linter.unusedSimpArgs false
open Go.RowKit Go.PlainAid
theorem an_a : bits .andNot .u64 4591870180066957722 9223372036854775808 = 4591870180066957722 := by decide +kernel
theorem an_0 : bits .andNot .u64 0 9223372036854775808 = 0 := by decide +kernel
set_option maxRecDepth 100000 in
theorem nan_a (w : World) : Calls Tryz.prog 62 #[.int .u64 4591870180066957722] w fun e w' => e = .returned (.bool false) ∧ w' = w := by
  have h := an_a
  go_enter Tryz.func62, Tryz.ntmps62
  go_wp2
  go_ret
  exact ⟨rfl, rfl⟩
set_option maxRecDepth 100000 in
theorem nan_0 (w : World) : Calls Tryz.prog 62 #[.int .u64 0] w fun e w' => e = .returned (.bool false) ∧ w' = w := by
  have h := an_0
  go_enter Tryz.func62, Tryz.ntmps62
  go_wp2
  go_ret
  exact ⟨rfl, rfl⟩
set_option maxRecDepth 100000 in
theorem inf_a (w : World) : Calls Tryz.prog 32 #[.int .u64 4591870180066957722] w fun e w' => e = .returned (.bool false) ∧ w' = w := by
  have h := an_a
  go_enter Tryz.func32, Tryz.ntmps32
  go_wp2
  go_ret
  exact ⟨rfl, rfl⟩
set_option maxRecDepth 100000 in
theorem abs_a (w : World) : Calls Tryz.prog 35 #[.int .u64 4591870180066957722] w fun e w' => e = .returned (.int .u64 4591870180066957722) ∧ w' = w := by
  have h := an_a
  have C := Lib.hid nan_a
  go_enter Tryz.func35, Tryz.ntmps35
  go_wp2_with fail
  refine (C.out _).mono ?_
  rintro e w1 ⟨rfl, rfl⟩
  go_wp2
  go_ret
  exact ⟨rfl, rfl⟩
set_option maxRecDepth 100000 in
theorem sgn_a (w : World) : Calls Tryz.prog 110 #[.int .u64 4591870180066957722] w fun e w' => e = .returned (.bool false) ∧ w' = w := by
  go_enter Tryz.func110, Tryz.ntmps110
  go_wp2
  go_ret
  exact ⟨rfl, rfl⟩
set_option maxRecDepth 100000 in
theorem sgn_0 (w : World) : Calls Tryz.prog 110 #[.int .u64 0] w fun e w' => e = .returned (.bool false) ∧ w' = w := by
  go_enter Tryz.func110, Tryz.ntmps110
  go_wp2
  go_ret
  exact ⟨rfl, rfl⟩
theorem or_a : bits .or .u64 4591870180066957722 9223372036854775808 = 13815242216921733530 := by decide +kernel
theorem or_0 : bits .or .u64 0 9223372036854775808 = 9223372036854775808 := by decide +kernel
set_option maxRecDepth 100000 in
theorem rising_a (w : World) : Calls Tryz.prog 64 #[.int .u64 4591870180066957722] w fun e w' => e = .returned (.int .u64 13815242216921733530) ∧ w' = w := by
  have h := or_a
  have C := Lib.hid sgn_a
  go_enter Tryz.func64, Tryz.ntmps64
  go_wp2_with fail
  refine (C.out _).mono ?_
  rintro e w1 ⟨rfl, rfl⟩
  go_wp2
  go_ret
  exact ⟨rfl, rfl⟩
set_option maxRecDepth 100000 in
theorem rising_0 (w : World) : Calls Tryz.prog 64 #[.int .u64 0] w fun e w' => e = .returned (.int .u64 9223372036854775808) ∧ w' = w := by
  have h := or_0
  have C := Lib.hid sgn_0
  go_enter Tryz.func64, Tryz.ntmps64
  go_wp2_with fail
  refine (C.out _).mono ?_
  rintro e w1 ⟨rfl, rfl⟩
  go_wp2
  go_ret
  exact ⟨rfl, rfl⟩
theorem num_nan (n : Int) (w : World) : Calls Tryz.prog 109 #[.int .u64 n] w fun e w' => e = .returned (.bool false) ∧ w' = w := by
  go_enter Tryz.func109, Tryz.ntmps109
  go_wp2
  go_ret
  exact ⟨rfl, rfl⟩
set_option maxRecDepth 100000 in
theorem compare_a (w : World) : Calls Tryz.prog 63 #[.int .u64 13815242216921733530, .int .u64 9223372036854775808] w fun e w' => e = .returned (.int .i64 1) ∧ w' = w := by
  have C := Lib.hid num_nan
  go_enter Tryz.func63, Tryz.ntmps63
  go_wp2_with fail
  refine (C.out _ _).mono ?_
  rintro e w1 ⟨rfl, rfl⟩
  go_wp2_with fail
  refine (C.out _ _).mono ?_
  rintro e w1 ⟨rfl, rfl⟩
  go_wp2
  go_ret
  exact ⟨rfl, rfl⟩
set_option maxRecDepth 100000 in
theorem order_a (w : World) : Calls Tryz.prog 30 #[.int .u64 4591870180066957722, .int .u64 0] w fun e w' => e = .returned (.int .i64 1) ∧ w' = w := by
  have C1 := Lib.hid nan_a
  have C2 := Lib.hid nan_0
  have C3 := Lib.hid rising_a
  have C4 := Lib.hid rising_0
  have C5 := Lib.hid compare_a
  go_enter Tryz.func30, Tryz.ntmps30
  go_wp2_with fail
  refine (C1.out _).mono ?_
  rintro e w1 ⟨rfl, rfl⟩
  go_wp2_with fail
  refine (C1.out _).mono ?_
  rintro e w1 ⟨rfl, rfl⟩
  go_wp2_with fail
  refine (C2.out _).mono ?_
  rintro e w1 ⟨rfl, rfl⟩
  go_wp2_with fail
  refine (C3.out _).mono ?_
  rintro e w1 ⟨rfl, rfl⟩
  go_wp2_with fail
  refine (C4.out _).mono ?_
  rintro e w1 ⟨rfl, rfl⟩
  go_wp2_with fail
  refine (C5.out _).mono ?_
  rintro e w1 ⟨rfl, rfl⟩
  go_wp2
  go_ret
  exact ⟨rfl, rfl⟩
set_option maxRecDepth 100000 in
theorem float_a (w : World) : Calls Tryz.prog 65 #[.int .u64 4591870180066957722] w fun e w' => e = .returned (.float .f64 4591870180066957722) ∧ w' = w := by
  have h68 : ∀ w, (callFunc 68 #[.int .u64 4591870180066957722]).run Tryz.prog w = .ok (.value (.float .f64 4591870180066957722)) w := fun w => from68 4591870180066957722 w
  go_enter Tryz.func65, Tryz.ntmps65
  go_wp2
  go_ret
  exact ⟨rfl, rfl⟩
theorem float_0 (w : World) : Calls Tryz.prog 65 #[.int .u64 0] w fun e w' => e = .returned (.float .f64 0) ∧ w' = w := by
  have h68 : ∀ w, (callFunc 68 #[.int .u64 0]).run Tryz.prog w = .ok (.value (.float .f64 0)) w := fun w => from68 0 w
  go_enter Tryz.func65, Tryz.ntmps65
  go_wp2
  go_ret
  exact ⟨rfl, rfl⟩
set_option maxRecDepth 100000 in
theorem cmp_a (w : World) : Calls Tryz.prog 31 #[.int .u64 4591870180066957722, .int .u64 0] w fun e w' => e = .returned (.tuple #[.int .i64 1, .bool true]) ∧ w' = w := by
  have C1 := Lib.hid nan_a
  have C2 := Lib.hid nan_0
  have C3 := Lib.hid float_a
  have C4 := Lib.hid float_0
  go_enter Tryz.func31, Tryz.ntmps31
  go_wp2_with fail
  refine (C1.out _).mono ?_
  rintro e w1 ⟨rfl, rfl⟩
  go_wp2_with fail
  refine (C2.out _).mono ?_
  rintro e w1 ⟨rfl, rfl⟩
  go_wp2_with fail
  refine (C3.out _).mono ?_
  rintro e w1 ⟨rfl, rfl⟩
  go_wp2_with fail
  refine (C4.out _).mono ?_
  rintro e w1 ⟨rfl, rfl⟩
  go_wp2
  go_ret2
  exact ⟨rfl, rfl⟩
theorem point_a (w : World) : Calls Tryz.prog 33 #[.string { data := #[49] }, .int .i64 0] w fun e w' => e = .returned (.string { data := #[48, 46, 49] }) ∧ w' = w := by
  have CR := Lib.hid (fun w => Tryz.strings_Repeat_zero { data := #[48] } w)
  go_enter Tryz.func33, Tryz.ntmps33
  go_wp2_with fail
  refine (CR.out _).mono ?_
  rintro e w1 ⟨rfl, rfl⟩
  go_wp2
  go_ret
  exact ⟨rfl, rfl⟩
end Go.Proofs.YthhlhiighgnkmaaGreatDoor
