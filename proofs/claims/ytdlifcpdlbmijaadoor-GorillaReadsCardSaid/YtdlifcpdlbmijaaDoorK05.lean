/-
  PACKED: GrA, GrB, GrC, GrD, GrE, GrF, GrG, GrH, GoA
-/
import Derived.Test.YtdlifcpdlbmijaaDoorK03
import Derived.Test.YtdlifcpdlbmijaaDoorK02
import Derived.Test.YtdlifcpdlbmijaaDoorK04
import Derived.Test.YtdlifcpdlbmijaaDoorK01
import Derived.Deep.RegionHeld3
set_option linter.unusedVariables false
set_option linter.unusedSimpArgs false
namespace Go.Proofs.YtdlifcpdlbmijaaDoor
set_option linter.unusedVariables false
set_option linter.unusedSimpArgs false
open Go.RowKit Go.PlainAid Go.Shelf
open B2 (Only Bys Row cellsOf)
open Gm (St Smp)
/-- the reader's cells -/
def rdC (s : Gm.Rd) (p : Nat) : Array Value := rowP s.n s.last.t s.last.v s.gap (.int .i64 ((s.ws : Nat) : Int)) (.int .i64 ((s.we : Nat) : Int)) (pt p) (.bool s.c.2)
/-- a reader of samples in memory: its block, its bits' reader, the bytes' block -/
structure Rdr (w : World) (a p g : Nat) (ds : List Nat) (s : Gm.Rd) : Prop where
  row : w.heap[a]? = some (.cells (rdC s p) 239 (0, 0))
  bits : ∃ at_, B2.Rd w p g ds at_ ∧ s.c.1 = (B2.Bt.unpack ds).drop at_
  ne : a ≠ p ∧ a ≠ g
theorem Rdr.lt {w : World} {a p g : Nat} {ds : List Nat} {s : Gm.Rd} (h : Rdr w a p g ds s) : a < w.heap.size ∧ p < w.heap.size ∧ g < w.heap.size := by
  obtain ⟨at_, h1, _⟩ := h.bits
  exact ⟨(Array.getElem?_eq_some_iff.1 h.row).1, h1.lt.1, h1.lt.2⟩
theorem Rdr.only {w w' : World} {a p g : Nat} {ds : List Nat} {s : Gm.Rd} (h : Rdr w a p g ds s) {S : List Nat} (ho : Only S w w') (h1 : a ∉ S) (h2 : p ∉ S) (h3 : g ∉ S) : Rdr w' a p g ds s := by
  obtain ⟨at_, k1, k2⟩ := h.bits
  exact ⟨(ho.block a (Array.getElem?_eq_some_iff.1 h.row).1 h1).trans h.row, ⟨at_, k1.only ho h2 h3, k2⟩, h.ne⟩
theorem Rdr.below {w w' : World} {a p g : Nat} {ds : List Nat} {s : Gm.Rd} (h : Rdr w a p g ds s) (hb : Below w.heap.size w w') : Rdr w' a p g ds s := h.only (Only.of_below hb []) (by simp) (by simp) (by simp)
/-- behind a call that reads -/
def RdrPost (w : World) (a p g : Nat) (ds : List Nat) (v : Value) (s : Gm.Rd) (e : Ending) (w' : World) : Prop := e = .returned v ∧ Rdr w' a p g ds s ∧ Only [a, p] w w'
theorem RdrPost.trans {w w1 w2 : World} {a p g : Nat} {ds : List Nat} {v : Value} {s : Gm.Rd} {e : Ending} (hO : Only [a, p] w w1) (h : RdrPost w1 a p g ds v s e w2) : RdrPost w a p g ds v s e w2 := ⟨h.1, h.2.1, hO.trans h.2.2 (fun _ hx => .inl hx)⟩
/-- the flag turned -/
theorem Rdr.flag {w : World} {a p g : Nat} {ds : List Nat} {s : Gm.Rd} (h : Rdr w a p g ds s) (b : Bool) : Rdr (w.setCell ⟨a, 7, none⟩ (.bool b)) a p g ds { s with c := (s.c.1, b) } := by
  obtain ⟨at_, k1, k2⟩ := h.bits
  have hl := h.lt
  have hn := h.ne
  refine ⟨?_, ⟨at_, k1.only ((Only.refl [a] w).setCell (p := ⟨a, 7, none⟩) (.inl (by simp)) _) (by simp; omega) (by simp; omega), k2⟩, h.ne⟩
  rw [heap_setCell_same _ _ _ _ _ _ h.row]
  rfl
set_option maxRecDepth 100000 in
theorem note_rdr (a p g x : Nat) (ds : List Nat) (s : Gm.Rd) (w : World) (H : Rdr w a p g ds s) :
    Calls Tryd.prog 118 #[pt a, .int .u16 ((x : Nat) : Int)] w (RdrPost w a p g ds (.tuple #[]) { s with c := (s.c.1, s.c.2 || decide (x ≠ 0)) }) := by
  have c7 : w.cell? ⟨a, 7, none⟩ = some (.bool s.c.2) := (cell_of_row _ _ 7 _ _ _ H.row).trans rfl
  have f7 : w.frozen? ⟨a, 7, none⟩ = false := frozen_of_row _ _ _ _ _ H.row
  have HF := Lib.hid (fun b => And.intro (H.flag b) ((Only.refl [a, p] w).setCell (p := ⟨a, 7, none⟩) (.inl (by simp)) (.bool b)))
  obtain ⟨q, hq⟩ : ∃ q, s.c.2 = q := ⟨_, rfl⟩
  rw [hq] at c7 ⊢
  clear hq H
  unfold pt at *
  cases q with
  | true =>
    go_enter Tryd.func118, Tryd.ntmps118
    go_wp2_with fail
    refine bodyPost_end (results_none rfl _ _ _) rfl ⟨rfl, ?_⟩
    exact HF.out true
  | false =>
    by_cases hx : x = 0
    · subst hx
      have d0 : (((0 : Nat) : Int) != 0) = false := by simp
      go_enter Tryd.func118, Tryd.ntmps118
      go_wp2_with fail
      refine bodyPost_end (results_none rfl _ _ _) rfl ⟨rfl, ?_⟩
      have h := HF.out false
      simpa using h
    · have d0 : ((x : Int) != 0) = true := by simp; omega
      have d1 : ¬ (x : Int) = 0 := by omega
      have hd : (false || decide (x ≠ 0)) = true := by simp; exact hx
      rw [hd]
      clear hd hx
      go_enter Tryd.func118, Tryd.ntmps118
      go_wp2_with fail
      refine bodyPost_end (results_none rfl _ _ _) rfl ⟨rfl, ?_⟩
      exact HF.out true
theorem rd_rb (S : List Bool) (q : Bool) (k : Nat) (hk : k ≤ 64) : (B2.Bt.rd S k).1 = (Gm.rb k (S, q)).1 ∧ S.drop (B2.Bt.rd S k).2.2 = (Gm.rb k (S, q)).2.1 ∧ (q || decide ((B2.Bt.rd S k).2.1 ≠ 0)) = (Gm.rb k (S, q)).2.2 := by
  unfold B2.Bt.rd Gm.rb
  rw [if_neg (by omega)]
  rw [show ((k : Nat) : Int).toNat = k by omega]
  by_cases h : S.length < k
  · simp [h]
  · simp [h]
set_option maxRecDepth 100000 in
theorem bits_rdr (a p g k : Nat) (ds : List Nat) (s : Gm.Rd) (hk : k ≤ 64) (hbd : ds.length ≤ 1000000000) (w : World) (H : Rdr w a p g ds s) :
    Calls Tryd.prog 121 #[pt a, .int .i64 ((k : Nat) : Int)] w (RdrPost w a p g ds (.int .u64 (((Gm.rb k s.c).1 : Nat) : Int)) { s with c := (Gm.rb k s.c).2 }) := by
  have c6 : w.cell? ⟨a, 6, none⟩ = some (pt p) := (cell_of_row _ _ 6 _ _ _ H.row).trans rfl
  obtain ⟨at_, h1, h2⟩ := H.bits
  have hL := H.lt
  have hN := H.ne
  obtain ⟨n, last, gap, ws, we, S, q⟩ := s
  simp only at h2
  subst h2
  obtain ⟨e1, e2, e3⟩ := rd_rb ((B2.Bt.unpack ds).drop at_) q k hk
  have CB := Lib.hid (B2.rbits_any p g ds at_ ((k : Nat) : Int) w h1 hbd)
  unfold B2.RbPost at CB
  have HH := Lib.hid H
  obtain ⟨V, hV⟩ : ∃ V, (B2.Bt.rd ((B2.Bt.unpack ds).drop at_) ((k : Nat) : Int)).1 = V := ⟨_, rfl⟩
  obtain ⟨X, hX⟩ : ∃ X, (B2.Bt.rd ((B2.Bt.unpack ds).drop at_) ((k : Nat) : Int)).2.1 = X := ⟨_, rfl⟩
  obtain ⟨Y, hY⟩ : ∃ Y, (B2.Bt.rd ((B2.Bt.unpack ds).drop at_) ((k : Nat) : Int)).2.2 = Y := ⟨_, rfl⟩
  rw [hV, hX, hY] at CB
  rw [hV] at e1
  rw [hY, List.drop_drop] at e2
  rw [hX] at e3
  have HE := Lib.hid (show (Gm.rb k ((B2.Bt.unpack ds).drop at_, q)) = (V, ((B2.Bt.unpack ds).drop (at_ + Y), q || decide (X ≠ 0))) from by
    rw [← Prod.eta (Gm.rb k ((B2.Bt.unpack ds).drop at_, q)), ← Prod.eta (Gm.rb k ((B2.Bt.unpack ds).drop at_, q)).2, ← e1, ← e2, ← e3])
  have HLN := Lib.hid (And.intro hL hN)
  rw [HE.out]
  clear e1 e2 e3 hV hX hY h1 H hL hN
  unfold pt at *
  go_enter Tryd.func121, Tryd.ntmps121
  go_wp2_with fail
  go_at_call 125
  refine CB.out.mono ?_
  rintro e w1 ⟨rfl, hR, hO⟩
  have hln := HLN.out
  have H1 : Rdr w1 a p g ds ⟨n, last, gap, ws, we, ((B2.Bt.unpack ds).drop (at_ + Y), q)⟩ :=
    ⟨(hO.block a hln.1.1 (by simp; omega)).trans HH.out.row, ⟨_, hR, rfl⟩, HH.out.ne⟩
  have CN := Lib.hid (note_rdr a p g X ds _ w1 H1)
  have HO := Lib.hid (show Only [a, p] w w1 from hO.mono (fun x hx => by simp at hx ⊢; exact .inr hx))
  clear hln hR hO H1 CB
  unfold pt at *
  go_wp2_with fail
  go_at_call 118
  refine CN.out.mono ?_
  rintro e w2 ⟨rfl, hR2, hO2⟩
  have HX := Lib.hid (And.intro hR2 (HO.out.trans hO2 (fun _ hx => .inl hx)))
  clear hR2 hO2 CN
  go_wp2_with fail
  go_ret
  exact ⟨rfl, HX.out.1, HX.out.2⟩
end Go.Proofs.YtdlifcpdlbmijaaDoor
namespace Go.Proofs.YtdlifcpdlbmijaaDoor
set_option linter.unusedVariables false
set_option linter.unusedSimpArgs false
open Go.RowKit Go.PlainAid Go.Shelf
open B2 (Only Bys Row cellsOf)
open Gm (St Smp)
theorem rb_lt (k : Nat) (c : Gm.Cx) (hk : k ≤ 64) : (Gm.rb k c).1 < 2 ^ k := by
  unfold Gm.rb
  split
  · exact Nat.two_pow_pos k
  · rename_i h
    have h1 := B2.Bt.val_lt (c.1.take k)
    rwa [List.length_take, Nat.min_eq_left (by omega)] at h1
/-- the window turned -/
theorem Rdr.win {w : World} {a p g : Nat} {ds : List Nat} {s : Gm.Rd} (h : Rdr w a p g ds s) (x y : Nat) : Rdr ((w.setCell ⟨a, 4, none⟩ (.int .i64 ((x : Nat) : Int))).setCell ⟨a, 5, none⟩ (.int .i64 ((y : Nat) : Int))) a p g ds { s with ws := x, we := y } ∧ Only [a, p] w ((w.setCell ⟨a, 4, none⟩ (.int .i64 ((x : Nat) : Int))).setCell ⟨a, 5, none⟩ (.int .i64 ((y : Nat) : Int))) := by
  obtain ⟨at_, k1, k2⟩ := h.bits
  have hl := h.lt
  have hn := h.ne
  have hO := ((Only.refl [a] w).setCell (p := ⟨a, 4, none⟩) (.inl (by simp)) (.int .i64 ((x : Nat) : Int))).setCell (p := ⟨a, 5, none⟩) (.inl (by simp)) (.int .i64 ((y : Nat) : Int))
  refine ⟨⟨?_, ⟨at_, k1.only hO (by simp; omega) (by simp; omega), k2⟩, h.ne⟩, hO.mono (fun q hq => by simp at hq ⊢; exact .inl hq)⟩
  rw [heap_setCell_same _ _ _ _ _ _ (heap_setCell_same _ _ _ _ _ _ h.row)]
  rfl
set_option maxHeartbeats 4000000 in
set_option maxRecDepth 100000 in
theorem openwin_rdr (a p g : Nat) (ds : List Nat) (s : Gm.Rd) (hbd : ds.length ≤ 1000000000) (w : World) (H : Rdr w a p g ds s) :
    Calls Tryd.prog 122 #[pt a] w fun e w' => e = .returned (.tuple #[]) ∧ Rdr w' a p g ds { s with ws := (Gm.rdWin s.ws s.we s.c).1, we := (Gm.rdWin s.ws s.we s.c).2.1, c := (Gm.rdWin s.ws s.we s.c).2.2 } ∧ ∀ S : List Nat, a ∈ S → p ∈ S → Only S w w' := by
  have C1 := bits_rdr a p g 5 ds s (by decide) hbd w H
  have b1 := rb_lt 5 s.c (by decide)
  have C2 := fun W (h : Rdr W a p g ds { s with c := (Gm.rb 5 s.c).2 }) => bits_rdr a p g 6 ds { s with c := (Gm.rb 5 s.c).2 } (by decide) hbd W h
  simp only at C2
  have b2 := rb_lt 6 (Gm.rb 5 s.c).2 (by decide)
  have HW := Lib.hid (show Gm.rdWin s.ws s.we s.c = (if 64 < (Gm.rb 5 s.c).1 + (Gm.rb 6 (Gm.rb 5 s.c).2).1 + 1 then (s.ws, s.we, ((Gm.rb 6 (Gm.rb 5 s.c).2).2.1, true)) else ((Gm.rb 5 s.c).1, (Gm.rb 5 s.c).1 + (Gm.rb 6 (Gm.rb 5 s.c).2).1 + 1, (Gm.rb 6 (Gm.rb 5 s.c).2).2)) from rfl)
  obtain ⟨A, hA⟩ : ∃ A, (Gm.rb 5 s.c).1 = A := ⟨_, rfl⟩
  obtain ⟨c1, hc1⟩ : ∃ c1, (Gm.rb 5 s.c).2 = c1 := ⟨_, rfl⟩
  rw [hA] at C1 b1
  rw [hc1] at C1 C2 b2
  have HW2 := HW.out
  rw [hA, hc1] at HW2
  obtain ⟨B, hB⟩ : ∃ B, (Gm.rb 6 c1).1 = B := ⟨_, rfl⟩
  obtain ⟨c2, hc2⟩ : ∃ c2, (Gm.rb 6 c1).2 = c2 := ⟨_, rfl⟩
  rw [hB] at C2 b2 HW2
  rw [hc2] at C2 HW2
  have hbA : A < 32 := b1
  have hbB : B < 64 := b2
  have HE := Lib.hid HW2
  have CC1 := Lib.hid C1
  have CC2 := Lib.hid C2
  simp only [Int.cast_ofNat_Int] at CC1 CC2
  obtain ⟨T, hT⟩ : ∃ T, Gm.rdWin s.ws s.we s.c = T := ⟨_, rfl⟩
  have HT := Lib.hid (hT.symm.trans HE.out)
  rw [hT]
  have HAL := Lib.hid H.lt
  clear C1 C2 HW HW2 hA hc1 hB hc2 b1 b2 H hT HE
  unfold pt at *
  go_enter Tryd.func122, Tryd.ntmps122
  go_wp2_with fail
  go_at_call 121
  refine CC1.out.mono ?_
  rintro e w1 ⟨rfl, hR1, hO1⟩
  have HO1 := Lib.hid (And.intro hO1 hR1.lt)
  have C2 := Lib.hid (CC2.out w1 hR1)
  clear hR1 hO1 CC1 CC2
  go_wp2_with fail
  go_at_call 121
  refine C2.out.mono ?_
  rintro e w2 ⟨rfl, hR2, hO2⟩
  have HR2 := Lib.hid hR2
  have HO2 := Lib.hid (HO1.out.1.trans hO2 (fun _ hx => .inl hx))
  obtain ⟨E, hE⟩ : ∃ E, A + B + 1 = E := ⟨_, rfl⟩
  have hEI : (A : Int) + (B : Int) + 1 = (E : Int) := by omega
  have hEI2 : (A : Int) + ((B : Int) + 1) = (E : Int) := by omega
  have hbx := heap_alloc_new w2 (.cells #[.int .i64 ((A : Nat) : Int), .int .i64 ((E : Nat) : Int)] 94)
  have hAl := (Below.refl w2.heap.size w2).alloc (Nat.le_refl _) (.cells #[.int .i64 ((A : Nat) : Int), .int .i64 ((E : Nat) : Int)] 94)
  have x0 : (w2.alloc (.cells #[.int .i64 ((A : Nat) : Int), .int .i64 ((E : Nat) : Int)] 94)).cell? ⟨w2.heap.size, 0, none⟩ = some (.int .i64 ((A : Nat) : Int)) := (cell_of_row _ _ 0 _ _ _ hbx).trans rfl
  have x1 : (w2.alloc (.cells #[.int .i64 ((A : Nat) : Int), .int .i64 ((E : Nat) : Int)] 94)).cell? ⟨w2.heap.size, 1, none⟩ = some (.int .i64 ((E : Nat) : Int)) := (cell_of_row _ _ 1 _ _ _ hbx).trans rfl
  have hR3 := hR2.below hAl
  have f7 : (w2.alloc (.cells #[.int .i64 ((A : Nat) : Int), .int .i64 ((E : Nat) : Int)] 94)).frozen? ⟨a, 7, none⟩ = false := frozen_of_row _ _ _ _ _ hR3.row
  have f4 : (w2.alloc (.cells #[.int .i64 ((A : Nat) : Int), .int .i64 ((E : Nat) : Int)] 94)).frozen? ⟨a, 4, none⟩ = false := frozen_of_row _ _ _ _ _ hR3.row
  have y4 : (w2.alloc (.cells #[.int .i64 ((A : Nat) : Int), .int .i64 ((E : Nat) : Int)] 94)).cell? ⟨a, 4, none⟩ = some (.int .i64 ((s.ws : Nat) : Int)) := (cell_of_row _ _ 4 _ _ _ hR3.row).trans rfl
  have y5 : (w2.alloc (.cells #[.int .i64 ((A : Nat) : Int), .int .i64 ((E : Nat) : Int)] 94)).cell? ⟨a, 5, none⟩ = some (.int .i64 ((s.we : Nat) : Int)) := (cell_of_row _ _ 5 _ _ _ hR3.row).trans rfl
  have y7 : (w2.alloc (.cells #[.int .i64 ((A : Nat) : Int), .int .i64 ((E : Nat) : Int)] 94)).cell? ⟨a, 7, none⟩ = some (.bool c2.2) := (cell_of_row _ _ 7 _ _ _ hR3.row).trans rfl
  have f5 : ((w2.alloc (.cells #[.int .i64 ((A : Nat) : Int), .int .i64 ((E : Nat) : Int)] 94)).setCell ⟨a, 4, none⟩ (.int .i64 ((A : Nat) : Int))).frozen? ⟨a, 5, none⟩ = false := by rw [World.frozen?_setCell]; exact frozen_of_row _ _ _ _ _ hR3.row
  have HR3 := Lib.hid hR3
  have HO3 := Lib.hid (HO2.out.trans (Only.of_below hAl [a, p]) (fun _ hx => .inl hx))
  clear hR2 hO2 C2 hbx hAl hR3
  by_cases h64 : 64 < E
  · have d0 : decide ((64 : Int) < (E : Int)) = true := by simp; omega
    have HTE := Lib.hid (show T = (s.ws, s.we, (c2.1, true)) by rw [HT.out, if_pos (by omega)])
    have HF := Lib.hid (And.intro (HR3.out.flag true) (HO3.out.setCell (p := ⟨a, 7, none⟩) (.inl (by simp)) (.bool true)))
    clear h64
    go_wp2_with fail
    refine bodyPost_ret (results_none rfl _ _ _) rfl ⟨rfl, by rw [HTE.out]; exact HF.out.1, fun S ha hp => HF.out.2.mono (fun x hx => ?_)⟩
    simp at hx
    rcases hx with rfl | rfl
    · exact ha
    · exact hp
  · have d0 : decide ((64 : Int) < (E : Int)) = false := by simp; omega
    have HTE := Lib.hid (show T = (A, E, c2) by rw [HT.out, if_neg (by omega), hE])
    obtain ⟨hw1, hw2⟩ := HR3.out.win A E
    have HF := Lib.hid (And.intro hw1 (HO3.out.trans hw2 (fun _ hx => .inl hx)))
    clear h64 hw1 hw2
    go_wp2_with fail
    refine bodyPost_end (results_none rfl _ _ _) rfl ⟨rfl, by rw [HTE.out]; exact HF.out.1, fun S ha hp => HF.out.2.mono (fun x hx => ?_)⟩
    simp at hx
    rcases hx with rfl | rfl
    · exact ha
    · exact hp
end Go.Proofs.YtdlifcpdlbmijaaDoor
namespace Go.Proofs.YtdlifcpdlbmijaaDoor
set_option linter.unusedVariables false
set_option linter.unusedSimpArgs false
open Go.RowKit Go.PlainAid Go.Shelf
open B2 (Only Bys Row cellsOf)
open Gm (St Smp)
theorem mixed_yes : Tryd.prog.follows Departure.mixedOrders = true := by kernel_rfl
/-- the last part: a number's bits within the window -/
def numR (s : Gm.Rd) : Nat × Gm.Cx := ((s.last.v ^^^ (((Gm.rb (s.we - s.ws) s.c).1 <<< (64 - s.we)) % 18446744073709551616)), (Gm.rb (s.we - s.ws) s.c).2)
set_option maxHeartbeats 8000000 in
set_option maxRecDepth 100000 in
theorem number_first (a p g : Nat) (ds : List Nat) (s : Gm.Rd) (hbd : ds.length ≤ 1000000000) (h0 : s.n = 0) (w : World) (H : Rdr w a p g ds s) :
    Calls Tryd.prog 114 #[pt a] w (RdrPost w a p g ds (.int .u64 (((Gm.rdNum s s.c).1 : Nat) : Int)) { s with ws := (Gm.rdNum s s.c).2.1, we := (Gm.rdNum s s.c).2.2.1, c := (Gm.rdNum s s.c).2.2.2 }) := by
  have c0 : w.cell? ⟨a, 0, none⟩ = some (.int .i64 ((s.n : Nat) : Int)) := (cell_of_row _ _ 0 _ _ _ H.row).trans rfl
  have C := Lib.hid (bits_rdr a p g 64 ds s (by decide) hbd w H)
  have e : Gm.rdNum s s.c = ((Gm.rb 64 s.c).1, s.ws, s.we, (Gm.rb 64 s.c).2) := by unfold Gm.rdNum; rw [if_pos h0]
  rw [e]
  rw [h0] at c0
  simp only [Int.cast_ofNat_Int] at C c0
  clear e H h0
  unfold pt at *
  go_enter Tryd.func114, Tryd.ntmps114
  go_wp2_with fail
  go_at_call 121
  refine C.out.mono ?_
  rintro e w1 ⟨rfl, hR, hO⟩
  have HX := Lib.hid (And.intro hR hO)
  clear hR hO C
  go_wp2_with fail
  go_ret
  exact ⟨rfl, HX.out.1, HX.out.2⟩
set_option maxHeartbeats 8000000 in
set_option maxRecDepth 100000 in
theorem number_same (a p g : Nat) (ds : List Nat) (s : Gm.Rd) (hbd : ds.length ≤ 1000000000) (h0 : s.n ≠ 0) (h1 : (Gm.rb 1 s.c).1 = 0) (w : World) (H : Rdr w a p g ds s) :
    Calls Tryd.prog 114 #[pt a] w (RdrPost w a p g ds (.int .u64 (((Gm.rdNum s s.c).1 : Nat) : Int)) { s with ws := (Gm.rdNum s s.c).2.1, we := (Gm.rdNum s s.c).2.2.1, c := (Gm.rdNum s s.c).2.2.2 }) := by
  have c0 : w.cell? ⟨a, 0, none⟩ = some (.int .i64 ((s.n : Nat) : Int)) := (cell_of_row _ _ 0 _ _ _ H.row).trans rfl
  have hn1 : ((s.n : Int) == 0) = false := by simp; omega
  have hn2 : ¬ (s.n : Int) = 0 := by omega
  have C := Lib.hid (bits_rdr a p g 1 ds s (by decide) hbd w H)
  have e : Gm.rdNum s s.c = (s.last.v, s.ws, s.we, (Gm.rb 1 s.c).2) := by unfold Gm.rdNum; rw [if_neg h0]; simp only [h1, if_true]
  rw [e]
  rw [h1] at C
  simp only [Int.cast_ofNat_Int] at C
  clear e H h0 h1
  unfold pt at *
  go_enter Tryd.func114, Tryd.ntmps114
  go_wp2_with fail
  go_at_call 121
  refine C.out.mono ?_
  rintro e w1 ⟨rfl, hR, hO⟩
  have c2 : w1.cell? ⟨a, 2, none⟩ = some (.int .u64 ((s.last.v : Nat) : Int)) := (cell_of_row _ _ 2 _ _ _ hR.row).trans rfl
  have HX := Lib.hid (And.intro hR hO)
  clear hR hO C
  go_wp2_with fail
  go_ret
  exact ⟨rfl, HX.out.1, HX.out.2⟩
theorem rdWin_win (ws we : Nat) (c : Gm.Cx) (h : ws ≤ we ∧ we ≤ 64) : (Gm.rdWin ws we c).1 ≤ (Gm.rdWin ws we c).2.1 ∧ (Gm.rdWin ws we c).2.1 ≤ 64 := by
  unfold Gm.rdWin
  simp only
  split
  · exact h
  · constructor <;> simp only <;> omega
theorem Rdr.winC {w : World} {a p g : Nat} {ds : List Nat} {s : Gm.Rd} (h : Rdr w a p g ds s) : w.cell? ⟨a, 4, none⟩ = some (.int .i64 ((s.ws : Nat) : Int)) ∧ w.cell? ⟨a, 5, none⟩ = some (.int .i64 ((s.we : Nat) : Int)) := ⟨(cell_of_row _ _ 4 _ _ _ h.row).trans rfl, (cell_of_row _ _ 5 _ _ _ h.row).trans rfl⟩
set_option maxHeartbeats 16000000 in
set_option maxRecDepth 100000 in
theorem number_more (a p g : Nat) (ds : List Nat) (s : Gm.Rd) (hbd : ds.length ≤ 1000000000) (hw : s.ws ≤ s.we ∧ s.we ≤ 64) (hv : s.last.v < 18446744073709551616) (h0 : s.n ≠ 0) (h1 : (Gm.rb 1 s.c).1 = 1) (w : World) (H : Rdr w a p g ds s) :
    Calls Tryd.prog 114 #[pt a] w (RdrPost w a p g ds (.int .u64 (((Gm.rdNum s s.c).1 : Nat) : Int)) { s with ws := (Gm.rdNum s s.c).2.1, we := (Gm.rdNum s s.c).2.2.1, c := (Gm.rdNum s s.c).2.2.2 }) := by
  have c0 : w.cell? ⟨a, 0, none⟩ = some (.int .i64 ((s.n : Nat) : Int)) := (cell_of_row _ _ 0 _ _ _ H.row).trans rfl
  have hn1 : ((s.n : Int) == 0) = false := by simp; omega
  have hn2 : ¬ (s.n : Int) = 0 := by omega
  have C := Lib.hid (bits_rdr a p g 1 ds s (by decide) hbd w H)
  rw [h1] at C
  simp only [Int.cast_ofNat_Int] at C
  -- the state behind the second bit and the window
  obtain ⟨s1, hs1⟩ : ∃ s1 : Gm.Rd, s1 = { s with c := (Gm.rb 1 s.c).2 } := ⟨_, rfl⟩
  obtain ⟨s2, hs2⟩ : ∃ s2 : Gm.Rd, s2 = { s with c := (Gm.rb 1 s1.c).2 } := ⟨_, rfl⟩
  obtain ⟨s3, hs3⟩ : ∃ s3 : Gm.Rd, s3 = if (Gm.rb 1 s1.c).1 = 1 then { s2 with ws := (Gm.rdWin s2.ws s2.we s2.c).1, we := (Gm.rdWin s2.ws s2.we s2.c).2.1, c := (Gm.rdWin s2.ws s2.we s2.c).2.2 } else s2 := ⟨_, rfl⟩
  have e : (Gm.rdNum s s.c).1 = (numR s3).1 ∧ { s with ws := (Gm.rdNum s s.c).2.1, we := (Gm.rdNum s s.c).2.2.1, c := (Gm.rdNum s s.c).2.2.2 } = { s3 with c := (numR s3).2 } := by
    unfold Gm.rdNum
    rw [if_neg h0]
    simp only [h1, show ¬ (1 : Nat) = 0 by decide, if_false]
    subst hs1
    simp only at hs2 hs3
    by_cases hu : (Gm.rb 1 (Gm.rb 1 s.c).2).1 = 1
    · rw [if_pos hu] at hs3
      subst hs2
      simp only at hs3
      rw [hs3]
      simp only [hu, if_true, numR]
      exact ⟨trivial, trivial⟩
    · rw [if_neg hu] at hs3
      rw [hs3, hs2]
      simp only [hu, if_false, numR]
      exact ⟨trivial, trivial⟩
  -- WALK
  rw [e.1, e.2]
  have hw3 : s3.ws ≤ s3.we ∧ s3.we ≤ 64 := by
    rw [hs3]
    split
    · exact rdWin_win _ _ _ (by rw [hs2]; exact hw)
    · rw [hs2]; exact hw
  have hv3 : s3.last.v = s.last.v := by
    rw [hs3]
    split <;> rw [hs2]
  have C2 := Lib.hid (fun W (h : Rdr W a p g ds s1) => bits_rdr a p g 1 ds s1 (by decide) hbd W h)
  have hS2 : { s1 with c := (Gm.rb 1 s1.c).2 } = s2 := by rw [hs2, hs1]
  have HS1 := Lib.hid hs1
  have HS2 := Lib.hid hS2
  have CW := Lib.hid (fun W (h : Rdr W a p g ds s2) => openwin_rdr a p g ds s2 hbd W h)
  have HZ := Lib.hid (And.intro hw3 hbd)
  obtain ⟨u, hu⟩ : ∃ u, (Gm.rb 1 s1.c).1 = u := ⟨_, rfl⟩
  have hu2 : u < 2 := by rw [← hu]; exact rb_lt 1 s1.c (by decide)
  rw [hu] at C2 hs3
  simp only [Int.cast_ofNat_Int] at C2
  have HS3 := Lib.hid hs3
  have HV := Lib.hid (And.intro hv hv3)
  have HAL := Lib.hid H.lt
  obtain ⟨N1, hN1⟩ : ∃ N1, (numR s3).1 = N1 := ⟨_, rfl⟩
  obtain ⟨S5, hS5⟩ : ∃ S5 : Gm.Rd, { s3 with c := (numR s3).2 } = S5 := ⟨_, rfl⟩
  rw [hN1, hS5]
  have HN5 := Lib.hid (And.intro hN1 hS5)
  clear hN1 hS5
  clear e H h0 h1 hw hw3 hv3 hs1 hs2 hS2 hu hs3 hv
  unfold pt at *
  go_enter Tryd.func114, Tryd.ntmps114
  go_wp2_with fail
  go_at_call 121
  refine C.out.mono ?_
  rintro e w1 ⟨rfl, hR1, hO1⟩
  have HO1 := Lib.hid hO1
  have CB := Lib.hid (C2.out w1 (by rw [HS1.out]; exact hR1))
  clear hR1 hO1 C C2
  go_wp2_with fail
  go_at_call 121
  refine CB.out.mono ?_
  rintro e w2 ⟨rfl, hR2, hO2⟩
  have HR2 := Lib.hid (show Rdr w2 a p g ds s2 from by rw [← HS2.out]; exact hR2)
  have HO2 := Lib.hid (HO1.out.trans hO2 (fun _ hx => .inl hx))
  clear hR2 hO2 CB
  have hu3 : u = 0 ∨ u = 1 := by omega
  rcases hu3 with rfl | rfl
  · have d0 : (((0 : Nat) : Int) == 1) = false := by decide
    have HR := Lib.hid (show Rdr w2 a p g ds s3 from by rw [HS3.out, if_neg (by decide)]; exact HR2.out)
    have HO := HO2
    obtain ⟨W, hW⟩ : ∃ W, W = w2 := ⟨_, rfl⟩
    subst hW
    clear HR2 HO2 CW HS3 hu2
    go_wp2_with fail
    have hRd := HR.out.below (drew_below W)
    obtain ⟨q4, q5⟩ := hRd.winC
    obtain ⟨z, hz⟩ : ∃ z, s3.we - s3.ws = z := ⟨_, rfl⟩
    obtain ⟨t, ht⟩ : ∃ t, 64 - s3.we = t := ⟨_, rfl⟩
    have CZ := Lib.hid (fun W => size_any s3.ws s3.we HZ.out.1.1 HZ.out.1.2 W)
    have CT := Lib.hid (fun W => trailing_any s3.ws s3.we HZ.out.1.2 W)
    have CBz := Lib.hid (fun W (h : Rdr W a p g ds s3) => bits_rdr a p g z ds s3 (by have := HZ.out.1; omega) HZ.out.2 W h)
    unfold pt at CBz
    unfold winV at CZ CT
    rw [hz] at CZ
    rw [ht] at CT
    obtain ⟨X, hX⟩ : ∃ X, (Gm.rb z s3.c).1 = X := ⟨_, rfl⟩
    rw [hX] at CBz
    obtain ⟨s4, hs4⟩ : ∃ s4 : Gm.Rd, { s3 with c := (Gm.rb z s3.c).2 } = s4 := ⟨_, rfl⟩
    rw [hs4] at CBz
    have HXZ := Lib.hid (And.intro hX (And.intro hz (And.intro ht hs4)))
    obtain ⟨ws, hws⟩ : ∃ ws, s3.ws = ws := ⟨_, rfl⟩
    obtain ⟨we, hwe⟩ : ∃ we, s3.we = we := ⟨_, rfl⟩
    rw [hws, hwe] at CZ CT
    rw [hws] at q4
    rw [hwe] at q5
    have HWW := Lib.hid (show s4.ws = ws ∧ s4.we = we from by rw [← hs4]; exact ⟨hws, hwe⟩)
    obtain ⟨V, hV⟩ : ∃ V, s3.last.v = V := ⟨_, rfl⟩
    obtain ⟨Y, hY⟩ : ∃ Y, (X <<< t) % 18446744073709551616 = Y := ⟨_, rfl⟩
    have HY := Lib.hid (show N1 = V ^^^ Y ∧ S5 = s4 from by
      obtain ⟨n1, n2⟩ := HN5.out
      obtain ⟨m1, m2, m3, m4⟩ := HXZ.out
      rw [← n1, ← n2, ← m4]
      unfold numR
      rw [m2, m3, m1, hV, hY]
      exact ⟨rfl, rfl⟩)
    have htl : t ≤ 64 := by have := HXZ.out.2.2.1; omega
    have hsh : IntKind.u64.wrap ((X : Int) * 2 ^ min t 64) = ((Y : Nat) : Int) := by
      rw [Nat.min_eq_left htl, ← hY, Nat.shiftLeft_eq]
      show ((X : Int) * 2 ^ t) % 18446744073709551616 = _
      have hc : ((X : Int) * 2 ^ t) = ((X * 2 ^ t : Nat) : Int) := by
        rw [Int.natCast_mul, Int.natCast_pow]
        rfl
      rw [hc]
      omega
    have hxo := u64_xor_nat V Y (by have h1 := HV.out; rw [h1.2] at hV; rw [← hV]; exact h1.1) (by rw [← hY]; exact Nat.mod_lt _ (by decide))
    have q2 : W.drew.cell? ⟨a, 2, none⟩ = some (.int .u64 ((V : Nat) : Int)) := by
      have h := hRd.row
      rw [cell_of_row _ _ 2 _ _ _ h]
      unfold rdC rowP
      rw [hV]
      rfl
    have HS4 := Lib.hid (show s4.last.v = V from by rw [← HXZ.out.2.2.2]; exact hV)
    clear hV hY htl
    have hDD : Only [a, p] W W.drew := (Only.refl _ _).drew
    clear hX hz ht hws hwe hs4
    go_region_with (first
      | (go_at_call 110; refine (CZ.out _).mono ?_; rintro e w9 ⟨rfl, hb9⟩; have hR9 := Rdr.below (s := s3) (by assumption) hb9; have hD9 := Only.trans (S := [a, p]) (by assumption) (Only.of_below hb9 []) (fun x hx => by simp at hx); have q29 := cell_below (a := ⟨a, 2, none⟩) (v := .int .u64 ((V : Nat) : Int)) (by assumption) hb9; have q49 := cell_below (a := ⟨a, 4, none⟩) (v := .int .i64 ((ws : Nat) : Int)) (by assumption) hb9; have q59 := cell_below (a := ⟨a, 5, none⟩) (v := .int .i64 ((we : Nat) : Int)) (by assumption) hb9; clear hb9)
      | (go_at_call 111; refine (CT.out _).mono ?_; rintro e w9 ⟨rfl, hb9⟩; have hD9 := Only.trans (S := [a, p]) (by assumption) (Only.of_below hb9 []) (fun x hx => by simp at hx); have q29 := cell_below (a := ⟨a, 2, none⟩) (v := .int .u64 ((V : Nat) : Int)) (by assumption) hb9; have q49 := cell_below (a := ⟨a, 4, none⟩) (v := .int .i64 ((ws : Nat) : Int)) (by assumption) hb9; have q59 := cell_below (a := ⟨a, 5, none⟩) (v := .int .i64 ((we : Nat) : Int)) (by assumption) hb9; first | (have hR9 := Rdr.below (s := s3) (by assumption) hb9; clear hb9) | (have hR9 := Rdr.below (s := s4) (by assumption) hb9; clear hb9))
      | (go_at_call 121; refine (CBz.out _ (by assumption)).mono ?_; rintro e w9 ⟨rfl, hR9, hO9⟩; have hD9 := Only.trans (S := [a, p]) (by assumption) hO9 (fun _ hx => .inl hx); have h45 := Rdr.winC hR9; rw [HWW.out.1, HWW.out.2] at h45; obtain ⟨q49, q59⟩ := h45; have q29 : w9.cell? ⟨a, 2, none⟩ = some (.int .u64 ((V : Nat) : Int)) := (by rw [cell_of_row _ _ 2 _ _ _ hR9.row]; unfold rdC rowP; rw [HS4.out]; rfl); clear hO9))
    all_goals (try rw [hsh])
    all_goals go_wp2_with fail
    all_goals go_ret
    all_goals exact ⟨by rw [HY.out.1]; first | done | rfl, by rw [HY.out.2]; assumption, HO.out.trans (by assumption) (fun _ hx => .inl hx)⟩
  · have d0 : (((1 : Nat) : Int) == 1) = true := by decide
    have CX := Lib.hid (CW.out w2 HR2.out)
    have HQ := Lib.hid (show s3 = { s2 with ws := (Gm.rdWin s2.ws s2.we s2.c).1, we := (Gm.rdWin s2.ws s2.we s2.c).2.1, c := (Gm.rdWin s2.ws s2.we s2.c).2.2 } from by rw [HS3.out]; rfl)
    rw [← HQ.out] at CX
    clear HR2 CW HS3 HQ hu2
    unfold pt at *
    go_wp2_with fail
    go_at_call 122
    refine CX.out.mono ?_
    rintro e W ⟨rfl, hR, hO⟩
    have HR := Lib.hid hR
    have HO := Lib.hid (HO2.out.trans (hO [a, p] (by simp) (by simp)) (fun _ hx => .inl hx))
    clear hR hO CX HO2
    go_wp2_with fail
    have hRd := HR.out.below (drew_below W)
    obtain ⟨q4, q5⟩ := hRd.winC
    obtain ⟨z, hz⟩ : ∃ z, s3.we - s3.ws = z := ⟨_, rfl⟩
    obtain ⟨t, ht⟩ : ∃ t, 64 - s3.we = t := ⟨_, rfl⟩
    have CZ := Lib.hid (fun W => size_any s3.ws s3.we HZ.out.1.1 HZ.out.1.2 W)
    have CT := Lib.hid (fun W => trailing_any s3.ws s3.we HZ.out.1.2 W)
    have CBz := Lib.hid (fun W (h : Rdr W a p g ds s3) => bits_rdr a p g z ds s3 (by have := HZ.out.1; omega) HZ.out.2 W h)
    unfold pt at CBz
    unfold winV at CZ CT
    rw [hz] at CZ
    rw [ht] at CT
    obtain ⟨X, hX⟩ : ∃ X, (Gm.rb z s3.c).1 = X := ⟨_, rfl⟩
    rw [hX] at CBz
    obtain ⟨s4, hs4⟩ : ∃ s4 : Gm.Rd, { s3 with c := (Gm.rb z s3.c).2 } = s4 := ⟨_, rfl⟩
    rw [hs4] at CBz
    have HXZ := Lib.hid (And.intro hX (And.intro hz (And.intro ht hs4)))
    obtain ⟨ws, hws⟩ : ∃ ws, s3.ws = ws := ⟨_, rfl⟩
    obtain ⟨we, hwe⟩ : ∃ we, s3.we = we := ⟨_, rfl⟩
    rw [hws, hwe] at CZ CT
    rw [hws] at q4
    rw [hwe] at q5
    have HWW := Lib.hid (show s4.ws = ws ∧ s4.we = we from by rw [← hs4]; exact ⟨hws, hwe⟩)
    obtain ⟨V, hV⟩ : ∃ V, s3.last.v = V := ⟨_, rfl⟩
    obtain ⟨Y, hY⟩ : ∃ Y, (X <<< t) % 18446744073709551616 = Y := ⟨_, rfl⟩
    have HY := Lib.hid (show N1 = V ^^^ Y ∧ S5 = s4 from by
      obtain ⟨n1, n2⟩ := HN5.out
      obtain ⟨m1, m2, m3, m4⟩ := HXZ.out
      rw [← n1, ← n2, ← m4]
      unfold numR
      rw [m2, m3, m1, hV, hY]
      exact ⟨rfl, rfl⟩)
    have htl : t ≤ 64 := by have := HXZ.out.2.2.1; omega
    have hsh : IntKind.u64.wrap ((X : Int) * 2 ^ min t 64) = ((Y : Nat) : Int) := by
      rw [Nat.min_eq_left htl, ← hY, Nat.shiftLeft_eq]
      show ((X : Int) * 2 ^ t) % 18446744073709551616 = _
      have hc : ((X : Int) * 2 ^ t) = ((X * 2 ^ t : Nat) : Int) := by
        rw [Int.natCast_mul, Int.natCast_pow]
        rfl
      rw [hc]
      omega
    have hxo := u64_xor_nat V Y (by have h1 := HV.out; rw [h1.2] at hV; rw [← hV]; exact h1.1) (by rw [← hY]; exact Nat.mod_lt _ (by decide))
    have q2 : W.drew.cell? ⟨a, 2, none⟩ = some (.int .u64 ((V : Nat) : Int)) := by
      have h := hRd.row
      rw [cell_of_row _ _ 2 _ _ _ h]
      unfold rdC rowP
      rw [hV]
      rfl
    have HS4 := Lib.hid (show s4.last.v = V from by rw [← HXZ.out.2.2.2]; exact hV)
    clear hV hY htl
    have hDD : Only [a, p] W W.drew := (Only.refl _ _).drew
    clear hX hz ht hws hwe hs4
    go_region_with (first
      | (go_at_call 110; refine (CZ.out _).mono ?_; rintro e w9 ⟨rfl, hb9⟩; have hR9 := Rdr.below (s := s3) (by assumption) hb9; have hD9 := Only.trans (S := [a, p]) (by assumption) (Only.of_below hb9 []) (fun x hx => by simp at hx); have q29 := cell_below (a := ⟨a, 2, none⟩) (v := .int .u64 ((V : Nat) : Int)) (by assumption) hb9; have q49 := cell_below (a := ⟨a, 4, none⟩) (v := .int .i64 ((ws : Nat) : Int)) (by assumption) hb9; have q59 := cell_below (a := ⟨a, 5, none⟩) (v := .int .i64 ((we : Nat) : Int)) (by assumption) hb9; clear hb9)
      | (go_at_call 111; refine (CT.out _).mono ?_; rintro e w9 ⟨rfl, hb9⟩; have hD9 := Only.trans (S := [a, p]) (by assumption) (Only.of_below hb9 []) (fun x hx => by simp at hx); have q29 := cell_below (a := ⟨a, 2, none⟩) (v := .int .u64 ((V : Nat) : Int)) (by assumption) hb9; have q49 := cell_below (a := ⟨a, 4, none⟩) (v := .int .i64 ((ws : Nat) : Int)) (by assumption) hb9; have q59 := cell_below (a := ⟨a, 5, none⟩) (v := .int .i64 ((we : Nat) : Int)) (by assumption) hb9; first | (have hR9 := Rdr.below (s := s3) (by assumption) hb9; clear hb9) | (have hR9 := Rdr.below (s := s4) (by assumption) hb9; clear hb9))
      | (go_at_call 121; refine (CBz.out _ (by assumption)).mono ?_; rintro e w9 ⟨rfl, hR9, hO9⟩; have hD9 := Only.trans (S := [a, p]) (by assumption) hO9 (fun _ hx => .inl hx); have h45 := Rdr.winC hR9; rw [HWW.out.1, HWW.out.2] at h45; obtain ⟨q49, q59⟩ := h45; have q29 : w9.cell? ⟨a, 2, none⟩ = some (.int .u64 ((V : Nat) : Int)) := (by rw [cell_of_row _ _ 2 _ _ _ hR9.row]; unfold rdC rowP; rw [HS4.out]; rfl); clear hO9))
    all_goals (try rw [hsh])
    all_goals go_wp2_with fail
    all_goals go_ret
    all_goals exact ⟨by rw [HY.out.1]; first | done | rfl, by rw [HY.out.2]; assumption, HO.out.trans (by assumption) (fun _ hx => .inl hx)⟩
end Go.Proofs.YtdlifcpdlbmijaaDoor
namespace Go.Proofs.YtdlifcpdlbmijaaDoor
set_option linter.unusedVariables false
set_option linter.unusedSimpArgs false
open Go.RowKit Go.PlainAid Go.Shelf
open B2 (Only Bys Row cellsOf)
open Gm (St Smp)
/-- what the search for a row keeps: how many bits of the mark there are, the mark, the reader -/
structure Stp (w : World) (a p g h m r : Nat) (ds : List Nat) (s : Gm.Rd) (hv mv : Nat) : Prop where
  rd : Rdr w a p g ds s
  kh : w.heap[h]? = some (.cells #[.int .i64 ((hv : Nat) : Int)] 3 (0, 0))
  km : w.heap[m]? = some (.cells #[.int .u64 ((mv : Nat) : Int)] 67 (0, 0))
  kr : w.heap[r]? = some (.cells #[pt a] 256 (0, 0))
  nh : h ≠ a ∧ h ≠ p ∧ h ≠ g ∧ h ≠ m ∧ h ≠ r
  nm : m ≠ a ∧ m ≠ p ∧ m ≠ g ∧ m ≠ r
  nr : r ≠ a ∧ r ≠ p
theorem Stp.lt {w : World} {a p g h m r : Nat} {ds : List Nat} {s : Gm.Rd} {hv mv : Nat} (H : Stp w a p g h m r ds s hv mv) : a < w.heap.size ∧ p < w.heap.size ∧ g < w.heap.size ∧ h < w.heap.size ∧ m < w.heap.size ∧ r < w.heap.size :=
  ⟨H.rd.lt.1, H.rd.lt.2.1, H.rd.lt.2.2, (Array.getElem?_eq_some_iff.1 H.kh).1, (Array.getElem?_eq_some_iff.1 H.km).1, (Array.getElem?_eq_some_iff.1 H.kr).1⟩
theorem Stp.only {w w' : World} {a p g h m r : Nat} {ds : List Nat} {s : Gm.Rd} {hv mv : Nat} (H : Stp w a p g h m r ds s hv mv) {S : List Nat} (ho : Only S w w') (h1 : a ∉ S) (h2 : p ∉ S) (h3 : g ∉ S) (h4 : h ∉ S) (h5 : m ∉ S) (h6 : r ∉ S) : Stp w' a p g h m r ds s hv mv :=
  ⟨H.rd.only ho h1 h2 h3, (ho.block h H.lt.2.2.2.1 h4).trans H.kh, (ho.block m H.lt.2.2.2.2.1 h5).trans H.km, (ho.block r H.lt.2.2.2.2.2 h6).trans H.kr, H.nh, H.nm, H.nr⟩
theorem Stp.below {w w' : World} {a p g h m r : Nat} {ds : List Nat} {s : Gm.Rd} {hv mv : Nat} (H : Stp w a p g h m r ds s hv mv) (hb : Below w.heap.size w w') : Stp w' a p g h m r ds s hv mv := H.only (Only.of_below hb []) (by simp) (by simp) (by simp) (by simp) (by simp) (by simp)
theorem Stp.read {w w' : World} {a p g h m r : Nat} {ds : List Nat} {s s' : Gm.Rd} {hv mv : Nat} (H : Stp w a p g h m r ds s hv mv) (hR : Rdr w' a p g ds s') (ho : Only [a, p] w w') : Stp w' a p g h m r ds s' hv mv :=
  ⟨hR, (ho.block h H.lt.2.2.2.1 (by have := H.nh; simp; omega)).trans H.kh, (ho.block m H.lt.2.2.2.2.1 (by have := H.nm; simp; omega)).trans H.km, (ho.block r H.lt.2.2.2.2.2 (by have := H.nr; simp; omega)).trans H.kr, H.nh, H.nm, H.nr⟩
theorem Stp.setM {w : World} {a p g h m r : Nat} {ds : List Nat} {s : Gm.Rd} {hv mv : Nat} (H : Stp w a p g h m r ds s hv mv) (x : Nat) : Stp (w.setCell ⟨m, 0, none⟩ (.int .u64 ((x : Nat) : Int))) a p g h m r ds s hv x := by
  have hO := (Only.refl [m] w).setCell (p := ⟨m, 0, none⟩) (.inl (by simp)) (.int .u64 ((x : Nat) : Int))
  have h1 := H.nh
  have h2 := H.nm
  have h3 := H.nr
  have hl := H.lt
  refine ⟨H.rd.only hO (by simp; omega) (by simp; omega) (by simp; omega), (hO.block h hl.2.2.2.1 (by simp; omega)).trans H.kh, ?_, (hO.block r hl.2.2.2.2.2 (by simp; omega)).trans H.kr, h1, h2, h3⟩
  rw [heap_setCell_same _ _ _ _ _ _ H.km]
  rfl
theorem Stp.setH {w : World} {a p g h m r : Nat} {ds : List Nat} {s : Gm.Rd} {hv mv : Nat} (H : Stp w a p g h m r ds s hv mv) (x : Nat) : Stp (w.setCell ⟨h, 0, none⟩ (.int .i64 ((x : Nat) : Int))) a p g h m r ds s x mv := by
  have hO := (Only.refl [h] w).setCell (p := ⟨h, 0, none⟩) (.inl (by simp)) (.int .i64 ((x : Nat) : Int))
  have h1 := H.nh
  have h2 := H.nm
  have h3 := H.nr
  have hl := H.lt
  refine ⟨H.rd.only hO (by simp; omega) (by simp; omega) (by simp; omega), ?_, (hO.block m hl.2.2.2.2.1 (by simp; omega)).trans H.km, (hO.block r hl.2.2.2.2.2 (by simp; omega)).trans H.kr, h1, h2, h3⟩
  rw [heap_setCell_same _ _ _ _ _ _ H.kh]
  rfl
/-- and the row at hand in its block -/
structure StpB (w : World) (a p g h m r : Nat) (ds : List Nat) (s : Gm.Rd) (hv mv B M K u v : Nat) : Prop where
  st : Stp w a p g h m r ds s hv mv
  bx : w.heap[B]? = some (.cells #[.int .u64 ((M : Nat) : Int), .int .i64 ((K : Nat) : Int), .int .u64 ((u : Nat) : Int), .int .i64 ((v : Nat) : Int)] 247 (0, 0))
  nb : B ≠ a ∧ B ≠ p ∧ B ≠ h ∧ B ≠ m
theorem StpB.read {w w' : World} {a p g h m r : Nat} {ds : List Nat} {s s' : Gm.Rd} {hv mv B M K u v : Nat} (H : StpB w a p g h m r ds s hv mv B M K u v) (hR : Rdr w' a p g ds s') (ho : Only [a, p] w w') : StpB w' a p g h m r ds s' hv mv B M K u v :=
  ⟨H.st.read hR ho, (ho.block B (Array.getElem?_eq_some_iff.1 H.bx).1 (by have := H.nb; simp; omega)).trans H.bx, H.nb⟩
theorem StpB.drew {w : World} {a p g h m r : Nat} {ds : List Nat} {s : Gm.Rd} {hv mv B M K u v : Nat} (H : StpB w a p g h m r ds s hv mv B M K u v) : StpB w.drew a p g h m r ds s hv mv B M K u v :=
  ⟨H.st.below (drew_below w), H.bx, H.nb⟩
theorem StpB.setM {w : World} {a p g h m r : Nat} {ds : List Nat} {s : Gm.Rd} {hv mv B M K u v : Nat} (H : StpB w a p g h m r ds s hv mv B M K u v) (x : Nat) : StpB (w.setCell ⟨m, 0, none⟩ (.int .u64 ((x : Nat) : Int))) a p g h m r ds s hv x B M K u v :=
  ⟨H.st.setM x, (Below.heap_setCell _ _ _ _ (show ¬ B = m from H.nb.2.2.2)).trans H.bx, H.nb⟩
theorem StpB.setH {w : World} {a p g h m r : Nat} {ds : List Nat} {s : Gm.Rd} {hv mv B M K u v : Nat} (H : StpB w a p g h m r ds s hv mv B M K u v) (x : Nat) : StpB (w.setCell ⟨h, 0, none⟩ (.int .i64 ((x : Nat) : Int))) a p g h m r ds s x mv B M K u v :=
  ⟨H.st.setH x, (Below.heap_setCell _ _ _ _ (show ¬ B = h from H.nb.2.2.1)).trans H.bx, H.nb⟩
theorem StpB.cs {w : World} {a p g h m r : Nat} {ds : List Nat} {s : Gm.Rd} {hv mv B M K u v : Nat} (H : StpB w a p g h m r ds s hv mv B M K u v) :
    w.cell? ⟨h, 0, none⟩ = some (.int .i64 ((hv : Nat) : Int)) ∧ w.frozen? ⟨h, 0, none⟩ = false ∧ w.cell? ⟨m, 0, none⟩ = some (.int .u64 ((mv : Nat) : Int)) ∧ w.frozen? ⟨m, 0, none⟩ = false ∧ w.cell? ⟨r, 0, none⟩ = some (pt a) ∧ w.cell? ⟨B, 0, none⟩ = some (.int .u64 ((M : Nat) : Int)) ∧ w.cell? ⟨B, 1, none⟩ = some (.int .i64 ((K : Nat) : Int)) :=
  ⟨(cell_of_row _ _ 0 _ _ _ H.st.kh).trans rfl, frozen_of_row _ _ _ _ _ H.st.kh, (cell_of_row _ _ 0 _ _ _ H.st.km).trans rfl, frozen_of_row _ _ _ _ _ H.st.km, (cell_of_row _ _ 0 _ _ _ H.st.kr).trans rfl, (cell_of_row _ _ 0 _ _ _ H.bx).trans rfl, (cell_of_row _ _ 1 _ _ _ H.bx).trans rfl⟩
/-- a mark with a row's more bits -/
def mrk (m l x : Nat) : Nat := (m <<< l) % 18446744073709551616 ||| x
theorem mrk_lt (m l x : Nat) (hx : x < 18446744073709551616) : mrk m l x < 18446744073709551616 := Nat.or_lt_two_pow (n := 64) (Nat.mod_lt _ (by decide)) hx
set_option maxHeartbeats 16000000 in
set_option maxRecDepth 100000 in
theorem mark126_any (a p g h m r : Nat) (ds : List Nat) (s : Gm.Rd) (hv mv M K u v : Nat) (hbd : ds.length ≤ 1000000000) (hM : M < 18446744073709551616) (hmv : mv < 18446744073709551616) (hK : hv ≤ K ∧ K ≤ 64) (w : World) (H : Stp w a p g h m r ds s hv mv) :
    Calls Tryd.prog 126 #[.agg #[.int .u64 ((M : Nat) : Int), .int .i64 ((K : Nat) : Int), .int .u64 ((u : Nat) : Int), .int .i64 ((v : Nat) : Int)], pt h, pt m, pt r] w fun e w' =>
      e = .returned (.bool (decide (mrk mv (K - hv) (Gm.rb (K - hv) s.c).1 = M))) ∧ Stp w' a p g h m r ds { s with c := (Gm.rb (K - hv) s.c).2 } K (mrk mv (K - hv) (Gm.rb (K - hv) s.c).1) ∧ Only [a, p, h, m] w w' := by
  have hl := H.lt
  obtain ⟨L, hL⟩ : ∃ L, K - hv = L := ⟨_, rfl⟩
  have hsub : (K : Int) - (hv : Int) = ((L : Nat) : Int) := by omega
  have hLK : L ≤ 64 := by omega
  obtain ⟨X, hX⟩ : ∃ X, (Gm.rb L s.c).1 = X := ⟨_, rfl⟩
  have hXl : X < 18446744073709551616 := by
    have h1 := rb_lt L s.c hLK
    rw [hX] at h1
    exact Nat.lt_of_lt_of_le h1 (Nat.pow_le_pow_right (by decide) hLK)
  obtain ⟨S1, hS1⟩ : ∃ S1 : Gm.Rd, { s with c := (Gm.rb L s.c).2 } = S1 := ⟨_, rfl⟩
  have CB := Lib.hid (fun W (h : Rdr W a p g ds s) => bits_rdr a p g L ds s hLK hbd W h)
  obtain ⟨Q, hQ⟩ : ∃ Q, mrk mv L X = Q := ⟨_, rfl⟩
  have hQl : Q < 18446744073709551616 := by rw [← hQ]; exact mrk_lt _ _ _ hXl
  rw [hL, hX, hS1, hQ]
  rw [hX, hS1] at CB
  obtain ⟨Y, hY⟩ : ∃ Y, (mv <<< L) % 18446744073709551616 = Y := ⟨_, rfl⟩
  have hYQ : Y ||| X = Q := by rw [← hQ, ← hY]; rfl
  have hor : bits .or .u64 (Y : Int) (X : Int) = ((Q : Nat) : Int) := by
    rw [u64_or_nat Y X (by rw [← hY]; exact Nat.mod_lt _ (by decide)) hXl, hYQ]
  have hsh : IntKind.u64.wrap ((mv : Int) * 2 ^ L) = ((Y : Nat) : Int) := by
    rw [← hY, Nat.shiftLeft_eq]
    show ((mv : Int) * 2 ^ L) % 18446744073709551616 = _
    have hc : ((mv : Int) * 2 ^ L) = ((mv * 2 ^ L : Nat) : Int) := by
      rw [Int.natCast_mul, Int.natCast_pow]
      rfl
    rw [hc]
    omega
  have hbx := heap_alloc_new w (.cells #[.int .u64 ((M : Nat) : Int), .int .i64 ((K : Nat) : Int), .int .u64 ((u : Nat) : Int), .int .i64 ((v : Nat) : Int)] 247)
  have hAl := (Below.refl w.heap.size w).alloc (Nat.le_refl _) (.cells #[.int .u64 ((M : Nat) : Int), .int .i64 ((K : Nat) : Int), .int .u64 ((u : Nat) : Int), .int .i64 ((v : Nat) : Int)] 247)
  have HS := Lib.hid (show StpB (w.alloc (.cells #[.int .u64 ((M : Nat) : Int), .int .i64 ((K : Nat) : Int), .int .u64 ((u : Nat) : Int), .int .i64 ((v : Nat) : Int)] 247)) a p g h m r ds s hv mv w.heap.size M K u v from ⟨H.below hAl, hbx, by omega⟩)
  have HO := Lib.hid (Only.of_below hAl [a, p, h, m])
  have HW := Lib.hid hl
  have hn1 := HS.out.st.nh
  have hn2 := HS.out.nb
  obtain ⟨x1, x2, x3, x4, x5, x6, x7⟩ := HS.out.cs
  have HQ := Lib.hid (show ((Q : Int) == (M : Int)) = decide (Q = M) from by rw [Bool.eq_iff_iff]; simp only [beq_iff_eq, decide_eq_true_eq]; omega)
  clear hbx hAl hQ hY hYQ hL hX hS1 H hl hQl hM
  unfold pt at *
  go_enter Tryd.func126, Tryd.ntmps126
  go_wp2_with fail
  generalize hB : w.heap.size = B at *
  generalize hW : (w.alloc (.cells #[.int .u64 ((M : Nat) : Int), .int .i64 ((K : Nat) : Int), .int .u64 ((u : Nat) : Int), .int .i64 ((v : Nat) : Int)] 247)) = W at *
  have hD := HS.out.drew
  obtain ⟨y1, y2, y3, y4, y5, y6, y7⟩ := hD.cs
  have hDD : Only [a, p] W W.drew := (Only.refl _ _).drew
  clear x1 x2 x3 x4 x5 x6 x7
  unfold pt at *
  go_region_with (first
    | (go_at_call 121; refine (CB.out _ hD.st.rd).mono ?_; rintro e w9 ⟨rfl, hR9, hO9⟩; have hS9 := StpB.read hD hR9 hO9; have hD9 := Only.trans (S := [a, p]) hDD hO9 (fun _ hx => .inl hx); obtain ⟨z1, z2, z3, z4, z5, z6, z7⟩ := StpB.cs hS9; unfold pt at z5; clear hR9 hO9))
  all_goals
    have hM := StpB.setM hS9 Q
    have hH := StpB.setH hM K
    obtain ⟨u1, u2, u3, u4, u5, u6, u7⟩ := hM.cs
    obtain ⟨v1, v2, v3, v4, v5, v6, v7⟩ := hH.cs
    have HF := Lib.hid (And.intro hH.st (((HO.out.trans hD9 (fun x hx => by simp at hx ⊢; omega)).setCell (p := ⟨m, 0, none⟩) (.inl (by simp)) (.int .u64 ((Q : Nat) : Int))).setCell (p := ⟨h, 0, none⟩) (.inl (by simp)) (.int .i64 ((K : Nat) : Int))))
    clear hM hH hS9 hD hDD hD9 HS
    go_wp2_with fail
    go_ret
    first
      | (simp only [hsh, hor]; exact ⟨by rw [← HQ.out]; rfl, HF.out.1, HF.out.2⟩)
      | (simp only [hor]; exact ⟨by rw [← HQ.out]; rfl, HF.out.1, HF.out.2⟩)
      | exact ⟨by rw [← HQ.out]; rfl, HF.out.1, HF.out.2⟩
end Go.Proofs.YtdlifcpdlbmijaaDoor
namespace Go.Proofs.YtdlifcpdlbmijaaDoor
set_option linter.unusedVariables false
set_option linter.unusedSimpArgs false
open Go.RowKit Go.PlainAid Go.Shelf
open B2 (Only Bys Row cellsOf)
open Gm (St Smp)
def hvOf : Nat → Nat | 0 => 0 | j + 1 => Gm.ms j
def rowC : Nat → Array Value | 0 => #[.int .u64 0, .int .i64 0, .int .u64 0, .int .i64 0] | 1 => #[.int .u64 0, .int .i64 1, .int .u64 0, .int .i64 0] | 2 => #[.int .u64 2, .int .i64 2, .int .u64 63, .int .i64 7] | 3 => #[.int .u64 6, .int .i64 3, .int .u64 255, .int .i64 9] | 4 => #[.int .u64 14, .int .i64 4, .int .u64 2047, .int .i64 12] | _ => #[.int .u64 15, .int .i64 4, .int .u64 0, .int .i64 64]
theorem find_step (f j m hv : Nat) (c : Gm.Cx) : Gm.findR (f + 1) j m hv c = if mrk m (Gm.ms j - hv) (Gm.rb (Gm.ms j - hv) c).1 = Gm.mk j then (j, (Gm.rb (Gm.ms j - hv) c).2) else Gm.findR f (j + 1) (mrk m (Gm.ms j - hv) (Gm.rb (Gm.ms j - hv) c).1) (Gm.ms j) (Gm.rb (Gm.ms j - hv) c).2 := rfl
/-- behind a look at a row -/
def MarkPost (W : World) (a p g h m r : Nat) (ds : List Nat) (s : Gm.Rd) (T : Nat × Gm.Cx) (j : Nat) (e : Ending) (w' : World) : Prop :=
  ∃ (found : Bool) (c' : Gm.Cx) (mv' : Nat), e = .returned (.bool found) ∧ mv' < 18446744073709551616 ∧ (found = true → T = (j, c')) ∧ (found = false → Gm.findR (4 - j) (j + 1) mv' (hvOf (j + 1)) c' = T) ∧ Stp w' a p g h m r ds { s with c := c' } (hvOf (j + 1)) mv' ∧ Only [a, p, h, m] W w'
theorem mark_row (a p g h m r : Nat) (ds : List Nat) (s : Gm.Rd) (T : Nat × Gm.Cx) (hbd : ds.length ≤ 1000000000) (j : Nat) (hj : j < 5) (c : Gm.Cx) (mv : Nat) (hmv : mv < 18446744073709551616) (hT : Gm.findR (5 - j) j mv (hvOf j) c = T) (W : World) (H : Stp W a p g h m r ds { s with c := c } (hvOf j) mv) :
    Calls Tryd.prog 126 #[bkV j, pt h, pt m, pt r] W (MarkPost W a p g h m r ds s T j) := by
  have hK : hvOf j ≤ Gm.ms j ∧ Gm.ms j ≤ 64 ∧ Gm.mk j < 18446744073709551616 := by
    have h5 : j = 0 ∨ j = 1 ∨ j = 2 ∨ j = 3 ∨ j = 4 := by omega
    rcases h5 with rfl | rfl | rfl | rfl | rfl <;> decide
  refine (mark126_any a p g h m r ds { s with c := c } (hvOf j) mv (Gm.mk j) (Gm.ms j) (Gm.pl j) (Gm.sz j) hbd hK.2.2 hmv ⟨hK.1, hK.2.1⟩ W H).mono ?_
  rintro e w' ⟨rfl, hS, hO⟩
  rw [show 5 - j = (4 - j) + 1 by omega, find_step] at hT
  simp only at hS
  have hx : (Gm.rb (Gm.ms j - hvOf j) c).1 < 18446744073709551616 := Nat.lt_of_lt_of_le (rb_lt _ c (by omega)) (Nat.pow_le_pow_right (by decide) (by omega : Gm.ms j - hvOf j ≤ 64))
  refine ⟨decide (mrk mv (Gm.ms j - hvOf j) (Gm.rb (Gm.ms j - hvOf j) c).1 = Gm.mk j), (Gm.rb (Gm.ms j - hvOf j) c).2, mrk mv (Gm.ms j - hvOf j) (Gm.rb (Gm.ms j - hvOf j) c).1, rfl, mrk_lt _ _ _ hx, fun hf => ?_, fun hf => ?_, hS, hO⟩
  · rw [← hT, if_pos (of_decide_eq_true hf)]
  · rw [← hT, if_neg (of_decide_eq_false hf)]; rfl
/-- what the search keeps: the result's block, the row's block -/
structure Fr (w wr : World) (S a p g h m r : Nat) (ds : List Nat) (s : Gm.Rd) (hv mv : Nat) (xs : Array Value) : Prop where
  r0 : wr.heap[S]? = some (.cells #[.int .u64 0, .int .i64 0, .int .u64 0, .int .i64 0] 247 (0, 0))
  x : wr.heap[S + 1 + 1]? = some (.cells xs 247 (0, 0))
  st : Stp wr a p g h m r ds s hv mv
  o : Only [a, p, h, m] w wr
  sz : w.heap.size = S
  lt : a < S ∧ p < S ∧ g < S ∧ h < S ∧ m < S ∧ r < S
theorem only_setRow {L : List Nat} {w wr : World} (ho : Only L w wr) (k : Nat) (hk : w.heap.size ≤ k) (cs : Array Value) : Only L w (wr.setRow k cs) :=
  ⟨ho.os, ho.tape, ho.output, by rw [setRow_size]; exact ho.size, fun q hq hn => (heap_setRow_ne _ _ _ _ (by omega)).trans (ho.block q hq hn)⟩
theorem stp_setRow {wr : World} {a p g h m r : Nat} {ds : List Nat} {s : Gm.Rd} {hv mv S k : Nat} (H : Stp wr a p g h m r ds s hv mv) (lt : a < S ∧ p < S ∧ g < S ∧ h < S ∧ m < S ∧ r < S) (hk : S ≤ k) (cs : Array Value) : Stp (wr.setRow k cs) a p g h m r ds s hv mv := by
  have hO : Only [k] wr (wr.setRow k cs) := ⟨rfl, rfl, rfl, by rw [setRow_size]; exact Nat.le_refl _, fun q hq hn => heap_setRow_ne _ _ _ _ (by simp at hn; omega)⟩
  exact H.only hO (by simp; omega) (by simp; omega) (by simp; omega) (by simp; omega) (by simp; omega) (by simp; omega)
theorem Fr.row {w wr : World} {S a p g h m r : Nat} {ds : List Nat} {s : Gm.Rd} {hv mv : Nat} {xs : Array Value} (H : Fr w wr S a p g h m r ds s hv mv xs) (cs : Array Value) : Fr w (wr.setRow (S + 1 + 1) cs) S a p g h m r ds s hv mv cs :=
  ⟨(heap_setRow_ne _ _ _ _ (by omega)).trans H.r0, setRow_heap _ _ _ _ _ _ H.x, stp_setRow H.st H.lt (by omega) cs, only_setRow H.o _ (by have := H.sz; omega) cs, H.sz, H.lt⟩
theorem Fr.call {w wr w' : World} {S a p g h m r : Nat} {ds : List Nat} {s s' : Gm.Rd} {hv mv hv' mv' : Nat} {xs : Array Value} (H : Fr w wr S a p g h m r ds s hv mv xs) (hS : Stp w' a p g h m r ds s' hv' mv') (hO : Only [a, p, h, m] wr w') : Fr w w' S a p g h m r ds s' hv' mv' xs := by
  have hl := H.lt
  exact ⟨(hO.block _ (Array.getElem?_eq_some_iff.1 H.r0).1 (by simp; omega)).trans H.r0, (hO.block _ (Array.getElem?_eq_some_iff.1 H.x).1 (by simp; omega)).trans H.x, hS, H.o.trans hO (fun _ hx => .inl hx), H.sz, H.lt⟩
theorem Fr.fin {w wr : World} {S a p g h m r : Nat} {ds : List Nat} {s : Gm.Rd} {hv mv : Nat} {xs : Array Value} (H : Fr w wr S a p g h m r ds s hv mv xs) (cs : Array Value) : (wr.setRow S cs).heap[S]? = some (.cells cs 247 (0, 0)) ∧ Stp (wr.setRow S cs) a p g h m r ds s hv mv ∧ Only [a, p, h, m] w (wr.setRow S cs) :=
  ⟨setRow_heap _ _ _ _ _ _ H.r0, stp_setRow H.st H.lt (Nat.le_refl _) cs, only_setRow H.o _ (by have := H.sz; omega) cs⟩
/-- what the loop keeps -/
def FrL (w wr : World) (S a p g h m r : Nat) (ds : List Nat) (s : Gm.Rd) (T : Nat × Gm.Cx) (j : Nat) : Prop :=
  ∃ (c : Gm.Cx) (mv : Nat), mv < 18446744073709551616 ∧ Gm.findR (5 - j) j mv (hvOf j) c = T ∧ Fr w wr S a p g h m r ds { s with c := c } (hvOf j) mv (rowC j)
/-- behind the search -/
def FindPost (w : World) (a p g h m r : Nat) (ds : List Nat) (s : Gm.Rd) (T : Nat × Gm.Cx) (e : Ending) (w' : World) : Prop :=
  e = .returned (bkV T.1) ∧ (∃ hv mv : Nat, Stp w' a p g h m r ds { s with c := T.2 } hv mv) ∧ Only [a, p, h, m] w w'
set_option maxHeartbeats 16000000 in
set_option maxRecDepth 100000 in
theorem find_any (a p g h m r : Nat) (ds : List Nat) (s : Gm.Rd) (hbd : ds.length ≤ 1000000000) (w : World) (H : Stp w a p g h m r ds s 0 0) :
    Calls Tryd.prog 104 #[.func (.func 126) #[] #[pt h, pt m, pt r]] w (FindPost w a p g h m r ds s (Gm.findR 5 0 0 0 s.c)) := by
  have hcl := H.lt
  obtain ⟨T, hT⟩ : ∃ T, Gm.findR 5 0 0 0 s.c = T := ⟨_, rfl⟩
  rw [hT]
  have C := Lib.hid (fun j hj c mv hmv hT W H => mark_row a p g h m r ds s T hbd j hj c mv hmv hT W H)
  have HT := Lib.hid tab_all
  have HI := Lib.hid tab_at
  obtain ⟨S, hS⟩ : ∃ S, w.heap.size = S := ⟨_, rfl⟩
  rw [hS] at hcl
  have s1 : (w.alloc (.cells #[.int .u64 0, .int .i64 0, .int .u64 0, .int .i64 0] 247)).heap.size = S + 1 := by simp [hS]
  have s2 : ((w.alloc (.cells #[.int .u64 0, .int .i64 0, .int .u64 0, .int .i64 0] 247)).alloc (.cells z20 259)).heap.size = S + 1 + 1 := by simp [hS]
  have hr0 := heap_alloc_new w (.cells #[.int .u64 0, .int .i64 0, .int .u64 0, .int .i64 0] 247)
  have hA := heap_alloc_new (w.alloc (.cells #[.int .u64 0, .int .i64 0, .int .u64 0, .int .i64 0] 247)) (.cells z20 259)
  rw [hS] at hr0
  rw [s1] at hA
  have hx0 := heap_alloc_new (((w.alloc (.cells #[.int .u64 0, .int .i64 0, .int .u64 0, .int .i64 0] 247)).alloc (.cells z20 259)).setRow (S + 1) tabC) (.cells #[.int .u64 0, .int .i64 0, .int .u64 0, .int .i64 0] 247)
  rw [setRow_size, s2] at hx0
  have hB := (((Below.refl w.heap.size w).alloc (Nat.le_refl _) (.cells #[.int .u64 0, .int .i64 0, .int .u64 0, .int .i64 0] 247)).alloc (by simp) (.cells z20 259))
  rw [hS] at hB
  have hB2 := (below_setRow hB (show S ≤ S + 1 by omega) tabC).alloc (by rw [setRow_size, s2]; omega) (.cells #[.int .u64 0, .int .i64 0, .int .u64 0, .int .i64 0] 247)
  have hT1 := setRow_heap _ _ _ tabC _ _ hA
  have hT2 : ((((w.alloc (.cells #[.int .u64 0, .int .i64 0, .int .u64 0, .int .i64 0] 247)).alloc (.cells z20 259)).setRow (S + 1) tabC).alloc (.cells #[.int .u64 0, .int .i64 0, .int .u64 0, .int .i64 0] 247)).heap[S + 1]? = some (.cells tabC 259 (0, 0)) := ((Below.heap_alloc _ _ _ (by rw [setRow_size, s2]; omega))).trans hT1
  have hR2 : ((((w.alloc (.cells #[.int .u64 0, .int .i64 0, .int .u64 0, .int .i64 0] 247)).alloc (.cells z20 259)).setRow (S + 1) tabC).alloc (.cells #[.int .u64 0, .int .i64 0, .int .u64 0, .int .i64 0] 247)).heap[S]? = some (.cells #[.int .u64 0, .int .i64 0, .int .u64 0, .int .i64 0] 247 (0, 0)) := ((Below.heap_alloc _ _ _ (by rw [setRow_size, s2]; omega))).trans ((heap_setRow_ne _ _ _ _ (by omega)).trans ((Below.heap_alloc _ _ _ (by rw [s1]; omega)).trans hr0))
  have hB3 : Below w.heap.size w ((((w.alloc (.cells #[.int .u64 0, .int .i64 0, .int .u64 0, .int .i64 0] 247)).alloc (.cells z20 259)).setRow (S + 1) tabC).alloc (.cells #[.int .u64 0, .int .i64 0, .int .u64 0, .int .i64 0] 247)) := by rw [hS]; exact hB2
  have HF := Lib.hid (show FrL w ((((w.alloc (.cells #[.int .u64 0, .int .i64 0, .int .u64 0, .int .i64 0] 247)).alloc (.cells z20 259)).setRow (S + 1) tabC).alloc (.cells #[.int .u64 0, .int .i64 0, .int .u64 0, .int .i64 0] 247)) S a p g h m r ds s T 0 from ⟨s.c, 0, by decide, hT, hR2, hx0, H.below hB3, Only.of_below hB3 _, hS, hcl⟩)
  clear hr0 hx0 hB hB2 hB3 hT1 hR2 s1 s2 hcl H
  unfold pt at *
  go_enter Tryd.func104, Tryd.ntmps104
  go_wp2_with fail
  go_step3
  go_wp2_with (first | (refine wpList_store_row rfl 259 (.tmp 3) (.tmp 10) rfl (S + 1) tabC rfl rfl 259 z20 hA (by kernel_rfl) rfl HT.out ?_))
  unfold z20 at HF hT2
  generalize hW0 : ((((w.alloc (.cells #[.int .u64 0, .int .i64 0, .int .u64 0, .int .i64 0] 247)).alloc (.cells #[.int .u64 0, .int .i64 0, .int .u64 0, .int .i64 0, .int .u64 0, .int .i64 0, .int .u64 0, .int .i64 0, .int .u64 0, .int .i64 0, .int .u64 0, .int .i64 0, .int .u64 0, .int .i64 0, .int .u64 0, .int .i64 0, .int .u64 0, .int .i64 0, .int .u64 0, .int .i64 0] 259)).setRow (S + 1) tabC).alloc (.cells #[.int .u64 0, .int .i64 0, .int .u64 0, .int .i64 0] 247)) = W0 at HF hT2
  go_step3
  go_wp2_with (first | (refine wpList_load_row rfl 259 (.tmp 3) rfl (S + 1) rfl 259 tabC (0, 0) _ hT2 Tryd.underlying259 rfl (by kernel_rfl) ?_))
  clear hA hT2 HT hW0
  go_loopw [12] (fun i wr => ∃ j : Nat, j ≤ 5 ∧ i = .int .i64 j ∧ Hid (FrL w wr S a p g h m r ds s T j)) (fun i _ => 6 - (intOf i).toNat)
  case atStart => exact ⟨0, by omega, rfl, HF⟩
  case round =>
    obtain ⟨j, hj, rfl, HD⟩ := hrel
    have hj2 : j = 0 ∨ j = 1 ∨ j = 2 ∨ j = 3 ∨ j = 4 ∨ j = 5 := by omega
    rcases hj2 with rfl | rfl | rfl | rfl | rfl | rfl
    · have hI := HI.out wr
      obtain ⟨hi0, hi1, hi2, hi3, hi4⟩ := hI
      clear hi1 hi2 hi3 hi4
      obtain ⟨c, mv, hmv, hf, hD⟩ := HD.out
      have hx : wr.heap[S + 1 + 1]? = some (.cells #[.int .u64 0, .int .i64 0, .int .u64 0, .int .i64 0] 247 (0, 0)) := hD.x
      have hR := hD.row #[.int .u64 0, .int .i64 1, .int .u64 0, .int .i64 0]
      have hL := hR.x
      have HB := Lib.hid hR
      have CJ := Lib.hid (C.out 0 (by omega) c mv hmv hf _ hR.st)
      unfold pt at CJ
      clear hR hD hf hmv HD
      go_wp2_with (first | (refine wpList_store_row rfl 247 (.tmp 4) (.tmp 14) rfl (S + 1 + 1) #[.int .u64 0, .int .i64 1, .int .u64 0, .int .i64 0] rfl rfl 247 #[.int .u64 0, .int .i64 0, .int .u64 0, .int .i64 0] hx (by kernel_rfl) rfl (by kernel_rfl) ?_) | (refine wpList_load_row rfl 247 (.tmp 4) rfl (S + 1 + 1) rfl 247 #[.int .u64 0, .int .i64 1, .int .u64 0, .int .i64 0] (0, 0) _ hL Tryd.underlying247 rfl (by kernel_rfl) ?_))
      go_at_call 126
      refine CJ.out.mono ?_
      rintro e w2 ⟨found, c', mv', rfl, hm2, hyes, hno, hS2, hO2⟩
      have HB2 := HB.out.call hS2 hO2
      cases found with
      | true =>
        have HY := Lib.hid (hyes rfl)
        have hL2 := HB2.x
        have hr2 := HB2.r0
        have HE := Lib.hid (HB2.fin #[.int .u64 0, .int .i64 1, .int .u64 0, .int .i64 0])
        clear hyes hno hS2 hO2 hm2 HB2 hL CJ HB hx
        go_wp2_with (first | (refine wpList_load_row rfl 247 (.tmp 4) rfl (S + 1 + 1) rfl 247 #[.int .u64 0, .int .i64 1, .int .u64 0, .int .i64 0] (0, 0) _ hL2 Tryd.underlying247 rfl (by kernel_rfl) ?_) | (refine wpList_store_row rfl 247 (.tmp 2) (.tmp 19) rfl S #[.int .u64 0, .int .i64 1, .int .u64 0, .int .i64 0] rfl rfl 247 #[.int .u64 0, .int .i64 0, .int .u64 0, .int .i64 0] hr2 (by kernel_rfl) rfl (by kernel_rfl) ?_))
        rw [Exit.noGoto_ret]
        refine bodyPost_ret (v := .agg #[.int .u64 0, .int .i64 1, .int .u64 0, .int .i64 0]) ?_ ?_ ?_
        · exact results_cell_row (fn := Tryd.f104) (p := 2) (ty := 247) rfl _ _ S 247 #[.int .u64 0, .int .i64 1, .int .u64 0, .int .i64 0] (0, 0) _ rfl HE.out.1 Tryd.underlying247 rfl (by kernel_rfl)
        · rfl
        · exact ⟨by rw [HY.out]; rfl, by rw [HY.out]; exact ⟨_, _, HE.out.2.1⟩, HE.out.2.2⟩
      | false =>
        have HN := Lib.hid (show FrL w w2 S a p g h m r ds s T (0 + 1) from ⟨c', mv', hm2, hno rfl, HB2⟩)
        clear hyes hno hS2 hO2 hm2 HB2 hL CJ HB hx
        go_wp2_with fail
        exact ⟨⟨1, by omega, rfl, HN⟩, by simp [intOf]⟩
    · have hI := HI.out wr
      obtain ⟨hi0, hi1, hi2, hi3, hi4⟩ := hI
      clear hi0 hi2 hi3 hi4
      obtain ⟨c, mv, hmv, hf, hD⟩ := HD.out
      have hx : wr.heap[S + 1 + 1]? = some (.cells #[.int .u64 0, .int .i64 1, .int .u64 0, .int .i64 0] 247 (0, 0)) := hD.x
      have hR := hD.row #[.int .u64 2, .int .i64 2, .int .u64 63, .int .i64 7]
      have hL := hR.x
      have HB := Lib.hid hR
      have CJ := Lib.hid (C.out 1 (by omega) c mv hmv hf _ hR.st)
      unfold pt at CJ
      clear hR hD hf hmv HD
      go_wp2_with (first | (refine wpList_store_row rfl 247 (.tmp 4) (.tmp 14) rfl (S + 1 + 1) #[.int .u64 2, .int .i64 2, .int .u64 63, .int .i64 7] rfl rfl 247 #[.int .u64 0, .int .i64 1, .int .u64 0, .int .i64 0] hx (by kernel_rfl) rfl (by kernel_rfl) ?_) | (refine wpList_load_row rfl 247 (.tmp 4) rfl (S + 1 + 1) rfl 247 #[.int .u64 2, .int .i64 2, .int .u64 63, .int .i64 7] (0, 0) _ hL Tryd.underlying247 rfl (by kernel_rfl) ?_))
      go_at_call 126
      refine CJ.out.mono ?_
      rintro e w2 ⟨found, c', mv', rfl, hm2, hyes, hno, hS2, hO2⟩
      have HB2 := HB.out.call hS2 hO2
      cases found with
      | true =>
        have HY := Lib.hid (hyes rfl)
        have hL2 := HB2.x
        have hr2 := HB2.r0
        have HE := Lib.hid (HB2.fin #[.int .u64 2, .int .i64 2, .int .u64 63, .int .i64 7])
        clear hyes hno hS2 hO2 hm2 HB2 hL CJ HB hx
        go_wp2_with (first | (refine wpList_load_row rfl 247 (.tmp 4) rfl (S + 1 + 1) rfl 247 #[.int .u64 2, .int .i64 2, .int .u64 63, .int .i64 7] (0, 0) _ hL2 Tryd.underlying247 rfl (by kernel_rfl) ?_) | (refine wpList_store_row rfl 247 (.tmp 2) (.tmp 19) rfl S #[.int .u64 2, .int .i64 2, .int .u64 63, .int .i64 7] rfl rfl 247 #[.int .u64 0, .int .i64 0, .int .u64 0, .int .i64 0] hr2 (by kernel_rfl) rfl (by kernel_rfl) ?_))
        rw [Exit.noGoto_ret]
        refine bodyPost_ret (v := .agg #[.int .u64 2, .int .i64 2, .int .u64 63, .int .i64 7]) ?_ ?_ ?_
        · exact results_cell_row (fn := Tryd.f104) (p := 2) (ty := 247) rfl _ _ S 247 #[.int .u64 2, .int .i64 2, .int .u64 63, .int .i64 7] (0, 0) _ rfl HE.out.1 Tryd.underlying247 rfl (by kernel_rfl)
        · rfl
        · exact ⟨by rw [HY.out]; rfl, by rw [HY.out]; exact ⟨_, _, HE.out.2.1⟩, HE.out.2.2⟩
      | false =>
        have HN := Lib.hid (show FrL w w2 S a p g h m r ds s T (1 + 1) from ⟨c', mv', hm2, hno rfl, HB2⟩)
        clear hyes hno hS2 hO2 hm2 HB2 hL CJ HB hx
        go_wp2_with fail
        exact ⟨⟨2, by omega, rfl, HN⟩, by simp [intOf]⟩
    · have hI := HI.out wr
      obtain ⟨hi0, hi1, hi2, hi3, hi4⟩ := hI
      clear hi0 hi1 hi3 hi4
      obtain ⟨c, mv, hmv, hf, hD⟩ := HD.out
      have hx : wr.heap[S + 1 + 1]? = some (.cells #[.int .u64 2, .int .i64 2, .int .u64 63, .int .i64 7] 247 (0, 0)) := hD.x
      have hR := hD.row #[.int .u64 6, .int .i64 3, .int .u64 255, .int .i64 9]
      have hL := hR.x
      have HB := Lib.hid hR
      have CJ := Lib.hid (C.out 2 (by omega) c mv hmv hf _ hR.st)
      unfold pt at CJ
      clear hR hD hf hmv HD
      go_wp2_with (first | (refine wpList_store_row rfl 247 (.tmp 4) (.tmp 14) rfl (S + 1 + 1) #[.int .u64 6, .int .i64 3, .int .u64 255, .int .i64 9] rfl rfl 247 #[.int .u64 2, .int .i64 2, .int .u64 63, .int .i64 7] hx (by kernel_rfl) rfl (by kernel_rfl) ?_) | (refine wpList_load_row rfl 247 (.tmp 4) rfl (S + 1 + 1) rfl 247 #[.int .u64 6, .int .i64 3, .int .u64 255, .int .i64 9] (0, 0) _ hL Tryd.underlying247 rfl (by kernel_rfl) ?_))
      go_at_call 126
      refine CJ.out.mono ?_
      rintro e w2 ⟨found, c', mv', rfl, hm2, hyes, hno, hS2, hO2⟩
      have HB2 := HB.out.call hS2 hO2
      cases found with
      | true =>
        have HY := Lib.hid (hyes rfl)
        have hL2 := HB2.x
        have hr2 := HB2.r0
        have HE := Lib.hid (HB2.fin #[.int .u64 6, .int .i64 3, .int .u64 255, .int .i64 9])
        clear hyes hno hS2 hO2 hm2 HB2 hL CJ HB hx
        go_wp2_with (first | (refine wpList_load_row rfl 247 (.tmp 4) rfl (S + 1 + 1) rfl 247 #[.int .u64 6, .int .i64 3, .int .u64 255, .int .i64 9] (0, 0) _ hL2 Tryd.underlying247 rfl (by kernel_rfl) ?_) | (refine wpList_store_row rfl 247 (.tmp 2) (.tmp 19) rfl S #[.int .u64 6, .int .i64 3, .int .u64 255, .int .i64 9] rfl rfl 247 #[.int .u64 0, .int .i64 0, .int .u64 0, .int .i64 0] hr2 (by kernel_rfl) rfl (by kernel_rfl) ?_))
        rw [Exit.noGoto_ret]
        refine bodyPost_ret (v := .agg #[.int .u64 6, .int .i64 3, .int .u64 255, .int .i64 9]) ?_ ?_ ?_
        · exact results_cell_row (fn := Tryd.f104) (p := 2) (ty := 247) rfl _ _ S 247 #[.int .u64 6, .int .i64 3, .int .u64 255, .int .i64 9] (0, 0) _ rfl HE.out.1 Tryd.underlying247 rfl (by kernel_rfl)
        · rfl
        · exact ⟨by rw [HY.out]; rfl, by rw [HY.out]; exact ⟨_, _, HE.out.2.1⟩, HE.out.2.2⟩
      | false =>
        have HN := Lib.hid (show FrL w w2 S a p g h m r ds s T (2 + 1) from ⟨c', mv', hm2, hno rfl, HB2⟩)
        clear hyes hno hS2 hO2 hm2 HB2 hL CJ HB hx
        go_wp2_with fail
        exact ⟨⟨3, by omega, rfl, HN⟩, by simp [intOf]⟩
    · have hI := HI.out wr
      obtain ⟨hi0, hi1, hi2, hi3, hi4⟩ := hI
      clear hi0 hi1 hi2 hi4
      obtain ⟨c, mv, hmv, hf, hD⟩ := HD.out
      have hx : wr.heap[S + 1 + 1]? = some (.cells #[.int .u64 6, .int .i64 3, .int .u64 255, .int .i64 9] 247 (0, 0)) := hD.x
      have hR := hD.row #[.int .u64 14, .int .i64 4, .int .u64 2047, .int .i64 12]
      have hL := hR.x
      have HB := Lib.hid hR
      have CJ := Lib.hid (C.out 3 (by omega) c mv hmv hf _ hR.st)
      unfold pt at CJ
      clear hR hD hf hmv HD
      go_wp2_with (first | (refine wpList_store_row rfl 247 (.tmp 4) (.tmp 14) rfl (S + 1 + 1) #[.int .u64 14, .int .i64 4, .int .u64 2047, .int .i64 12] rfl rfl 247 #[.int .u64 6, .int .i64 3, .int .u64 255, .int .i64 9] hx (by kernel_rfl) rfl (by kernel_rfl) ?_) | (refine wpList_load_row rfl 247 (.tmp 4) rfl (S + 1 + 1) rfl 247 #[.int .u64 14, .int .i64 4, .int .u64 2047, .int .i64 12] (0, 0) _ hL Tryd.underlying247 rfl (by kernel_rfl) ?_))
      go_at_call 126
      refine CJ.out.mono ?_
      rintro e w2 ⟨found, c', mv', rfl, hm2, hyes, hno, hS2, hO2⟩
      have HB2 := HB.out.call hS2 hO2
      cases found with
      | true =>
        have HY := Lib.hid (hyes rfl)
        have hL2 := HB2.x
        have hr2 := HB2.r0
        have HE := Lib.hid (HB2.fin #[.int .u64 14, .int .i64 4, .int .u64 2047, .int .i64 12])
        clear hyes hno hS2 hO2 hm2 HB2 hL CJ HB hx
        go_wp2_with (first | (refine wpList_load_row rfl 247 (.tmp 4) rfl (S + 1 + 1) rfl 247 #[.int .u64 14, .int .i64 4, .int .u64 2047, .int .i64 12] (0, 0) _ hL2 Tryd.underlying247 rfl (by kernel_rfl) ?_) | (refine wpList_store_row rfl 247 (.tmp 2) (.tmp 19) rfl S #[.int .u64 14, .int .i64 4, .int .u64 2047, .int .i64 12] rfl rfl 247 #[.int .u64 0, .int .i64 0, .int .u64 0, .int .i64 0] hr2 (by kernel_rfl) rfl (by kernel_rfl) ?_))
        rw [Exit.noGoto_ret]
        refine bodyPost_ret (v := .agg #[.int .u64 14, .int .i64 4, .int .u64 2047, .int .i64 12]) ?_ ?_ ?_
        · exact results_cell_row (fn := Tryd.f104) (p := 2) (ty := 247) rfl _ _ S 247 #[.int .u64 14, .int .i64 4, .int .u64 2047, .int .i64 12] (0, 0) _ rfl HE.out.1 Tryd.underlying247 rfl (by kernel_rfl)
        · rfl
        · exact ⟨by rw [HY.out]; rfl, by rw [HY.out]; exact ⟨_, _, HE.out.2.1⟩, HE.out.2.2⟩
      | false =>
        have HN := Lib.hid (show FrL w w2 S a p g h m r ds s T (3 + 1) from ⟨c', mv', hm2, hno rfl, HB2⟩)
        clear hyes hno hS2 hO2 hm2 HB2 hL CJ HB hx
        go_wp2_with fail
        exact ⟨⟨4, by omega, rfl, HN⟩, by simp [intOf]⟩
    · have hI := HI.out wr
      obtain ⟨hi0, hi1, hi2, hi3, hi4⟩ := hI
      clear hi0 hi1 hi2 hi3
      obtain ⟨c, mv, hmv, hf, hD⟩ := HD.out
      have hx : wr.heap[S + 1 + 1]? = some (.cells #[.int .u64 14, .int .i64 4, .int .u64 2047, .int .i64 12] 247 (0, 0)) := hD.x
      have hR := hD.row #[.int .u64 15, .int .i64 4, .int .u64 0, .int .i64 64]
      have hL := hR.x
      have HB := Lib.hid hR
      have CJ := Lib.hid (C.out 4 (by omega) c mv hmv hf _ hR.st)
      unfold pt at CJ
      clear hR hD hf hmv HD
      go_wp2_with (first | (refine wpList_store_row rfl 247 (.tmp 4) (.tmp 14) rfl (S + 1 + 1) #[.int .u64 15, .int .i64 4, .int .u64 0, .int .i64 64] rfl rfl 247 #[.int .u64 14, .int .i64 4, .int .u64 2047, .int .i64 12] hx (by kernel_rfl) rfl (by kernel_rfl) ?_) | (refine wpList_load_row rfl 247 (.tmp 4) rfl (S + 1 + 1) rfl 247 #[.int .u64 15, .int .i64 4, .int .u64 0, .int .i64 64] (0, 0) _ hL Tryd.underlying247 rfl (by kernel_rfl) ?_))
      go_at_call 126
      refine CJ.out.mono ?_
      rintro e w2 ⟨found, c', mv', rfl, hm2, hyes, hno, hS2, hO2⟩
      have HB2 := HB.out.call hS2 hO2
      cases found with
      | true =>
        have HY := Lib.hid (hyes rfl)
        have hL2 := HB2.x
        have hr2 := HB2.r0
        have HE := Lib.hid (HB2.fin #[.int .u64 15, .int .i64 4, .int .u64 0, .int .i64 64])
        clear hyes hno hS2 hO2 hm2 HB2 hL CJ HB hx
        go_wp2_with (first | (refine wpList_load_row rfl 247 (.tmp 4) rfl (S + 1 + 1) rfl 247 #[.int .u64 15, .int .i64 4, .int .u64 0, .int .i64 64] (0, 0) _ hL2 Tryd.underlying247 rfl (by kernel_rfl) ?_) | (refine wpList_store_row rfl 247 (.tmp 2) (.tmp 19) rfl S #[.int .u64 15, .int .i64 4, .int .u64 0, .int .i64 64] rfl rfl 247 #[.int .u64 0, .int .i64 0, .int .u64 0, .int .i64 0] hr2 (by kernel_rfl) rfl (by kernel_rfl) ?_))
        rw [Exit.noGoto_ret]
        refine bodyPost_ret (v := .agg #[.int .u64 15, .int .i64 4, .int .u64 0, .int .i64 64]) ?_ ?_ ?_
        · exact results_cell_row (fn := Tryd.f104) (p := 2) (ty := 247) rfl _ _ S 247 #[.int .u64 15, .int .i64 4, .int .u64 0, .int .i64 64] (0, 0) _ rfl HE.out.1 Tryd.underlying247 rfl (by kernel_rfl)
        · rfl
        · exact ⟨by rw [HY.out]; rfl, by rw [HY.out]; exact ⟨_, _, HE.out.2.1⟩, HE.out.2.2⟩
      | false =>
        have HN := Lib.hid (show FrL w w2 S a p g h m r ds s T (4 + 1) from ⟨c', mv', hm2, hno rfl, HB2⟩)
        clear hyes hno hS2 hO2 hm2 HB2 hL CJ HB hx
        go_wp2_with fail
        exact ⟨⟨5, by omega, rfl, HN⟩, by simp [intOf]⟩
    · obtain ⟨c, mv, hmv, hf, hD⟩ := HD.out
      have HY := Lib.hid (show T = (4, c) from hf.symm)
      have hL2 : wr.heap[S + 1 + 1]? = some (.cells #[.int .u64 15, .int .i64 4, .int .u64 0, .int .i64 64] 247 (0, 0)) := hD.x
      have hr2 := hD.r0
      have HE := Lib.hid (hD.fin #[.int .u64 15, .int .i64 4, .int .u64 0, .int .i64 64])
      clear hD hf hmv HD
      go_wp2_with (first | (refine wpList_load_row rfl 247 (.tmp 4) rfl (S + 1 + 1) rfl 247 #[.int .u64 15, .int .i64 4, .int .u64 0, .int .i64 64] (0, 0) _ hL2 Tryd.underlying247 rfl (by kernel_rfl) ?_) | (refine wpList_store_row rfl 247 (.tmp 2) (.tmp 19) rfl S #[.int .u64 15, .int .i64 4, .int .u64 0, .int .i64 64] rfl rfl 247 #[.int .u64 0, .int .i64 0, .int .u64 0, .int .i64 0] hr2 (by kernel_rfl) rfl (by kernel_rfl) ?_))
      rw [Exit.noGoto_ret]
      refine bodyPost_ret (v := .agg #[.int .u64 15, .int .i64 4, .int .u64 0, .int .i64 64]) ?_ ?_ ?_
      · exact results_cell_row (fn := Tryd.f104) (p := 2) (ty := 247) rfl _ _ S 247 #[.int .u64 15, .int .i64 4, .int .u64 0, .int .i64 64] (0, 0) _ rfl HE.out.1 Tryd.underlying247 rfl (by kernel_rfl)
      · rfl
      · exact ⟨by rw [HY.out]; rfl, by rw [HY.out]; exact ⟨_, _, HE.out.2.1⟩, HE.out.2.2⟩
end Go.Proofs.YtdlifcpdlbmijaaDoor
namespace Go.Proofs.YtdlifcpdlbmijaaDoor
set_option linter.unusedVariables false
set_option linter.unusedSimpArgs false
open Go.RowKit Go.PlainAid Go.Shelf
open B2 (Only Bys Row cellsOf)
open Gm (St Smp)
theorem sub_wrd (X P : Nat) (hX : X < 18446744073709551616) (hP : P < 18446744073709551616) : IntKind.u64.wrap ((X : Int) - (P : Int)) = ((Gm.subW X P : Nat) : Int) := by
  unfold Gm.subW
  simp only [IntKind.wrap_u64]
  omega
set_option maxHeartbeats 16000000 in
set_option maxRecDepth 100000 in
theorem step_rdr (a p g : Nat) (ds : List Nat) (s : Gm.Rd) (hbd : ds.length ≤ 1000000000) (w : World) (H : Rdr w a p g ds s) :
    Calls Tryd.prog 120 #[pt a] w (RdrPost w a p g ds (.int .u64 (((Gm.stepR s.c).1 : Nat) : Int)) { s with c := (Gm.stepR s.c).2 }) := by
  have hl := H.lt
  obtain ⟨T, hT⟩ : ∃ T, Gm.findR 5 0 0 0 s.c = T := ⟨_, rfl⟩
  have eS : Gm.stepR s.c = (Gm.subW (Gm.rb (Gm.sz T.1) T.2).1 (Gm.pl T.1), (Gm.rb (Gm.sz T.1) T.2).2) := by unfold Gm.stepR; rw [hT]
  rw [eS]
  obtain ⟨n, hn⟩ : ∃ n, w.heap.size = n := ⟨_, rfl⟩
  rw [hn] at hl
  have A1 := (Below.refl w.heap.size w).alloc (Nat.le_refl _) (.cells #[pt a] 256)
  have r1 := heap_alloc_new w (.cells #[pt a] 256)
  rw [hn] at r1
  have z1 : (w.alloc (.cells #[pt a] 256)).heap.size = n + 1 := by simp [hn]
  have A2 := A1.alloc (by simp) (.cells #[.int .u64 0] 67)
  have r2 := heap_alloc_new (w.alloc (.cells #[pt a] 256)) (.cells #[.int .u64 0] 67)
  rw [z1] at r2
  have z2 : ((w.alloc (.cells #[pt a] 256)).alloc (.cells #[.int .u64 0] 67)).heap.size = n + 1 + 1 := by simp [hn]
  have A3 := A2.alloc (by rw [z2, hn]; omega) (.cells #[.int .i64 0] 3)
  have r3 := heap_alloc_new ((w.alloc (.cells #[pt a] 256)).alloc (.cells #[.int .u64 0] 67)) (.cells #[.int .i64 0] 3)
  rw [z2] at r3
  have HST := show Stp (((w.alloc (.cells #[pt a] 256)).alloc (.cells #[.int .u64 0] 67)).alloc (.cells #[.int .i64 0] 3)) a p g (n + 1 + 1) (n + 1) n ds s 0 0 from
    ⟨H.below A3, r3, (Below.heap_alloc _ _ _ (by rw [z2]; omega)).trans r2, (Below.heap_alloc _ _ _ (by rw [z2]; omega)).trans ((Below.heap_alloc _ _ _ (by rw [z1]; omega)).trans r1), by omega, by omega, by omega⟩
  have CF := find_any a p g (n + 1 + 1) (n + 1) n ds s hbd _ HST
  rw [hT] at CF
  have CF := Lib.hid CF
  have HA := Lib.hid (And.intro A3 hl)
  have HMS := Lib.hid (mk_small T.1)
  obtain ⟨k, hk⟩ : ∃ k, T.1 = k := ⟨_, rfl⟩
  obtain ⟨c2, hc2⟩ : ∃ c2, T.2 = c2 := ⟨_, rfl⟩
  unfold FindPost at CF
  rw [hk] at HMS
  rw [hk, hc2] at CF ⊢
  obtain ⟨Z, hZ⟩ : ∃ Z, Gm.sz k = Z := ⟨_, rfl⟩
  obtain ⟨PL, hPL⟩ : ∃ PL, Gm.pl k = PL := ⟨_, rfl⟩
  unfold bkV at CF
  rw [hZ, hPL] at CF ⊢
  rw [hZ] at HMS
  have hPl : PL < 18446744073709551616 := by rw [← hPL]; unfold Gm.pl; split <;> decide
  obtain ⟨X, hX⟩ : ∃ X, (Gm.rb Z c2).1 = X := ⟨_, rfl⟩
  have hXl : X < 18446744073709551616 := by rw [← hX]; exact Nat.lt_of_lt_of_le (rb_lt _ _ HMS.out.2) (Nat.pow_le_pow_right (by decide) HMS.out.2)
  obtain ⟨s4, hs4⟩ : ∃ s4 : Gm.Rd, { s with c := (Gm.rb Z c2).2 } = s4 := ⟨_, rfl⟩
  have CB := Lib.hid (fun W (h : Rdr W a p g ds { s with c := c2 }) => bits_rdr a p g Z ds { s with c := c2 } HMS.out.2 hbd W h)
  simp only at CB
  rw [hX, hs4] at CB
  rw [hX, hs4]
  have hsub := sub_wrd X PL hXl hPl
  have hmf : ∀ (fn : Fn) (first cap : Array Value) (w : World), (Instr.makeFunc fn first cap).run Tryd.prog w = .ok (.func fn first cap) w := fun _ _ _ _ => rfl
  clear A1 A2 A3 r1 r2 r3 z1 z2 HST hl H eS hT hk hc2 hZ hPL hX hs4
  unfold pt at *
  go_enter Tryd.func120, Tryd.ntmps120
  go_wp2_with fail
  refine CF.out.mono ?_
  rintro e w2 ⟨rfl, ⟨hv, mv, hS2⟩, hO2⟩
  have hA4 := (Below.refl w2.heap.size w2).alloc (Nat.le_refl _) (.cells #[.int .u64 ((Gm.mk k : Nat) : Int), .int .i64 ((Gm.ms k : Nat) : Int), .int .u64 ((PL : Nat) : Int), .int .i64 ((Z : Nat) : Int)] 247)
  have r4 := heap_alloc_new w2 (.cells #[.int .u64 ((Gm.mk k : Nat) : Int), .int .i64 ((Gm.ms k : Nat) : Int), .int .u64 ((PL : Nat) : Int), .int .i64 ((Z : Nat) : Int)] 247)
  have q2 : (w2.alloc (.cells #[.int .u64 ((Gm.mk k : Nat) : Int), .int .i64 ((Gm.ms k : Nat) : Int), .int .u64 ((PL : Nat) : Int), .int .i64 ((Z : Nat) : Int)] 247)).cell? ⟨w2.heap.size, 2, none⟩ = some (.int .u64 ((PL : Nat) : Int)) := (cell_of_row _ _ 2 _ _ _ r4).trans rfl
  have q3 : (w2.alloc (.cells #[.int .u64 ((Gm.mk k : Nat) : Int), .int .i64 ((Gm.ms k : Nat) : Int), .int .u64 ((PL : Nat) : Int), .int .i64 ((Z : Nat) : Int)] 247)).cell? ⟨w2.heap.size, 3, none⟩ = some (.int .i64 ((Z : Nat) : Int)) := (cell_of_row _ _ 3 _ _ _ r4).trans rfl
  have hS4 := hS2.below hA4
  have q5 : (w2.alloc (.cells #[.int .u64 ((Gm.mk k : Nat) : Int), .int .i64 ((Gm.ms k : Nat) : Int), .int .u64 ((PL : Nat) : Int), .int .i64 ((Z : Nat) : Int)] 247)).cell? ⟨n, 0, none⟩ = some (pt a) := (cell_of_row _ _ 0 _ _ _ hS4.kr).trans rfl
  have hO4 : Only [a, p] w (w2.alloc (.cells #[.int .u64 ((Gm.mk k : Nat) : Int), .int .i64 ((Gm.ms k : Nat) : Int), .int .u64 ((PL : Nat) : Int), .int .i64 ((Z : Nat) : Int)] 247)) := ((Only.of_below HA.out.1 [a, p]).trans hO2 (fun x hx => by simp at hx ⊢; omega)).alloc _
  have hB : w2.heap.size ≠ a ∧ w2.heap.size ≠ p := by have := hS2.lt; omega
  have HD := Lib.hid (show Rdr (w2.alloc (.cells #[.int .u64 ((Gm.mk k : Nat) : Int), .int .i64 ((Gm.ms k : Nat) : Int), .int .u64 ((PL : Nat) : Int), .int .i64 ((Z : Nat) : Int)] 247)).drew a p g ds { s with c := c2 } from hS4.rd.below (drew_below _))
  have HO := Lib.hid (show Only [a, p] w (w2.alloc (.cells #[.int .u64 ((Gm.mk k : Nat) : Int), .int .i64 ((Gm.ms k : Nat) : Int), .int .u64 ((PL : Nat) : Int), .int .i64 ((Z : Nat) : Int)] 247)).drew from hO4.drew)
  have q2 := cell_below q2 (drew_below _)
  have q3 := cell_below q3 (drew_below _)
  have q5 := cell_below q5 (drew_below _)
  clear hA4 r4 hS4 hO4 hS2 hO2 CF hmf hn HA
  generalize hW : w2.alloc (.cells #[.int .u64 ((Gm.mk k : Nat) : Int), .int .i64 ((Gm.ms k : Nat) : Int), .int .u64 ((PL : Nat) : Int), .int .i64 ((Z : Nat) : Int)] 247) = W at *
  unfold pt at *
  go_wp2_with fail
  clear hW
  generalize w2.heap.size = B at *
  go_region_with (first
    | (go_at_call 121; refine (CB.out _ HD.out).mono ?_; rintro e w9 ⟨rfl, hR9, hO9⟩; have hF9 := Lib.hid (And.intro hR9 (HO.out.trans hO9 (fun _ hx => .inl hx))); have q29 := Only_cell hO9 q2 (by have := hB; simp; omega); clear hR9 hO9))
  all_goals
    go_wp2_with fail
    go_ret
    exact ⟨by rw [← hsub]; rfl, hF9.out.1, hF9.out.2⟩
end Go.Proofs.YtdlifcpdlbmijaaDoor
namespace Go.Proofs.YtdlifcpdlbmijaaDoor
set_option linter.unusedVariables false
set_option linter.unusedSimpArgs false
open Go.RowKit Go.PlainAid Go.Shelf
open B2 (Only Bys Row cellsOf)
open Gm (St Smp)
/-- behind a whole number that is read of the bits -/
def VarPost (w : World) (a p g : Nat) (ds : List Nat) (s : Gm.Rd) (v : Value) (e : Ending) (w' : World) : Prop :=
  ∃ x : Nat, e = .returned (.tuple #[v, .int .u16 ((x : Nat) : Int)]) ∧ Rdr w' a p g ds { s with c := ((Gm.rvar s.c).2.1, s.c.2) } ∧ (s.c.2 || decide (x ≠ 0)) = (Gm.rvar s.c).2.2 ∧ Only [a, p] w w'
theorem varint_rdr (a p g : Nat) (ds : List Nat) (s : Gm.Rd) (hbd : ds.length ≤ 1000000000) (w : World) (H : Rdr w a p g ds s) :
    Calls Tryd.prog 119 #[pt p] w (VarPost w a p g ds s (.int .u64 (((Gm.rvar s.c).1 : Nat) : Int))) := by
  obtain ⟨at_, h1, h2⟩ := H.bits
  have hL := H.lt
  have hN := H.ne
  obtain ⟨n, last, gap, ws, we, S, q⟩ := s
  simp only at h2
  subst h2
  refine (B2.rvarint_any p g ds at_ w h1 hbd).mono ?_
  rintro e w1 ⟨rfl, hR, hO⟩
  exact ⟨_, rfl, ⟨(hO.block a hL.1 (by simp; omega)).trans H.row, ⟨_, hR, by show List.drop _ _ = _; rw [List.drop_drop]⟩, hN⟩, rfl, hO.mono (fun x hx => by simp at hx ⊢; exact .inr hx)⟩
theorem signed_rdr (a p g : Nat) (ds : List Nat) (s : Gm.Rd) (hbd : ds.length ≤ 1000000000) (w : World) (H : Rdr w a p g ds s) :
    Calls Tryd.prog 117 #[pt p] w (VarPost w a p g ds s (.int .i64 (B2.Bt.uz (Gm.rvar s.c).1))) := by
  obtain ⟨at_, h1, h2⟩ := H.bits
  have hL := H.lt
  have hN := H.ne
  obtain ⟨n, last, gap, ws, we, S, q⟩ := s
  simp only at h2
  subst h2
  refine (B2.rsigned_any p g ds at_ w h1 hbd).mono ?_
  rintro e w1 ⟨rfl, hR, hO⟩
  exact ⟨_, rfl, ⟨(hO.block a hL.1 (by simp; omega)).trans H.row, ⟨_, hR, by show List.drop _ _ = _; rw [List.drop_drop]⟩, hN⟩, rfl, hO.mono (fun x hx => by simp at hx ⊢; exact .inr hx)⟩
theorem wI_is (x : Int) : IntKind.i64.wrap x = Gm.wI x := by rw [i64_is]; unfold RowKit.wrap64 Gm.wI; rfl
theorem u64_add (a b : Nat) : IntKind.u64.wrap ((a : Int) + (b : Int)) = (((a + b) % 18446744073709551616 : Nat) : Int) := by rw [IntKind.wrap_u64]; omega
set_option maxHeartbeats 8000000 in
set_option maxRecDepth 100000 in
theorem time_first (a p g : Nat) (ds : List Nat) (s : Gm.Rd) (hbd : ds.length ≤ 1000000000) (h0 : s.n = 0) (w : World) (H : Rdr w a p g ds s) :
    Calls Tryd.prog 113 #[pt a] w (RdrPost w a p g ds (.int .i64 (Gm.rdTime s).1) { s with c := (Gm.rdTime s).2 }) := by
  have c0 : w.cell? ⟨a, 0, none⟩ = some (.int .i64 ((s.n : Nat) : Int)) := (cell_of_row _ _ 0 _ _ _ H.row).trans rfl
  have c6 : w.cell? ⟨a, 6, none⟩ = some (pt p) := (cell_of_row _ _ 6 _ _ _ H.row).trans rfl
  have e : Gm.rdTime s = (B2.Bt.uz (Gm.rvar s.c).1, (Gm.rvar s.c).2) := by unfold Gm.rdTime; rw [if_pos h0]
  rw [e]
  have C := Lib.hid (signed_rdr a p g ds s hbd w H)
  unfold VarPost at C
  have CN := Lib.hid (fun x W (h : Rdr W a p g ds { s with c := ((Gm.rvar s.c).2.1, s.c.2) }) => note_rdr a p g x ds _ W h)
  simp only at CN
  obtain ⟨V, hV⟩ : ∃ V, B2.Bt.uz (Gm.rvar s.c).1 = V := ⟨_, rfl⟩
  obtain ⟨Y, hY⟩ : ∃ Y, (Gm.rvar s.c).2 = Y := ⟨_, rfl⟩
  rw [hV, hY] at C
  rw [hY] at CN
  rw [hV, hY]
  rw [h0] at c0
  simp only [Int.cast_ofNat_Int] at c0
  clear e H h0 hV hY
  unfold pt at *
  go_enter Tryd.func113, Tryd.ntmps113
  go_wp2_with fail
  go_at_call 117
  refine C.out.mono ?_
  rintro e w1 ⟨x, rfl, hR, hx, hO⟩
  have CX := Lib.hid (CN.out x w1 hR)
  have HX := Lib.hid (And.intro hx hO)
  clear hR hx hO C CN
  go_wp2_with fail
  go_at_call 118
  refine CX.out.mono ?_
  rintro e w2 ⟨rfl, hR, hO⟩
  have HY := Lib.hid (And.intro hR (HX.out.2.trans hO (fun _ hx => .inl hx)))
  clear hR hO CX
  go_wp2_with fail
  go_ret
  refine ⟨rfl, ?_, HY.out.2⟩
  have h := HY.out.1
  rw [HX.out.1] at h
  exact h
set_option maxHeartbeats 8000000 in
set_option maxRecDepth 100000 in
theorem time_second (a p g : Nat) (ds : List Nat) (s : Gm.Rd) (hbd : ds.length ≤ 1000000000) (h0 : s.n = 1) (w : World) (H : Rdr w a p g ds s) :
    Calls Tryd.prog 113 #[pt a] w (RdrPost w a p g ds (.int .i64 (Gm.rdTime s).1) { s with c := (Gm.rdTime s).2 }) := by
  have c0 : w.cell? ⟨a, 0, none⟩ = some (.int .i64 ((s.n : Nat) : Int)) := (cell_of_row _ _ 0 _ _ _ H.row).trans rfl
  have c6 : w.cell? ⟨a, 6, none⟩ = some (pt p) := (cell_of_row _ _ 6 _ _ _ H.row).trans rfl
  have e : Gm.rdTime s = (Gm.wI (s.last.t + Gm.i64 (Gm.rvar s.c).1), (Gm.rvar s.c).2) := by unfold Gm.rdTime; rw [if_neg (by omega), if_pos h0]
  rw [e]
  have hVl : (Gm.rvar s.c).1 < 18446744073709551616 := B2.Bt.rv_lt _
  have C := Lib.hid (varint_rdr a p g ds s hbd w H)
  unfold VarPost at C
  have CN := Lib.hid (fun x W (h : Rdr W a p g ds { s with c := ((Gm.rvar s.c).2.1, s.c.2) }) => note_rdr a p g x ds _ W h)
  simp only at CN
  obtain ⟨V, hV⟩ : ∃ V, (Gm.rvar s.c).1 = V := ⟨_, rfl⟩
  obtain ⟨Y, hY⟩ : ∃ Y, (Gm.rvar s.c).2 = Y := ⟨_, rfl⟩
  rw [hV] at hVl
  rw [hV, hY] at C
  rw [hY] at CN
  rw [hV, hY]
  rw [h0] at c0
  obtain ⟨t, ht⟩ : ∃ t, s.last.t = t := ⟨_, rfl⟩
  rw [ht]
  have hw : IntKind.i64.wrap (t + IntKind.i64.wrap (V : Int)) = Gm.wI (t + Gm.i64 V) := by rw [i64_of V hVl, wI_is]
  have hw : RowKit.wrap64 (t + RowKit.wrap64 (V : Int)) = Gm.wI (t + Gm.i64 V) := by simpa only [i64_is] using hw
  obtain ⟨R, hR⟩ : ∃ R, Gm.wI (t + Gm.i64 V) = R := ⟨_, rfl⟩
  rw [hR] at hw ⊢
  have HW := Lib.hid hw
  simp only [Int.cast_ofNat_Int] at c0
  clear e H h0 hV hY hR hw
  unfold pt at *
  go_enter Tryd.func113, Tryd.ntmps113
  go_wp2_with fail
  go_at_call 119
  refine C.out.mono ?_
  rintro e w1 ⟨x, rfl, hR, hx, hO⟩
  have CX := Lib.hid (CN.out x w1 hR)
  have HX := Lib.hid (And.intro hx hO)
  clear hR hx hO C CN
  go_wp2_with fail
  go_at_call 118
  refine CX.out.mono ?_
  rintro e w2 ⟨rfl, hR, hO⟩
  have c1 : w2.cell? ⟨a, 1, none⟩ = some (.int .i64 t) := by
    rw [← ht]
    exact (cell_of_row _ _ 1 _ _ _ hR.row).trans rfl
  have HY := Lib.hid (And.intro hR (HX.out.2.trans hO (fun _ hx => .inl hx)))
  clear hR hO CX
  go_wp2_with fail
  go_ret
  refine ⟨?_, ?_, HY.out.2⟩
  · rw [← HW.out]; first | done | rfl
  · have h := HY.out.1
    rw [HX.out.1] at h
    exact h
set_option maxHeartbeats 8000000 in
set_option maxRecDepth 100000 in
theorem time_later (a p g : Nat) (ds : List Nat) (s : Gm.Rd) (hbd : ds.length ≤ 1000000000) (h0 : 2 ≤ s.n) (w : World) (H : Rdr w a p g ds s) :
    Calls Tryd.prog 113 #[pt a] w (RdrPost w a p g ds (.int .i64 (Gm.rdTime s).1) { s with c := (Gm.rdTime s).2 }) := by
  have c0 : w.cell? ⟨a, 0, none⟩ = some (.int .i64 ((s.n : Nat) : Int)) := (cell_of_row _ _ 0 _ _ _ H.row).trans rfl
  have e : Gm.rdTime s = (Gm.wI (s.last.t + Gm.i64 ((s.gap + (Gm.stepR s.c).1) % 18446744073709551616)), (Gm.stepR s.c).2) := by unfold Gm.rdTime; rw [if_neg (by omega), if_neg (by omega)]
  rw [e]
  have hn1 : ((s.n : Int) == 0) = false := by simp; omega
  have hn2 : ((s.n : Int) == 1) = false := by simp; omega
  have hn3 : ¬ (s.n : Int) = 0 := by omega
  have hn4 : ¬ (s.n : Int) = 1 := by omega
  have C := Lib.hid (fun W (h : Rdr W a p g ds s) => step_rdr a p g ds s hbd W h)
  obtain ⟨V, hV⟩ : ∃ V, (Gm.stepR s.c).1 = V := ⟨_, rfl⟩
  obtain ⟨s4, hs4⟩ : ∃ s4 : Gm.Rd, { s with c := (Gm.stepR s.c).2 } = s4 := ⟨_, rfl⟩
  have e1 : s4.last.t = s.last.t ∧ s4.gap = s.gap := by rw [← hs4]; exact ⟨rfl, rfl⟩
  rw [hV, hs4] at C
  simp only
  rw [hV, hs4]
  obtain ⟨t, ht⟩ : ∃ t, s.last.t = t := ⟨_, rfl⟩
  obtain ⟨G, hG⟩ : ∃ G, s.gap = G := ⟨_, rfl⟩
  rw [ht, hG] at e1 ⊢
  have hw : IntKind.i64.wrap (t + IntKind.i64.wrap (IntKind.u64.wrap ((G : Int) + (V : Int)))) = Gm.wI (t + Gm.i64 ((G + V) % 18446744073709551616)) := by rw [u64_add, i64_of _ (Nat.mod_lt _ (by decide)), wI_is]
  obtain ⟨R, hR⟩ : ∃ R, Gm.wI (t + Gm.i64 ((G + V) % 18446744073709551616)) = R := ⟨_, rfl⟩
  rw [hR] at hw ⊢
  have HW := Lib.hid hw
  have HD := Lib.hid (show Rdr w.drew a p g ds s from H.below (drew_below w))
  have q1 : w.drew.cell? ⟨a, 1, none⟩ = some (.int .i64 t) := by
    rw [← ht]
    exact (cell_of_row _ _ 1 _ _ _ HD.out.row).trans rfl
  have q3 : w.drew.cell? ⟨a, 3, none⟩ = some (.int .u64 ((G : Nat) : Int)) := by
    rw [← hG]
    exact (cell_of_row _ _ 3 _ _ _ HD.out.row).trans rfl
  have HO := Lib.hid (show Only [a, p] w w.drew from (Only.refl _ _).drew)
  have HE := Lib.hid e1
  clear e H h0 hV hs4 hR hw e1
  unfold pt at *
  go_enter Tryd.func113, Tryd.ntmps113
  go_wp2_with fail
  go_region_with (first
    | (go_at_call 120; refine (C.out _ HD.out).mono ?_; rintro e w9 ⟨rfl, hR9, hO9⟩; have q19 : w9.cell? ⟨a, 1, none⟩ = some (.int .i64 t) := (by rw [← HE.out.1]; exact (cell_of_row _ _ 1 _ _ _ hR9.row).trans rfl); have q39 : w9.cell? ⟨a, 3, none⟩ = some (.int .u64 ((G : Nat) : Int)) := (by rw [← HE.out.2]; exact (cell_of_row _ _ 3 _ _ _ hR9.row).trans rfl); have hF9 := Lib.hid (And.intro hR9 (HO.out.trans hO9 (fun _ hx => .inl hx))); clear hR9 hO9))
  all_goals
    go_wp2_with fail
    go_ret
    exact ⟨by rw [← HW.out]; rfl, hF9.out.1, hF9.out.2⟩
theorem time_rdr (a p g : Nat) (ds : List Nat) (s : Gm.Rd) (hbd : ds.length ≤ 1000000000) (w : World) (H : Rdr w a p g ds s) :
    Calls Tryd.prog 113 #[pt a] w (RdrPost w a p g ds (.int .i64 (Gm.rdTime s).1) { s with c := (Gm.rdTime s).2 }) := by
  by_cases h0 : s.n = 0
  · exact time_first a p g ds s hbd h0 w H
  · by_cases h1 : s.n = 1
    · exact time_second a p g ds s hbd h1 w H
    · exact time_later a p g ds s hbd (by omega) w H
end Go.Proofs.YtdlifcpdlbmijaaDoor
namespace Go.Proofs.YtdlifcpdlbmijaaDoor
set_option linter.unusedVariables false
set_option linter.unusedSimpArgs false
open Go.RowKit Go.PlainAid Go.Shelf
open B2 (Only Bys Row cellsOf)
open Gm (St Smp)
/-- what a reader may be -/
structure RdI (s : Gm.Rd) : Prop where
  win : s.ws ≤ s.we ∧ s.we ≤ 64
  v : s.last.v < 18446744073709551616
  t : -9223372036854775808 ≤ s.last.t ∧ s.last.t ≤ 9223372036854775807
theorem rdTime_bd (s : Gm.Rd) : -9223372036854775808 ≤ (Gm.rdTime s).1 ∧ (Gm.rdTime s).1 ≤ 9223372036854775807 := by
  unfold Gm.rdTime
  split
  · have h : (Gm.rvar s.c).1 < 18446744073709551616 := B2.Bt.rv_lt _
    simp only
    unfold B2.Bt.uz
    split <;> omega
  · split <;> (simp only; unfold Gm.wI; omega)
theorem xor_bd (a b : Nat) (h : a < 18446744073709551616) : (a ^^^ (b % 18446744073709551616)) < 18446744073709551616 := Nat.xor_lt_two_pow (n := 64) h (Nat.mod_lt _ (by decide))
theorem rdNum_bd (s : Gm.Rd) (c : Gm.Cx) (h : RdI s) : (Gm.rdNum s c).1 < 18446744073709551616 ∧ (Gm.rdNum s c).2.1 ≤ (Gm.rdNum s c).2.2.1 ∧ (Gm.rdNum s c).2.2.1 ≤ 64 := by
  unfold Gm.rdNum
  by_cases h0 : s.n = 0
  · rw [if_pos h0]
    exact ⟨rb_lt 64 c (by decide), h.win⟩
  · rw [if_neg h0]
    simp only
    generalize Gm.rb 1 c = r
    by_cases h1 : r.1 = 0
    · rw [if_pos h1]
      exact ⟨h.v, h.win⟩
    · rw [if_neg h1]
      generalize Gm.rb 1 r.2 = u
      have hW : ((if u.1 = 1 then Gm.rdWin s.ws s.we u.2 else (s.ws, s.we, u.2)).1 ≤ (if u.1 = 1 then Gm.rdWin s.ws s.we u.2 else (s.ws, s.we, u.2)).2.1) ∧ (if u.1 = 1 then Gm.rdWin s.ws s.we u.2 else (s.ws, s.we, u.2)).2.1 ≤ 64 := by
        by_cases hu : u.1 = 1
        · rw [if_pos hu]; exact rdWin_win _ _ _ h.win
        · rw [if_neg hu]; exact h.win
      generalize (if u.1 = 1 then Gm.rdWin s.ws s.we u.2 else (s.ws, s.we, u.2)) = W at *
      exact ⟨xor_bd _ _ h.v, hW⟩
theorem rdNext_I (s : Gm.Rd) (h : RdI s) : RdI (Gm.rdNext s).2 :=
  ⟨(rdNum_bd s _ h).2, (rdNum_bd s _ h).1, rdTime_bd s⟩
theorem number_rdr (a p g : Nat) (ds : List Nat) (s : Gm.Rd) (hbd : ds.length ≤ 1000000000) (hI : RdI s) (w : World) (H : Rdr w a p g ds s) :
    Calls Tryd.prog 114 #[pt a] w (RdrPost w a p g ds (.int .u64 (((Gm.rdNum s s.c).1 : Nat) : Int)) { s with ws := (Gm.rdNum s s.c).2.1, we := (Gm.rdNum s s.c).2.2.1, c := (Gm.rdNum s s.c).2.2.2 }) := by
  by_cases h0 : s.n = 0
  · exact number_first a p g ds s hbd h0 w H
  · have h := rb_lt 1 s.c (by decide)
    by_cases h1 : (Gm.rb 1 s.c).1 = 0
    · exact number_same a p g ds s hbd h0 h1 w H
    · exact number_more a p g ds s hbd hI.win hI.v h0 (by omega) w H
/-- the sample turned -/
theorem Rdr.push {w w' : World} {a p g : Nat} {ds : List Nat} {s : Gm.Rd} (h : Rdr w a p g ds s) (x : Smp) (G : Nat) (hr : w'.heap[a]? = some (.cells (rowP (s.n + 1) x.t x.v G (.int .i64 ((s.ws : Nat) : Int)) (.int .i64 ((s.we : Nat) : Int)) (pt p) (.bool s.c.2)) 239 (0, 0))) (ho : Only [a] w w') : Rdr w' a p g ds ⟨s.n + 1, x, G, s.ws, s.we, s.c⟩ := by
  obtain ⟨at_, k1, k2⟩ := h.bits
  have hn := h.ne
  exact ⟨hr, ⟨at_, k1.only ho (by simp; omega) (by simp; omega), k2⟩, h.ne⟩
set_option maxHeartbeats 8000000 in
set_option maxRecDepth 100000 in
theorem next_rdr (a p g : Nat) (ds : List Nat) (s : Gm.Rd) (hbd : ds.length ≤ 1000000000) (hI : RdI s) (hN : s.n ≤ 9223372036854775806) (w : World) (H : Rdr w a p g ds s) :
    Calls Tryd.prog 95 #[pt a] w (RdrPost w a p g ds (smV (Gm.rdNext s).1) (Gm.rdNext s).2) := by
  have hl := H.lt
  obtain ⟨n, hn⟩ : ∃ n, w.heap.size = n := ⟨_, rfl⟩
  rw [hn] at hl
  have hA := (Below.refl w.heap.size w).alloc (Nat.le_refl _) (.cells #[.int .i64 0, .int .u64 0] 70)
  have hr0 := heap_alloc_new w (.cells #[.int .i64 0, .int .u64 0] 70)
  rw [hn] at hr0
  have C1 := Lib.hid (time_rdr a p g ds s hbd _ (H.below hA))
  have hs1 : ∃ s1 : Gm.Rd, { s with c := (Gm.rdTime s).2 } = s1 := ⟨_, rfl⟩
  obtain ⟨s1, hs1⟩ := hs1
  have hI1 : RdI s1 := by rw [← hs1]; exact ⟨hI.win, hI.v, hI.t⟩
  have e1 : Gm.rdNum s1 s1.c = Gm.rdNum s (Gm.rdTime s).2 := by rw [← hs1]; rfl
  have C2 := Lib.hid (fun W (h : Rdr W a p g ds s1) => number_rdr a p g ds s1 hbd hI1 W h)
  have hbt := rdTime_bd s
  have hbn := rdNum_bd s (Gm.rdTime s).2 hI
  rw [e1] at C2
  rw [hs1] at C1
  obtain ⟨t, ht⟩ : ∃ t, (Gm.rdTime s).1 = t := ⟨_, rfl⟩
  obtain ⟨v, hv⟩ : ∃ v, (Gm.rdNum s (Gm.rdTime s).2).1 = v := ⟨_, rfl⟩
  obtain ⟨s2, hs2⟩ : ∃ s2 : Gm.Rd, { s1 with ws := (Gm.rdNum s (Gm.rdTime s).2).2.1, we := (Gm.rdNum s (Gm.rdTime s).2).2.2.1, c := (Gm.rdNum s (Gm.rdTime s).2).2.2.2 } = s2 := ⟨_, rfl⟩
  rw [hv, hs2] at C2
  rw [ht] at C1 hbt
  rw [hv] at hbn
  have eN : Gm.rdNext s = (⟨t, v⟩, ⟨s2.n + 1, ⟨t, v⟩, Gm.gapOf t s2.last.t, s2.ws, s2.we, s2.c⟩) := by
    unfold Gm.rdNext
    simp only
    rw [ht, hv, ← hs2, ← hs1]
  have e2 : s2.n = s.n ∧ s2.last = s.last := by rw [← hs2, ← hs1]; exact ⟨rfl, rfl⟩
  rw [eN]
  have CP := Lib.hid (fun W (h : Rdr W a p g ds s2) => push_any a s2.n s2.last.v s2.gap v s2.last.t t (by rw [e2.2]; exact hI.t) hbt (by omega) 239 (.int .i64 ((s2.ws : Nat) : Int)) (.int .i64 ((s2.we : Nat) : Int)) (pt p) (.bool s2.c.2) W h.row)
  have HA := Lib.hid (And.intro hA hl)
  have HR0 := Lib.hid hr0
  clear hA hr0 H hs1 hI1 e1 hbt hbn ht hv hs2 eN e2 hI hN
  simp only [smV]
  unfold pt at *
  go_enter Tryd.func95, Tryd.ntmps95
  go_wp2_with fail
  go_at_call 113
  refine C1.out.mono ?_
  rintro e w1 ⟨rfl, hR1, hO1⟩
  have C2 := Lib.hid (C2.out w1 hR1)
  have HS1 := Lib.hid (show w1.heap[n]? = some (.cells #[.int .i64 0, .int .u64 0] 70 (0, 0)) from (hO1.block n (Array.getElem?_eq_some_iff.1 HR0.out).1 (by have := HA.out.2; simp; omega)).trans HR0.out)
  have HO1 := Lib.hid (show Only [a, p] w w1 from (Only.of_below HA.out.1 [a, p]).trans hO1 (fun _ hx => .inl hx))
  clear hR1 hO1 C1 HR0
  go_wp2_with fail
  go_at_call 114
  refine C2.out.mono ?_
  rintro e w2 ⟨rfl, hR2, hO2⟩
  have hS2 : w2.heap[n]? = some (.cells #[.int .i64 0, .int .u64 0] 70 (0, 0)) := (hO2.block n (Array.getElem?_eq_some_iff.1 HS1.out).1 (by have := HA.out.2; simp; omega)).trans HS1.out
  have hO2 := HO1.out.trans hO2 (fun _ hx => .inl hx)
  have hAl := (Below.refl w2.heap.size w2).alloc (Nat.le_refl _) (.cells #[.int .i64 t, .int .u64 ((v : Nat) : Int)] 70)
  have hr3 := heap_alloc_new w2 (.cells #[.int .i64 t, .int .u64 ((v : Nat) : Int)] 70)
  have hS3 : (w2.alloc (.cells #[.int .i64 t, .int .u64 ((v : Nat) : Int)] 70)).drew.heap[n]? = some (.cells #[.int .i64 0, .int .u64 0] 70 (0, 0)) := (hAl.block n (Array.getElem?_eq_some_iff.1 hS2).1).trans hS2
  have HR3 := Lib.hid (show Rdr (w2.alloc (.cells #[.int .i64 t, .int .u64 ((v : Nat) : Int)] 70)).drew a p g ds s2 from (hR2.below hAl).below (drew_below _))
  have HO3 := Lib.hid (show Only [a, p] w (w2.alloc (.cells #[.int .i64 t, .int .u64 ((v : Nat) : Int)] 70)).drew from (hO2.alloc _).drew)
  have q0 : (w2.alloc (.cells #[.int .i64 t, .int .u64 ((v : Nat) : Int)] 70)).drew.cell? ⟨w2.heap.size, 0, none⟩ = some (.int .i64 t) := (cell_of_row _ _ 0 _ _ _ hr3).trans rfl
  have q1 : (w2.alloc (.cells #[.int .i64 t, .int .u64 ((v : Nat) : Int)] 70)).drew.cell? ⟨w2.heap.size, 1, none⟩ = some (.int .u64 ((v : Nat) : Int)) := (cell_of_row _ _ 1 _ _ _ hr3).trans rfl
  have hB : w2.heap.size ≠ a ∧ w2.heap.size ≠ n := by
    have h1 := hR2.lt
    have h2 := (Array.getElem?_eq_some_iff.1 hS2).1
    omega
  have HS3 := Lib.hid hS3
  clear hAl hr3 hS2 hS3 hO2 hR2 C2 HS1 HO1
  go_wp2_with fail
  generalize w2.alloc (.cells #[.int .i64 t, .int .u64 ((v : Nat) : Int)] 70) = W at *
  generalize w2.heap.size = B at *
  go_region_with (first
    | (go_at_call 84; refine (CP.out _ HR3.out).mono ?_; rintro e w9 ⟨rfl, hr9, hO9⟩; have q09 := Only_cell hO9 q0 (by have := hB; simp; omega); have q19 := Only_cell hO9 q1 (by have := hB; simp; omega); have hF9 := Lib.hid (And.intro (HR3.out.push ⟨t, v⟩ _ hr9 hO9) (And.intro (HO3.out.trans hO9 (fun x hx => .inl (by simp at hx ⊢; exact .inl hx))) ((hO9.block n (Array.getElem?_eq_some_iff.1 HS3.out).1 (by have := HA.out.2; simp; omega)).trans HS3.out))); clear hr9 hO9))
  all_goals
    have hS9 := hF9.out.2.2
    have f0 : w9.frozen? ⟨n, 0, none⟩ = false := frozen_of_row _ _ _ _ _ hS9
    have f1 : (w9.setCell ⟨n, 0, none⟩ (.int .i64 t)).frozen? ⟨n, 1, none⟩ = false := by rw [World.frozen?_setCell]; exact frozen_of_row _ _ _ _ _ hS9
    have z0 : w9.cell? ⟨n, 0, none⟩ = some (.int .i64 0) := (cell_of_row _ _ 0 _ _ _ hS9).trans rfl
    have z1 : (w9.setCell ⟨n, 0, none⟩ (.int .i64 t)).cell? ⟨n, 1, none⟩ = some (.int .u64 0) := (cell_of_row _ _ 1 _ _ _ (heap_setCell_same _ _ _ _ _ _ hS9)).trans rfl
    have hE : ((w9.setCell ⟨n, 0, none⟩ (.int .i64 t)).setCell ⟨n, 1, none⟩ (.int .u64 ((v : Nat) : Int))).heap[n]? = some (.cells #[.int .i64 t, .int .u64 ((v : Nat) : Int)] 70 (0, 0)) := by
      rw [heap_setCell_same _ _ _ _ _ _ (heap_setCell_same _ _ _ _ _ _ hS9)]
      rfl
    have hOO : Only [n] w9 ((w9.setCell ⟨n, 0, none⟩ (.int .i64 t)).setCell ⟨n, 1, none⟩ (.int .u64 ((v : Nat) : Int))) := ((Only.refl [n] w9).setCell (p := ⟨n, 0, none⟩) (.inl (by simp)) _).setCell (p := ⟨n, 1, none⟩) (.inl (by simp)) _
    have HE := Lib.hid (And.intro hE (And.intro (hF9.out.1.only hOO (by have := HA.out.2; simp; omega) (by have := HA.out.2; simp; omega) (by have := HA.out.2; simp; omega)) (hF9.out.2.1.trans hOO (fun x hx => .inr (by simp at hx; omega)))))
    clear hE hOO hS9
    go_wp2_with fail
    refine bodyPost_ret (v := .agg #[.int .i64 t, .int .u64 ((v : Nat) : Int)]) ?_ ?_ ?_
    · exact results_cell_row (fn := Tryd.f95) (p := 2) (ty := 70) rfl _ _ n 70 _ (0, 0) _ rfl HE.out.1 Tryd.underlying70 rfl (by kernel_rfl)
    · rfl
    · exact ⟨rfl, HE.out.2.1, HE.out.2.2⟩
end Go.Proofs.YtdlifcpdlbmijaaDoor
namespace Go.Proofs.YtdlifcpdlbmijaaDoor.Gm
open B2.Bt
set_option linter.unusedVariables false
/-- the samples of chunk j -/
def grp (l : List Smp) (j : Nat) : List Smp := (l.drop (120 * j)).take 120
def cnt (n : Nat) : Nat := (n + 119) / 120
theorem grp_get (l : List Smp) (j r : Nat) (h : r < 120) : (grp l j)[r]? = l[120 * j + r]? := by
  unfold grp
  rw [List.getElem?_take, if_pos h, List.getElem?_drop]
theorem grp_all {l m : List Smp} (h : ∀ j, grp l j = grp m j) : l = m := by
  apply List.ext_getElem?
  intro i
  have h1 : (grp l (i / 120))[i % 120]? = (grp m (i / 120))[i % 120]? := by rw [h]
  rw [grp_get _ _ _ (by omega), grp_get _ _ _ (by omega), show 120 * (i / 120) + i % 120 = i by omega] at h1
  exact h1
theorem grp_past (l : List Smp) (j : Nat) (h : cnt l.length ≤ j) : grp l j = [] := by
  unfold grp cnt at *
  rw [List.drop_of_length_le (by omega)]; rfl
theorem grp_mem {l : List Smp} {j : Nat} {a : Smp} (h : a ∈ grp l j) : a ∈ l := List.mem_of_mem_drop (List.mem_of_mem_take h)
theorem grp_len (l : List Smp) (j : Nat) : (grp l j).length = min 120 (l.length - 120 * j) := by unfold grp; rw [List.length_take, List.length_drop]
/-- a chunk as it is told -/
structure Chk where
  frm : Int
  to : Int
  n : Nat
  bs : List Nat
deriving DecidableEq
def IsChk (g : List Smp) (c : Chk) : Prop := c.frm = (run g).frm ∧ c.to = (run g).last.t ∧ c.n = (run g).n ∧ ∃ k, k < 8 ∧ Packs k c.bs (run g).out
structure Enc (l : List Smp) (cs : List Chk) : Prop where
  len : cs.length = cnt l.length
  each : ∀ j (h : j < cs.length), IsChk (grp l j) cs[j]
theorem chk_same {g h : List Smp} {c d : Chk} (hg : ∀ a ∈ g, OkS a) (hh : ∀ a ∈ h, OkS a) (C : IsChk g c) (D : IsChk h d) (e : c = d) : g = h := by
  subst e
  obtain ⟨c1, c2, c3, k, hk, hP⟩ := C
  obtain ⟨d1, d2, d3, j, hj, hQ⟩ := D
  have hn : g.length = h.length := by rw [← run_n, ← run_n, ← c3, ← d3]
  exact run_inj g h hg hh hn (List.replicate k false) (List.replicate j false) (hP.2.symm.trans hQ.2)
theorem chk_one {g : List Smp} {c d : Chk} (C : IsChk g c) (D : IsChk g d) : c = d := by
  obtain ⟨c1, c2, c3, k, hk, hP⟩ := C
  obtain ⟨d1, d2, d3, j, hj, hQ⟩ := D
  obtain ⟨cf, ct, cn, cb⟩ := c
  obtain ⟨df, dt, dn, db⟩ := d
  simp only at c1 c2 c3 d1 d2 d3 hP hQ
  subst c1; subst c2; subst c3; subst d1; subst d2; subst d3
  rw [packs_unique hP hQ hk hj]
theorem enc_same {l m : List Smp} {cs ds : List Chk} (hl : ∀ a ∈ l, OkS a) (hm : ∀ a ∈ m, OkS a) (C : Enc l cs) (D : Enc m ds) : cs = ds ↔ l = m := by
  constructor
  · intro e
    subst e
    refine grp_all fun j => ?_
    by_cases h : j < cs.length
    · exact chk_same (fun a ha => hl a (grp_mem ha)) (fun a ha => hm a (grp_mem ha)) (C.each j h) (D.each j h) rfl
    · rw [grp_past l j (by have := C.len; omega), grp_past m j (by have := D.len; omega)]
  · intro e
    subst e
    apply List.ext_getElem
    · rw [C.len, D.len]
    · intro j h1 h2
      exact chk_one (C.each j h1) (D.each j h2)
/-- samples made to rise -/
def stp (t : Int) : Int := (if t < 0 then -(t + 1) else t) % 4398046511104 + 1
def ris : Int → List Smp → List Smp
  | _, [] => []
  | t, a :: l => ⟨t + stp a.t, a.v⟩ :: ris (t + stp a.t) l
def rising (l : List Smp) : List Smp := ris (-9007199254740992) (l.take 2000)
/-- the time behind some -/
def risT : Int → List Smp → Int
  | t, [] => t
  | t, a :: l => risT (t + stp a.t) l
theorem stp_pos (t : Int) : 1 ≤ stp t ∧ stp t ≤ 4398046511104 := by unfold stp; omega
theorem ris_len (l : List Smp) : ∀ t, (ris t l).length = l.length := by
  induction l with
  | nil => intro t; rfl
  | cons a l ih => intro t; simp [ris, ih]
theorem ris_snoc (l : List Smp) (a : Smp) : ∀ t, ris t (l ++ [a]) = ris t l ++ [⟨risT t l + stp a.t, a.v⟩] := by
  induction l with
  | nil => intro t; rfl
  | cons b l ih => intro t; simp [ris, risT, ih]
theorem risT_snoc (l : List Smp) (a : Smp) : ∀ t, risT t (l ++ [a]) = risT t l + stp a.t := by
  induction l with
  | nil => intro t; rfl
  | cons b l ih => intro t; simp [risT, ih]
theorem risT_bound (l : List Smp) : ∀ t, t ≤ risT t l ∧ risT t l ≤ t + 4398046511104 * l.length := by
  induction l with
  | nil => intro t; simp [risT]
  | cons a l ih =>
    intro t
    have h1 := ih (t + stp a.t)
    have h2 := stp_pos a.t
    simp only [risT, List.length_cons]
    omega
theorem ris_facts (l : List Smp) : ∀ t, (∀ a ∈ ris t l, t < a.t ∧ a.t ≤ t + 4398046511104 * l.length) ∧ (ris t l).Pairwise (fun a b => a.t < b.t) := by
  induction l with
  | nil => intro t; exact ⟨fun a h => (by cases h), List.Pairwise.nil⟩
  | cons a l ih =>
    intro t
    obtain ⟨h1, h2⟩ := ih (t + stp a.t)
    have h3 := stp_pos a.t
    refine ⟨fun b hb => ?_, List.Pairwise.cons (fun b hb => (h1 b hb).1) h2⟩
    rw [ris] at hb
    rcases List.mem_cons.1 hb with rfl | hb
    · simp only [List.length_cons]; omega
    · have := h1 b hb
      simp only [List.length_cons]; omega
theorem ris_v (l : List Smp) : ∀ t, (∀ a ∈ l, OkS a) → ∀ a ∈ ris t l, a.v < 18446744073709551616 := by
  induction l with
  | nil => intro t _ a h; cases h
  | cons a l ih =>
    intro t hl b hb
    rw [ris] at hb
    rcases List.mem_cons.1 hb with rfl | hb
    · exact (hl a (by simp)).2.2
    · exact ih _ (fun x hx => hl x (by simp [hx])) b hb
/-- samples that rise, in range -/
structure Rising (l : List Smp) : Prop where
  len : l.length ≤ 2000
  ok : ∀ a ∈ l, OkS a
  inr : ∀ a ∈ l, -9007199254740992 ≤ a.t ∧ a.t ≤ 9007199254740992
  up : ∀ i (h : i + 1 < l.length), l[i].t < l[i + 1].t
theorem rising_is (l : List Smp) (hl : ∀ a ∈ l, OkS a) : Rising (rising l) := by
  have h0 : (l.take 2000).length ≤ 2000 := by simp; omega
  obtain ⟨h1, h2⟩ := ris_facts (l.take 2000) (-9007199254740992)
  have h3 := ris_v (l.take 2000) (-9007199254740992) (fun a ha => hl a (List.mem_of_mem_take ha))
  refine ⟨by unfold rising; rw [ris_len]; exact h0, fun a ha => ?_, fun a ha => ?_, fun i hi => ?_⟩
  · have := h1 a ha
    exact ⟨by omega, by omega, h3 a ha⟩
  · have := h1 a ha
    omega
  · have hi' : i + 1 < (ris (-9007199254740992) (l.take 2000)).length := hi
    exact List.pairwise_iff_getElem.1 h2 i (i + 1) (by omega) hi' (by omega)
end Go.Proofs.YtdlifcpdlbmijaaDoor.Gm
