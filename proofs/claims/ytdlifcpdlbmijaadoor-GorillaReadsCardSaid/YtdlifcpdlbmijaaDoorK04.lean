/-
  PACKED: GrD, GrE, GrF, B2Open, B2RefA, B2RefB, B2RefC, B2RefD
-/
import Derived.Test.YtdlifcpdlbmijaaDoorK03
import Derived.Test.YtdlifcpdlbmijaaDoorK02
import Derived.OpenShut
import Derived.Deep.RegionHeld3
set_option linter.unusedVariables false
set_option linter.unusedSimpArgs false
namespace Go.Proofs.YtdlifcpdlbmijaaDoor
set_option linter.unusedVariables false
set_option linter.unusedSimpArgs false
open Go.RowKit Go.PlainAid Go.Shelf
open B2 (Only Bys Row cellsOf)
open Gm (St Smp)
/-- what the search for a row keeps: how many bits of the mark there are, the mark, the reader -/
structure Stp (w : World) (a p g h m r : Nat) (ds : List Nat) (s : Gm.Rd) (hv mv : Nat) : Prop where
  rd : Rdr w a p g ds s
  kh : w.heap[h]? = some (.cells #[.int .i64 ((hv : Nat) : Int)] 3 (0, 0))
  km : w.heap[m]? = some (.cells #[.int .u64 ((mv : Nat) : Int)] 67 (0, 0))
  kr : w.heap[r]? = some (.cells #[pt a] 256 (0, 0))
  nh : h ≠ a ∧ h ≠ p ∧ h ≠ g ∧ h ≠ m ∧ h ≠ r
  nm : m ≠ a ∧ m ≠ p ∧ m ≠ g ∧ m ≠ r
  nr : r ≠ a ∧ r ≠ p
theorem Stp.lt {w : World} {a p g h m r : Nat} {ds : List Nat} {s : Gm.Rd} {hv mv : Nat} (H : Stp w a p g h m r ds s hv mv) : a < w.heap.size ∧ p < w.heap.size ∧ g < w.heap.size ∧ h < w.heap.size ∧ m < w.heap.size ∧ r < w.heap.size :=
  ⟨H.rd.lt.1, H.rd.lt.2.1, H.rd.lt.2.2, (Array.getElem?_eq_some_iff.1 H.kh).1, (Array.getElem?_eq_some_iff.1 H.km).1, (Array.getElem?_eq_some_iff.1 H.kr).1⟩
theorem Stp.only {w w' : World} {a p g h m r : Nat} {ds : List Nat} {s : Gm.Rd} {hv mv : Nat} (H : Stp w a p g h m r ds s hv mv) {S : List Nat} (ho : Only S w w') (h1 : a ∉ S) (h2 : p ∉ S) (h3 : g ∉ S) (h4 : h ∉ S) (h5 : m ∉ S) (h6 : r ∉ S) : Stp w' a p g h m r ds s hv mv :=
  ⟨H.rd.only ho h1 h2 h3, (ho.block h H.lt.2.2.2.1 h4).trans H.kh, (ho.block m H.lt.2.2.2.2.1 h5).trans H.km, (ho.block r H.lt.2.2.2.2.2 h6).trans H.kr, H.nh, H.nm, H.nr⟩
theorem Stp.below {w w' : World} {a p g h m r : Nat} {ds : List Nat} {s : Gm.Rd} {hv mv : Nat} (H : Stp w a p g h m r ds s hv mv) (hb : Below w.heap.size w w') : Stp w' a p g h m r ds s hv mv := H.only (Only.of_below hb []) (by simp) (by simp) (by simp) (by simp) (by simp) (by simp)
theorem Stp.read {w w' : World} {a p g h m r : Nat} {ds : List Nat} {s s' : Gm.Rd} {hv mv : Nat} (H : Stp w a p g h m r ds s hv mv) (hR : Rdr w' a p g ds s') (ho : Only [a, p] w w') : Stp w' a p g h m r ds s' hv mv :=
  ⟨hR, (ho.block h H.lt.2.2.2.1 (by have := H.nh; simp; omega)).trans H.kh, (ho.block m H.lt.2.2.2.2.1 (by have := H.nm; simp; omega)).trans H.km, (ho.block r H.lt.2.2.2.2.2 (by have := H.nr; simp; omega)).trans H.kr, H.nh, H.nm, H.nr⟩
theorem Stp.setM {w : World} {a p g h m r : Nat} {ds : List Nat} {s : Gm.Rd} {hv mv : Nat} (H : Stp w a p g h m r ds s hv mv) (x : Nat) : Stp (w.setCell ⟨m, 0, none⟩ (.int .u64 ((x : Nat) : Int))) a p g h m r ds s hv x := by
  have hO := (Only.refl [m] w).setCell (p := ⟨m, 0, none⟩) (.inl (by simp)) (.int .u64 ((x : Nat) : Int))
  have h1 := H.nh
  have h2 := H.nm
  have h3 := H.nr
  have hl := H.lt
  refine ⟨H.rd.only hO (by simp; omega) (by simp; omega) (by simp; omega), (hO.block h hl.2.2.2.1 (by simp; omega)).trans H.kh, ?_, (hO.block r hl.2.2.2.2.2 (by simp; omega)).trans H.kr, h1, h2, h3⟩
  rw [heap_setCell_same _ _ _ _ _ _ H.km]
  rfl
theorem Stp.setH {w : World} {a p g h m r : Nat} {ds : List Nat} {s : Gm.Rd} {hv mv : Nat} (H : Stp w a p g h m r ds s hv mv) (x : Nat) : Stp (w.setCell ⟨h, 0, none⟩ (.int .i64 ((x : Nat) : Int))) a p g h m r ds s x mv := by
  have hO := (Only.refl [h] w).setCell (p := ⟨h, 0, none⟩) (.inl (by simp)) (.int .i64 ((x : Nat) : Int))
  have h1 := H.nh
  have h2 := H.nm
  have h3 := H.nr
  have hl := H.lt
  refine ⟨H.rd.only hO (by simp; omega) (by simp; omega) (by simp; omega), ?_, (hO.block m hl.2.2.2.2.1 (by simp; omega)).trans H.km, (hO.block r hl.2.2.2.2.2 (by simp; omega)).trans H.kr, h1, h2, h3⟩
  rw [heap_setCell_same _ _ _ _ _ _ H.kh]
  rfl
/-- and the row at hand in its block -/
structure StpB (w : World) (a p g h m r : Nat) (ds : List Nat) (s : Gm.Rd) (hv mv B M K u v : Nat) : Prop where
  st : Stp w a p g h m r ds s hv mv
  bx : w.heap[B]? = some (.cells #[.int .u64 ((M : Nat) : Int), .int .i64 ((K : Nat) : Int), .int .u64 ((u : Nat) : Int), .int .i64 ((v : Nat) : Int)] 247 (0, 0))
  nb : B ≠ a ∧ B ≠ p ∧ B ≠ h ∧ B ≠ m
theorem StpB.read {w w' : World} {a p g h m r : Nat} {ds : List Nat} {s s' : Gm.Rd} {hv mv B M K u v : Nat} (H : StpB w a p g h m r ds s hv mv B M K u v) (hR : Rdr w' a p g ds s') (ho : Only [a, p] w w') : StpB w' a p g h m r ds s' hv mv B M K u v :=
  ⟨H.st.read hR ho, (ho.block B (Array.getElem?_eq_some_iff.1 H.bx).1 (by have := H.nb; simp; omega)).trans H.bx, H.nb⟩
theorem StpB.drew {w : World} {a p g h m r : Nat} {ds : List Nat} {s : Gm.Rd} {hv mv B M K u v : Nat} (H : StpB w a p g h m r ds s hv mv B M K u v) : StpB w.drew a p g h m r ds s hv mv B M K u v :=
  ⟨H.st.below (drew_below w), H.bx, H.nb⟩
theorem StpB.setM {w : World} {a p g h m r : Nat} {ds : List Nat} {s : Gm.Rd} {hv mv B M K u v : Nat} (H : StpB w a p g h m r ds s hv mv B M K u v) (x : Nat) : StpB (w.setCell ⟨m, 0, none⟩ (.int .u64 ((x : Nat) : Int))) a p g h m r ds s hv x B M K u v :=
  ⟨H.st.setM x, (Below.heap_setCell _ _ _ _ (show ¬ B = m from H.nb.2.2.2)).trans H.bx, H.nb⟩
theorem StpB.setH {w : World} {a p g h m r : Nat} {ds : List Nat} {s : Gm.Rd} {hv mv B M K u v : Nat} (H : StpB w a p g h m r ds s hv mv B M K u v) (x : Nat) : StpB (w.setCell ⟨h, 0, none⟩ (.int .i64 ((x : Nat) : Int))) a p g h m r ds s x mv B M K u v :=
  ⟨H.st.setH x, (Below.heap_setCell _ _ _ _ (show ¬ B = h from H.nb.2.2.1)).trans H.bx, H.nb⟩
theorem StpB.cs {w : World} {a p g h m r : Nat} {ds : List Nat} {s : Gm.Rd} {hv mv B M K u v : Nat} (H : StpB w a p g h m r ds s hv mv B M K u v) :
    w.cell? ⟨h, 0, none⟩ = some (.int .i64 ((hv : Nat) : Int)) ∧ w.frozen? ⟨h, 0, none⟩ = false ∧ w.cell? ⟨m, 0, none⟩ = some (.int .u64 ((mv : Nat) : Int)) ∧ w.frozen? ⟨m, 0, none⟩ = false ∧ w.cell? ⟨r, 0, none⟩ = some (pt a) ∧ w.cell? ⟨B, 0, none⟩ = some (.int .u64 ((M : Nat) : Int)) ∧ w.cell? ⟨B, 1, none⟩ = some (.int .i64 ((K : Nat) : Int)) :=
  ⟨(cell_of_row _ _ 0 _ _ _ H.st.kh).trans rfl, frozen_of_row _ _ _ _ _ H.st.kh, (cell_of_row _ _ 0 _ _ _ H.st.km).trans rfl, frozen_of_row _ _ _ _ _ H.st.km, (cell_of_row _ _ 0 _ _ _ H.st.kr).trans rfl, (cell_of_row _ _ 0 _ _ _ H.bx).trans rfl, (cell_of_row _ _ 1 _ _ _ H.bx).trans rfl⟩
/-- a mark with a row's more bits -/
def mrk (m l x : Nat) : Nat := (m <<< l) % 18446744073709551616 ||| x
theorem mrk_lt (m l x : Nat) (hx : x < 18446744073709551616) : mrk m l x < 18446744073709551616 := Nat.or_lt_two_pow (n := 64) (Nat.mod_lt _ (by decide)) hx
set_option maxHeartbeats 16000000 in
set_option maxRecDepth 100000 in
theorem mark126_any (a p g h m r : Nat) (ds : List Nat) (s : Gm.Rd) (hv mv M K u v : Nat) (hbd : ds.length ≤ 1000000000) (hM : M < 18446744073709551616) (hmv : mv < 18446744073709551616) (hK : hv ≤ K ∧ K ≤ 64) (w : World) (H : Stp w a p g h m r ds s hv mv) :
    Calls Tryd.prog 126 #[.agg #[.int .u64 ((M : Nat) : Int), .int .i64 ((K : Nat) : Int), .int .u64 ((u : Nat) : Int), .int .i64 ((v : Nat) : Int)], pt h, pt m, pt r] w fun e w' =>
      e = .returned (.bool (decide (mrk mv (K - hv) (Gm.rb (K - hv) s.c).1 = M))) ∧ Stp w' a p g h m r ds { s with c := (Gm.rb (K - hv) s.c).2 } K (mrk mv (K - hv) (Gm.rb (K - hv) s.c).1) ∧ Only [a, p, h, m] w w' := by
  have hl := H.lt
  obtain ⟨L, hL⟩ : ∃ L, K - hv = L := ⟨_, rfl⟩
  have hsub : (K : Int) - (hv : Int) = ((L : Nat) : Int) := by omega
  have hLK : L ≤ 64 := by omega
  obtain ⟨X, hX⟩ : ∃ X, (Gm.rb L s.c).1 = X := ⟨_, rfl⟩
  have hXl : X < 18446744073709551616 := by
    have h1 := rb_lt L s.c hLK
    rw [hX] at h1
    exact Nat.lt_of_lt_of_le h1 (Nat.pow_le_pow_right (by decide) hLK)
  obtain ⟨S1, hS1⟩ : ∃ S1 : Gm.Rd, { s with c := (Gm.rb L s.c).2 } = S1 := ⟨_, rfl⟩
  have CB := Lib.hid (fun W (h : Rdr W a p g ds s) => bits_rdr a p g L ds s hLK hbd W h)
  obtain ⟨Q, hQ⟩ : ∃ Q, mrk mv L X = Q := ⟨_, rfl⟩
  have hQl : Q < 18446744073709551616 := by rw [← hQ]; exact mrk_lt _ _ _ hXl
  rw [hL, hX, hS1, hQ]
  rw [hX, hS1] at CB
  obtain ⟨Y, hY⟩ : ∃ Y, (mv <<< L) % 18446744073709551616 = Y := ⟨_, rfl⟩
  have hYQ : Y ||| X = Q := by rw [← hQ, ← hY]; rfl
  have hor : bits .or .u64 (Y : Int) (X : Int) = ((Q : Nat) : Int) := by
    rw [u64_or_nat Y X (by rw [← hY]; exact Nat.mod_lt _ (by decide)) hXl, hYQ]
  have hsh : IntKind.u64.wrap ((mv : Int) * 2 ^ L) = ((Y : Nat) : Int) := by
    rw [← hY, Nat.shiftLeft_eq]
    show ((mv : Int) * 2 ^ L) % 18446744073709551616 = _
    have hc : ((mv : Int) * 2 ^ L) = ((mv * 2 ^ L : Nat) : Int) := by
      rw [Int.natCast_mul, Int.natCast_pow]
      rfl
    rw [hc]
    omega
  have hbx := heap_alloc_new w (.cells #[.int .u64 ((M : Nat) : Int), .int .i64 ((K : Nat) : Int), .int .u64 ((u : Nat) : Int), .int .i64 ((v : Nat) : Int)] 247)
  have hAl := (Below.refl w.heap.size w).alloc (Nat.le_refl _) (.cells #[.int .u64 ((M : Nat) : Int), .int .i64 ((K : Nat) : Int), .int .u64 ((u : Nat) : Int), .int .i64 ((v : Nat) : Int)] 247)
  have HS := Lib.hid (show StpB (w.alloc (.cells #[.int .u64 ((M : Nat) : Int), .int .i64 ((K : Nat) : Int), .int .u64 ((u : Nat) : Int), .int .i64 ((v : Nat) : Int)] 247)) a p g h m r ds s hv mv w.heap.size M K u v from ⟨H.below hAl, hbx, by omega⟩)
  have HO := Lib.hid (Only.of_below hAl [a, p, h, m])
  have HW := Lib.hid hl
  have hn1 := HS.out.st.nh
  have hn2 := HS.out.nb
  obtain ⟨x1, x2, x3, x4, x5, x6, x7⟩ := HS.out.cs
  have HQ := Lib.hid (show ((Q : Int) == (M : Int)) = decide (Q = M) from by rw [Bool.eq_iff_iff]; simp only [beq_iff_eq, decide_eq_true_eq]; omega)
  clear hbx hAl hQ hY hYQ hL hX hS1 H hl hQl hM
  unfold pt at *
  go_enter Tryd.func126, Tryd.ntmps126
  go_wp2_with fail
  generalize hB : w.heap.size = B at *
  generalize hW : (w.alloc (.cells #[.int .u64 ((M : Nat) : Int), .int .i64 ((K : Nat) : Int), .int .u64 ((u : Nat) : Int), .int .i64 ((v : Nat) : Int)] 247)) = W at *
  have hD := HS.out.drew
  obtain ⟨y1, y2, y3, y4, y5, y6, y7⟩ := hD.cs
  have hDD : Only [a, p] W W.drew := (Only.refl _ _).drew
  clear x1 x2 x3 x4 x5 x6 x7
  unfold pt at *
  go_region_with (first
    | (go_at_call 121; refine (CB.out _ hD.st.rd).mono ?_; rintro e w9 ⟨rfl, hR9, hO9⟩; have hS9 := StpB.read hD hR9 hO9; have hD9 := Only.trans (S := [a, p]) hDD hO9 (fun _ hx => .inl hx); obtain ⟨z1, z2, z3, z4, z5, z6, z7⟩ := StpB.cs hS9; unfold pt at z5; clear hR9 hO9))
  all_goals
    have hM := StpB.setM hS9 Q
    have hH := StpB.setH hM K
    obtain ⟨u1, u2, u3, u4, u5, u6, u7⟩ := hM.cs
    obtain ⟨v1, v2, v3, v4, v5, v6, v7⟩ := hH.cs
    have HF := Lib.hid (And.intro hH.st (((HO.out.trans hD9 (fun x hx => by simp at hx ⊢; omega)).setCell (p := ⟨m, 0, none⟩) (.inl (by simp)) (.int .u64 ((Q : Nat) : Int))).setCell (p := ⟨h, 0, none⟩) (.inl (by simp)) (.int .i64 ((K : Nat) : Int))))
    clear hM hH hS9 hD hDD hD9 HS
    go_wp2_with fail
    go_ret
    first
      | (simp only [hsh, hor]; exact ⟨by rw [← HQ.out]; rfl, HF.out.1, HF.out.2⟩)
      | (simp only [hor]; exact ⟨by rw [← HQ.out]; rfl, HF.out.1, HF.out.2⟩)
      | exact ⟨by rw [← HQ.out]; rfl, HF.out.1, HF.out.2⟩
end Go.Proofs.YtdlifcpdlbmijaaDoor
namespace Go.Proofs.YtdlifcpdlbmijaaDoor
set_option linter.unusedVariables false
set_option linter.unusedSimpArgs false
open Go.RowKit Go.PlainAid Go.Shelf
open B2 (Only Bys Row cellsOf)
open Gm (St Smp)
def hvOf : Nat → Nat | 0 => 0 | j + 1 => Gm.ms j
def rowC : Nat → Array Value | 0 => #[.int .u64 0, .int .i64 0, .int .u64 0, .int .i64 0] | 1 => #[.int .u64 0, .int .i64 1, .int .u64 0, .int .i64 0] | 2 => #[.int .u64 2, .int .i64 2, .int .u64 63, .int .i64 7] | 3 => #[.int .u64 6, .int .i64 3, .int .u64 255, .int .i64 9] | 4 => #[.int .u64 14, .int .i64 4, .int .u64 2047, .int .i64 12] | _ => #[.int .u64 15, .int .i64 4, .int .u64 0, .int .i64 64]
theorem find_step (f j m hv : Nat) (c : Gm.Cx) : Gm.findR (f + 1) j m hv c = if mrk m (Gm.ms j - hv) (Gm.rb (Gm.ms j - hv) c).1 = Gm.mk j then (j, (Gm.rb (Gm.ms j - hv) c).2) else Gm.findR f (j + 1) (mrk m (Gm.ms j - hv) (Gm.rb (Gm.ms j - hv) c).1) (Gm.ms j) (Gm.rb (Gm.ms j - hv) c).2 := rfl
/-- behind a look at a row -/
def MarkPost (W : World) (a p g h m r : Nat) (ds : List Nat) (s : Gm.Rd) (T : Nat × Gm.Cx) (j : Nat) (e : Ending) (w' : World) : Prop :=
  ∃ (found : Bool) (c' : Gm.Cx) (mv' : Nat), e = .returned (.bool found) ∧ mv' < 18446744073709551616 ∧ (found = true → T = (j, c')) ∧ (found = false → Gm.findR (4 - j) (j + 1) mv' (hvOf (j + 1)) c' = T) ∧ Stp w' a p g h m r ds { s with c := c' } (hvOf (j + 1)) mv' ∧ Only [a, p, h, m] W w'
theorem mark_row (a p g h m r : Nat) (ds : List Nat) (s : Gm.Rd) (T : Nat × Gm.Cx) (hbd : ds.length ≤ 1000000000) (j : Nat) (hj : j < 5) (c : Gm.Cx) (mv : Nat) (hmv : mv < 18446744073709551616) (hT : Gm.findR (5 - j) j mv (hvOf j) c = T) (W : World) (H : Stp W a p g h m r ds { s with c := c } (hvOf j) mv) :
    Calls Tryd.prog 126 #[bkV j, pt h, pt m, pt r] W (MarkPost W a p g h m r ds s T j) := by
  have hK : hvOf j ≤ Gm.ms j ∧ Gm.ms j ≤ 64 ∧ Gm.mk j < 18446744073709551616 := by
    have h5 : j = 0 ∨ j = 1 ∨ j = 2 ∨ j = 3 ∨ j = 4 := by omega
    rcases h5 with rfl | rfl | rfl | rfl | rfl <;> decide
  refine (mark126_any a p g h m r ds { s with c := c } (hvOf j) mv (Gm.mk j) (Gm.ms j) (Gm.pl j) (Gm.sz j) hbd hK.2.2 hmv ⟨hK.1, hK.2.1⟩ W H).mono ?_
  rintro e w' ⟨rfl, hS, hO⟩
  rw [show 5 - j = (4 - j) + 1 by omega, find_step] at hT
  simp only at hS
  have hx : (Gm.rb (Gm.ms j - hvOf j) c).1 < 18446744073709551616 := Nat.lt_of_lt_of_le (rb_lt _ c (by omega)) (Nat.pow_le_pow_right (by decide) (by omega : Gm.ms j - hvOf j ≤ 64))
  refine ⟨decide (mrk mv (Gm.ms j - hvOf j) (Gm.rb (Gm.ms j - hvOf j) c).1 = Gm.mk j), (Gm.rb (Gm.ms j - hvOf j) c).2, mrk mv (Gm.ms j - hvOf j) (Gm.rb (Gm.ms j - hvOf j) c).1, rfl, mrk_lt _ _ _ hx, fun hf => ?_, fun hf => ?_, hS, hO⟩
  · rw [← hT, if_pos (of_decide_eq_true hf)]
  · rw [← hT, if_neg (of_decide_eq_false hf)]; rfl
/-- what the search keeps: the result's block, the row's block -/
structure Fr (w wr : World) (S a p g h m r : Nat) (ds : List Nat) (s : Gm.Rd) (hv mv : Nat) (xs : Array Value) : Prop where
  r0 : wr.heap[S]? = some (.cells #[.int .u64 0, .int .i64 0, .int .u64 0, .int .i64 0] 247 (0, 0))
  x : wr.heap[S + 1 + 1]? = some (.cells xs 247 (0, 0))
  st : Stp wr a p g h m r ds s hv mv
  o : Only [a, p, h, m] w wr
  sz : w.heap.size = S
  lt : a < S ∧ p < S ∧ g < S ∧ h < S ∧ m < S ∧ r < S
theorem only_setRow {L : List Nat} {w wr : World} (ho : Only L w wr) (k : Nat) (hk : w.heap.size ≤ k) (cs : Array Value) : Only L w (wr.setRow k cs) :=
  ⟨ho.os, ho.tape, ho.output, by rw [setRow_size]; exact ho.size, fun q hq hn => (heap_setRow_ne _ _ _ _ (by omega)).trans (ho.block q hq hn)⟩
theorem stp_setRow {wr : World} {a p g h m r : Nat} {ds : List Nat} {s : Gm.Rd} {hv mv S k : Nat} (H : Stp wr a p g h m r ds s hv mv) (lt : a < S ∧ p < S ∧ g < S ∧ h < S ∧ m < S ∧ r < S) (hk : S ≤ k) (cs : Array Value) : Stp (wr.setRow k cs) a p g h m r ds s hv mv := by
  have hO : Only [k] wr (wr.setRow k cs) := ⟨rfl, rfl, rfl, by rw [setRow_size]; exact Nat.le_refl _, fun q hq hn => heap_setRow_ne _ _ _ _ (by simp at hn; omega)⟩
  exact H.only hO (by simp; omega) (by simp; omega) (by simp; omega) (by simp; omega) (by simp; omega) (by simp; omega)
theorem Fr.row {w wr : World} {S a p g h m r : Nat} {ds : List Nat} {s : Gm.Rd} {hv mv : Nat} {xs : Array Value} (H : Fr w wr S a p g h m r ds s hv mv xs) (cs : Array Value) : Fr w (wr.setRow (S + 1 + 1) cs) S a p g h m r ds s hv mv cs :=
  ⟨(heap_setRow_ne _ _ _ _ (by omega)).trans H.r0, setRow_heap _ _ _ _ _ _ H.x, stp_setRow H.st H.lt (by omega) cs, only_setRow H.o _ (by have := H.sz; omega) cs, H.sz, H.lt⟩
theorem Fr.call {w wr w' : World} {S a p g h m r : Nat} {ds : List Nat} {s s' : Gm.Rd} {hv mv hv' mv' : Nat} {xs : Array Value} (H : Fr w wr S a p g h m r ds s hv mv xs) (hS : Stp w' a p g h m r ds s' hv' mv') (hO : Only [a, p, h, m] wr w') : Fr w w' S a p g h m r ds s' hv' mv' xs := by
  have hl := H.lt
  exact ⟨(hO.block _ (Array.getElem?_eq_some_iff.1 H.r0).1 (by simp; omega)).trans H.r0, (hO.block _ (Array.getElem?_eq_some_iff.1 H.x).1 (by simp; omega)).trans H.x, hS, H.o.trans hO (fun _ hx => .inl hx), H.sz, H.lt⟩
theorem Fr.fin {w wr : World} {S a p g h m r : Nat} {ds : List Nat} {s : Gm.Rd} {hv mv : Nat} {xs : Array Value} (H : Fr w wr S a p g h m r ds s hv mv xs) (cs : Array Value) : (wr.setRow S cs).heap[S]? = some (.cells cs 247 (0, 0)) ∧ Stp (wr.setRow S cs) a p g h m r ds s hv mv ∧ Only [a, p, h, m] w (wr.setRow S cs) :=
  ⟨setRow_heap _ _ _ _ _ _ H.r0, stp_setRow H.st H.lt (Nat.le_refl _) cs, only_setRow H.o _ (by have := H.sz; omega) cs⟩
/-- what the loop keeps -/
def FrL (w wr : World) (S a p g h m r : Nat) (ds : List Nat) (s : Gm.Rd) (T : Nat × Gm.Cx) (j : Nat) : Prop :=
  ∃ (c : Gm.Cx) (mv : Nat), mv < 18446744073709551616 ∧ Gm.findR (5 - j) j mv (hvOf j) c = T ∧ Fr w wr S a p g h m r ds { s with c := c } (hvOf j) mv (rowC j)
/-- behind the search -/
def FindPost (w : World) (a p g h m r : Nat) (ds : List Nat) (s : Gm.Rd) (T : Nat × Gm.Cx) (e : Ending) (w' : World) : Prop :=
  e = .returned (bkV T.1) ∧ (∃ hv mv : Nat, Stp w' a p g h m r ds { s with c := T.2 } hv mv) ∧ Only [a, p, h, m] w w'
set_option maxHeartbeats 16000000 in
set_option maxRecDepth 100000 in
theorem find_any (a p g h m r : Nat) (ds : List Nat) (s : Gm.Rd) (hbd : ds.length ≤ 1000000000) (w : World) (H : Stp w a p g h m r ds s 0 0) :
    Calls Tryd.prog 104 #[.func (.func 126) #[] #[pt h, pt m, pt r]] w (FindPost w a p g h m r ds s (Gm.findR 5 0 0 0 s.c)) := by
  have hcl := H.lt
  obtain ⟨T, hT⟩ : ∃ T, Gm.findR 5 0 0 0 s.c = T := ⟨_, rfl⟩
  rw [hT]
  have C := Lib.hid (fun j hj c mv hmv hT W H => mark_row a p g h m r ds s T hbd j hj c mv hmv hT W H)
  have HT := Lib.hid tab_all
  have HI := Lib.hid tab_at
  obtain ⟨S, hS⟩ : ∃ S, w.heap.size = S := ⟨_, rfl⟩
  rw [hS] at hcl
  have s1 : (w.alloc (.cells #[.int .u64 0, .int .i64 0, .int .u64 0, .int .i64 0] 247)).heap.size = S + 1 := by simp [hS]
  have s2 : ((w.alloc (.cells #[.int .u64 0, .int .i64 0, .int .u64 0, .int .i64 0] 247)).alloc (.cells z20 259)).heap.size = S + 1 + 1 := by simp [hS]
  have hr0 := heap_alloc_new w (.cells #[.int .u64 0, .int .i64 0, .int .u64 0, .int .i64 0] 247)
  have hA := heap_alloc_new (w.alloc (.cells #[.int .u64 0, .int .i64 0, .int .u64 0, .int .i64 0] 247)) (.cells z20 259)
  rw [hS] at hr0
  rw [s1] at hA
  have hx0 := heap_alloc_new (((w.alloc (.cells #[.int .u64 0, .int .i64 0, .int .u64 0, .int .i64 0] 247)).alloc (.cells z20 259)).setRow (S + 1) tabC) (.cells #[.int .u64 0, .int .i64 0, .int .u64 0, .int .i64 0] 247)
  rw [setRow_size, s2] at hx0
  have hB := (((Below.refl w.heap.size w).alloc (Nat.le_refl _) (.cells #[.int .u64 0, .int .i64 0, .int .u64 0, .int .i64 0] 247)).alloc (by simp) (.cells z20 259))
  rw [hS] at hB
  have hB2 := (below_setRow hB (show S ≤ S + 1 by omega) tabC).alloc (by rw [setRow_size, s2]; omega) (.cells #[.int .u64 0, .int .i64 0, .int .u64 0, .int .i64 0] 247)
  have hT1 := setRow_heap _ _ _ tabC _ _ hA
  have hT2 : ((((w.alloc (.cells #[.int .u64 0, .int .i64 0, .int .u64 0, .int .i64 0] 247)).alloc (.cells z20 259)).setRow (S + 1) tabC).alloc (.cells #[.int .u64 0, .int .i64 0, .int .u64 0, .int .i64 0] 247)).heap[S + 1]? = some (.cells tabC 259 (0, 0)) := ((Below.heap_alloc _ _ _ (by rw [setRow_size, s2]; omega))).trans hT1
  have hR2 : ((((w.alloc (.cells #[.int .u64 0, .int .i64 0, .int .u64 0, .int .i64 0] 247)).alloc (.cells z20 259)).setRow (S + 1) tabC).alloc (.cells #[.int .u64 0, .int .i64 0, .int .u64 0, .int .i64 0] 247)).heap[S]? = some (.cells #[.int .u64 0, .int .i64 0, .int .u64 0, .int .i64 0] 247 (0, 0)) := ((Below.heap_alloc _ _ _ (by rw [setRow_size, s2]; omega))).trans ((heap_setRow_ne _ _ _ _ (by omega)).trans ((Below.heap_alloc _ _ _ (by rw [s1]; omega)).trans hr0))
  have hB3 : Below w.heap.size w ((((w.alloc (.cells #[.int .u64 0, .int .i64 0, .int .u64 0, .int .i64 0] 247)).alloc (.cells z20 259)).setRow (S + 1) tabC).alloc (.cells #[.int .u64 0, .int .i64 0, .int .u64 0, .int .i64 0] 247)) := by rw [hS]; exact hB2
  have HF := Lib.hid (show FrL w ((((w.alloc (.cells #[.int .u64 0, .int .i64 0, .int .u64 0, .int .i64 0] 247)).alloc (.cells z20 259)).setRow (S + 1) tabC).alloc (.cells #[.int .u64 0, .int .i64 0, .int .u64 0, .int .i64 0] 247)) S a p g h m r ds s T 0 from ⟨s.c, 0, by decide, hT, hR2, hx0, H.below hB3, Only.of_below hB3 _, hS, hcl⟩)
  clear hr0 hx0 hB hB2 hB3 hT1 hR2 s1 s2 hcl H
  unfold pt at *
  go_enter Tryd.func104, Tryd.ntmps104
  go_wp2_with fail
  go_step3
  go_wp2_with (first | (refine wpList_store_row rfl 259 (.tmp 3) (.tmp 10) rfl (S + 1) tabC rfl rfl 259 z20 hA (by kernel_rfl) rfl HT.out ?_))
  unfold z20 at HF hT2
  generalize hW0 : ((((w.alloc (.cells #[.int .u64 0, .int .i64 0, .int .u64 0, .int .i64 0] 247)).alloc (.cells #[.int .u64 0, .int .i64 0, .int .u64 0, .int .i64 0, .int .u64 0, .int .i64 0, .int .u64 0, .int .i64 0, .int .u64 0, .int .i64 0, .int .u64 0, .int .i64 0, .int .u64 0, .int .i64 0, .int .u64 0, .int .i64 0, .int .u64 0, .int .i64 0, .int .u64 0, .int .i64 0] 259)).setRow (S + 1) tabC).alloc (.cells #[.int .u64 0, .int .i64 0, .int .u64 0, .int .i64 0] 247)) = W0 at HF hT2
  go_step3
  go_wp2_with (first | (refine wpList_load_row rfl 259 (.tmp 3) rfl (S + 1) rfl 259 tabC (0, 0) _ hT2 Tryd.underlying259 rfl (by kernel_rfl) ?_))
  clear hA hT2 HT hW0
  go_loopw [12] (fun i wr => ∃ j : Nat, j ≤ 5 ∧ i = .int .i64 j ∧ Hid (FrL w wr S a p g h m r ds s T j)) (fun i _ => 6 - (intOf i).toNat)
  case atStart => exact ⟨0, by omega, rfl, HF⟩
  case round =>
    obtain ⟨j, hj, rfl, HD⟩ := hrel
    have hj2 : j = 0 ∨ j = 1 ∨ j = 2 ∨ j = 3 ∨ j = 4 ∨ j = 5 := by omega
    rcases hj2 with rfl | rfl | rfl | rfl | rfl | rfl
    · have hI := HI.out wr
      obtain ⟨hi0, hi1, hi2, hi3, hi4⟩ := hI
      clear hi1 hi2 hi3 hi4
      obtain ⟨c, mv, hmv, hf, hD⟩ := HD.out
      have hx : wr.heap[S + 1 + 1]? = some (.cells #[.int .u64 0, .int .i64 0, .int .u64 0, .int .i64 0] 247 (0, 0)) := hD.x
      have hR := hD.row #[.int .u64 0, .int .i64 1, .int .u64 0, .int .i64 0]
      have hL := hR.x
      have HB := Lib.hid hR
      have CJ := Lib.hid (C.out 0 (by omega) c mv hmv hf _ hR.st)
      unfold pt at CJ
      clear hR hD hf hmv HD
      go_wp2_with (first | (refine wpList_store_row rfl 247 (.tmp 4) (.tmp 14) rfl (S + 1 + 1) #[.int .u64 0, .int .i64 1, .int .u64 0, .int .i64 0] rfl rfl 247 #[.int .u64 0, .int .i64 0, .int .u64 0, .int .i64 0] hx (by kernel_rfl) rfl (by kernel_rfl) ?_) | (refine wpList_load_row rfl 247 (.tmp 4) rfl (S + 1 + 1) rfl 247 #[.int .u64 0, .int .i64 1, .int .u64 0, .int .i64 0] (0, 0) _ hL Tryd.underlying247 rfl (by kernel_rfl) ?_))
      go_at_call 126
      refine CJ.out.mono ?_
      rintro e w2 ⟨found, c', mv', rfl, hm2, hyes, hno, hS2, hO2⟩
      have HB2 := HB.out.call hS2 hO2
      cases found with
      | true =>
        have HY := Lib.hid (hyes rfl)
        have hL2 := HB2.x
        have hr2 := HB2.r0
        have HE := Lib.hid (HB2.fin #[.int .u64 0, .int .i64 1, .int .u64 0, .int .i64 0])
        clear hyes hno hS2 hO2 hm2 HB2 hL CJ HB hx
        go_wp2_with (first | (refine wpList_load_row rfl 247 (.tmp 4) rfl (S + 1 + 1) rfl 247 #[.int .u64 0, .int .i64 1, .int .u64 0, .int .i64 0] (0, 0) _ hL2 Tryd.underlying247 rfl (by kernel_rfl) ?_) | (refine wpList_store_row rfl 247 (.tmp 2) (.tmp 19) rfl S #[.int .u64 0, .int .i64 1, .int .u64 0, .int .i64 0] rfl rfl 247 #[.int .u64 0, .int .i64 0, .int .u64 0, .int .i64 0] hr2 (by kernel_rfl) rfl (by kernel_rfl) ?_))
        rw [Exit.noGoto_ret]
        refine bodyPost_ret (v := .agg #[.int .u64 0, .int .i64 1, .int .u64 0, .int .i64 0]) ?_ ?_ ?_
        · exact results_cell_row (fn := Tryd.f104) (p := 2) (ty := 247) rfl _ _ S 247 #[.int .u64 0, .int .i64 1, .int .u64 0, .int .i64 0] (0, 0) _ rfl HE.out.1 Tryd.underlying247 rfl (by kernel_rfl)
        · rfl
        · exact ⟨by rw [HY.out]; rfl, by rw [HY.out]; exact ⟨_, _, HE.out.2.1⟩, HE.out.2.2⟩
      | false =>
        have HN := Lib.hid (show FrL w w2 S a p g h m r ds s T (0 + 1) from ⟨c', mv', hm2, hno rfl, HB2⟩)
        clear hyes hno hS2 hO2 hm2 HB2 hL CJ HB hx
        go_wp2_with fail
        exact ⟨⟨1, by omega, rfl, HN⟩, by simp [intOf]⟩
    · have hI := HI.out wr
      obtain ⟨hi0, hi1, hi2, hi3, hi4⟩ := hI
      clear hi0 hi2 hi3 hi4
      obtain ⟨c, mv, hmv, hf, hD⟩ := HD.out
      have hx : wr.heap[S + 1 + 1]? = some (.cells #[.int .u64 0, .int .i64 1, .int .u64 0, .int .i64 0] 247 (0, 0)) := hD.x
      have hR := hD.row #[.int .u64 2, .int .i64 2, .int .u64 63, .int .i64 7]
      have hL := hR.x
      have HB := Lib.hid hR
      have CJ := Lib.hid (C.out 1 (by omega) c mv hmv hf _ hR.st)
      unfold pt at CJ
      clear hR hD hf hmv HD
      go_wp2_with (first | (refine wpList_store_row rfl 247 (.tmp 4) (.tmp 14) rfl (S + 1 + 1) #[.int .u64 2, .int .i64 2, .int .u64 63, .int .i64 7] rfl rfl 247 #[.int .u64 0, .int .i64 1, .int .u64 0, .int .i64 0] hx (by kernel_rfl) rfl (by kernel_rfl) ?_) | (refine wpList_load_row rfl 247 (.tmp 4) rfl (S + 1 + 1) rfl 247 #[.int .u64 2, .int .i64 2, .int .u64 63, .int .i64 7] (0, 0) _ hL Tryd.underlying247 rfl (by kernel_rfl) ?_))
      go_at_call 126
      refine CJ.out.mono ?_
      rintro e w2 ⟨found, c', mv', rfl, hm2, hyes, hno, hS2, hO2⟩
      have HB2 := HB.out.call hS2 hO2
      cases found with
      | true =>
        have HY := Lib.hid (hyes rfl)
        have hL2 := HB2.x
        have hr2 := HB2.r0
        have HE := Lib.hid (HB2.fin #[.int .u64 2, .int .i64 2, .int .u64 63, .int .i64 7])
        clear hyes hno hS2 hO2 hm2 HB2 hL CJ HB hx
        go_wp2_with (first | (refine wpList_load_row rfl 247 (.tmp 4) rfl (S + 1 + 1) rfl 247 #[.int .u64 2, .int .i64 2, .int .u64 63, .int .i64 7] (0, 0) _ hL2 Tryd.underlying247 rfl (by kernel_rfl) ?_) | (refine wpList_store_row rfl 247 (.tmp 2) (.tmp 19) rfl S #[.int .u64 2, .int .i64 2, .int .u64 63, .int .i64 7] rfl rfl 247 #[.int .u64 0, .int .i64 0, .int .u64 0, .int .i64 0] hr2 (by kernel_rfl) rfl (by kernel_rfl) ?_))
        rw [Exit.noGoto_ret]
        refine bodyPost_ret (v := .agg #[.int .u64 2, .int .i64 2, .int .u64 63, .int .i64 7]) ?_ ?_ ?_
        · exact results_cell_row (fn := Tryd.f104) (p := 2) (ty := 247) rfl _ _ S 247 #[.int .u64 2, .int .i64 2, .int .u64 63, .int .i64 7] (0, 0) _ rfl HE.out.1 Tryd.underlying247 rfl (by kernel_rfl)
        · rfl
        · exact ⟨by rw [HY.out]; rfl, by rw [HY.out]; exact ⟨_, _, HE.out.2.1⟩, HE.out.2.2⟩
      | false =>
        have HN := Lib.hid (show FrL w w2 S a p g h m r ds s T (1 + 1) from ⟨c', mv', hm2, hno rfl, HB2⟩)
        clear hyes hno hS2 hO2 hm2 HB2 hL CJ HB hx
        go_wp2_with fail
        exact ⟨⟨2, by omega, rfl, HN⟩, by simp [intOf]⟩
    · have hI := HI.out wr
      obtain ⟨hi0, hi1, hi2, hi3, hi4⟩ := hI
      clear hi0 hi1 hi3 hi4
      obtain ⟨c, mv, hmv, hf, hD⟩ := HD.out
      have hx : wr.heap[S + 1 + 1]? = some (.cells #[.int .u64 2, .int .i64 2, .int .u64 63, .int .i64 7] 247 (0, 0)) := hD.x
      have hR := hD.row #[.int .u64 6, .int .i64 3, .int .u64 255, .int .i64 9]
      have hL := hR.x
      have HB := Lib.hid hR
      have CJ := Lib.hid (C.out 2 (by omega) c mv hmv hf _ hR.st)
      unfold pt at CJ
      clear hR hD hf hmv HD
      go_wp2_with (first | (refine wpList_store_row rfl 247 (.tmp 4) (.tmp 14) rfl (S + 1 + 1) #[.int .u64 6, .int .i64 3, .int .u64 255, .int .i64 9] rfl rfl 247 #[.int .u64 2, .int .i64 2, .int .u64 63, .int .i64 7] hx (by kernel_rfl) rfl (by kernel_rfl) ?_) | (refine wpList_load_row rfl 247 (.tmp 4) rfl (S + 1 + 1) rfl 247 #[.int .u64 6, .int .i64 3, .int .u64 255, .int .i64 9] (0, 0) _ hL Tryd.underlying247 rfl (by kernel_rfl) ?_))
      go_at_call 126
      refine CJ.out.mono ?_
      rintro e w2 ⟨found, c', mv', rfl, hm2, hyes, hno, hS2, hO2⟩
      have HB2 := HB.out.call hS2 hO2
      cases found with
      | true =>
        have HY := Lib.hid (hyes rfl)
        have hL2 := HB2.x
        have hr2 := HB2.r0
        have HE := Lib.hid (HB2.fin #[.int .u64 6, .int .i64 3, .int .u64 255, .int .i64 9])
        clear hyes hno hS2 hO2 hm2 HB2 hL CJ HB hx
        go_wp2_with (first | (refine wpList_load_row rfl 247 (.tmp 4) rfl (S + 1 + 1) rfl 247 #[.int .u64 6, .int .i64 3, .int .u64 255, .int .i64 9] (0, 0) _ hL2 Tryd.underlying247 rfl (by kernel_rfl) ?_) | (refine wpList_store_row rfl 247 (.tmp 2) (.tmp 19) rfl S #[.int .u64 6, .int .i64 3, .int .u64 255, .int .i64 9] rfl rfl 247 #[.int .u64 0, .int .i64 0, .int .u64 0, .int .i64 0] hr2 (by kernel_rfl) rfl (by kernel_rfl) ?_))
        rw [Exit.noGoto_ret]
        refine bodyPost_ret (v := .agg #[.int .u64 6, .int .i64 3, .int .u64 255, .int .i64 9]) ?_ ?_ ?_
        · exact results_cell_row (fn := Tryd.f104) (p := 2) (ty := 247) rfl _ _ S 247 #[.int .u64 6, .int .i64 3, .int .u64 255, .int .i64 9] (0, 0) _ rfl HE.out.1 Tryd.underlying247 rfl (by kernel_rfl)
        · rfl
        · exact ⟨by rw [HY.out]; rfl, by rw [HY.out]; exact ⟨_, _, HE.out.2.1⟩, HE.out.2.2⟩
      | false =>
        have HN := Lib.hid (show FrL w w2 S a p g h m r ds s T (2 + 1) from ⟨c', mv', hm2, hno rfl, HB2⟩)
        clear hyes hno hS2 hO2 hm2 HB2 hL CJ HB hx
        go_wp2_with fail
        exact ⟨⟨3, by omega, rfl, HN⟩, by simp [intOf]⟩
    · have hI := HI.out wr
      obtain ⟨hi0, hi1, hi2, hi3, hi4⟩ := hI
      clear hi0 hi1 hi2 hi4
      obtain ⟨c, mv, hmv, hf, hD⟩ := HD.out
      have hx : wr.heap[S + 1 + 1]? = some (.cells #[.int .u64 6, .int .i64 3, .int .u64 255, .int .i64 9] 247 (0, 0)) := hD.x
      have hR := hD.row #[.int .u64 14, .int .i64 4, .int .u64 2047, .int .i64 12]
      have hL := hR.x
      have HB := Lib.hid hR
      have CJ := Lib.hid (C.out 3 (by omega) c mv hmv hf _ hR.st)
      unfold pt at CJ
      clear hR hD hf hmv HD
      go_wp2_with (first | (refine wpList_store_row rfl 247 (.tmp 4) (.tmp 14) rfl (S + 1 + 1) #[.int .u64 14, .int .i64 4, .int .u64 2047, .int .i64 12] rfl rfl 247 #[.int .u64 6, .int .i64 3, .int .u64 255, .int .i64 9] hx (by kernel_rfl) rfl (by kernel_rfl) ?_) | (refine wpList_load_row rfl 247 (.tmp 4) rfl (S + 1 + 1) rfl 247 #[.int .u64 14, .int .i64 4, .int .u64 2047, .int .i64 12] (0, 0) _ hL Tryd.underlying247 rfl (by kernel_rfl) ?_))
      go_at_call 126
      refine CJ.out.mono ?_
      rintro e w2 ⟨found, c', mv', rfl, hm2, hyes, hno, hS2, hO2⟩
      have HB2 := HB.out.call hS2 hO2
      cases found with
      | true =>
        have HY := Lib.hid (hyes rfl)
        have hL2 := HB2.x
        have hr2 := HB2.r0
        have HE := Lib.hid (HB2.fin #[.int .u64 14, .int .i64 4, .int .u64 2047, .int .i64 12])
        clear hyes hno hS2 hO2 hm2 HB2 hL CJ HB hx
        go_wp2_with (first | (refine wpList_load_row rfl 247 (.tmp 4) rfl (S + 1 + 1) rfl 247 #[.int .u64 14, .int .i64 4, .int .u64 2047, .int .i64 12] (0, 0) _ hL2 Tryd.underlying247 rfl (by kernel_rfl) ?_) | (refine wpList_store_row rfl 247 (.tmp 2) (.tmp 19) rfl S #[.int .u64 14, .int .i64 4, .int .u64 2047, .int .i64 12] rfl rfl 247 #[.int .u64 0, .int .i64 0, .int .u64 0, .int .i64 0] hr2 (by kernel_rfl) rfl (by kernel_rfl) ?_))
        rw [Exit.noGoto_ret]
        refine bodyPost_ret (v := .agg #[.int .u64 14, .int .i64 4, .int .u64 2047, .int .i64 12]) ?_ ?_ ?_
        · exact results_cell_row (fn := Tryd.f104) (p := 2) (ty := 247) rfl _ _ S 247 #[.int .u64 14, .int .i64 4, .int .u64 2047, .int .i64 12] (0, 0) _ rfl HE.out.1 Tryd.underlying247 rfl (by kernel_rfl)
        · rfl
        · exact ⟨by rw [HY.out]; rfl, by rw [HY.out]; exact ⟨_, _, HE.out.2.1⟩, HE.out.2.2⟩
      | false =>
        have HN := Lib.hid (show FrL w w2 S a p g h m r ds s T (3 + 1) from ⟨c', mv', hm2, hno rfl, HB2⟩)
        clear hyes hno hS2 hO2 hm2 HB2 hL CJ HB hx
        go_wp2_with fail
        exact ⟨⟨4, by omega, rfl, HN⟩, by simp [intOf]⟩
    · have hI := HI.out wr
      obtain ⟨hi0, hi1, hi2, hi3, hi4⟩ := hI
      clear hi0 hi1 hi2 hi3
      obtain ⟨c, mv, hmv, hf, hD⟩ := HD.out
      have hx : wr.heap[S + 1 + 1]? = some (.cells #[.int .u64 14, .int .i64 4, .int .u64 2047, .int .i64 12] 247 (0, 0)) := hD.x
      have hR := hD.row #[.int .u64 15, .int .i64 4, .int .u64 0, .int .i64 64]
      have hL := hR.x
      have HB := Lib.hid hR
      have CJ := Lib.hid (C.out 4 (by omega) c mv hmv hf _ hR.st)
      unfold pt at CJ
      clear hR hD hf hmv HD
      go_wp2_with (first | (refine wpList_store_row rfl 247 (.tmp 4) (.tmp 14) rfl (S + 1 + 1) #[.int .u64 15, .int .i64 4, .int .u64 0, .int .i64 64] rfl rfl 247 #[.int .u64 14, .int .i64 4, .int .u64 2047, .int .i64 12] hx (by kernel_rfl) rfl (by kernel_rfl) ?_) | (refine wpList_load_row rfl 247 (.tmp 4) rfl (S + 1 + 1) rfl 247 #[.int .u64 15, .int .i64 4, .int .u64 0, .int .i64 64] (0, 0) _ hL Tryd.underlying247 rfl (by kernel_rfl) ?_))
      go_at_call 126
      refine CJ.out.mono ?_
      rintro e w2 ⟨found, c', mv', rfl, hm2, hyes, hno, hS2, hO2⟩
      have HB2 := HB.out.call hS2 hO2
      cases found with
      | true =>
        have HY := Lib.hid (hyes rfl)
        have hL2 := HB2.x
        have hr2 := HB2.r0
        have HE := Lib.hid (HB2.fin #[.int .u64 15, .int .i64 4, .int .u64 0, .int .i64 64])
        clear hyes hno hS2 hO2 hm2 HB2 hL CJ HB hx
        go_wp2_with (first | (refine wpList_load_row rfl 247 (.tmp 4) rfl (S + 1 + 1) rfl 247 #[.int .u64 15, .int .i64 4, .int .u64 0, .int .i64 64] (0, 0) _ hL2 Tryd.underlying247 rfl (by kernel_rfl) ?_) | (refine wpList_store_row rfl 247 (.tmp 2) (.tmp 19) rfl S #[.int .u64 15, .int .i64 4, .int .u64 0, .int .i64 64] rfl rfl 247 #[.int .u64 0, .int .i64 0, .int .u64 0, .int .i64 0] hr2 (by kernel_rfl) rfl (by kernel_rfl) ?_))
        rw [Exit.noGoto_ret]
        refine bodyPost_ret (v := .agg #[.int .u64 15, .int .i64 4, .int .u64 0, .int .i64 64]) ?_ ?_ ?_
        · exact results_cell_row (fn := Tryd.f104) (p := 2) (ty := 247) rfl _ _ S 247 #[.int .u64 15, .int .i64 4, .int .u64 0, .int .i64 64] (0, 0) _ rfl HE.out.1 Tryd.underlying247 rfl (by kernel_rfl)
        · rfl
        · exact ⟨by rw [HY.out]; rfl, by rw [HY.out]; exact ⟨_, _, HE.out.2.1⟩, HE.out.2.2⟩
      | false =>
        have HN := Lib.hid (show FrL w w2 S a p g h m r ds s T (4 + 1) from ⟨c', mv', hm2, hno rfl, HB2⟩)
        clear hyes hno hS2 hO2 hm2 HB2 hL CJ HB hx
        go_wp2_with fail
        exact ⟨⟨5, by omega, rfl, HN⟩, by simp [intOf]⟩
    · obtain ⟨c, mv, hmv, hf, hD⟩ := HD.out
      have HY := Lib.hid (show T = (4, c) from hf.symm)
      have hL2 : wr.heap[S + 1 + 1]? = some (.cells #[.int .u64 15, .int .i64 4, .int .u64 0, .int .i64 64] 247 (0, 0)) := hD.x
      have hr2 := hD.r0
      have HE := Lib.hid (hD.fin #[.int .u64 15, .int .i64 4, .int .u64 0, .int .i64 64])
      clear hD hf hmv HD
      go_wp2_with (first | (refine wpList_load_row rfl 247 (.tmp 4) rfl (S + 1 + 1) rfl 247 #[.int .u64 15, .int .i64 4, .int .u64 0, .int .i64 64] (0, 0) _ hL2 Tryd.underlying247 rfl (by kernel_rfl) ?_) | (refine wpList_store_row rfl 247 (.tmp 2) (.tmp 19) rfl S #[.int .u64 15, .int .i64 4, .int .u64 0, .int .i64 64] rfl rfl 247 #[.int .u64 0, .int .i64 0, .int .u64 0, .int .i64 0] hr2 (by kernel_rfl) rfl (by kernel_rfl) ?_))
      rw [Exit.noGoto_ret]
      refine bodyPost_ret (v := .agg #[.int .u64 15, .int .i64 4, .int .u64 0, .int .i64 64]) ?_ ?_ ?_
      · exact results_cell_row (fn := Tryd.f104) (p := 2) (ty := 247) rfl _ _ S 247 #[.int .u64 15, .int .i64 4, .int .u64 0, .int .i64 64] (0, 0) _ rfl HE.out.1 Tryd.underlying247 rfl (by kernel_rfl)
      · rfl
      · exact ⟨by rw [HY.out]; rfl, by rw [HY.out]; exact ⟨_, _, HE.out.2.1⟩, HE.out.2.2⟩
end Go.Proofs.YtdlifcpdlbmijaaDoor
namespace Go.Proofs.YtdlifcpdlbmijaaDoor
set_option linter.unusedVariables false
set_option linter.unusedSimpArgs false
open Go.RowKit Go.PlainAid Go.Shelf
open B2 (Only Bys Row cellsOf)
open Gm (St Smp)
theorem sub_wrd (X P : Nat) (hX : X < 18446744073709551616) (hP : P < 18446744073709551616) : IntKind.u64.wrap ((X : Int) - (P : Int)) = ((Gm.subW X P : Nat) : Int) := by
  unfold Gm.subW
  simp only [IntKind.wrap_u64]
  omega
set_option maxHeartbeats 16000000 in
set_option maxRecDepth 100000 in
theorem step_rdr (a p g : Nat) (ds : List Nat) (s : Gm.Rd) (hbd : ds.length ≤ 1000000000) (w : World) (H : Rdr w a p g ds s) :
    Calls Tryd.prog 120 #[pt a] w (RdrPost w a p g ds (.int .u64 (((Gm.stepR s.c).1 : Nat) : Int)) { s with c := (Gm.stepR s.c).2 }) := by
  have hl := H.lt
  obtain ⟨T, hT⟩ : ∃ T, Gm.findR 5 0 0 0 s.c = T := ⟨_, rfl⟩
  have eS : Gm.stepR s.c = (Gm.subW (Gm.rb (Gm.sz T.1) T.2).1 (Gm.pl T.1), (Gm.rb (Gm.sz T.1) T.2).2) := by unfold Gm.stepR; rw [hT]
  rw [eS]
  obtain ⟨n, hn⟩ : ∃ n, w.heap.size = n := ⟨_, rfl⟩
  rw [hn] at hl
  have A1 := (Below.refl w.heap.size w).alloc (Nat.le_refl _) (.cells #[pt a] 256)
  have r1 := heap_alloc_new w (.cells #[pt a] 256)
  rw [hn] at r1
  have z1 : (w.alloc (.cells #[pt a] 256)).heap.size = n + 1 := by simp [hn]
  have A2 := A1.alloc (by simp) (.cells #[.int .u64 0] 67)
  have r2 := heap_alloc_new (w.alloc (.cells #[pt a] 256)) (.cells #[.int .u64 0] 67)
  rw [z1] at r2
  have z2 : ((w.alloc (.cells #[pt a] 256)).alloc (.cells #[.int .u64 0] 67)).heap.size = n + 1 + 1 := by simp [hn]
  have A3 := A2.alloc (by rw [z2, hn]; omega) (.cells #[.int .i64 0] 3)
  have r3 := heap_alloc_new ((w.alloc (.cells #[pt a] 256)).alloc (.cells #[.int .u64 0] 67)) (.cells #[.int .i64 0] 3)
  rw [z2] at r3
  have HST := show Stp (((w.alloc (.cells #[pt a] 256)).alloc (.cells #[.int .u64 0] 67)).alloc (.cells #[.int .i64 0] 3)) a p g (n + 1 + 1) (n + 1) n ds s 0 0 from
    ⟨H.below A3, r3, (Below.heap_alloc _ _ _ (by rw [z2]; omega)).trans r2, (Below.heap_alloc _ _ _ (by rw [z2]; omega)).trans ((Below.heap_alloc _ _ _ (by rw [z1]; omega)).trans r1), by omega, by omega, by omega⟩
  have CF := find_any a p g (n + 1 + 1) (n + 1) n ds s hbd _ HST
  rw [hT] at CF
  have CF := Lib.hid CF
  have HA := Lib.hid (And.intro A3 hl)
  have HMS := Lib.hid (mk_small T.1)
  obtain ⟨k, hk⟩ : ∃ k, T.1 = k := ⟨_, rfl⟩
  obtain ⟨c2, hc2⟩ : ∃ c2, T.2 = c2 := ⟨_, rfl⟩
  unfold FindPost at CF
  rw [hk] at HMS
  rw [hk, hc2] at CF ⊢
  obtain ⟨Z, hZ⟩ : ∃ Z, Gm.sz k = Z := ⟨_, rfl⟩
  obtain ⟨PL, hPL⟩ : ∃ PL, Gm.pl k = PL := ⟨_, rfl⟩
  unfold bkV at CF
  rw [hZ, hPL] at CF ⊢
  rw [hZ] at HMS
  have hPl : PL < 18446744073709551616 := by rw [← hPL]; unfold Gm.pl; split <;> decide
  obtain ⟨X, hX⟩ : ∃ X, (Gm.rb Z c2).1 = X := ⟨_, rfl⟩
  have hXl : X < 18446744073709551616 := by rw [← hX]; exact Nat.lt_of_lt_of_le (rb_lt _ _ HMS.out.2) (Nat.pow_le_pow_right (by decide) HMS.out.2)
  obtain ⟨s4, hs4⟩ : ∃ s4 : Gm.Rd, { s with c := (Gm.rb Z c2).2 } = s4 := ⟨_, rfl⟩
  have CB := Lib.hid (fun W (h : Rdr W a p g ds { s with c := c2 }) => bits_rdr a p g Z ds { s with c := c2 } HMS.out.2 hbd W h)
  simp only at CB
  rw [hX, hs4] at CB
  rw [hX, hs4]
  have hsub := sub_wrd X PL hXl hPl
  have hmf : ∀ (fn : Fn) (first cap : Array Value) (w : World), (Instr.makeFunc fn first cap).run Tryd.prog w = .ok (.func fn first cap) w := fun _ _ _ _ => rfl
  clear A1 A2 A3 r1 r2 r3 z1 z2 HST hl H eS hT hk hc2 hZ hPL hX hs4
  unfold pt at *
  go_enter Tryd.func120, Tryd.ntmps120
  go_wp2_with fail
  refine CF.out.mono ?_
  rintro e w2 ⟨rfl, ⟨hv, mv, hS2⟩, hO2⟩
  have hA4 := (Below.refl w2.heap.size w2).alloc (Nat.le_refl _) (.cells #[.int .u64 ((Gm.mk k : Nat) : Int), .int .i64 ((Gm.ms k : Nat) : Int), .int .u64 ((PL : Nat) : Int), .int .i64 ((Z : Nat) : Int)] 247)
  have r4 := heap_alloc_new w2 (.cells #[.int .u64 ((Gm.mk k : Nat) : Int), .int .i64 ((Gm.ms k : Nat) : Int), .int .u64 ((PL : Nat) : Int), .int .i64 ((Z : Nat) : Int)] 247)
  have q2 : (w2.alloc (.cells #[.int .u64 ((Gm.mk k : Nat) : Int), .int .i64 ((Gm.ms k : Nat) : Int), .int .u64 ((PL : Nat) : Int), .int .i64 ((Z : Nat) : Int)] 247)).cell? ⟨w2.heap.size, 2, none⟩ = some (.int .u64 ((PL : Nat) : Int)) := (cell_of_row _ _ 2 _ _ _ r4).trans rfl
  have q3 : (w2.alloc (.cells #[.int .u64 ((Gm.mk k : Nat) : Int), .int .i64 ((Gm.ms k : Nat) : Int), .int .u64 ((PL : Nat) : Int), .int .i64 ((Z : Nat) : Int)] 247)).cell? ⟨w2.heap.size, 3, none⟩ = some (.int .i64 ((Z : Nat) : Int)) := (cell_of_row _ _ 3 _ _ _ r4).trans rfl
  have hS4 := hS2.below hA4
  have q5 : (w2.alloc (.cells #[.int .u64 ((Gm.mk k : Nat) : Int), .int .i64 ((Gm.ms k : Nat) : Int), .int .u64 ((PL : Nat) : Int), .int .i64 ((Z : Nat) : Int)] 247)).cell? ⟨n, 0, none⟩ = some (pt a) := (cell_of_row _ _ 0 _ _ _ hS4.kr).trans rfl
  have hO4 : Only [a, p] w (w2.alloc (.cells #[.int .u64 ((Gm.mk k : Nat) : Int), .int .i64 ((Gm.ms k : Nat) : Int), .int .u64 ((PL : Nat) : Int), .int .i64 ((Z : Nat) : Int)] 247)) := ((Only.of_below HA.out.1 [a, p]).trans hO2 (fun x hx => by simp at hx ⊢; omega)).alloc _
  have hB : w2.heap.size ≠ a ∧ w2.heap.size ≠ p := by have := hS2.lt; omega
  have HD := Lib.hid (show Rdr (w2.alloc (.cells #[.int .u64 ((Gm.mk k : Nat) : Int), .int .i64 ((Gm.ms k : Nat) : Int), .int .u64 ((PL : Nat) : Int), .int .i64 ((Z : Nat) : Int)] 247)).drew a p g ds { s with c := c2 } from hS4.rd.below (drew_below _))
  have HO := Lib.hid (show Only [a, p] w (w2.alloc (.cells #[.int .u64 ((Gm.mk k : Nat) : Int), .int .i64 ((Gm.ms k : Nat) : Int), .int .u64 ((PL : Nat) : Int), .int .i64 ((Z : Nat) : Int)] 247)).drew from hO4.drew)
  have q2 := cell_below q2 (drew_below _)
  have q3 := cell_below q3 (drew_below _)
  have q5 := cell_below q5 (drew_below _)
  clear hA4 r4 hS4 hO4 hS2 hO2 CF hmf hn HA
  generalize hW : w2.alloc (.cells #[.int .u64 ((Gm.mk k : Nat) : Int), .int .i64 ((Gm.ms k : Nat) : Int), .int .u64 ((PL : Nat) : Int), .int .i64 ((Z : Nat) : Int)] 247) = W at *
  unfold pt at *
  go_wp2_with fail
  clear hW
  generalize w2.heap.size = B at *
  go_region_with (first
    | (go_at_call 121; refine (CB.out _ HD.out).mono ?_; rintro e w9 ⟨rfl, hR9, hO9⟩; have hF9 := Lib.hid (And.intro hR9 (HO.out.trans hO9 (fun _ hx => .inl hx))); have q29 := Only_cell hO9 q2 (by have := hB; simp; omega); clear hR9 hO9))
  all_goals
    go_wp2_with fail
    go_ret
    exact ⟨by rw [← hsub]; rfl, hF9.out.1, hF9.out.2⟩
end Go.Proofs.YtdlifcpdlbmijaaDoor
namespace Go.Proofs.YtdlifcpdlbmijaaDoor.B2
open Go.RowKit
/-- a slice of integers that came in: nil, or a row of 'cap' cells -/
def IsRow (k : IntKind) (w : World) (a : Option Addr) (len cap : Nat) (zs : List Int) : Prop :=
  (a = none ∧ len = 0 ∧ cap = 0 ∧ zs = []) ∨
  ∃ x, a = some x ∧ len ≤ cap ∧ cap ≤ maxLen ∧ zs.length = cap ∧ (∀ i, i < zs.length → w.cell? (x.add i) = some (.int k (zs.getD i 0))) ∧ ∀ n ∈ zs, (Lit.int k n).wf = true
theorem byte_nat {n : Int} (h : (Lit.int .u8 n).wf = true) : ∃ m : Nat, n = (m : Int) ∧ m < 256 := by
  have hb := bounds_u8 h
  obtain ⟨m, rfl⟩ := Int.eq_ofNat_of_zero_le hb.1
  exact ⟨m, rfl, by omega⟩
theorem bytes_nat : ∀ (zs : List Int), (∀ n ∈ zs, (Lit.int .u8 n).wf = true) → ∃ bs : List Nat, zs = bs.map (fun c => ((c : Nat) : Int)) ∧ ∀ c ∈ bs, c < 256
  | [], _ => ⟨[], rfl, fun _ h => absurd h (by simp)⟩
  | z :: zs, h => by
    obtain ⟨m, rfl, hm⟩ := byte_nat (h z List.mem_cons_self)
    obtain ⟨bs, rfl, hb⟩ := bytes_nat zs (fun n hn => h n (List.mem_cons_of_mem _ hn))
    refine ⟨m :: bs, rfl, fun c hc => ?_⟩
    rcases List.mem_cons.1 hc with rfl | hc
    · exact hm
    · exact hb c hc
theorem bys_of_row {w : World} {a : Option Addr} {len cap : Nat} {zs : List Int} (h : IsRow .u8 w a len cap zs) : ∃ bs : List Nat, bs.length = len ∧ Bys w a bs ∧ (a = none → cap = 0) ∧ len ≤ cap := by
  rcases h with ⟨rfl, rfl, rfl, rfl⟩ | ⟨x, rfl, hl, hm, hz, hcell, hwz⟩
  · exact ⟨[], rfl, Bys.nil _ _, fun _ => rfl, Nat.le_refl _⟩
  · obtain ⟨bs, rfl, h8⟩ := bytes_nat zs hwz
    have hz' : bs.length = cap := by simpa using hz
    refine ⟨bs.take len, by simp; omega, ⟨by simp; omega, fun c hc => h8 c (List.mem_of_mem_take hc), fun hn => ?_⟩, (fun h => by cases h), hl⟩
    have hlen : 0 < len := by
      refine Nat.pos_of_ne_zero fun h0 => hn ?_
      subst h0; simp
    obtain ⟨b, off, spot⟩ := x
    have hc0 := hcell 0 (by simp; omega)
    have hspot : spot = none := by simpa [Addr.add] using World.cell?_spot hc0
    subst hspot
    refine ⟨b, off, rfl, ?_, fun i hi => ?_⟩
    · have := World.block_lt_of_cell? _ _ hc0
      simpa [Addr.add] using this
    · have hi' : i < bs.length := by simp at hi; omega
      have hc := hcell i (by simpa using hi')
      rw [add_at] at hc
      rw [hc]
      simp [hi']
theorem Bys.take {w : World} {a : Option Addr} {bs : List Nat} (h : Bys w a bs) (n : Nat) : Bys w a (bs.take n) := by
  obtain ⟨h1, h2, h3⟩ := h
  refine ⟨by rw [List.length_take]; omega, fun c hc => h2 c (List.mem_of_mem_take hc), fun hn => ?_⟩
  obtain ⟨b, off, ha, hb, hc⟩ := h3 (by rintro rfl; simp at hn)
  refine ⟨b, off, ha, hb, fun i hi => ?_⟩
  rw [List.length_take] at hi
  rw [hc i (by omega), List.getElem_take]
/-- b is behind a: of what was there in a nothing has turned -/
structure Since (a b : World) : Prop where
  out : Below a.heap.size a b
theorem Since.start (a : World) : Since a a.drew := ⟨(Below.refl _ _).drew⟩
theorem Since.next {a b c : World} (h : Since a b) (k : Below b.heap.size b c) : Since a c := ⟨h.out.trans (k.mono h.out.size)⟩
theorem Since.alloc {a b : World} (h : Since a b) (o : Obj) : Since a (b.alloc o) := ⟨h.out.alloc h.out.size o⟩
/-- a writer's bytes, where they are known -/
def TheBytes (w : World) (ds : List Nat) (e : Ending) (w' : World) : Prop := ∃ a cap, e = .returned (.slice a ds.length cap) ∧ Bys w' a ds ∧ Below w.heap.size w w'
theorem wbytes_known (p d k : Nat) (B : List Bool) (ds : List Nat) (w : World) (H : Wr w p d B) (hB : B.length ≤ 1000000000) (hk : k < 8) (hP : Bt.Packs k ds B) :
    Calls Tryd.prog 28 #[.pointer (some ⟨p, 0, none⟩)] w (TheBytes w ds) := by
  refine (wbytes_any p d B w H hB).mono ?_
  rintro e w' ⟨bs, k2, hk2, hP2, a, cap, g, rfl, hR, _, hb⟩
  obtain rfl := Bt.packs_unique hP hP2 hk hk2
  exact ⟨a, cap, rfl, (hR.bys hP.1).2, hb⟩
theorem same_n (n m : Nat) (a a2 : Option Addr) (bs : List Nat) (cap cap2 : Nat) (w : World) (hn : bs.length = n) (hm : bs.length = m) (H : Bys w a bs) (H2 : Bys w a2 bs) :
    Calls Tryd.prog 29 #[.slice a n cap, .slice a2 m cap2] w fun e w' => e = .returned (.bool true) ∧ Below w.heap.size w w' := by
  subst hn; subst hm; exact same_any a a2 bs cap cap2 w H H2
theorem unpack_take (ds : List Nat) (n : Nat) : Bt.unpack (ds.take n) = (Bt.unpack ds).take (8 * n) := by
  induction ds generalizing n with
  | nil => simp [Bt.unpack]
  | cons c ds ih =>
    cases n with
    | zero => simp [Bt.unpack]
    | succ n =>
      rw [List.take_succ_cons, Bt.unpack_cons, Bt.unpack_cons, ih, show 8 * (n + 1) = 8 + 8 * n by omega, List.take_add]
      congr 1
end Go.Proofs.YtdlifcpdlbmijaaDoor.B2
namespace Go.Proofs.YtdlifcpdlbmijaaDoor.B2
open Go.RowKit
/-- bits, one a byte -/
def flat (B : List Bool) : List Nat := B.map Bool.toNat
theorem flat_length (B : List Bool) : (flat B).length = B.length := by simp [flat]
theorem flat_append (A B : List Bool) : flat (A ++ B) = flat A ++ flat B := by simp [flat]
theorem flat_lt (B : List Bool) : ∀ c ∈ flat B, c < 256 := by
  intro c hc
  obtain ⟨b, _, rfl⟩ := List.mem_map.1 hc
  cases b <;> decide
/-- the document's own bits: the struct's block, its list's block, its bits, its place -/
def Rf (w : World) (p g : Nat) (B : List Bool) (at_ : Nat) : Prop :=
  ∃ v, w.heap[p]? = some (.cells #[v, .int .i64 (at_ : Nat)] 165 (0, 0)) ∧ Row w g v (flat B) ∧ (v.ownBlock = none ∨ g ≠ p) ∧ g < w.heap.size
theorem Rf.lt {w : World} {p g : Nat} {B : List Bool} {at_ : Nat} (h : Rf w p g B at_) : p < w.heap.size ∧ g < w.heap.size := by
  obtain ⟨v, hp, _, _, hd⟩ := h
  exact ⟨(Array.getElem?_eq_some_iff.1 hp).1, hd⟩
theorem Rf.only {w w' : World} {p g : Nat} {B : List Bool} {at_ : Nat} (h : Rf w p g B at_) {S : List Nat} (ho : Only S w w') (hp : p ∉ S) (hg : g ∉ S) : Rf w' p g B at_ := by
  obtain ⟨v, h1, h2, h3, h4⟩ := h
  exact ⟨v, (ho.block p (Array.getElem?_eq_some_iff.1 h1).1 hp).trans h1, h2.only ho hg, h3, Nat.lt_of_lt_of_le h4 ho.size⟩
theorem Rf.below {w w' : World} {p g : Nat} {B : List Bool} {at_ : Nat} (h : Rf w p g B at_) (ho : Below w.heap.size w w') : Rf w' p g B at_ := h.only (Only.of_below ho []) (by simp) (by simp)
theorem rf_slice {w : World} {p g : Nat} {B : List Bool} {at_ : Nat} (h : Rf w p g B at_) : ∃ a cap, w.cell? ⟨p, 0, none⟩ = some (.slice a B.length cap) ∧ w.cell? ⟨p, 1, none⟩ = some (.int .i64 (at_ : Nat)) ∧ w.frozen? ⟨p, 0, none⟩ = false ∧ w.frozen? ⟨p, 1, none⟩ = false ∧
    (∀ i (hi : i < B.length), a = some ⟨g, 0, none⟩ ∧ w.cell? ⟨g, i, none⟩ = some (.int .u8 ((B[i].toNat : Nat) : Int))) ∧ w.heap[p]? = some (.cells #[.slice a B.length cap, .int .i64 (at_ : Nat)] 165 (0, 0)) ∧ Row w g (.slice a B.length cap) (flat B) ∧ some p ≠ (Value.slice a B.length cap).ownBlock := by
  obtain ⟨v, hp, hR, hne, _⟩ := h
  obtain ⟨c0, c1, f0, f1⟩ := cell2 hp
  have hpo : some p ≠ v.ownBlock := by
    intro e
    rcases hne with h | h
    · rw [h] at e; cases e
    · rcases hR.2 with h2 | h2
      · rw [h2] at e; cases e
      · rw [h2] at e; injection e with e; exact h e.symm
  rcases hR.value with ⟨rfl, h0⟩ | ⟨cap, _, hv, _⟩
  · have hl : B.length = 0 := by rw [← flat_length, h0]; rfl
    obtain rfl : B = [] := List.eq_nil_of_length_eq_zero hl
    exact ⟨_, _, c0, c1, f0, f1, fun i hi => absurd hi (by simp), hp, hR, hpo⟩
  · rw [flat_length] at hv
    subst hv
    refine ⟨_, _, c0, c1, f0, f1, fun i hi => ⟨rfl, ?_⟩, hp, hR, hpo⟩
    obtain ⟨_, _, _, _, hc, _⟩ := hR.cell i (by rw [flat_length]; exact hi)
    rw [hc]
    simp [flat]
def RfPost (w : World) (p g : Nat) (B : List Bool) (at_ : Nat) (w' : World) : Prop := ∃ g', Rf w' p g' B at_ ∧ (g' = g ∨ w.heap.size ≤ g') ∧ Only [p, g] w w'
theorem RfPost.trans {w w1 w2 : World} {p g g1 at_ : Nat} {B : List Bool} (hO : Only [p, g] w w1) (hd : g1 = g ∨ w.heap.size ≤ g1) (h : RfPost w1 p g1 B at_ w2) : RfPost w p g B at_ w2 := by
  obtain ⟨g2, h1, h2, h3⟩ := h
  refine ⟨g2, h1, ?_, hO.trans h3 ?_⟩
  · have := hO.size
    rcases h2 with rfl | h2
    · exact hd
    · exact .inr (by omega)
  · intro x hx
    simp only [List.mem_cons, List.not_mem_nil, or_false] at hx ⊢
    rcases hx with rfl | rfl
    · exact .inl (.inl rfl)
    · rcases hd with rfl | hd
      · exact .inl (.inr rfl)
      · exact .inr hd
theorem RfPost.refl {w : World} {p g at_ : Nat} {B : List Bool} (h : Rf w p g B at_) : RfPost w p g B at_ w := ⟨g, h, .inl rfl, Only.refl _ _⟩
theorem one_one (W : World) : ∀ (j : Nat) (u : Value), (cellsOf [1])[j]? = some u → (W.alloc (.cells #[.int .u8 1] 5)).cell? ((⟨W.heap.size, 0, none⟩ : Addr).add j) = some u := by
  intro j u hu
  rw [add_here, cell_of_row _ _ _ _ _ _ (heap_alloc_new W _)]
  rw [show (#[Value.int .u8 1] : Array Value) = (cellsOf [1]).toArray from rfl, List.getElem?_toArray]
  exact hu
/-- one bit more -/
theorem rf_grow {w w2 : World} {p g at_ N : Nat} {B : List Bool} {a : Option Addr} {cap : Nat} {b : Bool} {v2 : Value} {o : Obj} (hp : w.heap[p]? = some (.cells #[.slice a B.length cap, .int .i64 (at_ : Nat)] 165 (0, 0))) (hR : Row w g (.slice a B.length cap) (flat B)) (hpo : some p ≠ (Value.slice a B.length cap).ownBlock)
    (hown : w2.ownsRow 0 5 1 v2 ((flat B).length + [b.toNat].length) (cellsOf (flat B) ++ cellsOf [b.toNat])) (hgr : (w.alloc o).grownBy w2 (Value.slice a B.length cap).ownBlock) (hpl : v2.ownBlock = (Value.slice a B.length cap).ownBlock ∨ ∃ g', v2.ownBlock = some g' ∧ N ≤ g') (hN : w.heap.size ≤ N) :
    (∃ a2 n2 c2, v2 = .slice a2 n2 c2) ∧ w2.cell? ⟨p, 0, none⟩ = some (.slice a B.length cap) ∧ w2.frozen? ⟨p, 0, none⟩ = false ∧ RfPost w p g (B ++ [b]) at_ (w2.setCell ⟨p, 0, none⟩ v2) := by
  obtain ⟨d2, cap2, rfl, hcap2, R2, hd2, hd2l⟩ := grow_row hR hown hpl (by simp)
  have hlp : p < w.heap.size := (Array.getElem?_eq_some_iff.1 hp).1
  have hp2 : w2.heap[p]? = some (.cells #[.slice a B.length cap, .int .i64 (at_ : Nat)] 165 (0, 0)) := (hgr.block p (by simp; omega) hpo).trans ((Below.heap_alloc _ _ _ hlp).trans hp)
  have hdp : d2 ≠ p := by
    rcases hd2 with ⟨h1, rfl⟩ | h1
    · rw [h1] at hpo; intro e; exact hpo (by rw [e])
    · omega
  have hO : Only [p, g] w w2 := ((Only.refl [p, g] w).alloc o).grown hgr (by
    intro k hk
    rcases hR.2 with h | h
    · rw [h] at hk; cases hk
    · rw [h] at hk; injection hk with hk; subst hk; exact .inl (by simp))
  have hset : Only [p] w2 (w2.setCell ⟨p, 0, none⟩ (.slice (some ⟨d2, 0, none⟩) ((flat B).length + [b.toNat].length) cap2)) := (Only.refl [p] _).setCell (p := ⟨p, 0, none⟩) (.inl (by simp)) _
  refine ⟨⟨_, _, _, rfl⟩, (cell2 hp2).1, (cell2 hp2).2.2.1, d2, ⟨_, set2a hp2, ?_, .inr hdp, Nat.lt_of_lt_of_le hd2l hset.size⟩, ?_, hO.setCell (p := ⟨p, 0, none⟩) (.inl (by simp)) _⟩
  · rw [flat_append]
    exact R2.only hset (by simpa using hdp)
  · rcases hd2 with ⟨_, rfl⟩ | h1
    · exact .inl rfl
    · exact .inr (by omega)
set_option maxRecDepth 100000 in
set_option maxHeartbeats 400000 in
theorem fbit_any (p g : Nat) (B : List Bool) (at_ : Nat) (b : Bool) (w : World) (H : Rf w p g B at_) (hB : B.length + 1 ≤ 1000000000) :
    Calls Tryd.prog 89 #[.pointer (some ⟨p, 0, none⟩), .bool b] w fun e w' => e = .returned (.tuple #[]) ∧ RfPost w p g (B ++ [b]) at_ w' := by
  obtain ⟨i0, hi, hz0, hz1, hz2⟩ := info_parts info5
  obtain ⟨a, cap, c0, c1, f0, f1, hcells, hp, hR, hpo⟩ := rf_slice H
  have hl := flat_length B
  have HP := Lib.hid hp
  have HR := Lib.hid hR
  have HPO := Lib.hid hpo
  have HL := Lib.hid hl
  clear H hp hR hpo hcells c1 f1 hl
  cases b
  · go_enter Tryd.func89, Tryd.ntmps89
    go_wp2_with (at_builtin; refine wpList_append_place _ rfl (.tmp 10) (.tmp 12) 71 rfl 5 i0 (.int .u8 0) 1 1 Tryd.underlying71 hi hz0 hz1 hz2 rfl (by decide) (.slice a B.length cap) (flat B).length (cellsOf (flat B)) rfl (HR.out.below ((Below.refl _ _).alloc (Nat.le_refl _) _)).1 ⟨w.heap.size, 0, none⟩ 1 1 (cellsOf [0]) rfl rfl (one_zero w) (cellsOf_one _) (by unfold maxLen; have := HL.out; omega) (by have := HL.out; omega) ?_)
    intro v2 w2 hown2 hgr2 hpl2
    obtain ⟨⟨a2, n2, c2, rfl⟩, d0, d1, d2⟩ := rf_grow (b := false) HP.out HR.out HPO.out hown2 hgr2 hpl2 (Nat.le_succ _)
    have D2 := Lib.hid d2
    clear d2 hown2 hgr2 hpl2
    go_wp2
    go_end0
    exact ⟨rfl, D2.out⟩
  · go_enter Tryd.func89, Tryd.ntmps89
    go_wp2_with (at_builtin; refine wpList_append_place _ rfl (.tmp 10) (.tmp 12) 71 rfl 5 i0 (.int .u8 0) 1 1 Tryd.underlying71 hi hz0 hz1 hz2 rfl (by decide) (.slice a B.length cap) (flat B).length (cellsOf (flat B)) rfl (HR.out.below ((Below.refl _ _).alloc (Nat.le_refl _) _)).1 ⟨w.heap.size, 0, none⟩ 1 1 (cellsOf [1]) rfl rfl (one_one w) (cellsOf_one _) (by unfold maxLen; have := HL.out; omega) (by have := HL.out; omega) ?_)
    intro v2 w2 hown2 hgr2 hpl2
    obtain ⟨⟨a2, n2, c2, rfl⟩, d0, d1, d2⟩ := rf_grow (b := true) HP.out HR.out HPO.out hown2 hgr2 hpl2 (Nat.le_succ _)
    have D2 := Lib.hid d2
    clear d2 hown2 hgr2 hpl2
    go_wp2
    go_end0
    exact ⟨rfl, D2.out⟩
set_option maxHeartbeats 400000 in
theorem fleft_any (p g : Nat) (B : List Bool) (at_ : Nat) (w : World) (H : Rf w p g B at_) (hat : at_ ≤ B.length) (hB : B.length ≤ 1000000000) :
    Calls Tryd.prog 98 #[.pointer (some ⟨p, 0, none⟩)] w fun e w' => e = .returned (.int .i64 ((B.length - at_ : Nat) : Int)) ∧ Below w.heap.size w w' := by
  obtain ⟨a, cap, c0, c1, _⟩ := rf_slice H
  clear H
  have HE : Hid ((B.length : Int) - (at_ : Int) = ((B.length - at_ : Nat) : Int)) := by show _ = _; omega
  go_enter Tryd.func98, Tryd.ntmps98
  go_wp2
  go_quiet (fail)
  go_wp2
  go_ret
  exact ⟨by rw [← HE.out]; rfl, (Only.refl [] _).drewN _ |>.below (Nat.le_refl _) (by simp)⟩
theorem and1_spell (v i : Nat) (hv : v < 18446744073709551616) : (bits .and .u64 ((v : Int) / 2 ^ i) 1 == 1) = v.testBit i := by
  have e : ((v : Int) / 2 ^ i) = ((v >>> i : Nat) : Int) := by
    rw [Nat.shiftRight_eq_div_pow]
    simp only [Int.natCast_ediv, Int.natCast_pow, Int.cast_ofNat_Int]
  have hl : v >>> i < 18446744073709551616 := by
    rw [Nat.shiftRight_eq_div_pow]; exact Nat.lt_of_le_of_lt (Nat.div_le_self _ _) hv
  have h := u64_and_nat (v >>> i) 1 hl (by decide)
  rw [nat_mask1] at h
  rw [e]
  have h2 : bits .and .u64 ((v >>> i : Nat) : Int) 1 = ((v >>> i % 2 : Nat) : Int) := h
  rw [h2, Nat.testBit_eq_decide_div_mod_eq, ← Nat.shiftRight_eq_div_pow]
  have h3 : v >>> i % 2 = 0 ∨ v >>> i % 2 = 1 := by omega
  rcases h3 with h3 | h3 <;> rw [h3] <;> rfl
theorem top_cut (v n m : Nat) (h : m < n) : Bt.top (v >>> (m + 1)) (n - (m + 1)) ++ [v.testBit m] = Bt.top (v >>> m) (n - m) := by
  have h1 := Bt.top_split (v >>> m) (n - (m + 1)) 1
  rw [← Nat.shiftRight_add, show n - (m + 1) + 1 = n - m by omega] at h1
  rw [h1]
  simp [Bt.top]
set_option maxHeartbeats 400000 in
theorem fbits_bad (p : Nat) (v : Nat) (n : Int) (hn : n < 0 ∨ 64 < n) (w : World) :
    Calls Tryd.prog 87 #[.pointer (some ⟨p, 0, none⟩), .int .u64 (v : Nat), .int .i64 n] w fun e w' => e = .returned (.int .u16 1) ∧ w = w' := by
  rcases hn with hn | hn
  · have h1 : decide (n < 0) = true := by simpa using hn
    go_enter Tryd.func87, Tryd.ntmps87
    go_wp2
    go_ret
    exact ⟨rfl, rfl⟩
  · have h1 : decide (n < 0) = false := by simp; omega
    have h2 : decide (n > 64) = true := by simpa using hn
    go_enter Tryd.func87, Tryd.ntmps87
    go_wp2
    go_ret
    exact ⟨rfl, rfl⟩
set_option maxHeartbeats 400000 in
theorem fbits_good (p g : Nat) (B : List Bool) (at_ v n : Nat) (hv : v < 18446744073709551616) (hn : n ≤ 64) (w : World) (H : Rf w p g B at_) (hB : B.length + n ≤ 1000000000) :
    Calls Tryd.prog 87 #[.pointer (some ⟨p, 0, none⟩), .int .u64 (v : Nat), .int .i64 (n : Nat)] w fun e w' => e = .returned (.int .u16 0) ∧ RfPost w p g (B ++ Bt.top v n) at_ w' := by
  have H0 := Lib.hid (show RfPost w p g (B ++ Bt.top (v >>> n) (n - n)) at_ w by rw [Nat.sub_self]; simpa [Bt.top] using RfPost.refl H)
  have HV := Lib.hid hv
  clear H hv
  have h1 : decide ((n : Int) < 0) = false := by simp
  have h2 : decide ((n : Int) > 64) = false := by simp; omega
  go_enter Tryd.func87, Tryd.ntmps87
  go_wp2
  go_loopw [7] (fun i wr => ∃ m : Nat, m ≤ n ∧ i = .int .i64 ((m : Int) - 1) ∧ Hid (RfPost w p g (B ++ Bt.top (v >>> m) (n - m)) at_ wr)) (fun i _ => (intOf i + 1).toNat)
  case atStart => exact ⟨n, Nat.le_refl _, rfl, H0⟩
  case round =>
    obtain ⟨m, hm, rfl, g1, HR, hg, hO⟩ := hrel
    have XR := Lib.hid HR
    have XO := Lib.hid hO
    clear HR hO
    by_cases hlt : 0 < m
    · obtain ⟨m', rfl⟩ : ∃ m', m = m' + 1 := ⟨m - 1, by omega⟩
      have he : ((m' + 1 : Nat) : Int) - 1 = (m' : Int) := by omega
      rw [he]
      have hd : decide ((m' : Int) ≥ 0) = true := by simp
      have h64 : m' ≤ 64 := by omega
      have hsp := and1_spell v m' HV.out
      have HSP := Lib.hid hsp
      clear hsp he
      go_wp2_with fail
      rw [HSP.out]
      refine (fbit_any p g1 _ at_ (v.testBit m') _ XR.out (by rw [List.length_append, Bt.top_length]; omega)).mono ?_
      rintro e w' ⟨rfl, hpp⟩
      rw [List.append_assoc, top_cut v n m' (by omega)] at hpp
      have HP := Lib.hid (RfPost.trans XO.out hg hpp)
      clear hpp
      go_wp2
      go_roundw
      case rel => exact ⟨m', by omega, rfl, HP⟩
      case measure => simp [intOf]
    · obtain rfl : m = 0 := by omega
      go_wp2
      go_ret
      exact ⟨rfl, g1, by simpa using XR.out, hg, XO.out⟩
end Go.Proofs.YtdlifcpdlbmijaaDoor.B2
namespace Go.Proofs.YtdlifcpdlbmijaaDoor.B2
open Go.RowKit
def FreadPost (w : World) (bs : List Nat) (e : Ending) (w' : World) : Prop :=
  ∃ p g, e = .returned (.pointer (some ⟨p, 0, none⟩)) ∧ w.heap.size ≤ p ∧ w.heap.size ≤ g ∧ Rf w' p g (Bt.unpack bs) 0 ∧ Below w.heap.size w w'
/-- how far the list has been laid -/
def FreadAt (w : World) (bs : List Nat) (k : Nat) (wr : World) : Prop := ∃ g, w.heap.size ≤ g ∧ Rf wr w.heap.size g (Bt.unpack (bs.take k)) 0 ∧ Below w.heap.size w wr
set_option maxHeartbeats 400000 in
theorem fread_any (a : Option Addr) (bs : List Nat) (cap : Nat) (w : World) (H : Bys w a bs) (hbd : bs.length ≤ 1000000) :
    Calls Tryd.prog 68 #[.slice a bs.length cap] w (FreadPost w bs) := by
  have A1 := Lib.hid H
  clear H
  have h0 : FreadAt w bs 0 (w.alloc (.cells #[.slice none 0 0, .int .i64 0] 165)) :=
    ⟨w.heap.size, Nat.le_refl _, ⟨_, heap_alloc_new _ _, Row.nil _ _, .inl rfl, by simp⟩, (Below.refl _ _).alloc (Nat.le_refl _) _⟩
  have H0 := Lib.hid h0
  clear h0
  go_enter Tryd.func68, Tryd.ntmps68
  go_wp2
  go_loopw [4] (fun i wr => ∃ k : Nat, k ≤ bs.length ∧ i = .int .i64 (k : Nat) ∧ Hid (FreadAt w bs k wr)) (fun i _ => bs.length - (intOf i).toNat)
  case atStart => exact ⟨0, Nat.zero_le _, rfl, H0⟩
  case round =>
    obtain ⟨k, hk, rfl, g, hg, hR, hB⟩ := hrel
    have XR := Lib.hid hR
    have XB := Lib.hid hB
    clear hR hB
    by_cases hlt : k < bs.length
    · obtain ⟨b, off, rfl, hb, hc⟩ := (A1.out.below XB.out).at k hlt
      have h8 : bs[k] < 256 := A1.out.2.1 _ (List.getElem_mem _)
      have hu : Bt.unpack (bs.take (k + 1)) = Bt.unpack (bs.take k) ++ Bt.top bs[k] 8 := by
        rw [List.take_succ_eq_append_getElem hlt, Bt.unpack_append, Bt.unpack_one]
      have HU := Lib.hid hu
      clear hu
      generalize bs[k] = c at *
      have hl : (Bt.unpack (bs.take k)).length ≤ 8000000 := by rw [Bt.unpack_length, List.length_take]; omega
      have hi : (k : Int) < (bs.length : Int) := by omega
      go_wp2_with fail
      refine (fbits_good _ g _ 0 c 8 (by omega) (by omega) _ XR.out (by omega)).mono ?_
      rintro e w' ⟨rfl, g', h1, h2, h3⟩
      have HN : Hid (FreadAt w bs (k + 1) w') := by
        have hs := XB.out.size
        exact ⟨g', by rcases h2 with h | h <;> omega, by rw [HU.out]; exact h1, XB.out.trans (h3.below hs (by intro x hx; simp at hx; omega))⟩
      clear h1 h2 h3
      go_wp2
      go_roundw
      case rel => exact ⟨k + 1, by omega, by go_num, HN⟩
      case measure => simp [intOf]; omega
    · obtain rfl : k = bs.length := by omega
      go_wp2
      go_ret
      have hR := XR.out
      rw [List.take_length] at hR
      exact ⟨_, g, rfl, Nat.le_refl _, hg, hR, XB.out⟩
def FnPost (w : World) (p g : Nat) (B : List Bool) (at_ : Nat) (n : Int) (e : Ending) (w' : World) : Prop :=
  e = .returned (.tuple #[.int .u64 (((Bt.rd (B.drop at_) n).1 : Nat) : Int), .int .u16 (((Bt.rd (B.drop at_) n).2.1 : Nat) : Int)]) ∧ Rf w' p g B (at_ + (Bt.rd (B.drop at_) n).2.2) ∧ Only [p] w w'
theorem rf_at {w : World} {p g at_ x : Nat} {B : List Bool} (h : Rf w p g B at_) : Rf (w.setCell ⟨p, 1, none⟩ (.int .i64 (x : Nat))) p g B x := by
  obtain ⟨v, h1, h2, h3, h4⟩ := h
  refine ⟨v, set2b h1, ?_, h3, by simpa [World.setCell] using h4⟩
  rcases h2.value with ⟨rfl, h0⟩ | ⟨cap, cur, rfl, hg, _⟩
  · rw [h0]; exact Row.nil _ _
  · refine h2.only ((Only.refl [p] _).setCell (p := ⟨p, 1, none⟩) (.inl (by simp)) _) ?_
    rcases h3 with h | h
    · cases h
    · simpa using h
theorem val_step (S : List Bool) (k : Nat) (h : k < S.length) : Bt.val (S.take (k + 1)) = 2 * Bt.val (S.take k) + (S[k]).toNat := by
  rw [List.take_succ_eq_append_getElem h, Bt.val_snoc]
set_option maxRecDepth 100000 in
set_option maxHeartbeats 400000 in
theorem fnext_any (p g : Nat) (B : List Bool) (at_ : Nat) (n : Int) (w : World) (H : Rf w p g B at_) (hat : at_ ≤ B.length) (hbd : B.length ≤ 1000000000) :
    Calls Tryd.prog 70 #[.pointer (some ⟨p, 0, none⟩), .int .i64 n] w (FnPost w p g B at_ n) := by
  have hU : (B.drop at_).length = B.length - at_ := by rw [List.length_drop]
  by_cases hn : n < 0 ∨ 64 < n
  · have hpost : FnPost w p g B at_ n (.returned (.tuple #[.int .u64 0, .int .u16 1])) w := by
      unfold FnPost Bt.rd
      rw [if_pos hn]
      exact ⟨rfl, H, Only.refl _ _⟩
    have HP := Lib.hid hpost
    clear hpost H hU
    rcases hn with hn | hn
    · have h1 : decide (n < 0) = true := by simpa using hn
      go_enter Tryd.func70, Tryd.ntmps70
      go_wp2
      go_ret2
      exact HP.out
    · have h1 : decide (n < 0) = false := by simp; omega
      have h2 : decide (n > 64) = true := by simpa using hn
      go_enter Tryd.func70, Tryd.ntmps70
      go_wp2
      go_ret2
      exact HP.out
  · obtain ⟨m, rfl⟩ := Int.eq_ofNat_of_zero_le (a := n) (by omega)
    have hm : m ≤ 64 := by omega
    have H0 := Lib.hid H
    clear H
    have h1 : decide ((m : Int) < 0) = false := by simp
    have h2 : decide ((m : Int) > 64) = false := by simp; omega
    by_cases hs : B.length - at_ < m
    · have hpost : ∀ w', Below w.heap.size w w' → FnPost w p g B at_ (m : Int) (.returned (.tuple #[.int .u64 0, .int .u16 20])) w' := by
        intro w' hb
        unfold FnPost Bt.rd
        rw [if_neg hn, hU, Int.toNat_natCast, if_pos hs]
        exact ⟨rfl, H0.out.below hb, Only.of_below hb _⟩
      have HP := Lib.hid hpost
      clear hpost hU hn
      have h3 : decide ((m : Int) > ((B.length - at_ : Nat) : Int)) = true := by simp; omega
      go_enter Tryd.func70, Tryd.ntmps70
      go_wp2_with (go_at_call 98; refine (fleft_any p g B at_ _ H0.out hat hbd).mono ?_; rintro e w1 ⟨rfl, hb⟩; have HB := Lib.hid hb; clear hb)
      go_ret2
      exact HP.out _ HB.out
    · have hpost : ∀ w', Rf w' p g B (at_ + m) → Only [p] w w' → FnPost w p g B at_ (m : Int) (.returned (.tuple #[.int .u64 ((Bt.val ((B.drop at_).take m) : Nat) : Int), .int .u16 0])) w' := by
        intro w' hr ho
        unfold FnPost Bt.rd
        rw [if_neg hn, hU, Int.toNat_natCast, if_neg hs]
        exact ⟨rfl, hr, ho⟩
      have HP := Lib.hid hpost
      have HU := Lib.hid hU
      clear hpost hU hn
      have h3 : decide ((m : Int) > ((B.length - at_ : Nat) : Int)) = false := by simp; omega
      go_enter Tryd.func70, Tryd.ntmps70
      go_wp2_with fail
      refine (fleft_any p g B at_ _ H0.out hat hbd).mono ?_
      rintro e w1 ⟨rfl, hb⟩
      have HB := Lib.hid hb
      clear hb
      go_wp2
      go_loopw [6, 7] (fun v i wr => ∃ k : Nat, k ≤ m ∧ i = .int .i64 (k : Nat) ∧ v = .int .u64 ((Bt.val ((B.drop at_).take k) : Nat) : Int) ∧ Hid (Below w.heap.size w wr)) (fun _ i _ => m - (intOf i).toNat)
      case atStart => exact ⟨0, Nat.zero_le _, rfl, rfl, HB⟩
      case round =>
        obtain ⟨k, hk, rfl, rfl, XB⟩ := hrel
        have XR := Lib.hid (H0.out.below XB.out)
        obtain ⟨a, cap, c0, c1, f0, f1, hcells, _⟩ := rf_slice XR.out
        by_cases hlt : k < m
        · obtain ⟨rfl, hc⟩ := hcells (at_ + k) (by omega)
          have hstep := val_step (B.drop at_) k (by have := HU.out; omega)
          have hvl : Bt.val ((B.drop at_).take k) < 2 ^ k := by
            have := Bt.val_lt ((B.drop at_).take k)
            rwa [List.length_take, Nat.min_eq_left (by have := HU.out; omega)] at this
          have hvl2 : Bt.val ((B.drop at_).take k) < 9223372036854775808 := Nat.lt_of_lt_of_le hvl (Nat.pow_le_pow_right (n := 2) (by decide) (show k ≤ 63 by omega))
          rw [List.getElem_drop] at hstep
          obtain ⟨c, hcc⟩ : ∃ c, (B[at_ + k]'(by omega)).toNat = c := ⟨_, rfl⟩
          have hc1 : c ≤ 1 := by rw [← hcc]; cases B[at_ + k]'(by omega) <;> decide
          rw [hcc] at hstep hc
          have HS := Lib.hid hstep
          obtain ⟨V, hV⟩ : ∃ V, Bt.val ((B.drop at_).take k) = V := ⟨_, rfl⟩
          rw [hV] at hvl2 HS ⊢
          clear hstep hvl hcc hcells hV
          have hi1 : ((at_ : Int) + (k : Int)) < (B.length : Int) := by omega
          have hi0 : (0 : Int) ≤ (at_ : Int) + (k : Int) := by omega
          have E1 : IntKind.i64.wrap ((at_ : Int) + (k : Int)) = ((at_ + k : Nat) : Int) := by rw [← Int.natCast_add]; exact IntWalk.i64_in _ (by omega)
          go_wp2
          go_quiet (fail)
          go_wp2
          go_roundw
          case rel => exact ⟨k + 1, by omega, by go_num, by rw [HS.out]; congr 1; omega, Lib.hid ((Only.of_below XB.out []).drewN _ |>.below (Nat.le_refl _) (by simp))⟩
          case measure => simp [intOf]; omega
        · obtain rfl : k = m := by omega
          have hfin := rf_at (x := at_ + k) XR.out
          have HF := Lib.hid hfin
          have hO := Lib.hid ((Only.of_below XB.out [p]).setCell (p := ⟨p, 1, none⟩) (.inl (by simp)) (.int .i64 ((at_ + k : Nat) : Int)))
          clear hfin hcells
          go_wp2
          go_ret2
          exact HP.out _ HF.out hO.out
/-- reading a number of groups: how far -/
structure FVar (w : World) (p g : Nat) (B : List Bool) (at_ i acc : Nat) (wr : World) : Prop where
  rf : Rf wr p g B (at_ + 8 * i)
  only : Only [p] w wr
  accl : acc < 2 ^ (7 * i)
  le : at_ + 8 * i ≤ B.length
  rv : Bt.rv (B.drop at_) = Bt.rvf (10 - i) i acc (B.drop (at_ + 8 * i))
theorem fvar_step {w wr w1 : World} {p g at_ j acc G f : Nat} {B S : List Bool} (HV : FVar w p g B at_ j acc wr) (hr : Rf w1 p g B (at_ + 8 * j + 8)) (ho : Only [p] w w1) (hS : B.drop (at_ + 8 * j) = S) (hf : 10 - j = f + 1) (_hj : j < 9)
    (hrv : Bt.rv (B.drop at_) = Bt.rvf f (j + 1) (acc + G % 128 * 2 ^ (7 * j)) (S.drop 8)) (hl : at_ + 8 * j + 8 ≤ B.length) : FVar w p g B at_ (j + 1) (acc + G % 128 * 2 ^ (7 * j)) w1 := by
  refine ⟨?_, ho, ?_, by omega, ?_⟩
  · rw [show at_ + 8 * (j + 1) = at_ + 8 * j + 8 by omega]; exact hr
  · have h3 := HV.accl
    rw [show 7 * (j + 1) = 7 + 7 * j by omega, Nat.pow_add]
    have : G % 128 ≤ 127 := by omega
    have := Nat.mul_le_mul_right (2 ^ (7 * j)) this
    omega
  · rw [hrv, ← hS, List.drop_drop, show 10 - (j + 1) = f by omega, show at_ + 8 * (j + 1) = at_ + 8 * j + 8 by omega]
def FvPost (w : World) (p g : Nat) (B : List Bool) (at_ : Nat) (e : Ending) (w' : World) : Prop :=
  e = .returned (.tuple #[.int .u64 (((Bt.rv (B.drop at_)).1 : Nat) : Int), .int .u16 (((Bt.rv (B.drop at_)).2.1 : Nat) : Int)]) ∧ Rf w' p g B (at_ + (Bt.rv (B.drop at_)).2.2) ∧ Only [p] w w'
set_option maxRecDepth 100000 in
set_option maxHeartbeats 400000 in
theorem fvarint_any (p g : Nat) (B : List Bool) (at_ : Nat) (w : World) (H : Rf w p g B at_) (hat : at_ ≤ B.length) (hbd : B.length ≤ 1000000000) :
    Calls Tryd.prog 71 #[.pointer (some ⟨p, 0, none⟩)] w (FvPost w p g B at_) := by
  obtain ⟨a, cap, c0, c1, f0, f1, _⟩ := rf_slice H
  have HI := Lib.hid (show FVar w p g B at_ 0 0 w from ⟨H, Only.refl _ _, by decide, hat, rfl⟩)
  clear H
  go_enter Tryd.func71, Tryd.ntmps71
  go_wp2
  clear c0 c1 f0 f1
  go_loopw [5, 6] (fun v i wr => ∃ j acc : Nat, i = .int .i64 (j : Nat) ∧ v = .int .u64 (acc : Nat) ∧ j ≤ 9 ∧ Hid (FVar w p g B at_ j acc wr)) (fun _ i _ => 10 - (intOf i).toNat)
  case atStart => exact ⟨0, 0, rfl, rfl, by decide, HI⟩
  case round =>
    obtain ⟨j, acc, rfl, rfl, hj, HV⟩ := hrel
    have hd10 : decide ((j : Int) < 10) = true := by simp; omega
    obtain ⟨f, hf⟩ : ∃ f, 10 - j = f + 1 := ⟨9 - j, by omega⟩
    have hrv := HV.out.rv
    rw [hf] at hrv
    obtain ⟨S, hS⟩ : ∃ S, B.drop (at_ + 8 * j) = S := ⟨_, rfl⟩
    have HF := Lib.hid hf
    clear hf
    by_cases hs : S.length < 8
    · have hrd : Bt.rd S 8 = (0, 20, 0) := by unfold Bt.rd; rw [if_neg (by omega), if_pos (by exact hs)]
      have hres : Bt.rv (B.drop at_) = (0, 20, 0) := by rw [hrv, hS, Bt.rvf, if_pos hs]
      have HR := Lib.hid hrd
      have HRES := Lib.hid hres
      have HS := Lib.hid hS
      clear hrd hres hS hrv hs
      go_wp2_with fail
      refine (fnext_any p g B (at_ + 8 * j) 8 _ HV.out.rf HV.out.le hbd).mono ?_
      rintro e w1 ⟨rfl, hr, ho⟩
      rw [HS.out, HR.out] at hr ⊢
      obtain ⟨_, _, c0, c1, f0, f1, _⟩ := rf_slice hr
      have XR := Lib.hid hr
      have XO := Lib.hid (HV.out.only.trans ho (fun x hx => .inl hx))
      clear hr ho c0
      go_wp2
      go_ret2
      refine ⟨by rw [HRES.out]; rfl, ?_, XO.out.setCell (p := ⟨p, 1, none⟩) (.inl (by simp)) _⟩
      rw [HRES.out]
      exact rf_at XR.out
    · obtain ⟨G, hG⟩ : ∃ G, Bt.val (S.take 8) = G := ⟨_, rfl⟩
      have hGl : G < 256 := by
        have := Bt.val_lt (S.take 8)
        rw [hG, List.length_take, Nat.min_eq_left (by omega)] at this
        exact this
      have hSl : at_ + 8 * j + 8 ≤ B.length := by
        have := congrArg List.length hS
        rw [List.length_drop] at this; omega
      have hrd : Bt.rd S 8 = (G, 0, 8) := by unfold Bt.rd; rw [if_neg (by omega), if_neg (by exact hs)]; show (Bt.val (S.take 8), 0, 8) = _; rw [hG]
      rw [hS, Bt.rvf, if_neg hs, hG] at hrv
      have HR := Lib.hid hrd
      have HS := Lib.hid hS
      have HG := Lib.hid hG
      clear hrd hS hs hG
      by_cases h9 : j = 9 ∧ 1 < G
      · have hres : Bt.rv (B.drop at_) = (0, 21, 0) := by rw [hrv, if_pos h9]
        have HRES := Lib.hid hres
        obtain ⟨rfl, h92⟩ := h9
        have hd : decide ((G : Int) > 1) = true := by simp; omega
        clear hres hrv
        go_wp2_with fail
        refine (fnext_any p g B (at_ + 8 * 9) 8 _ HV.out.rf HV.out.le hbd).mono ?_
        rintro e w1 ⟨rfl, hr, ho⟩
        rw [HS.out, HR.out] at hr ⊢
        obtain ⟨_, _, c0, c1, f0, f1, _⟩ := rf_slice hr
        have XR := Lib.hid hr
        have XO := Lib.hid (HV.out.only.trans ho (fun x hx => .inl hx))
        clear hr ho c0
        go_wp2
        go_ret2
        refine ⟨by rw [HRES.out]; rfl, ?_, XO.out.setCell (p := ⟨p, 1, none⟩) (.inl (by simp)) _⟩
        rw [HRES.out]
        exact rf_at XR.out
      · rw [if_neg h9] at hrv
        have hor : bits .or .u64 (acc : Int) (IntKind.u64.wrap ((G : Int) % 128 * 2 ^ (7 * j))) = ((acc + G % 128 * 2 ^ (7 * j) : Nat) : Int) :=
          acc_or HV.out.accl hGl (by omega) (by omega) (by omega)
        have HOR := Lib.hid hor
        clear hor
        have hd9 : ((j : Int) == 9) = false ∨ (((j : Int) == 9) = true ∧ decide ((G : Int) > 1) = false) := by
          by_cases h : j = 9
          · exact .inr ⟨by simp; omega, by simp; omega⟩
          · exact .inl (by simp; omega)
        by_cases h10 : 128 ≤ G
        · rw [if_pos h10] at hrv
          have hj9 : ((j : Int) == 9) = false := by simp; omega
          have hd : decide ((G : Int) < 128) = false := by simp; omega
          have HRV := Lib.hid hrv
          clear hrv hd9
          go_wp2_with fail
          refine (fnext_any p g B (at_ + 8 * j) 8 _ HV.out.rf HV.out.le hbd).mono ?_
          rintro e w1 ⟨rfl, hr, ho⟩
          rw [HS.out, HR.out] at hr ⊢
          obtain ⟨_, _, c0, c1, f0, f1, _⟩ := rf_slice hr
          have XR := Lib.hid hr
          have XO := Lib.hid (HV.out.only.trans ho (fun x hx => .inl hx))
          clear hr ho c0
          go_wp2
          have hst := fvar_step HV.out XR.out XO.out HS.out HF.out (by omega) HRV.out hSl
          have HST := Lib.hid hst
          clear hst
          rw [HOR.out]
          go_roundw
          case rel => exact ⟨j + 1, _, by go_num, rfl, by omega, HST⟩
          case measure => simp [intOf]; omega
        · rw [if_neg h10] at hrv
          have hd : decide ((G : Int) < 128) = true := by simp; omega
          by_cases h11 : G = 0 ∧ 0 < j
          · have hres : Bt.rv (B.drop at_) = (0, 21, 0) := by rw [hrv, if_pos h11]
            have HRES := Lib.hid hres
            obtain ⟨rfl, h0j⟩ := h11
            have hL2 : decide (0 < j) = true := by simpa using h0j
            clear hres hrv
            rcases hd9 with hd9 | ⟨hd9, hd8⟩
            all_goals
              go_wp2_with fail
              refine (fnext_any p g B (at_ + 8 * j) 8 _ HV.out.rf HV.out.le hbd).mono ?_
              rintro e w1 ⟨rfl, hr, ho⟩
              rw [HS.out, HR.out] at hr ⊢
              obtain ⟨_, _, c0, c1, f0, f1, _⟩ := rf_slice hr
              have XR := Lib.hid hr
              have XO := Lib.hid (HV.out.only.trans ho (fun x hx => .inl hx))
              clear hr ho c0
              go_wp2
              go_ret2
              refine ⟨by rw [HRES.out]; rfl, ?_, XO.out.setCell (p := ⟨p, 1, none⟩) (.inl (by simp)) _⟩
              rw [HRES.out]
              exact rf_at XR.out
          · rw [if_neg h11] at hrv
            have HRV := Lib.hid hrv
            clear hrv
            by_cases hj0 : 0 < j
            · have hL2 : decide (0 < j) = true := by simpa using hj0
              have hG1 : ((G : Int) == 0) = false := by simp; omega
              rcases hd9 with hd9 | ⟨hd9, hd8⟩
              all_goals
                go_wp2_with fail
                refine (fnext_any p g B (at_ + 8 * j) 8 _ HV.out.rf HV.out.le hbd).mono ?_
                rintro e w1 ⟨rfl, hr, ho⟩
                rw [HS.out, HR.out] at hr ⊢
                obtain ⟨_, _, c0, c1, f0, f1, _⟩ := rf_slice hr
                have XR := Lib.hid hr
                have XO := Lib.hid (HV.out.only.trans ho (fun x hx => .inl hx))
                clear hr ho c0
                go_wp2
                rw [HOR.out]
                go_ret2
                refine ⟨by rw [HRV.out]; rfl, ?_, XO.out⟩
                rw [HRV.out, show at_ + 8 * (j + 1) = at_ + 8 * j + 8 by omega]
                exact XR.out
            · have hL2 : decide (0 < j) = false := by simp; omega
              have hj9 : ((j : Int) == 9) = false := by simp; omega
              clear hd9
              go_wp2_with fail
              refine (fnext_any p g B (at_ + 8 * j) 8 _ HV.out.rf HV.out.le hbd).mono ?_
              rintro e w1 ⟨rfl, hr, ho⟩
              rw [HS.out, HR.out] at hr ⊢
              obtain ⟨_, _, c0, c1, f0, f1, _⟩ := rf_slice hr
              have XR := Lib.hid hr
              have XO := Lib.hid (HV.out.only.trans ho (fun x hx => .inl hx))
              clear hr ho c0
              go_wp2
              rw [HOR.out]
              go_ret2
              refine ⟨by rw [HRV.out]; rfl, ?_, XO.out⟩
              rw [HRV.out, show at_ + 8 * (j + 1) = at_ + 8 * j + 8 by omega]
              exact XR.out
def FsPost (w : World) (p g : Nat) (B : List Bool) (at_ : Nat) (e : Ending) (w' : World) : Prop :=
  e = .returned (.tuple #[.int .i64 (Bt.uz (Bt.rv (B.drop at_)).1), .int .u16 (((Bt.rv (B.drop at_)).2.1 : Nat) : Int)]) ∧ Rf w' p g B (at_ + (Bt.rv (B.drop at_)).2.2) ∧ Only [p] w w'
set_option maxHeartbeats 400000 in
theorem fsigned_any (p g : Nat) (B : List Bool) (at_ : Nat) (w : World) (H : Rf w p g B at_) (hat : at_ ≤ B.length) (hbd : B.length ≤ 1000000000) :
    Calls Tryd.prog 69 #[.pointer (some ⟨p, 0, none⟩)] w (FsPost w p g B at_) := by
  have H0 := Lib.hid H
  obtain ⟨t, ht⟩ : ∃ t, (Bt.rv (B.drop at_)).1 = t := ⟨_, rfl⟩
  have hlt : t < 18446744073709551616 := by rw [← ht]; exact Bt.rv_lt _
  have HT := Lib.hid ht
  have hl2 : t / 2 < 9223372036854775808 := by omega
  have HU : Hid (Bt.uz t = if t % 2 = 1 then -((t / 2 : Nat) : Int) - 1 else ((t / 2 : Nat) : Int)) := by unfold Bt.uz; rfl
  clear H ht
  by_cases h : t % 2 = 1
  · have hd : ((t : Int) % 2 == 1) = true := by simp; omega
    rw [if_pos h] at HU
    clear h
    go_enter Tryd.func69, Tryd.ntmps69
    go_wp2_with fail
    refine (fvarint_any p g B at_ _ H0.out hat hbd).mono ?_
    rintro e w1 ⟨rfl, hp, ho⟩
    rw [HT.out] at ⊢
    have HP := Lib.hid hp
    have HO := Lib.hid ho
    clear hp ho
    go_wp2
    go_ret2
    exact ⟨by rw [HT.out, HU.out]; rfl, HP.out, HO.out⟩
  · have hd : ((t : Int) % 2 == 1) = false := by simp; omega
    rw [if_neg h] at HU
    clear h
    go_enter Tryd.func69, Tryd.ntmps69
    go_wp2_with fail
    refine (fvarint_any p g B at_ _ H0.out hat hbd).mono ?_
    rintro e w1 ⟨rfl, hp, ho⟩
    rw [HT.out] at ⊢
    have HP := Lib.hid hp
    have HO := Lib.hid ho
    clear hp ho
    go_wp2
    go_ret2
    exact ⟨by rw [HT.out, HU.out]; rfl, HP.out, HO.out⟩
end Go.Proofs.YtdlifcpdlbmijaaDoor.B2
namespace Go.Proofs.YtdlifcpdlbmijaaDoor.B2
open Go.RowKit
theorem grown_below {B : Nat} {w0 w w' : World} {g : Nat} (h : Below B w0 w) (hg : w.grownBy w' (some g)) (hB : B ≤ w.heap.size) (hr : B ≤ g) : Below B w0 w' := h.grown hg hB (fun k hk => by cases hk; exact hr)
theorem grown_below0 {B : Nat} {w0 w w' : World} (h : Below B w0 w) (hg : w.grownBy w' none) (hB : B ≤ w.heap.size) : Below B w0 w' := h.grown hg hB (fun k hk => by cases hk)
/-- what is lent: a block of its own, the bytes and two marks behind them -/
def Lent (w : World) (g : Nat) (bs : List Nat) : Prop := w.heap[g]? = some (.cells (cellsOf (bs ++ [91, 92])).toArray 5 (0, 0))
/-- what a call of LentBytes comes to -/
def LentPost (w : World) (bs : List Nat) (e : Ending) (w' : World) : Prop :=
  ∃ g, w.heap.size ≤ g ∧ e = .returned (.slice (some ⟨g, 0, none⟩) bs.length (bs.length + 2)) ∧ Lent w' g bs ∧ Below w.heap.size w w'
theorem lent_of_owns {w : World} {base g n : Nat} {xs : List Value} (h : w.ownsRow base 5 1 (.slice (some ⟨g, 0, none⟩) n n) n xs) : w.heap[g]? = some (.cells xs.toArray 5 (0, 0)) := by
  obtain ⟨hl, h2⟩ := h
  rcases h2 with ⟨h0, _⟩ | ⟨g', cap, cur, hv, _, hg, _, _, hcs, ht⟩
  · cases h0
  · cases hv
    rw [hg]
    have : cur.toList = xs := by rw [← ht, List.take_of_length_le (by simp; omega)]
    rw [← this]
theorem marks_at (W : World) : ∀ (j : Nat) (u : Value), (cellsOf [91, 92])[j]? = some u → (W.alloc (.cells #[.int .u8 91, .int .u8 92] 5)).cell? ((⟨W.heap.size, 0, none⟩ : Addr).add j) = some u := by
  intro j u hu
  rw [show (⟨W.heap.size, 0, none⟩ : Addr).add j = ⟨W.heap.size, j, none⟩ by unfold Addr.add; split <;> simp_all, cell_of_row _ _ _ _ _ _ (heap_alloc_new W _)]
  rw [show (#[Value.int .u8 91, .int .u8 92] : Array Value) = (cellsOf [91, 92]).toArray from rfl, List.getElem?_toArray]
  exact hu
set_option maxHeartbeats 400000 in
theorem lent_any (a : Option Addr) (bs : List Nat) (cap : Nat) (w : World) (H : Bys w a bs) (hc0 : a = none → cap = 0) (hsm : bs.length ≤ 100000) :
    Calls Tryd.prog 63 #[.slice a bs.length cap] w (LentPost w bs) := by
  obtain ⟨i0, hi, hz0, hz1, hz2⟩ := info_parts info5
  have A1 := Lib.hid H
  clear H
  cases a with
  | none =>
    obtain rfl : cap = 0 := hc0 rfl
    have hbs : bs = [] := by
      refine Decidable.by_contra fun hn => ?_
      obtain ⟨b, off, e, _⟩ := A1.out.2.2 hn
      cases e
    subst hbs
    clear hc0 hsm
    go_enter Tryd.func63, Tryd.ntmps63
    go_wp2_with (first | (at_make; refine wpList_make_own _ rfl _ _ 71 rfl w.heap.size 5 i0 (.int .u8 0) 1 Tryd.underlying71 hi hz0 hz1 .i64 .i64 _ 2 rfl rfl (by rfl) (by rw [hz2]; omega) (by unfold maxLen; omega) (Nat.le_refl _) ?_; intro w1 hown1 hgr1) | (at_builtin; refine wpList_append_own_none rfl (.tmp 8) (.tmp 9) 71 rfl w.heap.size 5 i0 1 Tryd.underlying71 hi _ 0 [] rfl hown1 rfl ?_) | (at_builtin; refine wpList_append_own_spare _ rfl (.tmp 11) (.tmp 12) 71 rfl w.heap.size 5 i0 1 Tryd.underlying71 hi hz1 w.heap.size 0 2 [] rfl (hown1.alloc _) ⟨w1.heap.size, 0, none⟩ 2 2 (cellsOf [91, 92]) rfl rfl (marks_at w1) (cellsOf_one _) (by omega) ?_; intro w3 hown3 hgr3))
    go_ret
    have hz1' : w.heap.size ≤ w1.heap.size := hgr1.size
    exact ⟨w.heap.size, Nat.le_refl _, rfl, lent_of_owns hown3, grown_below ((grown_below0 (Below.refl _ _) hgr1 (Nat.le_refl _)).alloc hz1' _) hgr3 (by simp; omega) (Nat.le_refl _)⟩
  | some ad =>
    clear hc0
    go_enter Tryd.func63, Tryd.ntmps63
    go_wp2_with (first | (at_make; refine wpList_make_own _ rfl _ _ 71 rfl w.heap.size 5 i0 (.int .u8 0) 1 Tryd.underlying71 hi hz0 hz1 .i64 .i64 _ (bs.length + 2) rfl rfl (by simp) (by rw [hz2]; omega) (by unfold maxLen; omega) (Nat.le_refl _) ?_; intro w1 hown1 hgr1; have HB1 := Lib.hid (grown_below0 (Below.refl _ _) hgr1 (Nat.le_refl _)); have hsz : w.heap.size ≤ w1.heap.size := hgr1.size; clear hgr1) | (at_builtin; refine wpList_append_own_spare _ rfl (.tmp 8) (.tmp 9) 71 rfl w.heap.size 5 i0 1 Tryd.underlying71 hi hz1 w.heap.size 0 (bs.length + 2) [] rfl hown1 ad bs.length cap (cellsOf bs) rfl (by rw [cellsOf_length]; omega) ((A1.out.below HB1.out).cells) (cellsOf_one bs) (by omega) ?_; intro w2 hown2 hgr2; have hsz2 : w.heap.size ≤ w2.heap.size := Nat.le_trans hsz hgr2.size; have HB2 := Lib.hid (grown_below HB1.out hgr2 hsz (Nat.le_refl _)); clear hgr2 hown1; simp only [Nat.zero_add, List.nil_append] at hown2) | (at_builtin; refine wpList_append_own_spare _ rfl (.tmp 11) (.tmp 12) 71 rfl w.heap.size 5 i0 1 Tryd.underlying71 hi hz1 w.heap.size bs.length (bs.length + 2) (cellsOf bs) rfl (hown2.alloc _) ⟨w2.heap.size, 0, none⟩ 2 2 (cellsOf [91, 92]) rfl rfl (marks_at w2) (cellsOf_one _) (by omega) ?_; intro w3 hown3 hgr3))
    go_ret
    refine ⟨w.heap.size, Nat.le_refl _, rfl, ?_, grown_below (HB2.out.alloc hsz2 _) hgr3 (by simp; omega) (Nat.le_refl _)⟩
    unfold Lent
    rw [lent_of_owns hown3]
    simp [cellsOf]
theorem Lent.cell {w : World} {g : Nat} {bs : List Nat} (h : Lent w g bs) (j : Nat) : w.cell? ⟨g, j, none⟩ = (cellsOf (bs ++ [91, 92]))[j]? := by
  rw [cell_of_row _ _ _ _ _ _ h, List.getElem?_toArray]
theorem Lent.mark1 {w : World} {g : Nat} {bs : List Nat} (h : Lent w g bs) : w.cell? ⟨g, bs.length, none⟩ = some (.int .u8 91) := by
  rw [h.cell]; simp [cellsOf]
theorem Lent.mark2 {w : World} {g : Nat} {bs : List Nat} (h : Lent w g bs) : w.cell? ⟨g, bs.length + 1, none⟩ = some (.int .u8 92) := by
  rw [h.cell]; simp [cellsOf]
theorem Lent.bytes {w : World} {g : Nat} {bs : List Nat} (h : Lent w g bs) (hl : bs.length ≤ maxLen) (h8 : ∀ c ∈ bs, c < 256) : Bys w (some ⟨g, 0, none⟩) bs := by
  refine ⟨hl, h8, fun _ => ⟨g, 0, rfl, (Array.getElem?_eq_some_iff.1 h).1, fun i hi => ?_⟩⟩
  rw [Nat.zero_add, h.cell]
  unfold cellsOf; rw [List.getElem?_map, List.getElem?_append_left hi, List.getElem?_eq_getElem hi]; rfl
theorem Lent.below {w w' : World} {g : Nat} {bs : List Nat} (h : Lent w g bs) (hb : Below w.heap.size w w') : Lent w' g bs := (hb.block g (Array.getElem?_eq_some_iff.1 h).1).trans h
set_option maxHeartbeats 400000 in
theorem whole_any (g : Nat) (a : Option Addr) (bs : List Nat) (cap : Nat) (w : World) (L : Lent w g bs) (H : Bys w a bs) (hsm : bs.length ≤ 100000) :
    Calls Tryd.prog 67 #[.slice (some ⟨g, 0, none⟩) bs.length (bs.length + 2), .slice a bs.length cap] w fun e w' => e = .returned (.bool true) ∧ Below w.heap.size w w' := by
  have m1 := L.mark1
  have m2 := L.mark2
  have A1 := Lib.hid (L.bytes H.1 H.2.1)
  have A2 := Lib.hid H
  clear L H
  go_enter Tryd.func67, Tryd.ntmps67
  go_wp2_with (go_at_call 29; refine (same_any _ _ bs _ _ _ A1.out A2.out).mono ?_; rintro e w' ⟨rfl, hb⟩; have HB := Lib.hid hb; clear hb)
  go_ret
  exact ⟨rfl, HB.out⟩
/-- while it is written over -/
def Spoilt (w : World) (g L : Nat) (wr : World) : Prop := (∃ cur, wr.heap[g]? = some (.cells cur 5 (0, 0)) ∧ cur.size = L) ∧ Only [g] w wr
theorem Spoilt.cell {w wr : World} {g L k : Nat} (h : Spoilt w g L wr) (hk : k < L) : (∃ u, wr.cell? ⟨g, k, none⟩ = some u) ∧ wr.frozen? ⟨g, k, none⟩ = false ∧ ∀ u, Spoilt w g L (wr.setCell ⟨g, k, none⟩ u) := by
  obtain ⟨⟨cur, h1, h2⟩, h3⟩ := h
  refine ⟨⟨cur[k]'(by omega), ?_⟩, frozen_of_row _ _ _ _ _ h1, fun u => ⟨⟨_, heap_setCell_same _ _ _ _ _ _ h1, by simpa using h2⟩, h3.setCell (p := ⟨g, k, none⟩) (.inl (by simp)) u⟩⟩
  rw [cell_of_row _ _ _ _ _ _ h1, Array.getElem?_eq_getElem (by omega)]
end Go.Proofs.YtdlifcpdlbmijaaDoor.B2
namespace Go.Proofs.YtdlifcpdlbmijaaDoor.B2
open Go.RowKit
/-- how far a varint has been put -/
def FvarAt (w : World) (p g : Nat) (B : List Bool) (at_ v u : Nat) (wr : World) : Prop := ∃ pre, pre ++ Bt.vb u = Bt.vb v ∧ RfPost w p g (B ++ pre) at_ wr
set_option maxHeartbeats 400000 in
theorem fputvar_any (p g : Nat) (B : List Bool) (at_ v : Nat) (hv : v < 18446744073709551616) (w : World) (H : Rf w p g B at_) (hB : B.length + 80 ≤ 1000000000) :
    Calls Tryd.prog 112 #[.pointer (some ⟨p, 0, none⟩), .int .u64 (v : Nat)] w fun e w' => e = .returned (.tuple #[]) ∧ RfPost w p g (B ++ Bt.vb v) at_ w' := by
  have h80 : (Bt.vb v).length ≤ 80 := by rw [Bt.vb_length]; have := Bt.vg_ten v hv; omega
  have H0 := Lib.hid (show FvarAt w p g B at_ v v w from ⟨[], rfl, by simpa using RfPost.refl H⟩)
  have HV := Lib.hid hv
  clear H hv
  go_enter Tryd.func112, Tryd.ntmps112
  go_wp2
  go_loopw [1] (fun i wr => ∃ u : Nat, i = .int .u64 (u : Nat) ∧ u ≤ v ∧ Hid (FvarAt w p g B at_ v u wr)) (fun i _ => (intOf i).toNat)
  case atStart => exact ⟨v, rfl, Nat.le_refl _, H0⟩
  case round =>
    obtain ⟨u, rfl, hu, pre, hpre, g1, HW, hg1, HO⟩ := hrel
    have hl : pre.length + (Bt.vb u).length ≤ 80 := by rw [← List.length_append, hpre]; exact h80
    have HP := Lib.hid hpre
    have HX := Lib.hid HW
    have HOO := Lib.hid HO
    have hu2 : 8 ≤ (Bt.vb u).length := by rw [Bt.vb_length]; have := Bt.vg_pos u; omega
    have hu64 : u < 18446744073709551616 := Nat.lt_of_le_of_lt hu HV.out
    clear hpre HW HO
    by_cases hlt : 128 ≤ u
    · have hd : decide ((u : Int) > 127) = true := by simp; omega
      go_wp2_with fail
      rw [show (128 : Int) + (u : Int) % 128 = ((u % 128 + 128 : Nat) : Int) by omega]
      refine (fbits_good p g1 (B ++ pre) at_ (u % 128 + 128) 8 (by omega) (by omega) _ HX.out (by rw [List.length_append]; omega)).mono ?_
      rintro e w' ⟨rfl, hp⟩
      have HY : Hid (FvarAt w p g B at_ v (u / 128) w') := by
        refine ⟨pre ++ Bt.top (u % 128 + 128) 8, by rw [List.append_assoc, ← Bt.vb_big hlt]; exact HP.out, ?_⟩
        rw [← List.append_assoc]
        exact RfPost.trans HOO.out hg1 hp
      clear hp
      go_wp2
      go_roundw
      case rel => exact ⟨u / 128, by simp, by omega, HY⟩
      case measure => simp [intOf]; omega
    · have hd : decide ((u : Int) > 127) = false := by simp; omega
      go_wp2_with fail
      refine (fbits_good p g1 (B ++ pre) at_ u 8 (by omega) (by omega) _ HX.out (by rw [List.length_append]; omega)).mono ?_
      rintro e w' ⟨rfl, hp⟩
      have HY : Hid (RfPost w p g (B ++ Bt.vb v) at_ w') := by
        rw [← HP.out, Bt.vb_small (by omega), ← List.append_assoc]
        exact RfPost.trans HOO.out hg1 hp
      clear hp
      go_wp2
      go_end0
      exact ⟨rfl, HY.out⟩
set_option maxHeartbeats 400000 in
theorem fputsgn_any (p g : Nat) (B : List Bool) (at_ : Nat) (v : Int) (h1 : -9223372036854775808 ≤ v) (h2 : v ≤ 9223372036854775807) (w : World) (H : Rf w p g B at_) (hB : B.length + 80 ≤ 1000000000) :
    Calls Tryd.prog 86 #[.pointer (some ⟨p, 0, none⟩), .int .i64 v] w fun e w' => e = .returned (.tuple #[]) ∧ RfPost w p g (B ++ Bt.vb (Bt.zz v)) at_ w' := by
  have H0 := Lib.hid H
  clear H
  by_cases h0 : 0 ≤ v
  · have hd : decide (v ≥ 0) = true := by simpa using h0
    go_enter Tryd.func86, Tryd.ntmps86
    go_wp2_with fail
    rw [zz_pos v h0]
    refine (fputvar_any p g B at_ (Bt.zz v) (Bt.zz_lt v h1 h2) _ H0.out hB).mono ?_
    rintro e w' ⟨rfl, hp⟩
    have HP := Lib.hid hp
    clear hp
    go_wp2
    first | go_end0 | refine bodyPost_ret (results_none rfl _ _ _) rfl ?_
    exact ⟨rfl, HP.out⟩
  · have hd : decide (v ≥ 0) = false := by simp; omega
    have hz : -(v + 1) * 2 + 1 = ((Bt.zz v : Nat) : Int) := by unfold Bt.zz; rw [if_neg h0]; omega
    have HZ := Lib.hid hz
    clear hz
    go_enter Tryd.func86, Tryd.ntmps86
    go_wp2_with fail
    rw [HZ.out]
    refine (fputvar_any p g B at_ (Bt.zz v) (Bt.zz_lt v h1 h2) _ H0.out hB).mono ?_
    rintro e w' ⟨rfl, hp⟩
    have HP := Lib.hid hp
    clear hp
    go_wp2
    first | go_end0 | refine bodyPost_ret (results_none rfl _ _ _) rfl ?_
    exact ⟨rfl, HP.out⟩
/-- the bits with eight noughts behind them -/
def pad (B : List Bool) : List Bool := B ++ List.replicate 8 false
theorem pad_length (B : List Bool) : (pad B).length = B.length + 8 := by simp [pad]
theorem pad_get (B : List Bool) (i : Nat) (h : i < B.length + 8) : (pad B)[i]'(by rw [pad_length]; exact h) = if h2 : i < B.length then B[i] else false := by
  unfold pad
  by_cases h2 : i < B.length
  · rw [dif_pos h2, List.getElem_append_left h2]
  · rw [dif_neg h2, List.getElem_append_right (by omega), List.getElem_replicate]
theorem pad_step (B : List Bool) (i k : Nat) (h : i + k < B.length + 8) : Bt.val (((pad B).drop i).take (k + 1)) = 2 * Bt.val (((pad B).drop i).take k) + (if h2 : i + k < B.length then B[i + k] else false).toNat := by
  rw [val_step _ k (by rw [List.length_drop, pad_length]; omega), List.getElem_drop, pad_get B (i + k) h]
/-- what has been laid of the bytes: m of them -/
def LaidAt (w : World) (B : List Bool) (m : Nat) (v : Value) (wr : World) : Prop := ∃ outs g, outs.length = m ∧ (∀ c ∈ outs, c < 256) ∧ Bt.unpack outs = (pad B).take (8 * m) ∧ Row wr g v outs ∧ (v.ownBlock = none ∨ w.heap.size ≤ g) ∧ Below w.heap.size w wr
theorem LaidAt.shape {w wr : World} {B : List Bool} {m : Nat} {v : Value} (h : LaidAt w B m v wr) : ∃ a cap, v = .slice a m cap := by
  obtain ⟨outs, g, hl, _, _, hR, _⟩ := h
  rcases hR.value with ⟨rfl, h0⟩ | ⟨cap, cur, rfl, _⟩
  · subst h0; exact ⟨_, _, by rw [← hl]; rfl⟩
  · exact ⟨_, _, by rw [hl]⟩
theorem laid_step {w wr w' : World} {B : List Bool} {m g V : Nat} {v v' : Value} {o : Obj} {outs : List Nat} (hl : outs.length = m) (h8 : ∀ c ∈ outs, c < 256) (hu : Bt.unpack outs = (pad B).take (8 * m)) (hR : Row wr g v outs) (hne : v.ownBlock = none ∨ w.heap.size ≤ g) (hb : Below w.heap.size w wr)
    (hV : Bt.val (((pad B).drop (8 * m)).take 8) = V) (hm : 8 * m < B.length) (hV8 : V < 256) (hown : w'.ownsRow 0 5 1 v' (m + 1) (cellsOf outs ++ cellsOf [V])) (hgr : (wr.alloc o).grownBy w' v.ownBlock) (hpl : v'.ownBlock = v.ownBlock ∨ ∃ g, v'.ownBlock = some g ∧ wr.heap.size + 1 ≤ g) : LaidAt w B (m + 1) v' w' := by
  subst hl
  obtain ⟨d2, cap2, rfl, hcap2, R2, hd2, hd2l⟩ := grow_row (ns := [V]) hR hown hpl (by simp)
  have hs := hb.size
  refine ⟨outs ++ [V], d2, by simp, fun c hc => ?_, ?_, R2, ?_, ?_⟩
  · rcases List.mem_append.1 hc with hc | hc
    · exact h8 c hc
    · simp only [List.mem_singleton] at hc; omega
  · have hlen : (((pad B).drop (8 * outs.length)).take 8).length = 8 := by rw [List.length_take, List.length_drop, pad_length]; omega
    have ht := Bt.top_val (((pad B).drop (8 * outs.length)).take 8)
    rw [hlen, hV] at ht
    rw [Bt.unpack_append, Bt.unpack_one, hu, ht, show 8 * (outs.length + 1) = 8 * outs.length + 8 by omega, List.take_add]
  · right
    rcases hd2 with ⟨h1, rfl⟩ | h1
    · rcases hne with h | h
      · rw [h] at h1; cases h1
      · exact h
    · omega
  · refine (hb.alloc hs o).grown hgr (by simp; omega) (fun k hk => ?_)
    rcases hR.2 with h | h
    · rw [h] at hk; cases hk
    · rw [h] at hk; injection hk with hk; subst hk
      rcases hne with h2 | h2
      · rw [h2] at h; cases h
      · exact h2
theorem one_byte (W : World) (c : Nat) : ∀ (j : Nat) (u : Value), (cellsOf [c])[j]? = some u → (W.alloc (.cells #[.int .u8 ((c : Nat) : Int)] 5)).cell? ((⟨W.heap.size, 0, none⟩ : Addr).add j) = some u := by
  intro j u hu
  rw [add_here, cell_of_row _ _ _ _ _ _ (heap_alloc_new W _)]
  rw [show (#[Value.int .u8 ((c : Nat) : Int)] : Array Value) = (cellsOf [c]).toArray from rfl, List.getElem?_toArray]
  exact hu
set_option maxRecDepth 100000 in
set_option maxHeartbeats 400000 in
theorem fbytes_any (p g at_ : Nat) (B : List Bool) (w : World) (H : Rf w p g B at_) (hB : B.length ≤ 100000000) :
    Calls Tryd.prog 91 #[.pointer (some ⟨p, 0, none⟩)] w (BytesPost w B) := by
  obtain ⟨i0, hi, hz0, hz1, hz2⟩ := info_parts info5
  have H0 := Lib.hid H
  have L0 := Lib.hid (show LaidAt w B 0 (.slice none 0 0) w from ⟨[], 0, rfl, by simp, by simp [Bt.unpack], Row.nil _ _, .inl rfl, Below.refl _ _⟩)
  clear H
  go_enter Tryd.func91, Tryd.ntmps91
  go_wp2
  go_loopw [3, 4] (fun o i wr => ∃ m : Nat, i = .int .i64 ((8 * m : Nat) : Int) ∧ 8 * m < B.length + 8 ∧ Hid (LaidAt w B m o wr)) (fun _ i _ => B.length + 8 - (intOf i).toNat)
  case atStart => exact ⟨0, rfl, by omega, L0⟩
  case round =>
    obtain ⟨m, rfl, hm, HL⟩ := hrel
    obtain ⟨ao, co, rfl⟩ := HL.out.shape
    obtain ⟨M, hM⟩ : ∃ M, 8 * m = M := ⟨_, rfl⟩
    have HMM := Lib.hid hM
    rw [hM] at hm ⊢
    clear hM
    have HB : Hid (Below w.heap.size w wr) := by
      obtain ⟨_, _, _, _, _, _, _, h⟩ := HL.out
      exact h
    obtain ⟨a, cap, c0, c1, f0, f1, hcells, _⟩ := rf_slice (H0.out.below HB.out)
    by_cases hlt : M < B.length
    · have hd : decide ((M : Int) < (B.length : Int)) = true := by simp; omega
      have hdn : decide (M < B.length) = true := by simpa using hlt
      go_wp2
      go_loop [5, 6] (fun n k => ∃ j : Nat, j ≤ 8 ∧ k = .int .i64 (j : Nat) ∧ n = .int .i64 ((Bt.val (((pad B).drop M).take j) : Nat) : Int)) (fun _ k => 8 - (intOf k).toNat)
      case atStart => exact ⟨0, by omega, rfl, rfl⟩
      case round =>
        obtain ⟨j, hj, rfl, rfl⟩ := hrel
        have hvl : Bt.val (((pad B).drop M).take j) < 2 ^ j := by
          have := Bt.val_lt (((pad B).drop M).take j)
          rwa [List.length_take, List.length_drop, pad_length, Nat.min_eq_left (by omega)] at this
        have hv8 : Bt.val (((pad B).drop M).take j) < 256 := Nat.lt_of_lt_of_le hvl (Nat.pow_le_pow_right (n := 2) (by decide) hj)
        by_cases hj8 : j < 8
        · have hst := pad_step B M j (by omega)
          have hdj : decide ((j : Int) < 8) = true := by simp; omega
          obtain ⟨V, hV⟩ : ∃ V, Bt.val (((pad B).drop M).take j) = V := ⟨_, rfl⟩
          rw [hV] at hv8 hst ⊢
          clear hvl hV
          by_cases hin : M + j < B.length
          · rw [dif_pos hin] at hst
            obtain ⟨rfl, hc⟩ := hcells (M + j) hin
            obtain ⟨c, hcc⟩ : ∃ c, (B[M + j]'hin).toNat = c := ⟨_, rfl⟩
            have hc1 : c ≤ 1 := by rw [← hcc]; cases B[M + j]'hin <;> decide
            rw [hcc] at hst hc
            have HS := Lib.hid hst
            clear hst hcc hcells
            have hdi : decide ((M : Int) + (j : Int) < (B.length : Int)) = true := by simp; omega
            have hix : (M : Int) + (j : Int) < (B.length : Int) := by omega
            go_wp2
            go_round
            case rel => exact ⟨j + 1, by omega, by go_num, by rw [HS.out]; go_num⟩
            case measure => simp [intOf]; omega
          · rw [dif_neg hin] at hst
            have HS := Lib.hid hst
            have hdi : decide ((M : Int) + (j : Int) < (B.length : Int)) = false := by simp; omega
            clear hst hcells
            go_wp2
            go_round
            case rel => exact ⟨j + 1, by omega, by go_num, by rw [HS.out]; go_num⟩
            case measure => simp [intOf]; omega
        · obtain rfl : j = 8 := by omega
          obtain ⟨V, hV⟩ : ∃ V, Bt.val (((pad B).drop M).take 8) = V := ⟨_, rfl⟩
          rw [hV] at hv8 ⊢
          have HV := Lib.hid hV
          have hml : m ≤ 20000000 := by have := HMM.out; omega
          clear hvl hV hcells
          obtain ⟨outs, g2, hlo, h8, hu, hR, hne, hb⟩ := HL.out
          have HOW2 := Lib.hid (show wr.ownsRow 0 5 1 (.slice ao m co) m (cellsOf outs) by rw [← hlo]; exact hlo ▸ hR.1)
          have HST := Lib.hid (show ∀ (v' : Value) (w' : World) (o : Obj), w'.ownsRow 0 5 1 v' (m + 1) (cellsOf outs ++ cellsOf [V]) → (wr.alloc o).grownBy w' (Value.slice ao m co).ownBlock → (v'.ownBlock = (Value.slice ao m co).ownBlock ∨ ∃ g, v'.ownBlock = some g ∧ wr.heap.size + 1 ≤ g) → LaidAt w B (m + 1) v' w' from fun v' w' o h1 h2 h3 => laid_step hlo h8 hu hR hne hb (by rw [HMM.out]; exact HV.out) (by rw [HMM.out]; omega) hv8 h1 h2 h3)
          clear hlo h8 hu hR hne hb
          go_wp2_with (at_builtin; refine wpList_append_place _ rfl (.tmp 43) (.tmp 46) 71 rfl 5 i0 (.int .u8 0) 1 1 Tryd.underlying71 hi hz0 hz1 hz2 rfl (by decide) (.slice ao m co) m (cellsOf outs) rfl (HOW2.out.alloc _) ⟨wr.heap.size, 0, none⟩ 1 1 (cellsOf [V]) rfl rfl (one_byte wr V) (cellsOf_one _) (by unfold maxLen; omega) (by omega) ?_)
          intro v2 w2 hown2 hgr2 hpl2
          have HN := Lib.hid (HST.out v2 w2 _ hown2 hgr2 hpl2)
          clear hown2 hgr2 hpl2
          go_wp2
          go_roundw
          case rel => exact ⟨m + 1, by have := HMM.out; congr 1; omega, by have := HMM.out; omega, HN⟩
          case measure => simp [intOf]; omega
    · have hd : decide (M < B.length) = false := by simpa using hlt
      go_wp2
      go_ret
      obtain ⟨outs, g2, hlo, h8, hu, hR, hne, hb⟩ := HL.out
      have hMM := HMM.out
      subst hlo
      refine ⟨outs, 8 * outs.length - B.length, by omega, ⟨h8, ?_⟩, ao, co, g2, rfl, hR, ?_, hb⟩
      · rw [hu, pad, List.take_append, List.take_of_length_le (by omega), List.take_replicate, Nat.min_eq_left (by omega)]
      · rcases hne with h | h
        · left
          cases ao with
          | none => rfl
          | some x => cases h
        · exact .inr h
end Go.Proofs.YtdlifcpdlbmijaaDoor.B2
