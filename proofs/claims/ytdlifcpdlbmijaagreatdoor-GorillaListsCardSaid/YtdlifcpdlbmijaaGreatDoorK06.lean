/-
  PACKED: GrC, GrD, GrE, GrF, GrG, GrH, GrI, GrJ
-/
import Derived.Test.YtdlifcpdlbmijaaGreatDoorK05
import Derived.Test.YtdlifcpdlbmijaaGreatDoorK04
import Derived.Deep.RegionHeld3
import Derived.RangeFuncWrites
set_option linter.unusedVariables false
set_option linter.unusedSimpArgs false
namespace Go.Proofs.YtdlifcpdlbmijaaGreatDoor
set_option linter.unusedVariables false
set_option linter.unusedSimpArgs false
open Go.RowKit Go.PlainAid Go.Shelf
open B2 (Only Bys Row cellsOf)
open Gm (St Smp)
theorem mixed_yes : Tryz.prog.follows Departure.mixedOrders = true := by kernel_rfl
/-- the last part: a number's bits within the window -/
def numR (s : Gm.Rd) : Nat × Gm.Cx := ((s.last.v ^^^ (((Gm.rb (s.we - s.ws) s.c).1 <<< (64 - s.we)) % 18446744073709551616)), (Gm.rb (s.we - s.ws) s.c).2)
set_option maxHeartbeats 8000000 in
set_option maxRecDepth 100000 in
theorem number_first (a p g : Nat) (ds : List Nat) (s : Gm.Rd) (hbd : ds.length ≤ 1000000000) (h0 : s.n = 0) (w : World) (H : Rdr w a p g ds s) :
    Calls Tryz.prog 112 #[pt a] w (RdrPost w a p g ds (.int .u64 (((Gm.rdNum s s.c).1 : Nat) : Int)) { s with ws := (Gm.rdNum s s.c).2.1, we := (Gm.rdNum s s.c).2.2.1, c := (Gm.rdNum s s.c).2.2.2 }) := by
  have c0 : w.cell? ⟨a, 0, none⟩ = some (.int .i64 ((s.n : Nat) : Int)) := (cell_of_row _ _ 0 _ _ _ H.row).trans rfl
  have C := Lib.hid (bits_rdr a p g 64 ds s (by decide) hbd w H)
  have e : Gm.rdNum s s.c = ((Gm.rb 64 s.c).1, s.ws, s.we, (Gm.rb 64 s.c).2) := by unfold Gm.rdNum; rw [if_pos h0]
  rw [e]
  rw [h0] at c0
  simp only [Int.cast_ofNat_Int] at C c0
  clear e H h0
  unfold pt at *
  go_enter Tryz.func112, Tryz.ntmps112
  go_wp2_with fail
  go_at_call 121
  refine C.out.mono ?_
  rintro e w1 ⟨rfl, hR, hO⟩
  have HX := Lib.hid (And.intro hR hO)
  clear hR hO C
  go_wp2_with fail
  go_ret
  exact ⟨rfl, HX.out.1, HX.out.2⟩
set_option maxHeartbeats 8000000 in
set_option maxRecDepth 100000 in
theorem number_same (a p g : Nat) (ds : List Nat) (s : Gm.Rd) (hbd : ds.length ≤ 1000000000) (h0 : s.n ≠ 0) (h1 : (Gm.rb 1 s.c).1 = 0) (w : World) (H : Rdr w a p g ds s) :
    Calls Tryz.prog 112 #[pt a] w (RdrPost w a p g ds (.int .u64 (((Gm.rdNum s s.c).1 : Nat) : Int)) { s with ws := (Gm.rdNum s s.c).2.1, we := (Gm.rdNum s s.c).2.2.1, c := (Gm.rdNum s s.c).2.2.2 }) := by
  have c0 : w.cell? ⟨a, 0, none⟩ = some (.int .i64 ((s.n : Nat) : Int)) := (cell_of_row _ _ 0 _ _ _ H.row).trans rfl
  have hn1 : ((s.n : Int) == 0) = false := by simp; omega
  have hn2 : ¬ (s.n : Int) = 0 := by omega
  have C := Lib.hid (bits_rdr a p g 1 ds s (by decide) hbd w H)
  have e : Gm.rdNum s s.c = (s.last.v, s.ws, s.we, (Gm.rb 1 s.c).2) := by unfold Gm.rdNum; rw [if_neg h0]; simp only [h1, if_true]
  rw [e]
  rw [h1] at C
  simp only [Int.cast_ofNat_Int] at C
  clear e H h0 h1
  unfold pt at *
  go_enter Tryz.func112, Tryz.ntmps112
  go_wp2_with fail
  go_at_call 121
  refine C.out.mono ?_
  rintro e w1 ⟨rfl, hR, hO⟩
  have c2 : w1.cell? ⟨a, 2, none⟩ = some (.int .u64 ((s.last.v : Nat) : Int)) := (cell_of_row _ _ 2 _ _ _ hR.row).trans rfl
  have HX := Lib.hid (And.intro hR hO)
  clear hR hO C
  go_wp2_with fail
  go_ret
  exact ⟨rfl, HX.out.1, HX.out.2⟩
theorem rdWin_win (ws we : Nat) (c : Gm.Cx) (h : ws ≤ we ∧ we ≤ 64) : (Gm.rdWin ws we c).1 ≤ (Gm.rdWin ws we c).2.1 ∧ (Gm.rdWin ws we c).2.1 ≤ 64 := by
  unfold Gm.rdWin
  simp only
  split
  · exact h
  · constructor <;> simp only <;> omega
theorem Rdr.winC {w : World} {a p g : Nat} {ds : List Nat} {s : Gm.Rd} (h : Rdr w a p g ds s) : w.cell? ⟨a, 4, none⟩ = some (.int .i64 ((s.ws : Nat) : Int)) ∧ w.cell? ⟨a, 5, none⟩ = some (.int .i64 ((s.we : Nat) : Int)) := ⟨(cell_of_row _ _ 4 _ _ _ h.row).trans rfl, (cell_of_row _ _ 5 _ _ _ h.row).trans rfl⟩
set_option maxHeartbeats 16000000 in
set_option maxRecDepth 100000 in
theorem number_more (a p g : Nat) (ds : List Nat) (s : Gm.Rd) (hbd : ds.length ≤ 1000000000) (hw : s.ws ≤ s.we ∧ s.we ≤ 64) (hv : s.last.v < 18446744073709551616) (h0 : s.n ≠ 0) (h1 : (Gm.rb 1 s.c).1 = 1) (w : World) (H : Rdr w a p g ds s) :
    Calls Tryz.prog 112 #[pt a] w (RdrPost w a p g ds (.int .u64 (((Gm.rdNum s s.c).1 : Nat) : Int)) { s with ws := (Gm.rdNum s s.c).2.1, we := (Gm.rdNum s s.c).2.2.1, c := (Gm.rdNum s s.c).2.2.2 }) := by
  have c0 : w.cell? ⟨a, 0, none⟩ = some (.int .i64 ((s.n : Nat) : Int)) := (cell_of_row _ _ 0 _ _ _ H.row).trans rfl
  have hn1 : ((s.n : Int) == 0) = false := by simp; omega
  have hn2 : ¬ (s.n : Int) = 0 := by omega
  have C := Lib.hid (bits_rdr a p g 1 ds s (by decide) hbd w H)
  rw [h1] at C
  simp only [Int.cast_ofNat_Int] at C
  -- the state behind the second bit and the window
  obtain ⟨s1, hs1⟩ : ∃ s1 : Gm.Rd, s1 = { s with c := (Gm.rb 1 s.c).2 } := ⟨_, rfl⟩
  obtain ⟨s2, hs2⟩ : ∃ s2 : Gm.Rd, s2 = { s with c := (Gm.rb 1 s1.c).2 } := ⟨_, rfl⟩
  obtain ⟨s3, hs3⟩ : ∃ s3 : Gm.Rd, s3 = if (Gm.rb 1 s1.c).1 = 1 then { s2 with ws := (Gm.rdWin s2.ws s2.we s2.c).1, we := (Gm.rdWin s2.ws s2.we s2.c).2.1, c := (Gm.rdWin s2.ws s2.we s2.c).2.2 } else s2 := ⟨_, rfl⟩
  have e : (Gm.rdNum s s.c).1 = (numR s3).1 ∧ { s with ws := (Gm.rdNum s s.c).2.1, we := (Gm.rdNum s s.c).2.2.1, c := (Gm.rdNum s s.c).2.2.2 } = { s3 with c := (numR s3).2 } := by
    unfold Gm.rdNum
    rw [if_neg h0]
    simp only [h1, show ¬ (1 : Nat) = 0 by decide, if_false]
    subst hs1
    simp only at hs2 hs3
    by_cases hu : (Gm.rb 1 (Gm.rb 1 s.c).2).1 = 1
    · rw [if_pos hu] at hs3
      subst hs2
      simp only at hs3
      rw [hs3]
      simp only [hu, if_true, numR]
      exact ⟨trivial, trivial⟩
    · rw [if_neg hu] at hs3
      rw [hs3, hs2]
      simp only [hu, if_false, numR]
      exact ⟨trivial, trivial⟩
  -- WALK
  rw [e.1, e.2]
  have hw3 : s3.ws ≤ s3.we ∧ s3.we ≤ 64 := by
    rw [hs3]
    split
    · exact rdWin_win _ _ _ (by rw [hs2]; exact hw)
    · rw [hs2]; exact hw
  have hv3 : s3.last.v = s.last.v := by
    rw [hs3]
    split <;> rw [hs2]
  have C2 := Lib.hid (fun W (h : Rdr W a p g ds s1) => bits_rdr a p g 1 ds s1 (by decide) hbd W h)
  have hS2 : { s1 with c := (Gm.rb 1 s1.c).2 } = s2 := by rw [hs2, hs1]
  have HS1 := Lib.hid hs1
  have HS2 := Lib.hid hS2
  have CW := Lib.hid (fun W (h : Rdr W a p g ds s2) => openwin_rdr a p g ds s2 hbd W h)
  have HZ := Lib.hid (And.intro hw3 hbd)
  obtain ⟨u, hu⟩ : ∃ u, (Gm.rb 1 s1.c).1 = u := ⟨_, rfl⟩
  have hu2 : u < 2 := by rw [← hu]; exact rb_lt 1 s1.c (by decide)
  rw [hu] at C2 hs3
  simp only [Int.cast_ofNat_Int] at C2
  have HS3 := Lib.hid hs3
  have HV := Lib.hid (And.intro hv hv3)
  have HAL := Lib.hid H.lt
  obtain ⟨N1, hN1⟩ : ∃ N1, (numR s3).1 = N1 := ⟨_, rfl⟩
  obtain ⟨S5, hS5⟩ : ∃ S5 : Gm.Rd, { s3 with c := (numR s3).2 } = S5 := ⟨_, rfl⟩
  rw [hN1, hS5]
  have HN5 := Lib.hid (And.intro hN1 hS5)
  clear hN1 hS5
  clear e H h0 h1 hw hw3 hv3 hs1 hs2 hS2 hu hs3 hv
  unfold pt at *
  go_enter Tryz.func112, Tryz.ntmps112
  go_wp2_with fail
  go_at_call 121
  refine C.out.mono ?_
  rintro e w1 ⟨rfl, hR1, hO1⟩
  have HO1 := Lib.hid hO1
  have CB := Lib.hid (C2.out w1 (by rw [HS1.out]; exact hR1))
  clear hR1 hO1 C C2
  go_wp2_with fail
  go_at_call 121
  refine CB.out.mono ?_
  rintro e w2 ⟨rfl, hR2, hO2⟩
  have HR2 := Lib.hid (show Rdr w2 a p g ds s2 from by rw [← HS2.out]; exact hR2)
  have HO2 := Lib.hid (HO1.out.trans hO2 (fun _ hx => .inl hx))
  clear hR2 hO2 CB
  have hu3 : u = 0 ∨ u = 1 := by omega
  rcases hu3 with rfl | rfl
  · have d0 : (((0 : Nat) : Int) == 1) = false := by decide
    have HR := Lib.hid (show Rdr w2 a p g ds s3 from by rw [HS3.out, if_neg (by decide)]; exact HR2.out)
    have HO := HO2
    obtain ⟨W, hW⟩ : ∃ W, W = w2 := ⟨_, rfl⟩
    subst hW
    clear HR2 HO2 CW HS3 hu2
    go_wp2_with fail
    have hRd := HR.out.below (drew_below W)
    obtain ⟨q4, q5⟩ := hRd.winC
    obtain ⟨z, hz⟩ : ∃ z, s3.we - s3.ws = z := ⟨_, rfl⟩
    obtain ⟨t, ht⟩ : ∃ t, 64 - s3.we = t := ⟨_, rfl⟩
    have CZ := Lib.hid (fun W => size_any s3.ws s3.we HZ.out.1.1 HZ.out.1.2 W)
    have CT := Lib.hid (fun W => trailing_any s3.ws s3.we HZ.out.1.2 W)
    have CBz := Lib.hid (fun W (h : Rdr W a p g ds s3) => bits_rdr a p g z ds s3 (by have := HZ.out.1; omega) HZ.out.2 W h)
    unfold pt at CBz
    unfold winV at CZ CT
    rw [hz] at CZ
    rw [ht] at CT
    obtain ⟨X, hX⟩ : ∃ X, (Gm.rb z s3.c).1 = X := ⟨_, rfl⟩
    rw [hX] at CBz
    obtain ⟨s4, hs4⟩ : ∃ s4 : Gm.Rd, { s3 with c := (Gm.rb z s3.c).2 } = s4 := ⟨_, rfl⟩
    rw [hs4] at CBz
    have HXZ := Lib.hid (And.intro hX (And.intro hz (And.intro ht hs4)))
    obtain ⟨ws, hws⟩ : ∃ ws, s3.ws = ws := ⟨_, rfl⟩
    obtain ⟨we, hwe⟩ : ∃ we, s3.we = we := ⟨_, rfl⟩
    rw [hws, hwe] at CZ CT
    rw [hws] at q4
    rw [hwe] at q5
    have HWW := Lib.hid (show s4.ws = ws ∧ s4.we = we from by rw [← hs4]; exact ⟨hws, hwe⟩)
    obtain ⟨V, hV⟩ : ∃ V, s3.last.v = V := ⟨_, rfl⟩
    obtain ⟨Y, hY⟩ : ∃ Y, (X <<< t) % 18446744073709551616 = Y := ⟨_, rfl⟩
    have HY := Lib.hid (show N1 = V ^^^ Y ∧ S5 = s4 from by
      obtain ⟨n1, n2⟩ := HN5.out
      obtain ⟨m1, m2, m3, m4⟩ := HXZ.out
      rw [← n1, ← n2, ← m4]
      unfold numR
      rw [m2, m3, m1, hV, hY]
      exact ⟨rfl, rfl⟩)
    have htl : t ≤ 64 := by have := HXZ.out.2.2.1; omega
    have hsh : IntKind.u64.wrap ((X : Int) * 2 ^ min t 64) = ((Y : Nat) : Int) := by
      rw [Nat.min_eq_left htl, ← hY, Nat.shiftLeft_eq]
      show ((X : Int) * 2 ^ t) % 18446744073709551616 = _
      have hc : ((X : Int) * 2 ^ t) = ((X * 2 ^ t : Nat) : Int) := by
        rw [Int.natCast_mul, Int.natCast_pow]
        rfl
      rw [hc]
      omega
    have hxo := u64_xor_nat V Y (by have h1 := HV.out; rw [h1.2] at hV; rw [← hV]; exact h1.1) (by rw [← hY]; exact Nat.mod_lt _ (by decide))
    have q2 : W.drew.cell? ⟨a, 2, none⟩ = some (.int .u64 ((V : Nat) : Int)) := by
      have h := hRd.row
      rw [cell_of_row _ _ 2 _ _ _ h]
      unfold rdC rowP
      rw [hV]
      rfl
    have HS4 := Lib.hid (show s4.last.v = V from by rw [← HXZ.out.2.2.2]; exact hV)
    clear hV hY htl
    have hDD : Only [a, p] W W.drew := (Only.refl _ _).drew
    clear hX hz ht hws hwe hs4
    go_region_with (first
      | (go_at_call 107; refine (CZ.out _).mono ?_; rintro e w9 ⟨rfl, hb9⟩; have hR9 := Rdr.below (s := s3) (by assumption) hb9; have hD9 := Only.trans (S := [a, p]) (by assumption) (Only.of_below hb9 []) (fun x hx => by simp at hx); have q29 := cell_below (a := ⟨a, 2, none⟩) (v := .int .u64 ((V : Nat) : Int)) (by assumption) hb9; have q49 := cell_below (a := ⟨a, 4, none⟩) (v := .int .i64 ((ws : Nat) : Int)) (by assumption) hb9; have q59 := cell_below (a := ⟨a, 5, none⟩) (v := .int .i64 ((we : Nat) : Int)) (by assumption) hb9; clear hb9)
      | (go_at_call 108; refine (CT.out _).mono ?_; rintro e w9 ⟨rfl, hb9⟩; have hD9 := Only.trans (S := [a, p]) (by assumption) (Only.of_below hb9 []) (fun x hx => by simp at hx); have q29 := cell_below (a := ⟨a, 2, none⟩) (v := .int .u64 ((V : Nat) : Int)) (by assumption) hb9; have q49 := cell_below (a := ⟨a, 4, none⟩) (v := .int .i64 ((ws : Nat) : Int)) (by assumption) hb9; have q59 := cell_below (a := ⟨a, 5, none⟩) (v := .int .i64 ((we : Nat) : Int)) (by assumption) hb9; first | (have hR9 := Rdr.below (s := s3) (by assumption) hb9; clear hb9) | (have hR9 := Rdr.below (s := s4) (by assumption) hb9; clear hb9))
      | (go_at_call 121; refine (CBz.out _ (by assumption)).mono ?_; rintro e w9 ⟨rfl, hR9, hO9⟩; have hD9 := Only.trans (S := [a, p]) (by assumption) hO9 (fun _ hx => .inl hx); have h45 := Rdr.winC hR9; rw [HWW.out.1, HWW.out.2] at h45; obtain ⟨q49, q59⟩ := h45; have q29 : w9.cell? ⟨a, 2, none⟩ = some (.int .u64 ((V : Nat) : Int)) := (by rw [cell_of_row _ _ 2 _ _ _ hR9.row]; unfold rdC rowP; rw [HS4.out]; rfl); clear hO9))
    all_goals (try rw [hsh])
    all_goals go_wp2_with fail
    all_goals go_ret
    all_goals exact ⟨by rw [HY.out.1]; first | done | rfl, by rw [HY.out.2]; assumption, HO.out.trans (by assumption) (fun _ hx => .inl hx)⟩
  · have d0 : (((1 : Nat) : Int) == 1) = true := by decide
    have CX := Lib.hid (CW.out w2 HR2.out)
    have HQ := Lib.hid (show s3 = { s2 with ws := (Gm.rdWin s2.ws s2.we s2.c).1, we := (Gm.rdWin s2.ws s2.we s2.c).2.1, c := (Gm.rdWin s2.ws s2.we s2.c).2.2 } from by rw [HS3.out]; rfl)
    rw [← HQ.out] at CX
    clear HR2 CW HS3 HQ hu2
    unfold pt at *
    go_wp2_with fail
    go_at_call 122
    refine CX.out.mono ?_
    rintro e W ⟨rfl, hR, hO⟩
    have HR := Lib.hid hR
    have HO := Lib.hid (HO2.out.trans (hO [a, p] (by simp) (by simp)) (fun _ hx => .inl hx))
    clear hR hO CX HO2
    go_wp2_with fail
    have hRd := HR.out.below (drew_below W)
    obtain ⟨q4, q5⟩ := hRd.winC
    obtain ⟨z, hz⟩ : ∃ z, s3.we - s3.ws = z := ⟨_, rfl⟩
    obtain ⟨t, ht⟩ : ∃ t, 64 - s3.we = t := ⟨_, rfl⟩
    have CZ := Lib.hid (fun W => size_any s3.ws s3.we HZ.out.1.1 HZ.out.1.2 W)
    have CT := Lib.hid (fun W => trailing_any s3.ws s3.we HZ.out.1.2 W)
    have CBz := Lib.hid (fun W (h : Rdr W a p g ds s3) => bits_rdr a p g z ds s3 (by have := HZ.out.1; omega) HZ.out.2 W h)
    unfold pt at CBz
    unfold winV at CZ CT
    rw [hz] at CZ
    rw [ht] at CT
    obtain ⟨X, hX⟩ : ∃ X, (Gm.rb z s3.c).1 = X := ⟨_, rfl⟩
    rw [hX] at CBz
    obtain ⟨s4, hs4⟩ : ∃ s4 : Gm.Rd, { s3 with c := (Gm.rb z s3.c).2 } = s4 := ⟨_, rfl⟩
    rw [hs4] at CBz
    have HXZ := Lib.hid (And.intro hX (And.intro hz (And.intro ht hs4)))
    obtain ⟨ws, hws⟩ : ∃ ws, s3.ws = ws := ⟨_, rfl⟩
    obtain ⟨we, hwe⟩ : ∃ we, s3.we = we := ⟨_, rfl⟩
    rw [hws, hwe] at CZ CT
    rw [hws] at q4
    rw [hwe] at q5
    have HWW := Lib.hid (show s4.ws = ws ∧ s4.we = we from by rw [← hs4]; exact ⟨hws, hwe⟩)
    obtain ⟨V, hV⟩ : ∃ V, s3.last.v = V := ⟨_, rfl⟩
    obtain ⟨Y, hY⟩ : ∃ Y, (X <<< t) % 18446744073709551616 = Y := ⟨_, rfl⟩
    have HY := Lib.hid (show N1 = V ^^^ Y ∧ S5 = s4 from by
      obtain ⟨n1, n2⟩ := HN5.out
      obtain ⟨m1, m2, m3, m4⟩ := HXZ.out
      rw [← n1, ← n2, ← m4]
      unfold numR
      rw [m2, m3, m1, hV, hY]
      exact ⟨rfl, rfl⟩)
    have htl : t ≤ 64 := by have := HXZ.out.2.2.1; omega
    have hsh : IntKind.u64.wrap ((X : Int) * 2 ^ min t 64) = ((Y : Nat) : Int) := by
      rw [Nat.min_eq_left htl, ← hY, Nat.shiftLeft_eq]
      show ((X : Int) * 2 ^ t) % 18446744073709551616 = _
      have hc : ((X : Int) * 2 ^ t) = ((X * 2 ^ t : Nat) : Int) := by
        rw [Int.natCast_mul, Int.natCast_pow]
        rfl
      rw [hc]
      omega
    have hxo := u64_xor_nat V Y (by have h1 := HV.out; rw [h1.2] at hV; rw [← hV]; exact h1.1) (by rw [← hY]; exact Nat.mod_lt _ (by decide))
    have q2 : W.drew.cell? ⟨a, 2, none⟩ = some (.int .u64 ((V : Nat) : Int)) := by
      have h := hRd.row
      rw [cell_of_row _ _ 2 _ _ _ h]
      unfold rdC rowP
      rw [hV]
      rfl
    have HS4 := Lib.hid (show s4.last.v = V from by rw [← HXZ.out.2.2.2]; exact hV)
    clear hV hY htl
    have hDD : Only [a, p] W W.drew := (Only.refl _ _).drew
    clear hX hz ht hws hwe hs4
    go_region_with (first
      | (go_at_call 107; refine (CZ.out _).mono ?_; rintro e w9 ⟨rfl, hb9⟩; have hR9 := Rdr.below (s := s3) (by assumption) hb9; have hD9 := Only.trans (S := [a, p]) (by assumption) (Only.of_below hb9 []) (fun x hx => by simp at hx); have q29 := cell_below (a := ⟨a, 2, none⟩) (v := .int .u64 ((V : Nat) : Int)) (by assumption) hb9; have q49 := cell_below (a := ⟨a, 4, none⟩) (v := .int .i64 ((ws : Nat) : Int)) (by assumption) hb9; have q59 := cell_below (a := ⟨a, 5, none⟩) (v := .int .i64 ((we : Nat) : Int)) (by assumption) hb9; clear hb9)
      | (go_at_call 108; refine (CT.out _).mono ?_; rintro e w9 ⟨rfl, hb9⟩; have hD9 := Only.trans (S := [a, p]) (by assumption) (Only.of_below hb9 []) (fun x hx => by simp at hx); have q29 := cell_below (a := ⟨a, 2, none⟩) (v := .int .u64 ((V : Nat) : Int)) (by assumption) hb9; have q49 := cell_below (a := ⟨a, 4, none⟩) (v := .int .i64 ((ws : Nat) : Int)) (by assumption) hb9; have q59 := cell_below (a := ⟨a, 5, none⟩) (v := .int .i64 ((we : Nat) : Int)) (by assumption) hb9; first | (have hR9 := Rdr.below (s := s3) (by assumption) hb9; clear hb9) | (have hR9 := Rdr.below (s := s4) (by assumption) hb9; clear hb9))
      | (go_at_call 121; refine (CBz.out _ (by assumption)).mono ?_; rintro e w9 ⟨rfl, hR9, hO9⟩; have hD9 := Only.trans (S := [a, p]) (by assumption) hO9 (fun _ hx => .inl hx); have h45 := Rdr.winC hR9; rw [HWW.out.1, HWW.out.2] at h45; obtain ⟨q49, q59⟩ := h45; have q29 : w9.cell? ⟨a, 2, none⟩ = some (.int .u64 ((V : Nat) : Int)) := (by rw [cell_of_row _ _ 2 _ _ _ hR9.row]; unfold rdC rowP; rw [HS4.out]; rfl); clear hO9))
    all_goals (try rw [hsh])
    all_goals go_wp2_with fail
    all_goals go_ret
    all_goals exact ⟨by rw [HY.out.1]; first | done | rfl, by rw [HY.out.2]; assumption, HO.out.trans (by assumption) (fun _ hx => .inl hx)⟩
end Go.Proofs.YtdlifcpdlbmijaaGreatDoor
namespace Go.Proofs.YtdlifcpdlbmijaaGreatDoor
set_option linter.unusedVariables false
set_option linter.unusedSimpArgs false
open Go.RowKit Go.PlainAid Go.Shelf
open B2 (Only Bys Row cellsOf)
open Gm (St Smp)
/-- what the search for a row keeps: how many bits of the mark there are, the mark, the reader -/
structure Stp (w : World) (a p g h m r : Nat) (ds : List Nat) (s : Gm.Rd) (hv mv : Nat) : Prop where
  rd : Rdr w a p g ds s
  kh : w.heap[h]? = some (.cells #[.int .i64 ((hv : Nat) : Int)] 3 (0, 0))
  km : w.heap[m]? = some (.cells #[.int .u64 ((mv : Nat) : Int)] 76 (0, 0))
  kr : w.heap[r]? = some (.cells #[pt a] 254 (0, 0))
  nh : h ≠ a ∧ h ≠ p ∧ h ≠ g ∧ h ≠ m ∧ h ≠ r
  nm : m ≠ a ∧ m ≠ p ∧ m ≠ g ∧ m ≠ r
  nr : r ≠ a ∧ r ≠ p
theorem Stp.lt {w : World} {a p g h m r : Nat} {ds : List Nat} {s : Gm.Rd} {hv mv : Nat} (H : Stp w a p g h m r ds s hv mv) : a < w.heap.size ∧ p < w.heap.size ∧ g < w.heap.size ∧ h < w.heap.size ∧ m < w.heap.size ∧ r < w.heap.size :=
  ⟨H.rd.lt.1, H.rd.lt.2.1, H.rd.lt.2.2, (Array.getElem?_eq_some_iff.1 H.kh).1, (Array.getElem?_eq_some_iff.1 H.km).1, (Array.getElem?_eq_some_iff.1 H.kr).1⟩
theorem Stp.only {w w' : World} {a p g h m r : Nat} {ds : List Nat} {s : Gm.Rd} {hv mv : Nat} (H : Stp w a p g h m r ds s hv mv) {S : List Nat} (ho : Only S w w') (h1 : a ∉ S) (h2 : p ∉ S) (h3 : g ∉ S) (h4 : h ∉ S) (h5 : m ∉ S) (h6 : r ∉ S) : Stp w' a p g h m r ds s hv mv :=
  ⟨H.rd.only ho h1 h2 h3, (ho.block h H.lt.2.2.2.1 h4).trans H.kh, (ho.block m H.lt.2.2.2.2.1 h5).trans H.km, (ho.block r H.lt.2.2.2.2.2 h6).trans H.kr, H.nh, H.nm, H.nr⟩
theorem Stp.below {w w' : World} {a p g h m r : Nat} {ds : List Nat} {s : Gm.Rd} {hv mv : Nat} (H : Stp w a p g h m r ds s hv mv) (hb : Below w.heap.size w w') : Stp w' a p g h m r ds s hv mv := H.only (Only.of_below hb []) (by simp) (by simp) (by simp) (by simp) (by simp) (by simp)
theorem Stp.read {w w' : World} {a p g h m r : Nat} {ds : List Nat} {s s' : Gm.Rd} {hv mv : Nat} (H : Stp w a p g h m r ds s hv mv) (hR : Rdr w' a p g ds s') (ho : Only [a, p] w w') : Stp w' a p g h m r ds s' hv mv :=
  ⟨hR, (ho.block h H.lt.2.2.2.1 (by have := H.nh; simp; omega)).trans H.kh, (ho.block m H.lt.2.2.2.2.1 (by have := H.nm; simp; omega)).trans H.km, (ho.block r H.lt.2.2.2.2.2 (by have := H.nr; simp; omega)).trans H.kr, H.nh, H.nm, H.nr⟩
theorem Stp.setM {w : World} {a p g h m r : Nat} {ds : List Nat} {s : Gm.Rd} {hv mv : Nat} (H : Stp w a p g h m r ds s hv mv) (x : Nat) : Stp (w.setCell ⟨m, 0, none⟩ (.int .u64 ((x : Nat) : Int))) a p g h m r ds s hv x := by
  have hO := (Only.refl [m] w).setCell (p := ⟨m, 0, none⟩) (.inl (by simp)) (.int .u64 ((x : Nat) : Int))
  have h1 := H.nh
  have h2 := H.nm
  have h3 := H.nr
  have hl := H.lt
  refine ⟨H.rd.only hO (by simp; omega) (by simp; omega) (by simp; omega), (hO.block h hl.2.2.2.1 (by simp; omega)).trans H.kh, ?_, (hO.block r hl.2.2.2.2.2 (by simp; omega)).trans H.kr, h1, h2, h3⟩
  rw [heap_setCell_same _ _ _ _ _ _ H.km]
  rfl
theorem Stp.setH {w : World} {a p g h m r : Nat} {ds : List Nat} {s : Gm.Rd} {hv mv : Nat} (H : Stp w a p g h m r ds s hv mv) (x : Nat) : Stp (w.setCell ⟨h, 0, none⟩ (.int .i64 ((x : Nat) : Int))) a p g h m r ds s x mv := by
  have hO := (Only.refl [h] w).setCell (p := ⟨h, 0, none⟩) (.inl (by simp)) (.int .i64 ((x : Nat) : Int))
  have h1 := H.nh
  have h2 := H.nm
  have h3 := H.nr
  have hl := H.lt
  refine ⟨H.rd.only hO (by simp; omega) (by simp; omega) (by simp; omega), ?_, (hO.block m hl.2.2.2.2.1 (by simp; omega)).trans H.km, (hO.block r hl.2.2.2.2.2 (by simp; omega)).trans H.kr, h1, h2, h3⟩
  rw [heap_setCell_same _ _ _ _ _ _ H.kh]
  rfl
/-- and the row at hand in its block -/
structure StpB (w : World) (a p g h m r : Nat) (ds : List Nat) (s : Gm.Rd) (hv mv B M K u v : Nat) : Prop where
  st : Stp w a p g h m r ds s hv mv
  bx : w.heap[B]? = some (.cells #[.int .u64 ((M : Nat) : Int), .int .i64 ((K : Nat) : Int), .int .u64 ((u : Nat) : Int), .int .i64 ((v : Nat) : Int)] 244 (0, 0))
  nb : B ≠ a ∧ B ≠ p ∧ B ≠ h ∧ B ≠ m
theorem StpB.read {w w' : World} {a p g h m r : Nat} {ds : List Nat} {s s' : Gm.Rd} {hv mv B M K u v : Nat} (H : StpB w a p g h m r ds s hv mv B M K u v) (hR : Rdr w' a p g ds s') (ho : Only [a, p] w w') : StpB w' a p g h m r ds s' hv mv B M K u v :=
  ⟨H.st.read hR ho, (ho.block B (Array.getElem?_eq_some_iff.1 H.bx).1 (by have := H.nb; simp; omega)).trans H.bx, H.nb⟩
theorem StpB.drew {w : World} {a p g h m r : Nat} {ds : List Nat} {s : Gm.Rd} {hv mv B M K u v : Nat} (H : StpB w a p g h m r ds s hv mv B M K u v) : StpB w.drew a p g h m r ds s hv mv B M K u v :=
  ⟨H.st.below (drew_below w), H.bx, H.nb⟩
theorem StpB.setM {w : World} {a p g h m r : Nat} {ds : List Nat} {s : Gm.Rd} {hv mv B M K u v : Nat} (H : StpB w a p g h m r ds s hv mv B M K u v) (x : Nat) : StpB (w.setCell ⟨m, 0, none⟩ (.int .u64 ((x : Nat) : Int))) a p g h m r ds s hv x B M K u v :=
  ⟨H.st.setM x, (Below.heap_setCell _ _ _ _ (show ¬ B = m from H.nb.2.2.2)).trans H.bx, H.nb⟩
theorem StpB.setH {w : World} {a p g h m r : Nat} {ds : List Nat} {s : Gm.Rd} {hv mv B M K u v : Nat} (H : StpB w a p g h m r ds s hv mv B M K u v) (x : Nat) : StpB (w.setCell ⟨h, 0, none⟩ (.int .i64 ((x : Nat) : Int))) a p g h m r ds s x mv B M K u v :=
  ⟨H.st.setH x, (Below.heap_setCell _ _ _ _ (show ¬ B = h from H.nb.2.2.1)).trans H.bx, H.nb⟩
theorem StpB.cs {w : World} {a p g h m r : Nat} {ds : List Nat} {s : Gm.Rd} {hv mv B M K u v : Nat} (H : StpB w a p g h m r ds s hv mv B M K u v) :
    w.cell? ⟨h, 0, none⟩ = some (.int .i64 ((hv : Nat) : Int)) ∧ w.frozen? ⟨h, 0, none⟩ = false ∧ w.cell? ⟨m, 0, none⟩ = some (.int .u64 ((mv : Nat) : Int)) ∧ w.frozen? ⟨m, 0, none⟩ = false ∧ w.cell? ⟨r, 0, none⟩ = some (pt a) ∧ w.cell? ⟨B, 0, none⟩ = some (.int .u64 ((M : Nat) : Int)) ∧ w.cell? ⟨B, 1, none⟩ = some (.int .i64 ((K : Nat) : Int)) :=
  ⟨(cell_of_row _ _ 0 _ _ _ H.st.kh).trans rfl, frozen_of_row _ _ _ _ _ H.st.kh, (cell_of_row _ _ 0 _ _ _ H.st.km).trans rfl, frozen_of_row _ _ _ _ _ H.st.km, (cell_of_row _ _ 0 _ _ _ H.st.kr).trans rfl, (cell_of_row _ _ 0 _ _ _ H.bx).trans rfl, (cell_of_row _ _ 1 _ _ _ H.bx).trans rfl⟩
/-- a mark with a row's more bits -/
def mrk (m l x : Nat) : Nat := (m <<< l) % 18446744073709551616 ||| x
theorem mrk_lt (m l x : Nat) (hx : x < 18446744073709551616) : mrk m l x < 18446744073709551616 := Nat.or_lt_two_pow (n := 64) (Nat.mod_lt _ (by decide)) hx
set_option maxHeartbeats 16000000 in
set_option maxRecDepth 100000 in
theorem mark126_any (a p g h m r : Nat) (ds : List Nat) (s : Gm.Rd) (hv mv M K u v : Nat) (hbd : ds.length ≤ 1000000000) (hM : M < 18446744073709551616) (hmv : mv < 18446744073709551616) (hK : hv ≤ K ∧ K ≤ 64) (w : World) (H : Stp w a p g h m r ds s hv mv) :
    Calls Tryz.prog 126 #[.agg #[.int .u64 ((M : Nat) : Int), .int .i64 ((K : Nat) : Int), .int .u64 ((u : Nat) : Int), .int .i64 ((v : Nat) : Int)], pt h, pt m, pt r] w fun e w' =>
      e = .returned (.bool (decide (mrk mv (K - hv) (Gm.rb (K - hv) s.c).1 = M))) ∧ Stp w' a p g h m r ds { s with c := (Gm.rb (K - hv) s.c).2 } K (mrk mv (K - hv) (Gm.rb (K - hv) s.c).1) ∧ Only [a, p, h, m] w w' := by
  have hl := H.lt
  obtain ⟨L, hL⟩ : ∃ L, K - hv = L := ⟨_, rfl⟩
  have hsub : (K : Int) - (hv : Int) = ((L : Nat) : Int) := by omega
  have hLK : L ≤ 64 := by omega
  obtain ⟨X, hX⟩ : ∃ X, (Gm.rb L s.c).1 = X := ⟨_, rfl⟩
  have hXl : X < 18446744073709551616 := by
    have h1 := rb_lt L s.c hLK
    rw [hX] at h1
    exact Nat.lt_of_lt_of_le h1 (Nat.pow_le_pow_right (by decide) hLK)
  obtain ⟨S1, hS1⟩ : ∃ S1 : Gm.Rd, { s with c := (Gm.rb L s.c).2 } = S1 := ⟨_, rfl⟩
  have CB := Lib.hid (fun W (h : Rdr W a p g ds s) => bits_rdr a p g L ds s hLK hbd W h)
  obtain ⟨Q, hQ⟩ : ∃ Q, mrk mv L X = Q := ⟨_, rfl⟩
  have hQl : Q < 18446744073709551616 := by rw [← hQ]; exact mrk_lt _ _ _ hXl
  rw [hL, hX, hS1, hQ]
  rw [hX, hS1] at CB
  obtain ⟨Y, hY⟩ : ∃ Y, (mv <<< L) % 18446744073709551616 = Y := ⟨_, rfl⟩
  have hYQ : Y ||| X = Q := by rw [← hQ, ← hY]; rfl
  have hor : bits .or .u64 (Y : Int) (X : Int) = ((Q : Nat) : Int) := by
    rw [u64_or_nat Y X (by rw [← hY]; exact Nat.mod_lt _ (by decide)) hXl, hYQ]
  have hsh : IntKind.u64.wrap ((mv : Int) * 2 ^ L) = ((Y : Nat) : Int) := by
    rw [← hY, Nat.shiftLeft_eq]
    show ((mv : Int) * 2 ^ L) % 18446744073709551616 = _
    have hc : ((mv : Int) * 2 ^ L) = ((mv * 2 ^ L : Nat) : Int) := by
      rw [Int.natCast_mul, Int.natCast_pow]
      rfl
    rw [hc]
    omega
  have hbx := heap_alloc_new w (.cells #[.int .u64 ((M : Nat) : Int), .int .i64 ((K : Nat) : Int), .int .u64 ((u : Nat) : Int), .int .i64 ((v : Nat) : Int)] 244)
  have hAl := (Below.refl w.heap.size w).alloc (Nat.le_refl _) (.cells #[.int .u64 ((M : Nat) : Int), .int .i64 ((K : Nat) : Int), .int .u64 ((u : Nat) : Int), .int .i64 ((v : Nat) : Int)] 244)
  have HS := Lib.hid (show StpB (w.alloc (.cells #[.int .u64 ((M : Nat) : Int), .int .i64 ((K : Nat) : Int), .int .u64 ((u : Nat) : Int), .int .i64 ((v : Nat) : Int)] 244)) a p g h m r ds s hv mv w.heap.size M K u v from ⟨H.below hAl, hbx, by omega⟩)
  have HO := Lib.hid (Only.of_below hAl [a, p, h, m])
  have HW := Lib.hid hl
  have hn1 := HS.out.st.nh
  have hn2 := HS.out.nb
  obtain ⟨x1, x2, x3, x4, x5, x6, x7⟩ := HS.out.cs
  have HQ := Lib.hid (show ((Q : Int) == (M : Int)) = decide (Q = M) from by rw [Bool.eq_iff_iff]; simp only [beq_iff_eq, decide_eq_true_eq]; omega)
  clear hbx hAl hQ hY hYQ hL hX hS1 H hl hQl hM
  unfold pt at *
  go_enter Tryz.func126, Tryz.ntmps126
  go_wp2_with fail
  generalize hB : w.heap.size = B at *
  generalize hW : (w.alloc (.cells #[.int .u64 ((M : Nat) : Int), .int .i64 ((K : Nat) : Int), .int .u64 ((u : Nat) : Int), .int .i64 ((v : Nat) : Int)] 244)) = W at *
  have hD := HS.out.drew
  obtain ⟨y1, y2, y3, y4, y5, y6, y7⟩ := hD.cs
  have hDD : Only [a, p] W W.drew := (Only.refl _ _).drew
  clear x1 x2 x3 x4 x5 x6 x7
  unfold pt at *
  go_region_with (first
    | (go_at_call 121; refine (CB.out _ hD.st.rd).mono ?_; rintro e w9 ⟨rfl, hR9, hO9⟩; have hS9 := StpB.read hD hR9 hO9; have hD9 := Only.trans (S := [a, p]) hDD hO9 (fun _ hx => .inl hx); obtain ⟨z1, z2, z3, z4, z5, z6, z7⟩ := StpB.cs hS9; unfold pt at z5; clear hR9 hO9))
  all_goals
    have hM := StpB.setM hS9 Q
    have hH := StpB.setH hM K
    obtain ⟨u1, u2, u3, u4, u5, u6, u7⟩ := hM.cs
    obtain ⟨v1, v2, v3, v4, v5, v6, v7⟩ := hH.cs
    have HF := Lib.hid (And.intro hH.st (((HO.out.trans hD9 (fun x hx => by simp at hx ⊢; omega)).setCell (p := ⟨m, 0, none⟩) (.inl (by simp)) (.int .u64 ((Q : Nat) : Int))).setCell (p := ⟨h, 0, none⟩) (.inl (by simp)) (.int .i64 ((K : Nat) : Int))))
    clear hM hH hS9 hD hDD hD9 HS
    go_wp2_with fail
    go_ret
    first
      | (simp only [hsh, hor]; exact ⟨by rw [← HQ.out]; rfl, HF.out.1, HF.out.2⟩)
      | (simp only [hor]; exact ⟨by rw [← HQ.out]; rfl, HF.out.1, HF.out.2⟩)
      | exact ⟨by rw [← HQ.out]; rfl, HF.out.1, HF.out.2⟩
end Go.Proofs.YtdlifcpdlbmijaaGreatDoor
namespace Go.Proofs.YtdlifcpdlbmijaaGreatDoor
set_option linter.unusedVariables false
set_option linter.unusedSimpArgs false
open Go.RowKit Go.PlainAid Go.Shelf
open B2 (Only Bys Row cellsOf)
open Gm (St Smp)
def hvOf : Nat → Nat | 0 => 0 | j + 1 => Gm.ms j
def rowC : Nat → Array Value | 0 => #[.int .u64 0, .int .i64 0, .int .u64 0, .int .i64 0] | 1 => #[.int .u64 0, .int .i64 1, .int .u64 0, .int .i64 0] | 2 => #[.int .u64 2, .int .i64 2, .int .u64 63, .int .i64 7] | 3 => #[.int .u64 6, .int .i64 3, .int .u64 255, .int .i64 9] | 4 => #[.int .u64 14, .int .i64 4, .int .u64 2047, .int .i64 12] | _ => #[.int .u64 15, .int .i64 4, .int .u64 0, .int .i64 64]
theorem find_step (f j m hv : Nat) (c : Gm.Cx) : Gm.findR (f + 1) j m hv c = if mrk m (Gm.ms j - hv) (Gm.rb (Gm.ms j - hv) c).1 = Gm.mk j then (j, (Gm.rb (Gm.ms j - hv) c).2) else Gm.findR f (j + 1) (mrk m (Gm.ms j - hv) (Gm.rb (Gm.ms j - hv) c).1) (Gm.ms j) (Gm.rb (Gm.ms j - hv) c).2 := rfl
/-- behind a look at a row -/
def MarkPost (W : World) (a p g h m r : Nat) (ds : List Nat) (s : Gm.Rd) (T : Nat × Gm.Cx) (j : Nat) (e : Ending) (w' : World) : Prop :=
  ∃ (found : Bool) (c' : Gm.Cx) (mv' : Nat), e = .returned (.bool found) ∧ mv' < 18446744073709551616 ∧ (found = true → T = (j, c')) ∧ (found = false → Gm.findR (4 - j) (j + 1) mv' (hvOf (j + 1)) c' = T) ∧ Stp w' a p g h m r ds { s with c := c' } (hvOf (j + 1)) mv' ∧ Only [a, p, h, m] W w'
theorem mark_row (a p g h m r : Nat) (ds : List Nat) (s : Gm.Rd) (T : Nat × Gm.Cx) (hbd : ds.length ≤ 1000000000) (j : Nat) (hj : j < 5) (c : Gm.Cx) (mv : Nat) (hmv : mv < 18446744073709551616) (hT : Gm.findR (5 - j) j mv (hvOf j) c = T) (W : World) (H : Stp W a p g h m r ds { s with c := c } (hvOf j) mv) :
    Calls Tryz.prog 126 #[bkV j, pt h, pt m, pt r] W (MarkPost W a p g h m r ds s T j) := by
  have hK : hvOf j ≤ Gm.ms j ∧ Gm.ms j ≤ 64 ∧ Gm.mk j < 18446744073709551616 := by
    have h5 : j = 0 ∨ j = 1 ∨ j = 2 ∨ j = 3 ∨ j = 4 := by omega
    rcases h5 with rfl | rfl | rfl | rfl | rfl <;> decide
  refine (mark126_any a p g h m r ds { s with c := c } (hvOf j) mv (Gm.mk j) (Gm.ms j) (Gm.pl j) (Gm.sz j) hbd hK.2.2 hmv ⟨hK.1, hK.2.1⟩ W H).mono ?_
  rintro e w' ⟨rfl, hS, hO⟩
  rw [show 5 - j = (4 - j) + 1 by omega, find_step] at hT
  simp only at hS
  have hx : (Gm.rb (Gm.ms j - hvOf j) c).1 < 18446744073709551616 := Nat.lt_of_lt_of_le (rb_lt _ c (by omega)) (Nat.pow_le_pow_right (by decide) (by omega : Gm.ms j - hvOf j ≤ 64))
  refine ⟨decide (mrk mv (Gm.ms j - hvOf j) (Gm.rb (Gm.ms j - hvOf j) c).1 = Gm.mk j), (Gm.rb (Gm.ms j - hvOf j) c).2, mrk mv (Gm.ms j - hvOf j) (Gm.rb (Gm.ms j - hvOf j) c).1, rfl, mrk_lt _ _ _ hx, fun hf => ?_, fun hf => ?_, hS, hO⟩
  · rw [← hT, if_pos (of_decide_eq_true hf)]
  · rw [← hT, if_neg (of_decide_eq_false hf)]; rfl
/-- what the search keeps: the result's block, the row's block -/
structure Fr (w wr : World) (S a p g h m r : Nat) (ds : List Nat) (s : Gm.Rd) (hv mv : Nat) (xs : Array Value) : Prop where
  r0 : wr.heap[S]? = some (.cells #[.int .u64 0, .int .i64 0, .int .u64 0, .int .i64 0] 244 (0, 0))
  x : wr.heap[S + 1 + 1]? = some (.cells xs 244 (0, 0))
  st : Stp wr a p g h m r ds s hv mv
  o : Only [a, p, h, m] w wr
  sz : w.heap.size = S
  lt : a < S ∧ p < S ∧ g < S ∧ h < S ∧ m < S ∧ r < S
theorem only_setRow {L : List Nat} {w wr : World} (ho : Only L w wr) (k : Nat) (hk : w.heap.size ≤ k) (cs : Array Value) : Only L w (wr.setRow k cs) :=
  ⟨ho.os, ho.tape, ho.output, by rw [setRow_size]; exact ho.size, fun q hq hn => (heap_setRow_ne _ _ _ _ (by omega)).trans (ho.block q hq hn)⟩
theorem stp_setRow {wr : World} {a p g h m r : Nat} {ds : List Nat} {s : Gm.Rd} {hv mv S k : Nat} (H : Stp wr a p g h m r ds s hv mv) (lt : a < S ∧ p < S ∧ g < S ∧ h < S ∧ m < S ∧ r < S) (hk : S ≤ k) (cs : Array Value) : Stp (wr.setRow k cs) a p g h m r ds s hv mv := by
  have hO : Only [k] wr (wr.setRow k cs) := ⟨rfl, rfl, rfl, by rw [setRow_size]; exact Nat.le_refl _, fun q hq hn => heap_setRow_ne _ _ _ _ (by simp at hn; omega)⟩
  exact H.only hO (by simp; omega) (by simp; omega) (by simp; omega) (by simp; omega) (by simp; omega) (by simp; omega)
theorem Fr.row {w wr : World} {S a p g h m r : Nat} {ds : List Nat} {s : Gm.Rd} {hv mv : Nat} {xs : Array Value} (H : Fr w wr S a p g h m r ds s hv mv xs) (cs : Array Value) : Fr w (wr.setRow (S + 1 + 1) cs) S a p g h m r ds s hv mv cs :=
  ⟨(heap_setRow_ne _ _ _ _ (by omega)).trans H.r0, setRow_heap _ _ _ _ _ _ H.x, stp_setRow H.st H.lt (by omega) cs, only_setRow H.o _ (by have := H.sz; omega) cs, H.sz, H.lt⟩
theorem Fr.call {w wr w' : World} {S a p g h m r : Nat} {ds : List Nat} {s s' : Gm.Rd} {hv mv hv' mv' : Nat} {xs : Array Value} (H : Fr w wr S a p g h m r ds s hv mv xs) (hS : Stp w' a p g h m r ds s' hv' mv') (hO : Only [a, p, h, m] wr w') : Fr w w' S a p g h m r ds s' hv' mv' xs := by
  have hl := H.lt
  exact ⟨(hO.block _ (Array.getElem?_eq_some_iff.1 H.r0).1 (by simp; omega)).trans H.r0, (hO.block _ (Array.getElem?_eq_some_iff.1 H.x).1 (by simp; omega)).trans H.x, hS, H.o.trans hO (fun _ hx => .inl hx), H.sz, H.lt⟩
theorem Fr.fin {w wr : World} {S a p g h m r : Nat} {ds : List Nat} {s : Gm.Rd} {hv mv : Nat} {xs : Array Value} (H : Fr w wr S a p g h m r ds s hv mv xs) (cs : Array Value) : (wr.setRow S cs).heap[S]? = some (.cells cs 244 (0, 0)) ∧ Stp (wr.setRow S cs) a p g h m r ds s hv mv ∧ Only [a, p, h, m] w (wr.setRow S cs) :=
  ⟨setRow_heap _ _ _ _ _ _ H.r0, stp_setRow H.st H.lt (Nat.le_refl _) cs, only_setRow H.o _ (by have := H.sz; omega) cs⟩
/-- what the loop keeps -/
def FrL (w wr : World) (S a p g h m r : Nat) (ds : List Nat) (s : Gm.Rd) (T : Nat × Gm.Cx) (j : Nat) : Prop :=
  ∃ (c : Gm.Cx) (mv : Nat), mv < 18446744073709551616 ∧ Gm.findR (5 - j) j mv (hvOf j) c = T ∧ Fr w wr S a p g h m r ds { s with c := c } (hvOf j) mv (rowC j)
/-- behind the search -/
def FindPost (w : World) (a p g h m r : Nat) (ds : List Nat) (s : Gm.Rd) (T : Nat × Gm.Cx) (e : Ending) (w' : World) : Prop :=
  e = .returned (bkV T.1) ∧ (∃ hv mv : Nat, Stp w' a p g h m r ds { s with c := T.2 } hv mv) ∧ Only [a, p, h, m] w w'
set_option maxHeartbeats 16000000 in
set_option maxRecDepth 100000 in
theorem find_any (a p g h m r : Nat) (ds : List Nat) (s : Gm.Rd) (hbd : ds.length ≤ 1000000000) (w : World) (H : Stp w a p g h m r ds s 0 0) :
    Calls Tryz.prog 101 #[.func (.func 126) #[] #[pt h, pt m, pt r]] w (FindPost w a p g h m r ds s (Gm.findR 5 0 0 0 s.c)) := by
  have hcl := H.lt
  obtain ⟨T, hT⟩ : ∃ T, Gm.findR 5 0 0 0 s.c = T := ⟨_, rfl⟩
  rw [hT]
  have C := Lib.hid (fun j hj c mv hmv hT W H => mark_row a p g h m r ds s T hbd j hj c mv hmv hT W H)
  have HT := Lib.hid tab_all
  have HI := Lib.hid tab_at
  obtain ⟨S, hS⟩ : ∃ S, w.heap.size = S := ⟨_, rfl⟩
  rw [hS] at hcl
  have s1 : (w.alloc (.cells #[.int .u64 0, .int .i64 0, .int .u64 0, .int .i64 0] 244)).heap.size = S + 1 := by simp [hS]
  have s2 : ((w.alloc (.cells #[.int .u64 0, .int .i64 0, .int .u64 0, .int .i64 0] 244)).alloc (.cells z20 257)).heap.size = S + 1 + 1 := by simp [hS]
  have hr0 := heap_alloc_new w (.cells #[.int .u64 0, .int .i64 0, .int .u64 0, .int .i64 0] 244)
  have hA := heap_alloc_new (w.alloc (.cells #[.int .u64 0, .int .i64 0, .int .u64 0, .int .i64 0] 244)) (.cells z20 257)
  rw [hS] at hr0
  rw [s1] at hA
  have hx0 := heap_alloc_new (((w.alloc (.cells #[.int .u64 0, .int .i64 0, .int .u64 0, .int .i64 0] 244)).alloc (.cells z20 257)).setRow (S + 1) tabC) (.cells #[.int .u64 0, .int .i64 0, .int .u64 0, .int .i64 0] 244)
  rw [setRow_size, s2] at hx0
  have hB := (((Below.refl w.heap.size w).alloc (Nat.le_refl _) (.cells #[.int .u64 0, .int .i64 0, .int .u64 0, .int .i64 0] 244)).alloc (by simp) (.cells z20 257))
  rw [hS] at hB
  have hB2 := (below_setRow hB (show S ≤ S + 1 by omega) tabC).alloc (by rw [setRow_size, s2]; omega) (.cells #[.int .u64 0, .int .i64 0, .int .u64 0, .int .i64 0] 244)
  have hT1 := setRow_heap _ _ _ tabC _ _ hA
  have hT2 : ((((w.alloc (.cells #[.int .u64 0, .int .i64 0, .int .u64 0, .int .i64 0] 244)).alloc (.cells z20 257)).setRow (S + 1) tabC).alloc (.cells #[.int .u64 0, .int .i64 0, .int .u64 0, .int .i64 0] 244)).heap[S + 1]? = some (.cells tabC 257 (0, 0)) := ((Below.heap_alloc _ _ _ (by rw [setRow_size, s2]; omega))).trans hT1
  have hR2 : ((((w.alloc (.cells #[.int .u64 0, .int .i64 0, .int .u64 0, .int .i64 0] 244)).alloc (.cells z20 257)).setRow (S + 1) tabC).alloc (.cells #[.int .u64 0, .int .i64 0, .int .u64 0, .int .i64 0] 244)).heap[S]? = some (.cells #[.int .u64 0, .int .i64 0, .int .u64 0, .int .i64 0] 244 (0, 0)) := ((Below.heap_alloc _ _ _ (by rw [setRow_size, s2]; omega))).trans ((heap_setRow_ne _ _ _ _ (by omega)).trans ((Below.heap_alloc _ _ _ (by rw [s1]; omega)).trans hr0))
  have hB3 : Below w.heap.size w ((((w.alloc (.cells #[.int .u64 0, .int .i64 0, .int .u64 0, .int .i64 0] 244)).alloc (.cells z20 257)).setRow (S + 1) tabC).alloc (.cells #[.int .u64 0, .int .i64 0, .int .u64 0, .int .i64 0] 244)) := by rw [hS]; exact hB2
  have HF := Lib.hid (show FrL w ((((w.alloc (.cells #[.int .u64 0, .int .i64 0, .int .u64 0, .int .i64 0] 244)).alloc (.cells z20 257)).setRow (S + 1) tabC).alloc (.cells #[.int .u64 0, .int .i64 0, .int .u64 0, .int .i64 0] 244)) S a p g h m r ds s T 0 from ⟨s.c, 0, by decide, hT, hR2, hx0, H.below hB3, Only.of_below hB3 _, hS, hcl⟩)
  clear hr0 hx0 hB hB2 hB3 hT1 hR2 s1 s2 hcl H
  unfold pt at *
  go_enter Tryz.func101, Tryz.ntmps101
  go_wp2_with fail
  go_step3
  go_wp2_with (first | (refine wpList_store_row rfl 257 (.tmp 3) (.tmp 10) rfl (S + 1) tabC rfl rfl 257 z20 hA (by kernel_rfl) rfl HT.out ?_))
  unfold z20 at HF hT2
  generalize hW0 : ((((w.alloc (.cells #[.int .u64 0, .int .i64 0, .int .u64 0, .int .i64 0] 244)).alloc (.cells #[.int .u64 0, .int .i64 0, .int .u64 0, .int .i64 0, .int .u64 0, .int .i64 0, .int .u64 0, .int .i64 0, .int .u64 0, .int .i64 0, .int .u64 0, .int .i64 0, .int .u64 0, .int .i64 0, .int .u64 0, .int .i64 0, .int .u64 0, .int .i64 0, .int .u64 0, .int .i64 0] 257)).setRow (S + 1) tabC).alloc (.cells #[.int .u64 0, .int .i64 0, .int .u64 0, .int .i64 0] 244)) = W0 at HF hT2
  go_step3
  go_wp2_with (first | (refine wpList_load_row rfl 257 (.tmp 3) rfl (S + 1) rfl 257 tabC (0, 0) _ hT2 Tryz.underlying257 rfl (by kernel_rfl) ?_))
  clear hA hT2 HT hW0
  go_loopw [12] (fun i wr => ∃ j : Nat, j ≤ 5 ∧ i = .int .i64 j ∧ Hid (FrL w wr S a p g h m r ds s T j)) (fun i _ => 6 - (intOf i).toNat)
  case atStart => exact ⟨0, by omega, rfl, HF⟩
  case round =>
    obtain ⟨j, hj, rfl, HD⟩ := hrel
    have hj2 : j = 0 ∨ j = 1 ∨ j = 2 ∨ j = 3 ∨ j = 4 ∨ j = 5 := by omega
    rcases hj2 with rfl | rfl | rfl | rfl | rfl | rfl
    · have hI := HI.out wr
      obtain ⟨hi0, hi1, hi2, hi3, hi4⟩ := hI
      clear hi1 hi2 hi3 hi4
      obtain ⟨c, mv, hmv, hf, hD⟩ := HD.out
      have hx : wr.heap[S + 1 + 1]? = some (.cells #[.int .u64 0, .int .i64 0, .int .u64 0, .int .i64 0] 244 (0, 0)) := hD.x
      have hR := hD.row #[.int .u64 0, .int .i64 1, .int .u64 0, .int .i64 0]
      have hL := hR.x
      have HB := Lib.hid hR
      have CJ := Lib.hid (C.out 0 (by omega) c mv hmv hf _ hR.st)
      unfold pt at CJ
      clear hR hD hf hmv HD
      go_wp2_with (first | (refine wpList_store_row rfl 244 (.tmp 4) (.tmp 14) rfl (S + 1 + 1) #[.int .u64 0, .int .i64 1, .int .u64 0, .int .i64 0] rfl rfl 244 #[.int .u64 0, .int .i64 0, .int .u64 0, .int .i64 0] hx (by kernel_rfl) rfl (by kernel_rfl) ?_) | (refine wpList_load_row rfl 244 (.tmp 4) rfl (S + 1 + 1) rfl 244 #[.int .u64 0, .int .i64 1, .int .u64 0, .int .i64 0] (0, 0) _ hL Tryz.underlying244 rfl (by kernel_rfl) ?_))
      go_at_call 126
      refine CJ.out.mono ?_
      rintro e w2 ⟨found, c', mv', rfl, hm2, hyes, hno, hS2, hO2⟩
      have HB2 := HB.out.call hS2 hO2
      cases found with
      | true =>
        have HY := Lib.hid (hyes rfl)
        have hL2 := HB2.x
        have hr2 := HB2.r0
        have HE := Lib.hid (HB2.fin #[.int .u64 0, .int .i64 1, .int .u64 0, .int .i64 0])
        clear hyes hno hS2 hO2 hm2 HB2 hL CJ HB hx
        go_wp2_with (first | (refine wpList_load_row rfl 244 (.tmp 4) rfl (S + 1 + 1) rfl 244 #[.int .u64 0, .int .i64 1, .int .u64 0, .int .i64 0] (0, 0) _ hL2 Tryz.underlying244 rfl (by kernel_rfl) ?_) | (refine wpList_store_row rfl 244 (.tmp 2) (.tmp 19) rfl S #[.int .u64 0, .int .i64 1, .int .u64 0, .int .i64 0] rfl rfl 244 #[.int .u64 0, .int .i64 0, .int .u64 0, .int .i64 0] hr2 (by kernel_rfl) rfl (by kernel_rfl) ?_))
        rw [Exit.noGoto_ret]
        refine bodyPost_ret (v := .agg #[.int .u64 0, .int .i64 1, .int .u64 0, .int .i64 0]) ?_ ?_ ?_
        · exact results_cell_row (fn := Tryz.f101) (p := 2) (ty := 244) rfl _ _ S 244 #[.int .u64 0, .int .i64 1, .int .u64 0, .int .i64 0] (0, 0) _ rfl HE.out.1 Tryz.underlying244 rfl (by kernel_rfl)
        · rfl
        · exact ⟨by rw [HY.out]; rfl, by rw [HY.out]; exact ⟨_, _, HE.out.2.1⟩, HE.out.2.2⟩
      | false =>
        have HN := Lib.hid (show FrL w w2 S a p g h m r ds s T (0 + 1) from ⟨c', mv', hm2, hno rfl, HB2⟩)
        clear hyes hno hS2 hO2 hm2 HB2 hL CJ HB hx
        go_wp2_with fail
        exact ⟨⟨1, by omega, rfl, HN⟩, by simp [intOf]⟩
    · have hI := HI.out wr
      obtain ⟨hi0, hi1, hi2, hi3, hi4⟩ := hI
      clear hi0 hi2 hi3 hi4
      obtain ⟨c, mv, hmv, hf, hD⟩ := HD.out
      have hx : wr.heap[S + 1 + 1]? = some (.cells #[.int .u64 0, .int .i64 1, .int .u64 0, .int .i64 0] 244 (0, 0)) := hD.x
      have hR := hD.row #[.int .u64 2, .int .i64 2, .int .u64 63, .int .i64 7]
      have hL := hR.x
      have HB := Lib.hid hR
      have CJ := Lib.hid (C.out 1 (by omega) c mv hmv hf _ hR.st)
      unfold pt at CJ
      clear hR hD hf hmv HD
      go_wp2_with (first | (refine wpList_store_row rfl 244 (.tmp 4) (.tmp 14) rfl (S + 1 + 1) #[.int .u64 2, .int .i64 2, .int .u64 63, .int .i64 7] rfl rfl 244 #[.int .u64 0, .int .i64 1, .int .u64 0, .int .i64 0] hx (by kernel_rfl) rfl (by kernel_rfl) ?_) | (refine wpList_load_row rfl 244 (.tmp 4) rfl (S + 1 + 1) rfl 244 #[.int .u64 2, .int .i64 2, .int .u64 63, .int .i64 7] (0, 0) _ hL Tryz.underlying244 rfl (by kernel_rfl) ?_))
      go_at_call 126
      refine CJ.out.mono ?_
      rintro e w2 ⟨found, c', mv', rfl, hm2, hyes, hno, hS2, hO2⟩
      have HB2 := HB.out.call hS2 hO2
      cases found with
      | true =>
        have HY := Lib.hid (hyes rfl)
        have hL2 := HB2.x
        have hr2 := HB2.r0
        have HE := Lib.hid (HB2.fin #[.int .u64 2, .int .i64 2, .int .u64 63, .int .i64 7])
        clear hyes hno hS2 hO2 hm2 HB2 hL CJ HB hx
        go_wp2_with (first | (refine wpList_load_row rfl 244 (.tmp 4) rfl (S + 1 + 1) rfl 244 #[.int .u64 2, .int .i64 2, .int .u64 63, .int .i64 7] (0, 0) _ hL2 Tryz.underlying244 rfl (by kernel_rfl) ?_) | (refine wpList_store_row rfl 244 (.tmp 2) (.tmp 19) rfl S #[.int .u64 2, .int .i64 2, .int .u64 63, .int .i64 7] rfl rfl 244 #[.int .u64 0, .int .i64 0, .int .u64 0, .int .i64 0] hr2 (by kernel_rfl) rfl (by kernel_rfl) ?_))
        rw [Exit.noGoto_ret]
        refine bodyPost_ret (v := .agg #[.int .u64 2, .int .i64 2, .int .u64 63, .int .i64 7]) ?_ ?_ ?_
        · exact results_cell_row (fn := Tryz.f101) (p := 2) (ty := 244) rfl _ _ S 244 #[.int .u64 2, .int .i64 2, .int .u64 63, .int .i64 7] (0, 0) _ rfl HE.out.1 Tryz.underlying244 rfl (by kernel_rfl)
        · rfl
        · exact ⟨by rw [HY.out]; rfl, by rw [HY.out]; exact ⟨_, _, HE.out.2.1⟩, HE.out.2.2⟩
      | false =>
        have HN := Lib.hid (show FrL w w2 S a p g h m r ds s T (1 + 1) from ⟨c', mv', hm2, hno rfl, HB2⟩)
        clear hyes hno hS2 hO2 hm2 HB2 hL CJ HB hx
        go_wp2_with fail
        exact ⟨⟨2, by omega, rfl, HN⟩, by simp [intOf]⟩
    · have hI := HI.out wr
      obtain ⟨hi0, hi1, hi2, hi3, hi4⟩ := hI
      clear hi0 hi1 hi3 hi4
      obtain ⟨c, mv, hmv, hf, hD⟩ := HD.out
      have hx : wr.heap[S + 1 + 1]? = some (.cells #[.int .u64 2, .int .i64 2, .int .u64 63, .int .i64 7] 244 (0, 0)) := hD.x
      have hR := hD.row #[.int .u64 6, .int .i64 3, .int .u64 255, .int .i64 9]
      have hL := hR.x
      have HB := Lib.hid hR
      have CJ := Lib.hid (C.out 2 (by omega) c mv hmv hf _ hR.st)
      unfold pt at CJ
      clear hR hD hf hmv HD
      go_wp2_with (first | (refine wpList_store_row rfl 244 (.tmp 4) (.tmp 14) rfl (S + 1 + 1) #[.int .u64 6, .int .i64 3, .int .u64 255, .int .i64 9] rfl rfl 244 #[.int .u64 2, .int .i64 2, .int .u64 63, .int .i64 7] hx (by kernel_rfl) rfl (by kernel_rfl) ?_) | (refine wpList_load_row rfl 244 (.tmp 4) rfl (S + 1 + 1) rfl 244 #[.int .u64 6, .int .i64 3, .int .u64 255, .int .i64 9] (0, 0) _ hL Tryz.underlying244 rfl (by kernel_rfl) ?_))
      go_at_call 126
      refine CJ.out.mono ?_
      rintro e w2 ⟨found, c', mv', rfl, hm2, hyes, hno, hS2, hO2⟩
      have HB2 := HB.out.call hS2 hO2
      cases found with
      | true =>
        have HY := Lib.hid (hyes rfl)
        have hL2 := HB2.x
        have hr2 := HB2.r0
        have HE := Lib.hid (HB2.fin #[.int .u64 6, .int .i64 3, .int .u64 255, .int .i64 9])
        clear hyes hno hS2 hO2 hm2 HB2 hL CJ HB hx
        go_wp2_with (first | (refine wpList_load_row rfl 244 (.tmp 4) rfl (S + 1 + 1) rfl 244 #[.int .u64 6, .int .i64 3, .int .u64 255, .int .i64 9] (0, 0) _ hL2 Tryz.underlying244 rfl (by kernel_rfl) ?_) | (refine wpList_store_row rfl 244 (.tmp 2) (.tmp 19) rfl S #[.int .u64 6, .int .i64 3, .int .u64 255, .int .i64 9] rfl rfl 244 #[.int .u64 0, .int .i64 0, .int .u64 0, .int .i64 0] hr2 (by kernel_rfl) rfl (by kernel_rfl) ?_))
        rw [Exit.noGoto_ret]
        refine bodyPost_ret (v := .agg #[.int .u64 6, .int .i64 3, .int .u64 255, .int .i64 9]) ?_ ?_ ?_
        · exact results_cell_row (fn := Tryz.f101) (p := 2) (ty := 244) rfl _ _ S 244 #[.int .u64 6, .int .i64 3, .int .u64 255, .int .i64 9] (0, 0) _ rfl HE.out.1 Tryz.underlying244 rfl (by kernel_rfl)
        · rfl
        · exact ⟨by rw [HY.out]; rfl, by rw [HY.out]; exact ⟨_, _, HE.out.2.1⟩, HE.out.2.2⟩
      | false =>
        have HN := Lib.hid (show FrL w w2 S a p g h m r ds s T (2 + 1) from ⟨c', mv', hm2, hno rfl, HB2⟩)
        clear hyes hno hS2 hO2 hm2 HB2 hL CJ HB hx
        go_wp2_with fail
        exact ⟨⟨3, by omega, rfl, HN⟩, by simp [intOf]⟩
    · have hI := HI.out wr
      obtain ⟨hi0, hi1, hi2, hi3, hi4⟩ := hI
      clear hi0 hi1 hi2 hi4
      obtain ⟨c, mv, hmv, hf, hD⟩ := HD.out
      have hx : wr.heap[S + 1 + 1]? = some (.cells #[.int .u64 6, .int .i64 3, .int .u64 255, .int .i64 9] 244 (0, 0)) := hD.x
      have hR := hD.row #[.int .u64 14, .int .i64 4, .int .u64 2047, .int .i64 12]
      have hL := hR.x
      have HB := Lib.hid hR
      have CJ := Lib.hid (C.out 3 (by omega) c mv hmv hf _ hR.st)
      unfold pt at CJ
      clear hR hD hf hmv HD
      go_wp2_with (first | (refine wpList_store_row rfl 244 (.tmp 4) (.tmp 14) rfl (S + 1 + 1) #[.int .u64 14, .int .i64 4, .int .u64 2047, .int .i64 12] rfl rfl 244 #[.int .u64 6, .int .i64 3, .int .u64 255, .int .i64 9] hx (by kernel_rfl) rfl (by kernel_rfl) ?_) | (refine wpList_load_row rfl 244 (.tmp 4) rfl (S + 1 + 1) rfl 244 #[.int .u64 14, .int .i64 4, .int .u64 2047, .int .i64 12] (0, 0) _ hL Tryz.underlying244 rfl (by kernel_rfl) ?_))
      go_at_call 126
      refine CJ.out.mono ?_
      rintro e w2 ⟨found, c', mv', rfl, hm2, hyes, hno, hS2, hO2⟩
      have HB2 := HB.out.call hS2 hO2
      cases found with
      | true =>
        have HY := Lib.hid (hyes rfl)
        have hL2 := HB2.x
        have hr2 := HB2.r0
        have HE := Lib.hid (HB2.fin #[.int .u64 14, .int .i64 4, .int .u64 2047, .int .i64 12])
        clear hyes hno hS2 hO2 hm2 HB2 hL CJ HB hx
        go_wp2_with (first | (refine wpList_load_row rfl 244 (.tmp 4) rfl (S + 1 + 1) rfl 244 #[.int .u64 14, .int .i64 4, .int .u64 2047, .int .i64 12] (0, 0) _ hL2 Tryz.underlying244 rfl (by kernel_rfl) ?_) | (refine wpList_store_row rfl 244 (.tmp 2) (.tmp 19) rfl S #[.int .u64 14, .int .i64 4, .int .u64 2047, .int .i64 12] rfl rfl 244 #[.int .u64 0, .int .i64 0, .int .u64 0, .int .i64 0] hr2 (by kernel_rfl) rfl (by kernel_rfl) ?_))
        rw [Exit.noGoto_ret]
        refine bodyPost_ret (v := .agg #[.int .u64 14, .int .i64 4, .int .u64 2047, .int .i64 12]) ?_ ?_ ?_
        · exact results_cell_row (fn := Tryz.f101) (p := 2) (ty := 244) rfl _ _ S 244 #[.int .u64 14, .int .i64 4, .int .u64 2047, .int .i64 12] (0, 0) _ rfl HE.out.1 Tryz.underlying244 rfl (by kernel_rfl)
        · rfl
        · exact ⟨by rw [HY.out]; rfl, by rw [HY.out]; exact ⟨_, _, HE.out.2.1⟩, HE.out.2.2⟩
      | false =>
        have HN := Lib.hid (show FrL w w2 S a p g h m r ds s T (3 + 1) from ⟨c', mv', hm2, hno rfl, HB2⟩)
        clear hyes hno hS2 hO2 hm2 HB2 hL CJ HB hx
        go_wp2_with fail
        exact ⟨⟨4, by omega, rfl, HN⟩, by simp [intOf]⟩
    · have hI := HI.out wr
      obtain ⟨hi0, hi1, hi2, hi3, hi4⟩ := hI
      clear hi0 hi1 hi2 hi3
      obtain ⟨c, mv, hmv, hf, hD⟩ := HD.out
      have hx : wr.heap[S + 1 + 1]? = some (.cells #[.int .u64 14, .int .i64 4, .int .u64 2047, .int .i64 12] 244 (0, 0)) := hD.x
      have hR := hD.row #[.int .u64 15, .int .i64 4, .int .u64 0, .int .i64 64]
      have hL := hR.x
      have HB := Lib.hid hR
      have CJ := Lib.hid (C.out 4 (by omega) c mv hmv hf _ hR.st)
      unfold pt at CJ
      clear hR hD hf hmv HD
      go_wp2_with (first | (refine wpList_store_row rfl 244 (.tmp 4) (.tmp 14) rfl (S + 1 + 1) #[.int .u64 15, .int .i64 4, .int .u64 0, .int .i64 64] rfl rfl 244 #[.int .u64 14, .int .i64 4, .int .u64 2047, .int .i64 12] hx (by kernel_rfl) rfl (by kernel_rfl) ?_) | (refine wpList_load_row rfl 244 (.tmp 4) rfl (S + 1 + 1) rfl 244 #[.int .u64 15, .int .i64 4, .int .u64 0, .int .i64 64] (0, 0) _ hL Tryz.underlying244 rfl (by kernel_rfl) ?_))
      go_at_call 126
      refine CJ.out.mono ?_
      rintro e w2 ⟨found, c', mv', rfl, hm2, hyes, hno, hS2, hO2⟩
      have HB2 := HB.out.call hS2 hO2
      cases found with
      | true =>
        have HY := Lib.hid (hyes rfl)
        have hL2 := HB2.x
        have hr2 := HB2.r0
        have HE := Lib.hid (HB2.fin #[.int .u64 15, .int .i64 4, .int .u64 0, .int .i64 64])
        clear hyes hno hS2 hO2 hm2 HB2 hL CJ HB hx
        go_wp2_with (first | (refine wpList_load_row rfl 244 (.tmp 4) rfl (S + 1 + 1) rfl 244 #[.int .u64 15, .int .i64 4, .int .u64 0, .int .i64 64] (0, 0) _ hL2 Tryz.underlying244 rfl (by kernel_rfl) ?_) | (refine wpList_store_row rfl 244 (.tmp 2) (.tmp 19) rfl S #[.int .u64 15, .int .i64 4, .int .u64 0, .int .i64 64] rfl rfl 244 #[.int .u64 0, .int .i64 0, .int .u64 0, .int .i64 0] hr2 (by kernel_rfl) rfl (by kernel_rfl) ?_))
        rw [Exit.noGoto_ret]
        refine bodyPost_ret (v := .agg #[.int .u64 15, .int .i64 4, .int .u64 0, .int .i64 64]) ?_ ?_ ?_
        · exact results_cell_row (fn := Tryz.f101) (p := 2) (ty := 244) rfl _ _ S 244 #[.int .u64 15, .int .i64 4, .int .u64 0, .int .i64 64] (0, 0) _ rfl HE.out.1 Tryz.underlying244 rfl (by kernel_rfl)
        · rfl
        · exact ⟨by rw [HY.out]; rfl, by rw [HY.out]; exact ⟨_, _, HE.out.2.1⟩, HE.out.2.2⟩
      | false =>
        have HN := Lib.hid (show FrL w w2 S a p g h m r ds s T (4 + 1) from ⟨c', mv', hm2, hno rfl, HB2⟩)
        clear hyes hno hS2 hO2 hm2 HB2 hL CJ HB hx
        go_wp2_with fail
        exact ⟨⟨5, by omega, rfl, HN⟩, by simp [intOf]⟩
    · obtain ⟨c, mv, hmv, hf, hD⟩ := HD.out
      have HY := Lib.hid (show T = (4, c) from hf.symm)
      have hL2 : wr.heap[S + 1 + 1]? = some (.cells #[.int .u64 15, .int .i64 4, .int .u64 0, .int .i64 64] 244 (0, 0)) := hD.x
      have hr2 := hD.r0
      have HE := Lib.hid (hD.fin #[.int .u64 15, .int .i64 4, .int .u64 0, .int .i64 64])
      clear hD hf hmv HD
      go_wp2_with (first | (refine wpList_load_row rfl 244 (.tmp 4) rfl (S + 1 + 1) rfl 244 #[.int .u64 15, .int .i64 4, .int .u64 0, .int .i64 64] (0, 0) _ hL2 Tryz.underlying244 rfl (by kernel_rfl) ?_) | (refine wpList_store_row rfl 244 (.tmp 2) (.tmp 19) rfl S #[.int .u64 15, .int .i64 4, .int .u64 0, .int .i64 64] rfl rfl 244 #[.int .u64 0, .int .i64 0, .int .u64 0, .int .i64 0] hr2 (by kernel_rfl) rfl (by kernel_rfl) ?_))
      rw [Exit.noGoto_ret]
      refine bodyPost_ret (v := .agg #[.int .u64 15, .int .i64 4, .int .u64 0, .int .i64 64]) ?_ ?_ ?_
      · exact results_cell_row (fn := Tryz.f101) (p := 2) (ty := 244) rfl _ _ S 244 #[.int .u64 15, .int .i64 4, .int .u64 0, .int .i64 64] (0, 0) _ rfl HE.out.1 Tryz.underlying244 rfl (by kernel_rfl)
      · rfl
      · exact ⟨by rw [HY.out]; rfl, by rw [HY.out]; exact ⟨_, _, HE.out.2.1⟩, HE.out.2.2⟩
end Go.Proofs.YtdlifcpdlbmijaaGreatDoor
namespace Go.Proofs.YtdlifcpdlbmijaaGreatDoor
set_option linter.unusedVariables false
set_option linter.unusedSimpArgs false
open Go.RowKit Go.PlainAid Go.Shelf
open B2 (Only Bys Row cellsOf)
open Gm (St Smp)
theorem sub_wrd (X P : Nat) (hX : X < 18446744073709551616) (hP : P < 18446744073709551616) : IntKind.u64.wrap ((X : Int) - (P : Int)) = ((Gm.subW X P : Nat) : Int) := by
  unfold Gm.subW
  simp only [IntKind.wrap_u64]
  omega
set_option maxHeartbeats 16000000 in
set_option maxRecDepth 100000 in
theorem step_rdr (a p g : Nat) (ds : List Nat) (s : Gm.Rd) (hbd : ds.length ≤ 1000000000) (w : World) (H : Rdr w a p g ds s) :
    Calls Tryz.prog 120 #[pt a] w (RdrPost w a p g ds (.int .u64 (((Gm.stepR s.c).1 : Nat) : Int)) { s with c := (Gm.stepR s.c).2 }) := by
  have hl := H.lt
  obtain ⟨T, hT⟩ : ∃ T, Gm.findR 5 0 0 0 s.c = T := ⟨_, rfl⟩
  have eS : Gm.stepR s.c = (Gm.subW (Gm.rb (Gm.sz T.1) T.2).1 (Gm.pl T.1), (Gm.rb (Gm.sz T.1) T.2).2) := by unfold Gm.stepR; rw [hT]
  rw [eS]
  obtain ⟨n, hn⟩ : ∃ n, w.heap.size = n := ⟨_, rfl⟩
  rw [hn] at hl
  have A1 := (Below.refl w.heap.size w).alloc (Nat.le_refl _) (.cells #[pt a] 254)
  have r1 := heap_alloc_new w (.cells #[pt a] 254)
  rw [hn] at r1
  have z1 : (w.alloc (.cells #[pt a] 254)).heap.size = n + 1 := by simp [hn]
  have A2 := A1.alloc (by simp) (.cells #[.int .u64 0] 76)
  have r2 := heap_alloc_new (w.alloc (.cells #[pt a] 254)) (.cells #[.int .u64 0] 76)
  rw [z1] at r2
  have z2 : ((w.alloc (.cells #[pt a] 254)).alloc (.cells #[.int .u64 0] 76)).heap.size = n + 1 + 1 := by simp [hn]
  have A3 := A2.alloc (by rw [z2, hn]; omega) (.cells #[.int .i64 0] 3)
  have r3 := heap_alloc_new ((w.alloc (.cells #[pt a] 254)).alloc (.cells #[.int .u64 0] 76)) (.cells #[.int .i64 0] 3)
  rw [z2] at r3
  have HST := show Stp (((w.alloc (.cells #[pt a] 254)).alloc (.cells #[.int .u64 0] 76)).alloc (.cells #[.int .i64 0] 3)) a p g (n + 1 + 1) (n + 1) n ds s 0 0 from
    ⟨H.below A3, r3, (Below.heap_alloc _ _ _ (by rw [z2]; omega)).trans r2, (Below.heap_alloc _ _ _ (by rw [z2]; omega)).trans ((Below.heap_alloc _ _ _ (by rw [z1]; omega)).trans r1), by omega, by omega, by omega⟩
  have CF := find_any a p g (n + 1 + 1) (n + 1) n ds s hbd _ HST
  rw [hT] at CF
  have CF := Lib.hid CF
  have HA := Lib.hid (And.intro A3 hl)
  have HMS := Lib.hid (mk_small T.1)
  obtain ⟨k, hk⟩ : ∃ k, T.1 = k := ⟨_, rfl⟩
  obtain ⟨c2, hc2⟩ : ∃ c2, T.2 = c2 := ⟨_, rfl⟩
  unfold FindPost at CF
  rw [hk] at HMS
  rw [hk, hc2] at CF ⊢
  obtain ⟨Z, hZ⟩ : ∃ Z, Gm.sz k = Z := ⟨_, rfl⟩
  obtain ⟨PL, hPL⟩ : ∃ PL, Gm.pl k = PL := ⟨_, rfl⟩
  unfold bkV at CF
  rw [hZ, hPL] at CF ⊢
  rw [hZ] at HMS
  have hPl : PL < 18446744073709551616 := by rw [← hPL]; unfold Gm.pl; split <;> decide
  obtain ⟨X, hX⟩ : ∃ X, (Gm.rb Z c2).1 = X := ⟨_, rfl⟩
  have hXl : X < 18446744073709551616 := by rw [← hX]; exact Nat.lt_of_lt_of_le (rb_lt _ _ HMS.out.2) (Nat.pow_le_pow_right (by decide) HMS.out.2)
  obtain ⟨s4, hs4⟩ : ∃ s4 : Gm.Rd, { s with c := (Gm.rb Z c2).2 } = s4 := ⟨_, rfl⟩
  have CB := Lib.hid (fun W (h : Rdr W a p g ds { s with c := c2 }) => bits_rdr a p g Z ds { s with c := c2 } HMS.out.2 hbd W h)
  simp only at CB
  rw [hX, hs4] at CB
  rw [hX, hs4]
  have hsub := sub_wrd X PL hXl hPl
  have hmf : ∀ (fn : Fn) (first cap : Array Value) (w : World), (Instr.makeFunc fn first cap).run Tryz.prog w = .ok (.func fn first cap) w := fun _ _ _ _ => rfl
  clear A1 A2 A3 r1 r2 r3 z1 z2 HST hl H eS hT hk hc2 hZ hPL hX hs4
  unfold pt at *
  go_enter Tryz.func120, Tryz.ntmps120
  go_wp2_with fail
  refine CF.out.mono ?_
  rintro e w2 ⟨rfl, ⟨hv, mv, hS2⟩, hO2⟩
  have hA4 := (Below.refl w2.heap.size w2).alloc (Nat.le_refl _) (.cells #[.int .u64 ((Gm.mk k : Nat) : Int), .int .i64 ((Gm.ms k : Nat) : Int), .int .u64 ((PL : Nat) : Int), .int .i64 ((Z : Nat) : Int)] 244)
  have r4 := heap_alloc_new w2 (.cells #[.int .u64 ((Gm.mk k : Nat) : Int), .int .i64 ((Gm.ms k : Nat) : Int), .int .u64 ((PL : Nat) : Int), .int .i64 ((Z : Nat) : Int)] 244)
  have q2 : (w2.alloc (.cells #[.int .u64 ((Gm.mk k : Nat) : Int), .int .i64 ((Gm.ms k : Nat) : Int), .int .u64 ((PL : Nat) : Int), .int .i64 ((Z : Nat) : Int)] 244)).cell? ⟨w2.heap.size, 2, none⟩ = some (.int .u64 ((PL : Nat) : Int)) := (cell_of_row _ _ 2 _ _ _ r4).trans rfl
  have q3 : (w2.alloc (.cells #[.int .u64 ((Gm.mk k : Nat) : Int), .int .i64 ((Gm.ms k : Nat) : Int), .int .u64 ((PL : Nat) : Int), .int .i64 ((Z : Nat) : Int)] 244)).cell? ⟨w2.heap.size, 3, none⟩ = some (.int .i64 ((Z : Nat) : Int)) := (cell_of_row _ _ 3 _ _ _ r4).trans rfl
  have hS4 := hS2.below hA4
  have q5 : (w2.alloc (.cells #[.int .u64 ((Gm.mk k : Nat) : Int), .int .i64 ((Gm.ms k : Nat) : Int), .int .u64 ((PL : Nat) : Int), .int .i64 ((Z : Nat) : Int)] 244)).cell? ⟨n, 0, none⟩ = some (pt a) := (cell_of_row _ _ 0 _ _ _ hS4.kr).trans rfl
  have hO4 : Only [a, p] w (w2.alloc (.cells #[.int .u64 ((Gm.mk k : Nat) : Int), .int .i64 ((Gm.ms k : Nat) : Int), .int .u64 ((PL : Nat) : Int), .int .i64 ((Z : Nat) : Int)] 244)) := ((Only.of_below HA.out.1 [a, p]).trans hO2 (fun x hx => by simp at hx ⊢; omega)).alloc _
  have hB : w2.heap.size ≠ a ∧ w2.heap.size ≠ p := by have := hS2.lt; omega
  have HD := Lib.hid (show Rdr (w2.alloc (.cells #[.int .u64 ((Gm.mk k : Nat) : Int), .int .i64 ((Gm.ms k : Nat) : Int), .int .u64 ((PL : Nat) : Int), .int .i64 ((Z : Nat) : Int)] 244)).drew a p g ds { s with c := c2 } from hS4.rd.below (drew_below _))
  have HO := Lib.hid (show Only [a, p] w (w2.alloc (.cells #[.int .u64 ((Gm.mk k : Nat) : Int), .int .i64 ((Gm.ms k : Nat) : Int), .int .u64 ((PL : Nat) : Int), .int .i64 ((Z : Nat) : Int)] 244)).drew from hO4.drew)
  have q2 := cell_below q2 (drew_below _)
  have q3 := cell_below q3 (drew_below _)
  have q5 := cell_below q5 (drew_below _)
  clear hA4 r4 hS4 hO4 hS2 hO2 CF hmf hn HA
  generalize hW : w2.alloc (.cells #[.int .u64 ((Gm.mk k : Nat) : Int), .int .i64 ((Gm.ms k : Nat) : Int), .int .u64 ((PL : Nat) : Int), .int .i64 ((Z : Nat) : Int)] 244) = W at *
  unfold pt at *
  go_wp2_with fail
  clear hW
  generalize w2.heap.size = B at *
  go_region_with (first
    | (go_at_call 121; refine (CB.out _ HD.out).mono ?_; rintro e w9 ⟨rfl, hR9, hO9⟩; have hF9 := Lib.hid (And.intro hR9 (HO.out.trans hO9 (fun _ hx => .inl hx))); have q29 := Only_cell hO9 q2 (by have := hB; simp; omega); clear hR9 hO9))
  all_goals
    go_wp2_with fail
    go_ret
    exact ⟨by rw [← hsub]; rfl, hF9.out.1, hF9.out.2⟩
end Go.Proofs.YtdlifcpdlbmijaaGreatDoor
namespace Go.Proofs.YtdlifcpdlbmijaaGreatDoor
set_option linter.unusedVariables false
set_option linter.unusedSimpArgs false
open Go.RowKit Go.PlainAid Go.Shelf
open B2 (Only Bys Row cellsOf)
open Gm (St Smp)
/-- behind a whole number that is read of the bits -/
def VarPost (w : World) (a p g : Nat) (ds : List Nat) (s : Gm.Rd) (v : Value) (e : Ending) (w' : World) : Prop :=
  ∃ x : Nat, e = .returned (.tuple #[v, .int .u16 ((x : Nat) : Int)]) ∧ Rdr w' a p g ds { s with c := ((Gm.rvar s.c).2.1, s.c.2) } ∧ (s.c.2 || decide (x ≠ 0)) = (Gm.rvar s.c).2.2 ∧ Only [a, p] w w'
theorem varint_rdr (a p g : Nat) (ds : List Nat) (s : Gm.Rd) (hbd : ds.length ≤ 1000000000) (w : World) (H : Rdr w a p g ds s) :
    Calls Tryz.prog 119 #[pt p] w (VarPost w a p g ds s (.int .u64 (((Gm.rvar s.c).1 : Nat) : Int))) := by
  obtain ⟨at_, h1, h2⟩ := H.bits
  have hL := H.lt
  have hN := H.ne
  obtain ⟨n, last, gap, ws, we, S, q⟩ := s
  simp only at h2
  subst h2
  refine (B2.rvarint_any p g ds at_ w h1 hbd).mono ?_
  rintro e w1 ⟨rfl, hR, hO⟩
  exact ⟨_, rfl, ⟨(hO.block a hL.1 (by simp; omega)).trans H.row, ⟨_, hR, by show List.drop _ _ = _; rw [List.drop_drop]⟩, hN⟩, rfl, hO.mono (fun x hx => by simp at hx ⊢; exact .inr hx)⟩
theorem signed_rdr (a p g : Nat) (ds : List Nat) (s : Gm.Rd) (hbd : ds.length ≤ 1000000000) (w : World) (H : Rdr w a p g ds s) :
    Calls Tryz.prog 117 #[pt p] w (VarPost w a p g ds s (.int .i64 (B2.Bt.uz (Gm.rvar s.c).1))) := by
  obtain ⟨at_, h1, h2⟩ := H.bits
  have hL := H.lt
  have hN := H.ne
  obtain ⟨n, last, gap, ws, we, S, q⟩ := s
  simp only at h2
  subst h2
  refine (B2.rsigned_any p g ds at_ w h1 hbd).mono ?_
  rintro e w1 ⟨rfl, hR, hO⟩
  exact ⟨_, rfl, ⟨(hO.block a hL.1 (by simp; omega)).trans H.row, ⟨_, hR, by show List.drop _ _ = _; rw [List.drop_drop]⟩, hN⟩, rfl, hO.mono (fun x hx => by simp at hx ⊢; exact .inr hx)⟩
theorem wI_is (x : Int) : IntKind.i64.wrap x = Gm.wI x := by rw [i64_is]; unfold RowKit.wrap64 Gm.wI; rfl
theorem u64_add (a b : Nat) : IntKind.u64.wrap ((a : Int) + (b : Int)) = (((a + b) % 18446744073709551616 : Nat) : Int) := by rw [IntKind.wrap_u64]; omega
set_option maxHeartbeats 8000000 in
set_option maxRecDepth 100000 in
theorem time_first (a p g : Nat) (ds : List Nat) (s : Gm.Rd) (hbd : ds.length ≤ 1000000000) (h0 : s.n = 0) (w : World) (H : Rdr w a p g ds s) :
    Calls Tryz.prog 111 #[pt a] w (RdrPost w a p g ds (.int .i64 (Gm.rdTime s).1) { s with c := (Gm.rdTime s).2 }) := by
  have c0 : w.cell? ⟨a, 0, none⟩ = some (.int .i64 ((s.n : Nat) : Int)) := (cell_of_row _ _ 0 _ _ _ H.row).trans rfl
  have c6 : w.cell? ⟨a, 6, none⟩ = some (pt p) := (cell_of_row _ _ 6 _ _ _ H.row).trans rfl
  have e : Gm.rdTime s = (B2.Bt.uz (Gm.rvar s.c).1, (Gm.rvar s.c).2) := by unfold Gm.rdTime; rw [if_pos h0]
  rw [e]
  have C := Lib.hid (signed_rdr a p g ds s hbd w H)
  unfold VarPost at C
  have CN := Lib.hid (fun x W (h : Rdr W a p g ds { s with c := ((Gm.rvar s.c).2.1, s.c.2) }) => note_rdr a p g x ds _ W h)
  simp only at CN
  obtain ⟨V, hV⟩ : ∃ V, B2.Bt.uz (Gm.rvar s.c).1 = V := ⟨_, rfl⟩
  obtain ⟨Y, hY⟩ : ∃ Y, (Gm.rvar s.c).2 = Y := ⟨_, rfl⟩
  rw [hV, hY] at C
  rw [hY] at CN
  rw [hV, hY]
  rw [h0] at c0
  simp only [Int.cast_ofNat_Int] at c0
  clear e H h0 hV hY
  unfold pt at *
  go_enter Tryz.func111, Tryz.ntmps111
  go_wp2_with fail
  go_at_call 117
  refine C.out.mono ?_
  rintro e w1 ⟨x, rfl, hR, hx, hO⟩
  have CX := Lib.hid (CN.out x w1 hR)
  have HX := Lib.hid (And.intro hx hO)
  clear hR hx hO C CN
  go_wp2_with fail
  go_at_call 118
  refine CX.out.mono ?_
  rintro e w2 ⟨rfl, hR, hO⟩
  have HY := Lib.hid (And.intro hR (HX.out.2.trans hO (fun _ hx => .inl hx)))
  clear hR hO CX
  go_wp2_with fail
  go_ret
  refine ⟨rfl, ?_, HY.out.2⟩
  have h := HY.out.1
  rw [HX.out.1] at h
  exact h
set_option maxHeartbeats 8000000 in
set_option maxRecDepth 100000 in
theorem time_second (a p g : Nat) (ds : List Nat) (s : Gm.Rd) (hbd : ds.length ≤ 1000000000) (h0 : s.n = 1) (w : World) (H : Rdr w a p g ds s) :
    Calls Tryz.prog 111 #[pt a] w (RdrPost w a p g ds (.int .i64 (Gm.rdTime s).1) { s with c := (Gm.rdTime s).2 }) := by
  have c0 : w.cell? ⟨a, 0, none⟩ = some (.int .i64 ((s.n : Nat) : Int)) := (cell_of_row _ _ 0 _ _ _ H.row).trans rfl
  have c6 : w.cell? ⟨a, 6, none⟩ = some (pt p) := (cell_of_row _ _ 6 _ _ _ H.row).trans rfl
  have e : Gm.rdTime s = (Gm.wI (s.last.t + Gm.i64 (Gm.rvar s.c).1), (Gm.rvar s.c).2) := by unfold Gm.rdTime; rw [if_neg (by omega), if_pos h0]
  rw [e]
  have hVl : (Gm.rvar s.c).1 < 18446744073709551616 := B2.Bt.rv_lt _
  have C := Lib.hid (varint_rdr a p g ds s hbd w H)
  unfold VarPost at C
  have CN := Lib.hid (fun x W (h : Rdr W a p g ds { s with c := ((Gm.rvar s.c).2.1, s.c.2) }) => note_rdr a p g x ds _ W h)
  simp only at CN
  obtain ⟨V, hV⟩ : ∃ V, (Gm.rvar s.c).1 = V := ⟨_, rfl⟩
  obtain ⟨Y, hY⟩ : ∃ Y, (Gm.rvar s.c).2 = Y := ⟨_, rfl⟩
  rw [hV] at hVl
  rw [hV, hY] at C
  rw [hY] at CN
  rw [hV, hY]
  rw [h0] at c0
  obtain ⟨t, ht⟩ : ∃ t, s.last.t = t := ⟨_, rfl⟩
  rw [ht]
  have hw : IntKind.i64.wrap (t + IntKind.i64.wrap (V : Int)) = Gm.wI (t + Gm.i64 V) := by rw [i64_of V hVl, wI_is]
  have hw : RowKit.wrap64 (t + RowKit.wrap64 (V : Int)) = Gm.wI (t + Gm.i64 V) := by simpa only [i64_is] using hw
  obtain ⟨R, hR⟩ : ∃ R, Gm.wI (t + Gm.i64 V) = R := ⟨_, rfl⟩
  rw [hR] at hw ⊢
  have HW := Lib.hid hw
  simp only [Int.cast_ofNat_Int] at c0
  clear e H h0 hV hY hR hw
  unfold pt at *
  go_enter Tryz.func111, Tryz.ntmps111
  go_wp2_with fail
  go_at_call 119
  refine C.out.mono ?_
  rintro e w1 ⟨x, rfl, hR, hx, hO⟩
  have CX := Lib.hid (CN.out x w1 hR)
  have HX := Lib.hid (And.intro hx hO)
  clear hR hx hO C CN
  go_wp2_with fail
  go_at_call 118
  refine CX.out.mono ?_
  rintro e w2 ⟨rfl, hR, hO⟩
  have c1 : w2.cell? ⟨a, 1, none⟩ = some (.int .i64 t) := by
    rw [← ht]
    exact (cell_of_row _ _ 1 _ _ _ hR.row).trans rfl
  have HY := Lib.hid (And.intro hR (HX.out.2.trans hO (fun _ hx => .inl hx)))
  clear hR hO CX
  go_wp2_with fail
  go_ret
  refine ⟨?_, ?_, HY.out.2⟩
  · rw [← HW.out]; first | done | rfl
  · have h := HY.out.1
    rw [HX.out.1] at h
    exact h
set_option maxHeartbeats 8000000 in
set_option maxRecDepth 100000 in
theorem time_later (a p g : Nat) (ds : List Nat) (s : Gm.Rd) (hbd : ds.length ≤ 1000000000) (h0 : 2 ≤ s.n) (w : World) (H : Rdr w a p g ds s) :
    Calls Tryz.prog 111 #[pt a] w (RdrPost w a p g ds (.int .i64 (Gm.rdTime s).1) { s with c := (Gm.rdTime s).2 }) := by
  have c0 : w.cell? ⟨a, 0, none⟩ = some (.int .i64 ((s.n : Nat) : Int)) := (cell_of_row _ _ 0 _ _ _ H.row).trans rfl
  have e : Gm.rdTime s = (Gm.wI (s.last.t + Gm.i64 ((s.gap + (Gm.stepR s.c).1) % 18446744073709551616)), (Gm.stepR s.c).2) := by unfold Gm.rdTime; rw [if_neg (by omega), if_neg (by omega)]
  rw [e]
  have hn1 : ((s.n : Int) == 0) = false := by simp; omega
  have hn2 : ((s.n : Int) == 1) = false := by simp; omega
  have hn3 : ¬ (s.n : Int) = 0 := by omega
  have hn4 : ¬ (s.n : Int) = 1 := by omega
  have C := Lib.hid (fun W (h : Rdr W a p g ds s) => step_rdr a p g ds s hbd W h)
  obtain ⟨V, hV⟩ : ∃ V, (Gm.stepR s.c).1 = V := ⟨_, rfl⟩
  obtain ⟨s4, hs4⟩ : ∃ s4 : Gm.Rd, { s with c := (Gm.stepR s.c).2 } = s4 := ⟨_, rfl⟩
  have e1 : s4.last.t = s.last.t ∧ s4.gap = s.gap := by rw [← hs4]; exact ⟨rfl, rfl⟩
  rw [hV, hs4] at C
  simp only
  rw [hV, hs4]
  obtain ⟨t, ht⟩ : ∃ t, s.last.t = t := ⟨_, rfl⟩
  obtain ⟨G, hG⟩ : ∃ G, s.gap = G := ⟨_, rfl⟩
  rw [ht, hG] at e1 ⊢
  have hw : IntKind.i64.wrap (t + IntKind.i64.wrap (IntKind.u64.wrap ((G : Int) + (V : Int)))) = Gm.wI (t + Gm.i64 ((G + V) % 18446744073709551616)) := by rw [u64_add, i64_of _ (Nat.mod_lt _ (by decide)), wI_is]
  obtain ⟨R, hR⟩ : ∃ R, Gm.wI (t + Gm.i64 ((G + V) % 18446744073709551616)) = R := ⟨_, rfl⟩
  rw [hR] at hw ⊢
  have HW := Lib.hid hw
  have HD := Lib.hid (show Rdr w.drew a p g ds s from H.below (drew_below w))
  have q1 : w.drew.cell? ⟨a, 1, none⟩ = some (.int .i64 t) := by
    rw [← ht]
    exact (cell_of_row _ _ 1 _ _ _ HD.out.row).trans rfl
  have q3 : w.drew.cell? ⟨a, 3, none⟩ = some (.int .u64 ((G : Nat) : Int)) := by
    rw [← hG]
    exact (cell_of_row _ _ 3 _ _ _ HD.out.row).trans rfl
  have HO := Lib.hid (show Only [a, p] w w.drew from (Only.refl _ _).drew)
  have HE := Lib.hid e1
  clear e H h0 hV hs4 hR hw e1
  unfold pt at *
  go_enter Tryz.func111, Tryz.ntmps111
  go_wp2_with fail
  go_region_with (first
    | (go_at_call 120; refine (C.out _ HD.out).mono ?_; rintro e w9 ⟨rfl, hR9, hO9⟩; have q19 : w9.cell? ⟨a, 1, none⟩ = some (.int .i64 t) := (by rw [← HE.out.1]; exact (cell_of_row _ _ 1 _ _ _ hR9.row).trans rfl); have q39 : w9.cell? ⟨a, 3, none⟩ = some (.int .u64 ((G : Nat) : Int)) := (by rw [← HE.out.2]; exact (cell_of_row _ _ 3 _ _ _ hR9.row).trans rfl); have hF9 := Lib.hid (And.intro hR9 (HO.out.trans hO9 (fun _ hx => .inl hx))); clear hR9 hO9))
  all_goals
    go_wp2_with fail
    go_ret
    exact ⟨by rw [← HW.out]; rfl, hF9.out.1, hF9.out.2⟩
theorem time_rdr (a p g : Nat) (ds : List Nat) (s : Gm.Rd) (hbd : ds.length ≤ 1000000000) (w : World) (H : Rdr w a p g ds s) :
    Calls Tryz.prog 111 #[pt a] w (RdrPost w a p g ds (.int .i64 (Gm.rdTime s).1) { s with c := (Gm.rdTime s).2 }) := by
  by_cases h0 : s.n = 0
  · exact time_first a p g ds s hbd h0 w H
  · by_cases h1 : s.n = 1
    · exact time_second a p g ds s hbd h1 w H
    · exact time_later a p g ds s hbd (by omega) w H
end Go.Proofs.YtdlifcpdlbmijaaGreatDoor
namespace Go.Proofs.YtdlifcpdlbmijaaGreatDoor
set_option linter.unusedVariables false
set_option linter.unusedSimpArgs false
open Go.RowKit Go.PlainAid Go.Shelf
open B2 (Only Bys Row cellsOf)
open Gm (St Smp)
/-- what a reader may be -/
structure RdI (s : Gm.Rd) : Prop where
  win : s.ws ≤ s.we ∧ s.we ≤ 64
  v : s.last.v < 18446744073709551616
  t : -9223372036854775808 ≤ s.last.t ∧ s.last.t ≤ 9223372036854775807
theorem rdTime_bd (s : Gm.Rd) : -9223372036854775808 ≤ (Gm.rdTime s).1 ∧ (Gm.rdTime s).1 ≤ 9223372036854775807 := by
  unfold Gm.rdTime
  split
  · have h : (Gm.rvar s.c).1 < 18446744073709551616 := B2.Bt.rv_lt _
    simp only
    unfold B2.Bt.uz
    split <;> omega
  · split <;> (simp only; unfold Gm.wI; omega)
theorem xor_bd (a b : Nat) (h : a < 18446744073709551616) : (a ^^^ (b % 18446744073709551616)) < 18446744073709551616 := Nat.xor_lt_two_pow (n := 64) h (Nat.mod_lt _ (by decide))
theorem rdNum_bd (s : Gm.Rd) (c : Gm.Cx) (h : RdI s) : (Gm.rdNum s c).1 < 18446744073709551616 ∧ (Gm.rdNum s c).2.1 ≤ (Gm.rdNum s c).2.2.1 ∧ (Gm.rdNum s c).2.2.1 ≤ 64 := by
  unfold Gm.rdNum
  by_cases h0 : s.n = 0
  · rw [if_pos h0]
    exact ⟨rb_lt 64 c (by decide), h.win⟩
  · rw [if_neg h0]
    simp only
    generalize Gm.rb 1 c = r
    by_cases h1 : r.1 = 0
    · rw [if_pos h1]
      exact ⟨h.v, h.win⟩
    · rw [if_neg h1]
      generalize Gm.rb 1 r.2 = u
      have hW : ((if u.1 = 1 then Gm.rdWin s.ws s.we u.2 else (s.ws, s.we, u.2)).1 ≤ (if u.1 = 1 then Gm.rdWin s.ws s.we u.2 else (s.ws, s.we, u.2)).2.1) ∧ (if u.1 = 1 then Gm.rdWin s.ws s.we u.2 else (s.ws, s.we, u.2)).2.1 ≤ 64 := by
        by_cases hu : u.1 = 1
        · rw [if_pos hu]; exact rdWin_win _ _ _ h.win
        · rw [if_neg hu]; exact h.win
      generalize (if u.1 = 1 then Gm.rdWin s.ws s.we u.2 else (s.ws, s.we, u.2)) = W at *
      exact ⟨xor_bd _ _ h.v, hW⟩
theorem rdNext_I (s : Gm.Rd) (h : RdI s) : RdI (Gm.rdNext s).2 :=
  ⟨(rdNum_bd s _ h).2, (rdNum_bd s _ h).1, rdTime_bd s⟩
theorem number_rdr (a p g : Nat) (ds : List Nat) (s : Gm.Rd) (hbd : ds.length ≤ 1000000000) (hI : RdI s) (w : World) (H : Rdr w a p g ds s) :
    Calls Tryz.prog 112 #[pt a] w (RdrPost w a p g ds (.int .u64 (((Gm.rdNum s s.c).1 : Nat) : Int)) { s with ws := (Gm.rdNum s s.c).2.1, we := (Gm.rdNum s s.c).2.2.1, c := (Gm.rdNum s s.c).2.2.2 }) := by
  by_cases h0 : s.n = 0
  · exact number_first a p g ds s hbd h0 w H
  · have h := rb_lt 1 s.c (by decide)
    by_cases h1 : (Gm.rb 1 s.c).1 = 0
    · exact number_same a p g ds s hbd h0 h1 w H
    · exact number_more a p g ds s hbd hI.win hI.v h0 (by omega) w H
/-- the sample turned -/
theorem Rdr.push {w w' : World} {a p g : Nat} {ds : List Nat} {s : Gm.Rd} (h : Rdr w a p g ds s) (x : Smp) (G : Nat) (hr : w'.heap[a]? = some (.cells (rowP (s.n + 1) x.t x.v G (.int .i64 ((s.ws : Nat) : Int)) (.int .i64 ((s.we : Nat) : Int)) (pt p) (.bool s.c.2)) 156 (0, 0))) (ho : Only [a] w w') : Rdr w' a p g ds ⟨s.n + 1, x, G, s.ws, s.we, s.c⟩ := by
  obtain ⟨at_, k1, k2⟩ := h.bits
  have hn := h.ne
  exact ⟨hr, ⟨at_, k1.only ho (by simp; omega) (by simp; omega), k2⟩, h.ne⟩
set_option maxHeartbeats 8000000 in
set_option maxRecDepth 100000 in
theorem next_rdr (a p g : Nat) (ds : List Nat) (s : Gm.Rd) (hbd : ds.length ≤ 1000000000) (hI : RdI s) (hN : s.n ≤ 9223372036854775806) (w : World) (H : Rdr w a p g ds s) :
    Calls Tryz.prog 86 #[pt a] w (RdrPost w a p g ds (smV (Gm.rdNext s).1) (Gm.rdNext s).2) := by
  have hl := H.lt
  obtain ⟨n, hn⟩ : ∃ n, w.heap.size = n := ⟨_, rfl⟩
  rw [hn] at hl
  have hA := (Below.refl w.heap.size w).alloc (Nat.le_refl _) (.cells #[.int .i64 0, .int .u64 0] 79)
  have hr0 := heap_alloc_new w (.cells #[.int .i64 0, .int .u64 0] 79)
  rw [hn] at hr0
  have C1 := Lib.hid (time_rdr a p g ds s hbd _ (H.below hA))
  have hs1 : ∃ s1 : Gm.Rd, { s with c := (Gm.rdTime s).2 } = s1 := ⟨_, rfl⟩
  obtain ⟨s1, hs1⟩ := hs1
  have hI1 : RdI s1 := by rw [← hs1]; exact ⟨hI.win, hI.v, hI.t⟩
  have e1 : Gm.rdNum s1 s1.c = Gm.rdNum s (Gm.rdTime s).2 := by rw [← hs1]; rfl
  have C2 := Lib.hid (fun W (h : Rdr W a p g ds s1) => number_rdr a p g ds s1 hbd hI1 W h)
  have hbt := rdTime_bd s
  have hbn := rdNum_bd s (Gm.rdTime s).2 hI
  rw [e1] at C2
  rw [hs1] at C1
  obtain ⟨t, ht⟩ : ∃ t, (Gm.rdTime s).1 = t := ⟨_, rfl⟩
  obtain ⟨v, hv⟩ : ∃ v, (Gm.rdNum s (Gm.rdTime s).2).1 = v := ⟨_, rfl⟩
  obtain ⟨s2, hs2⟩ : ∃ s2 : Gm.Rd, { s1 with ws := (Gm.rdNum s (Gm.rdTime s).2).2.1, we := (Gm.rdNum s (Gm.rdTime s).2).2.2.1, c := (Gm.rdNum s (Gm.rdTime s).2).2.2.2 } = s2 := ⟨_, rfl⟩
  rw [hv, hs2] at C2
  rw [ht] at C1 hbt
  rw [hv] at hbn
  have eN : Gm.rdNext s = (⟨t, v⟩, ⟨s2.n + 1, ⟨t, v⟩, Gm.gapOf t s2.last.t, s2.ws, s2.we, s2.c⟩) := by
    unfold Gm.rdNext
    simp only
    rw [ht, hv, ← hs2, ← hs1]
  have e2 : s2.n = s.n ∧ s2.last = s.last := by rw [← hs2, ← hs1]; exact ⟨rfl, rfl⟩
  rw [eN]
  have CP := Lib.hid (fun W (h : Rdr W a p g ds s2) => push_any a s2.n s2.last.v s2.gap v s2.last.t t (by rw [e2.2]; exact hI.t) hbt (by omega) 156 (.int .i64 ((s2.ws : Nat) : Int)) (.int .i64 ((s2.we : Nat) : Int)) (pt p) (.bool s2.c.2) W h.row)
  have HA := Lib.hid (And.intro hA hl)
  have HR0 := Lib.hid hr0
  clear hA hr0 H hs1 hI1 e1 hbt hbn ht hv hs2 eN e2 hI hN
  simp only [smV]
  unfold pt at *
  go_enter Tryz.func86, Tryz.ntmps86
  go_wp2_with fail
  go_at_call 111
  refine C1.out.mono ?_
  rintro e w1 ⟨rfl, hR1, hO1⟩
  have C2 := Lib.hid (C2.out w1 hR1)
  have HS1 := Lib.hid (show w1.heap[n]? = some (.cells #[.int .i64 0, .int .u64 0] 79 (0, 0)) from (hO1.block n (Array.getElem?_eq_some_iff.1 HR0.out).1 (by have := HA.out.2; simp; omega)).trans HR0.out)
  have HO1 := Lib.hid (show Only [a, p] w w1 from (Only.of_below HA.out.1 [a, p]).trans hO1 (fun _ hx => .inl hx))
  clear hR1 hO1 C1 HR0
  go_wp2_with fail
  go_at_call 112
  refine C2.out.mono ?_
  rintro e w2 ⟨rfl, hR2, hO2⟩
  have hS2 : w2.heap[n]? = some (.cells #[.int .i64 0, .int .u64 0] 79 (0, 0)) := (hO2.block n (Array.getElem?_eq_some_iff.1 HS1.out).1 (by have := HA.out.2; simp; omega)).trans HS1.out
  have hO2 := HO1.out.trans hO2 (fun _ hx => .inl hx)
  have hAl := (Below.refl w2.heap.size w2).alloc (Nat.le_refl _) (.cells #[.int .i64 t, .int .u64 ((v : Nat) : Int)] 79)
  have hr3 := heap_alloc_new w2 (.cells #[.int .i64 t, .int .u64 ((v : Nat) : Int)] 79)
  have hS3 : (w2.alloc (.cells #[.int .i64 t, .int .u64 ((v : Nat) : Int)] 79)).drew.heap[n]? = some (.cells #[.int .i64 0, .int .u64 0] 79 (0, 0)) := (hAl.block n (Array.getElem?_eq_some_iff.1 hS2).1).trans hS2
  have HR3 := Lib.hid (show Rdr (w2.alloc (.cells #[.int .i64 t, .int .u64 ((v : Nat) : Int)] 79)).drew a p g ds s2 from (hR2.below hAl).below (drew_below _))
  have HO3 := Lib.hid (show Only [a, p] w (w2.alloc (.cells #[.int .i64 t, .int .u64 ((v : Nat) : Int)] 79)).drew from (hO2.alloc _).drew)
  have q0 : (w2.alloc (.cells #[.int .i64 t, .int .u64 ((v : Nat) : Int)] 79)).drew.cell? ⟨w2.heap.size, 0, none⟩ = some (.int .i64 t) := (cell_of_row _ _ 0 _ _ _ hr3).trans rfl
  have q1 : (w2.alloc (.cells #[.int .i64 t, .int .u64 ((v : Nat) : Int)] 79)).drew.cell? ⟨w2.heap.size, 1, none⟩ = some (.int .u64 ((v : Nat) : Int)) := (cell_of_row _ _ 1 _ _ _ hr3).trans rfl
  have hB : w2.heap.size ≠ a ∧ w2.heap.size ≠ n := by
    have h1 := hR2.lt
    have h2 := (Array.getElem?_eq_some_iff.1 hS2).1
    omega
  have HS3 := Lib.hid hS3
  clear hAl hr3 hS2 hS3 hO2 hR2 C2 HS1 HO1
  go_wp2_with fail
  generalize w2.alloc (.cells #[.int .i64 t, .int .u64 ((v : Nat) : Int)] 79) = W at *
  generalize w2.heap.size = B at *
  go_region_with (first
    | (go_at_call 80; refine (CP.out _ HR3.out).mono ?_; rintro e w9 ⟨rfl, hr9, hO9⟩; have q09 := Only_cell hO9 q0 (by have := hB; simp; omega); have q19 := Only_cell hO9 q1 (by have := hB; simp; omega); have hF9 := Lib.hid (And.intro (HR3.out.push ⟨t, v⟩ _ hr9 hO9) (And.intro (HO3.out.trans hO9 (fun x hx => .inl (by simp at hx ⊢; exact .inl hx))) ((hO9.block n (Array.getElem?_eq_some_iff.1 HS3.out).1 (by have := HA.out.2; simp; omega)).trans HS3.out))); clear hr9 hO9))
  all_goals
    have hS9 := hF9.out.2.2
    have f0 : w9.frozen? ⟨n, 0, none⟩ = false := frozen_of_row _ _ _ _ _ hS9
    have f1 : (w9.setCell ⟨n, 0, none⟩ (.int .i64 t)).frozen? ⟨n, 1, none⟩ = false := by rw [World.frozen?_setCell]; exact frozen_of_row _ _ _ _ _ hS9
    have z0 : w9.cell? ⟨n, 0, none⟩ = some (.int .i64 0) := (cell_of_row _ _ 0 _ _ _ hS9).trans rfl
    have z1 : (w9.setCell ⟨n, 0, none⟩ (.int .i64 t)).cell? ⟨n, 1, none⟩ = some (.int .u64 0) := (cell_of_row _ _ 1 _ _ _ (heap_setCell_same _ _ _ _ _ _ hS9)).trans rfl
    have hE : ((w9.setCell ⟨n, 0, none⟩ (.int .i64 t)).setCell ⟨n, 1, none⟩ (.int .u64 ((v : Nat) : Int))).heap[n]? = some (.cells #[.int .i64 t, .int .u64 ((v : Nat) : Int)] 79 (0, 0)) := by
      rw [heap_setCell_same _ _ _ _ _ _ (heap_setCell_same _ _ _ _ _ _ hS9)]
      rfl
    have hOO : Only [n] w9 ((w9.setCell ⟨n, 0, none⟩ (.int .i64 t)).setCell ⟨n, 1, none⟩ (.int .u64 ((v : Nat) : Int))) := ((Only.refl [n] w9).setCell (p := ⟨n, 0, none⟩) (.inl (by simp)) _).setCell (p := ⟨n, 1, none⟩) (.inl (by simp)) _
    have HE := Lib.hid (And.intro hE (And.intro (hF9.out.1.only hOO (by have := HA.out.2; simp; omega) (by have := HA.out.2; simp; omega) (by have := HA.out.2; simp; omega)) (hF9.out.2.1.trans hOO (fun x hx => .inr (by simp at hx; omega)))))
    clear hE hOO hS9
    go_wp2_with fail
    refine bodyPost_ret (v := .agg #[.int .i64 t, .int .u64 ((v : Nat) : Int)]) ?_ ?_ ?_
    · exact results_cell_row (fn := Tryz.f86) (p := 2) (ty := 79) rfl _ _ n 79 _ (0, 0) _ rfl HE.out.1 Tryz.underlying79 rfl (by kernel_rfl)
    · rfl
    · exact ⟨rfl, HE.out.2.1, HE.out.2.2⟩
end Go.Proofs.YtdlifcpdlbmijaaGreatDoor
namespace Go.Proofs.YtdlifcpdlbmijaaGreatDoor
set_option linter.unusedVariables false
set_option linter.unusedSimpArgs false
open Go.RowKit Go.PlainAid Go.Shelf
open B2 (Only)
/-- these blocks lie as they lay -/
def Kept (T : List Nat) (W W' : World) : Prop := ∀ k ∈ T, W'.heap[k]? = W.heap[k]?
theorem Only.put (W : World) (r : Nat) (o : Obj) : Only [r] W (W.putObj r o) :=
  ⟨rfl, rfl, rfl, by simp [World.putObj], fun k hk hn => World.putObj_heap_other (by simp at hn; omega)⟩
/-- the contract of an iterator with blocks of its own -/
def SeqOwn {α : Type} (F : Fence) (n : Nat) (P : Program) (g : Nat) (lb : Array Value) (encs : α → Array Value) (S Sp : List α → Prop) (w : World) : Prop :=
  ∀ (l : Nat) (J Jx : List Nat → List α → World → Prop) (W : World), Below w.heap.size w W →
    (∀ T W2, Below W.heap.size W W2 → (∀ k ∈ T, W.heap.size ≤ k ∧ k < W2.heap.size) → J T [] W2) →
    (∀ T pre A B, J T pre A → Only T A B → J T pre B) →
    (∀ T pre A B, Jx T pre A → Only T A B → Jx T pre B) →
    (∀ T pre x W1, J T pre W1 → Sp (pre ++ [x]) → YieldAt F (n - 1) P l (encs x) W1 fun e W' =>
      (e = .returned (.bool true) ∧ J T (pre ++ [x]) W' ∧ Kept T W1 W') ∨ (e = .returned (.bool false) ∧ Jx T (pre ++ [x]) W')) →
    CallsIn F n P g (#[.func (.yield l) #[] #[]] ++ lb) W fun e W' => (∃ v, e = .returned v) ∧ ((∃ T xs, S xs ∧ J T xs W') ∨ (∃ T pre, Sp pre ∧ Jx T pre W'))
/-- how the body of a round may be left -/
def ownPostT {α : Type} (I : List Nat → List α → World → Prop) (Ix : Code → List Nat → List α → World → Prop) (T : List Nat) (xs : List α) (W : World) : Exit → Act → World → Prop
  | .normal, _, W' => Kept T W W' ∧ I T xs W'
  | .ret, _, W' => Kept T W W' ∧ Ix .ret T xs W'
  | .exit id, _, W' => Kept T W W' ∧ Ix (.exit id) T xs W'
  | .goto t, _, W' => Kept T W W' ∧ Ix (.goto t) T xs W'
  | .panic _, _, _ => False
  | .outgrown, _, _ => False
variable {F : Fence} {n : Nat} {P : Program}
theorem wpIn_rangeFunc_ownT {α : Type} {g : Operand} {ps : Array Tmp} {assign body : Code} {Q : Exit → Act → World → Prop} {a : Act} {w : World}
    (hro : F.round = none) (h1 : 1 ≤ n) {gf : Nat} {lb : Array Value} (hg : a.eval g = .func (.func gf) #[] lb) (hFg : F.fn gf) (eg : ∀ args w, (callFunc gf args).run P w = .ok (.enter gf args) w)
    {encs : α → Array Value} {S Sp : List α → Prop} {w0 : World} (hseq : SeqOwn F (n - 1) P gf lb encs S Sp w0) (hb0 : Below w0.heap.size w0 w) (hps : ∀ x, (encs x).size = ps.size)
    (I : List Nat → List α → World → Prop) (Ix : Code → List Nat → List α → World → Prop)
    (hI : ∀ T pre A B, I T pre A → Only T A B → I T pre B) (hIx : ∀ c T pre A B, Ix c T pre A → Only T A B → Ix c T pre B)
    (h0 : ∀ T W, Below w.heap.size w W → (∀ k ∈ T, w.heap.size ≤ k ∧ k < W.heap.size) → I T [] W)
    (hround : ∀ (l : Nat) (T : List Nat) (pre : List α) (x : α) (W : World), I T pre W → Sp (pre ++ [x]) →
      assign.wpIn (F.inRound l) (n - 1 - 1) P (Exit.then (fun a₁ W1 => Kept T W W1 ∧ ∀ W2, Only T W1 W2 → body.wpIn (F.inRound l) (n - 1 - 1) P (ownPostT I Ix T (pre ++ [x]) W2) a₁ W2) (fun _ _ _ => False)) { tmps := (ps.zip (encs x)).foldl (fun t (p, v) => t.setIfInBounds p v) a.tmps, defers := [] } W)
    (hdone : ∀ (D : Nat) (T : List Nat) (xs : List α) (W : World), w.heap.size ≤ D → D ∈ T → S xs → I T xs W → W.heap[D]? = some (.deferred (some [])) → Q .normal { a with defers := { target := .collected D, args := #[] } :: a.defers } W)
    (hstop : ∀ (D : Nat) (c : Code) (T : List Nat) (pre : List α) (W : World), w.heap.size ≤ D → D ∈ T → Sp pre → Ix c T pre W → W.heap[D]? = some (.deferred (some [])) → c.wpIn F n P Q { a with defers := { target := .collected D, args := #[] } :: a.defers } W) :
    (Code.rangeFunc g ps assign body).wpIn F n P Q a w := by
  refine wpIn_rangeFunc ?_
  intro fn hfn
  rw [hro]
  obtain ⟨D, hD⟩ : ∃ D, w.heap.size = D := ⟨_, rfl⟩
  obtain ⟨rec, hrec⟩ : ∃ rec : LoopState → Option Code → Loop, rec = fun st pe => { state := st, pending := pe, fn, tmps := a.tmps, params := ps, assign, body, defers := D } := ⟨_, rfl⟩
  obtain ⟨W1, hW1⟩ : ∃ W1, (w.alloc (.deferred (some []))).alloc (.loop (rec .ready none)) = W1 := ⟨_, rfl⟩
  have hsz : W1.heap.size = D + 2 := by rw [← hW1]; simp [hD]
  have hL1 : W1.heap[D + 1]? = some (.loop (rec .ready none)) := by
    rw [← hW1]
    have h := World.alloc_heap_new (w.alloc (.deferred (some []))) (.loop (rec .ready none))
    rwa [World.size_alloc, hD] at h
  have hK1 : W1.heap[D]? = some (.deferred (some [])) := by
    rw [← hW1, ← hD]
    exact (Below.heap_alloc _ _ _ (by simp)).trans (World.alloc_heap_new w _)
  have hbW : Below w.heap.size w W1 := by
    rw [← hW1]
    exact ((Below.refl _ w).alloc (Nat.le_refl _) _).alloc (by simp) _
  have hb1 : Below w0.heap.size w0 W1 := hb0.trans (hbW.mono hb0.size)
  refine ⟨D + 1, [{ target := .collected D, args := #[] }], W1, { target := .fn (.func gf) lb, args := #[.func (.yield (D + 1)) #[] #[]] }, W1, gf, #[.func (.yield (D + 1)) #[] #[]] ++ lb, W1, ?_, ?_, ?_, ?_, fun _ => h1, ?_⟩
  · rw [← hW1, hrec, ← hD]; exact run_enterLoop_outer _ _ _ _ _
  · simp only [resolve, hg]
    simp [go_sem]
  · intro f' hf'; simp [Target.leads] at hf'; subst hf'; exact hFg
  · simp [invoke, go_sem, eg]
  · -- the two blocks of the loop's own books lie beside T
    have both : ∀ {T : List Nat} {A B : World}, (∀ k ∈ T, D + 2 ≤ k) → D + 1 < A.heap.size → Only T A B → B.heap[D + 1]? = A.heap[D + 1]? ∧ B.heap[D]? = A.heap[D]? := fun hT hA ho =>
      ⟨ho.block _ hA (fun hm => by have := hT _ hm; omega), ho.block _ (by omega) (fun hm => by have := hT _ hm; omega)⟩
    have wide : ∀ {T : List Nat} {A B : World}, Only T A B → Only (D :: (D + 1) :: T) A B := fun ho => ho.mono (fun x hx => by simp; exact .inr (.inr hx))
    have wput : ∀ (T : List Nat) (A : World) (o : Obj), Only (D :: (D + 1) :: T) A (A.putObj (D + 1) o) := fun T A o => (Only.put A (D + 1) o).mono (fun x hx => by simp at hx; simp [hx])
    refine (hseq (D + 1)
      (fun T pre W => (∀ k ∈ T, D + 2 ≤ k) ∧ I (D :: (D + 1) :: T) pre W ∧ W.heap[D + 1]? = some (.loop (rec .ready none)) ∧ W.heap[D]? = some (.deferred (some [])))
      (fun T pre W => (∀ k ∈ T, D + 2 ≤ k) ∧ ∃ c, Ix c (D :: (D + 1) :: T) pre W ∧ W.heap[D + 1]? = some (.loop (rec .done (some c))) ∧ W.heap[D]? = some (.deferred (some [])))
      W1 hb1 ?_ ?_ ?_ ?_).mono ?_
    · intro T W2 hB hT
      have h2 := hB.size
      refine ⟨fun k hk => by have := (hT k hk).1; omega, h0 _ _ (hbW.trans (hB.mono hbW.size)) ?_, (hB.block _ (by omega)).trans hL1, (hB.block _ (by omega)).trans hK1⟩
      intro k hk
      simp only [List.mem_cons] at hk
      rcases hk with rfl | rfl | hk
      · omega
      · omega
      · have := hT k hk; omega
    · rintro T pre A B ⟨hT, hi, hl, hk⟩ ho
      have hA := (Array.getElem?_eq_some_iff.1 hl).1
      exact ⟨hT, hI _ _ _ _ hi (wide ho), (both hT hA ho).1.trans hl, (both hT hA ho).2.trans hk⟩
    · rintro T pre A B ⟨hT, c, hi, hl, hk⟩ ho
      have hA := (Array.getElem?_eq_some_iff.1 hl).1
      exact ⟨hT, c, hIx _ _ _ _ _ hi (wide ho), (both hT hA ho).1.trans hl, (both hT hA ho).2.trans hk⟩
    · rintro T pre x W ⟨hT, hi, hl, hk⟩ hlen
      have hlt : D + 1 < W.heap.size := (Array.getElem?_eq_some_iff.1 hl).1
      have hy := run_yield (P := P) (args := encs x) hl (by rw [hrec]; exact hps x)
      rw [hrec] at hy
      refine ⟨fn, _, assign, body, hy, roundIn_of_wpIn hfn (wpIn_mono (hround (D + 1) (D :: (D + 1) :: T) pre x W hi hlen) ?_)⟩
      intro e a₁ W1' h
      cases e with
      | ret => exact h.elim
      | exit id => exact h.elim
      | goto t => exact h.elim
      | panic ch => exact h.elim
      | outgrown => exact h.elim
      | normal =>
      obtain ⟨hkA, hb⟩ := h
      have hlA := (hkA (D + 1) (by simp)).trans hl
      have hdA := (hkA D (by simp)).trans hk
      have hltA : D + 1 < W1'.heap.size := (Array.getElem?_eq_some_iff.1 hlA).1
      refine ⟨_, run_beginRound hlA (by rw [hrec]), ?_⟩
      obtain ⟨W2, hW2⟩ : ∃ W2, W1'.putObj (D + 1) (.loop { rec .ready none with state := .busy }) = W2 := ⟨_, rfl⟩
      have hl2 : W2.heap[D + 1]? = some (.loop { rec .ready none with state := .busy }) := by rw [← hW2]; exact World.putObj_heap_same hltA
      have hk2 : W2.heap[D]? = some (.deferred (some [])) := by rw [← hW2]; exact (World.putObj_heap_other (by omega)).trans hdA
      have hT2 : Kept T W W2 := fun k hk => by rw [← hW2]; exact (World.putObj_heap_other (by have := hT k hk; omega)).trans (hkA k (by simp [hk]))
      rw [hW2]
      refine wpIn_mono (hb W2 (by rw [← hW2]; exact wput _ _ _)) ?_
      have fin : ∀ (jump : Option Code) (W3 : World), Kept (D :: (D + 1) :: T) W2 W3 →
          (Instr.endRound (D + 1) jump).run P W3 = .ok (.bool jump.isNone) (W3.putObj (D + 1) (.loop (rec (if jump.isNone then .ready else .done) jump))) ∧
          (W3.putObj (D + 1) (.loop (rec (if jump.isNone then .ready else .done) jump))).heap[D + 1]? = some (.loop (rec (if jump.isNone then .ready else .done) jump)) ∧
          (W3.putObj (D + 1) (.loop (rec (if jump.isNone then .ready else .done) jump))).heap[D]? = some (.deferred (some [])) ∧
          Kept T W (W3.putObj (D + 1) (.loop (rec (if jump.isNone then .ready else .done) jump))) := fun jump W3 hk3 => by
        have hl3 := (hk3 (D + 1) (by simp)).trans hl2
        have hd3 := (hk3 D (by simp)).trans hk2
        have hr := run_endRound (P := P) jump hl3
        rw [hrec] at hr ⊢
        exact ⟨hr, World.putObj_heap_same (Array.getElem?_eq_some_iff.1 hl3).1, (World.putObj_heap_other (by omega)).trans hd3,
          fun k hk => (World.putObj_heap_other (by have := hT k hk; omega)).trans ((hk3 k (by simp [hk])).trans (hT2 k hk))⟩
      rintro e a3 W3 hp
      cases e with
      | normal =>
        obtain ⟨hk3, hi3⟩ := hp
        obtain ⟨hr, hl4, hk4, hq4⟩ := fin none W3 hk3
        exact ⟨_, _, hr, .inl ⟨rfl, ⟨hT, hI _ _ _ _ hi3 (wput _ _ _), hl4, hk4⟩, hq4⟩⟩
      | ret =>
        obtain ⟨hk3, hi3⟩ := hp
        obtain ⟨hr, hl4, hk4, hq4⟩ := fin (some .ret) W3 hk3
        exact ⟨_, _, hr, .inr ⟨rfl, hT, .ret, hIx _ _ _ _ _ hi3 (wput _ _ _), hl4, hk4⟩⟩
      | exit id =>
        obtain ⟨hk3, hi3⟩ := hp
        obtain ⟨hr, hl4, hk4, hq4⟩ := fin (some (.exit id)) W3 hk3
        exact ⟨_, _, hr, .inr ⟨rfl, hT, .exit id, hIx _ _ _ _ _ hi3 (wput _ _ _), hl4, hk4⟩⟩
      | goto t =>
        obtain ⟨hk3, hi3⟩ := hp
        obtain ⟨hr, hl4, hk4, hq4⟩ := fin (some (.goto t)) W3 hk3
        exact ⟨_, _, hr, .inr ⟨rfl, hT, .goto t, hIx _ _ _ _ _ hi3 (wput _ _ _), hl4, hk4⟩⟩
      | panic ch => exact hp.elim
      | outgrown => exact hp.elim
    · rintro e W2 ⟨⟨v, rfl⟩, (⟨T, xs, hS, hT, hi, hl, hk⟩ | ⟨T, pre, hSp, hT, c, hi, hl, hk⟩)⟩
      · exact ⟨none, _, by have h := run_endLoop (P := P) hl (by rw [hrec]; simp); rw [hrec] at h; exact h, hdone D _ xs _ (by omega) (by simp) hS (hI _ _ _ _ hi (wput _ _ _)) ((World.putObj_heap_other (by omega)).trans hk)⟩
      · exact ⟨some c, _, by have h := run_endLoop (P := P) hl (by rw [hrec]; simp); rw [hrec] at h; exact h, hstop D c _ pre _ (by omega) (by simp) hSp (hIx _ _ _ _ _ hi (wput _ _ _)) ((World.putObj_heap_other (by omega)).trans hk)⟩
end Go.Proofs.YtdlifcpdlbmijaaGreatDoor
namespace Go.Proofs.YtdlifcpdlbmijaaGreatDoor
set_option linter.unusedVariables false
set_option linter.unusedSimpArgs false
open Go.RowKit Go.PlainAid Go.Shelf
open B2 (Only Bys Row cellsOf)
open Gm (St Smp)
attribute [local go_sem] Oper.semAt_some
theorem row_kept {w w' : World} {d : Nat} {v : Value} {ds : List Nat} (h : Row w d v ds) (hk : w'.heap[d]? = w.heap[d]?) : Row w' d v ds := by
  rcases h.value with ⟨rfl, rfl⟩ | ⟨cap, cur, rfl, hg, hc, hm, hs, ht⟩
  · exact Row.nil _ _
  · exact Row.mk (hk.trans hg) hc hm hs ht
theorem Rdr.kept {w w' : World} {a p g : Nat} {ds : List Nat} {s : Gm.Rd} (h : Rdr w a p g ds s) (hk : Kept [a, p, g] w w') : Rdr w' a p g ds s := by
  obtain ⟨at_, ⟨v, h1, h2, h3, h4, h5, h6⟩, k2⟩ := h.bits
  have hg := hk g (by simp)
  have hl : g < w'.heap.size := by
    rw [Array.getElem?_eq_getElem h4] at hg
    exact (Array.getElem?_eq_some_iff.1 hg).1
  exact ⟨(hk a (by simp)).trans h.row, ⟨at_, ⟨v, (hk p (by simp)).trans h1, row_kept h2 hg, h3, hl, h5, h6⟩, k2⟩, h.ne⟩
/-- what holds between two samples: k have come, L come in all -/
def Between (N : Nat) (L : List Smp) (J : List Nat → List Smp → World → Prop) (a p g : Nat) (bs : List Nat) (k : Nat) (W : World) : Prop :=
  ∃ pre s, pre ++ Gm.rdAll (N - k) s = L ∧ pre.length = k ∧ s.n = k ∧ RdI s ∧ J [a, p, g] pre W ∧ Rdr W a p g bs s
theorem rd0_I (B : List Bool) : RdI (Gm.rd0 B) := ⟨⟨Nat.le_refl _, by simp [Gm.rd0]⟩, by simp [Gm.rd0], by simp [Gm.rd0]⟩
set_option maxRecDepth 100000 in
set_option maxHeartbeats 8000000 in
theorem read_in (m : Nat) (hm1 : 1 ≤ m) (l b cap N : Nat) (ad : Option Addr) (f t : Int) (bs : List Nat) (hc0 : ad = none → cap = 0) (hbd : bs.length ≤ 1000000000) (hN : N ≤ 9223372036854775807) (J Jx : List Nat → List Smp → World → Prop) (W : World)
    (hb : W.heap[b]? = some (.cells #[.int .i64 f, .int .i64 t, .int .i64 ((N : Nat) : Int), .slice ad bs.length cap] 26 (0, 0))) (hB : Bys W ad bs)
    (h0 : ∀ T W2, Below W.heap.size W W2 → (∀ k ∈ T, W.heap.size ≤ k ∧ k < W2.heap.size) → J T [] W2)
    (hJ : ∀ T pre A B, J T pre A → Only T A B → J T pre B)
    (hY : ∀ T pre x W1, J T pre W1 → pre ++ [x] <+: Gm.rdAll N (Gm.rd0 (B2.Bt.unpack bs)) → YieldAt Fence.wide (m - 1) Tryz.prog l #[smV x] W1 fun e W' =>
      (e = .returned (.bool true) ∧ J T (pre ++ [x]) W' ∧ Kept T W1 W') ∨ (e = .returned (.bool false) ∧ Jx T (pre ++ [x]) W')) :
    CallsIn Fence.wide m Tryz.prog 84 #[.func (.yield l) #[] #[], .pointer (some ⟨b, 0, none⟩)] W fun e W' => (∃ v, e = .returned v) ∧
      ((∃ T xs, xs = Gm.rdAll N (Gm.rd0 (B2.Bt.unpack bs)) ∧ J T xs W') ∨ (∃ T pre, pre <+: Gm.rdAll N (Gm.rd0 (B2.Bt.unpack bs)) ∧ Jx T pre W')) := by
  obtain ⟨L, hL⟩ : ∃ L, Gm.rdAll N (Gm.rd0 (B2.Bt.unpack bs)) = L := ⟨_, rfl⟩
  rw [hL] at hY ⊢
  have x2 : W.cell? ⟨b, 2, none⟩ = some (.int .i64 ((N : Nat) : Int)) := (cell_of_row _ _ 2 _ _ _ hb).trans rfl
  have x3 : W.cell? ⟨b, 3, none⟩ = some (.slice ad bs.length cap) := (cell_of_row _ _ 3 _ _ _ hb).trans rfl
  have C := Lib.hid (B2.read_any ad bs cap W hB hc0 hbd)
  unfold B2.ReadPost at C
  have HJ := Lib.hid hJ
  have HY := Lib.hid hY
  have H0 := Lib.hid h0
  have HL := Lib.hid (And.intro hL (And.intro hbd hN))
  have HBX := Lib.hid hb
  clear hJ hY h0 hL hbd hN hb hB hc0
  refine callsIn_of_wp Tryz.func84 rfl trivial ?_ rfl
  simp only [Tryz.ntmps84, List.size_toArray, List.length_cons, List.length_nil, Nat.reduceAdd, Nat.reduceSub, Array.replicate_succ, Array.replicate_zero, List.push_toArray, List.append_toArray, List.nil_append, List.cons_append]
  gi_wp2_with (refine ⟨trivial, ?_⟩; gi_at_call 85; refine (callsIn_wide.2 C.out).mono ?_; rintro e w1 ⟨p, g, rfl, hp, hg, hR, hBl⟩; have y2 := cell_below x2 (hBl.alloc hBl.size (.cells #[.int .i64 0, .int .i64 0, .int .u64 0, .int .u64 0, .int .i64 0, .int .i64 0, .pointer (some ⟨p, 0, none⟩), .bool false] 156)))
  have hl := hR.lt
  have hB0 := hBl.alloc hBl.size (.cells #[.int .i64 0, .int .i64 0, .int .u64 0, .int .u64 0, .int .i64 0, .int .i64 0, .pointer (some ⟨p, 0, none⟩), .bool false] 156)
  have hr0 := heap_alloc_new w1 (.cells #[.int .i64 0, .int .i64 0, .int .u64 0, .int .u64 0, .int .i64 0, .int .i64 0, .pointer (some ⟨p, 0, none⟩), .bool false] 156)
  have hS1 : w1.heap.size < (w1.alloc (.cells #[.int .i64 0, .int .i64 0, .int .u64 0, .int .u64 0, .int .i64 0, .int .i64 0, .pointer (some ⟨p, 0, none⟩), .bool false] 156)).heap.size := by simp
  have hS0 := hBl.size
  have HD0 := Lib.hid (show Between N L J w1.heap.size p g bs 0 (w1.alloc (.cells #[.int .i64 0, .int .i64 0, .int .u64 0, .int .u64 0, .int .i64 0, .int .i64 0, .pointer (some ⟨p, 0, none⟩), .bool false] 156)) from
    ⟨[], Gm.rd0 (B2.Bt.unpack bs), HL.out.1, rfl, rfl, rd0_I _, H0.out [w1.heap.size, p, g] _ hB0 (fun k hk => by simp at hk; rcases hk with rfl | rfl | rfl <;> omega),
      ⟨hr0, ⟨0, hR.below ((Below.refl w1.heap.size w1).alloc (Nat.le_refl _) _), rfl⟩, by omega⟩⟩)
  clear hl hB0 hr0 hS1 hS0 hR hBl hp hg y2 x2 x3 C H0 HBX
  generalize w1.alloc (.cells #[.int .i64 0, .int .i64 0, .int .u64 0, .int .u64 0, .int .i64 0, .int .i64 0, .pointer (some ⟨p, 0, none⟩), .bool false] 156) = W0 at HD0 ⊢
  generalize w1.heap.size = A at HD0 ⊢
  gi_loopw [11] (fun i wr => ∃ k : Nat, k ≤ N ∧ i = .int .i64 ((k : Nat) : Int) ∧ Hid (Between N L J A p g bs k wr)) (fun i _ => N - (intOf i).toNat)
  case atStart => exact ⟨0, Nat.zero_le _, rfl, HD0⟩
  case round =>
    clear HD0
    obtain ⟨k, hk, rfl, HBt⟩ := hrel
    obtain ⟨pre, s, hpre, hpl, hsn, hsI, hJs, hRd⟩ := HBt.out
    by_cases hlt : k < N
    · have da : decide ((k : Int) < (N : Int)) = true := decide_eq_true (by omega)
      have da2 : decide (k < N) = true := decide_eq_true hlt
      have CN := next_rdr A p g bs s HL.out.2.1 hsI (by have := HL.out.2.2; omega) wr hRd
      have hI2 := rdNext_I s hsI
      have hn2 : (Gm.rdNext s).2.n = s.n + 1 := rfl
      have hAll : Gm.rdAll (N - k) s = if (Gm.rdNext s).2.c.2 then [] else (Gm.rdNext s).1 :: Gm.rdAll (N - (k + 1)) (Gm.rdNext s).2 := by
        rw [show N - k = (N - (k + 1)) + 1 by omega]
        rfl
      obtain ⟨x, hx⟩ : ∃ x, (Gm.rdNext s).1 = x := ⟨_, rfl⟩
      obtain ⟨s', hs'⟩ : ∃ s', (Gm.rdNext s).2 = s' := ⟨_, rfl⟩
      rw [hx, hs'] at CN hAll
      rw [hs'] at hI2 hn2
      rw [hAll] at hpre
      have CN := Lib.hid CN
      have HP := Lib.hid (And.intro hpre (And.intro hpl (And.intro hI2 (hn2.trans (by rw [hsn])))))
      have HJs := Lib.hid hJs
      clear hx hs' hAll hpre hpl hI2 hn2 hsI hJs hRd HBt hsn
      unfold smV pt at CN
      by_cases hq : s'.c.2 = true
      · gi_wp2_with (refine ⟨trivial, ?_⟩; gi_at_call 86; refine (callsIn_wide.2 CN.out).mono ?_; rintro e w2 ⟨rfl, hR2, hO2⟩; have q7 : (w2.alloc (.cells #[.int .i64 x.t, .int .u64 ((x.v : Nat) : Int)] 79)).cell? ⟨A, 7, none⟩ = some (.bool true) := (by rw [← hq]; exact (cell_of_row _ _ 7 _ _ _ (hR2.below ((Below.refl w2.heap.size w2).alloc (Nat.le_refl _) (.cells #[.int .i64 x.t, .int .u64 ((x.v : Nat) : Int)] 79))).row).trans rfl); have hO3 := hO2.alloc (.cells #[.int .i64 x.t, .int .u64 ((x.v : Nat) : Int)] 79); clear hR2 hO2)
        have HE := Lib.hid (show J [A, p, g] L (w2.alloc (.cells #[.int .i64 x.t, .int .u64 ((x.v : Nat) : Int)] 79)) from by
          have h := HP.out.1
          rw [if_pos hq, List.append_nil] at h
          rw [← h]
          exact HJ.out _ _ _ _ HJs.out (hO3.mono (fun z hz => by simp at hz ⊢; omega)))
        all_goals
          refine ⟨nofun, ?_⟩
          gi_wp2
          refine bodyPost_ret (results_none rfl _ _ _) rfl ?_
          exact ⟨⟨_, rfl⟩, .inl ⟨_, _, rfl, HE.out⟩⟩
      · have hq : s'.c.2 = false := by simpa using hq
        have HQ := Lib.hid (show (pre ++ [x]) ++ Gm.rdAll (N - (k + 1)) s' = L from by
          have h := HP.out.1
          rw [if_neg (by rw [hq]; decide)] at h
          rw [← h, List.append_assoc]
          rfl)
        have hlen : pre ++ [x] <+: L := ⟨_, HQ.out⟩
        gi_wp2_with (refine ⟨trivial, ?_⟩; gi_at_call 86; refine (callsIn_wide.2 CN.out).mono ?_; rintro e w2 ⟨rfl, hR2, hO2⟩; have q7 : (w2.alloc (.cells #[.int .i64 x.t, .int .u64 ((x.v : Nat) : Int)] 79)).cell? ⟨A, 7, none⟩ = some (.bool false) := (by rw [← hq]; exact (cell_of_row _ _ 7 _ _ _ (hR2.below ((Below.refl w2.heap.size w2).alloc (Nat.le_refl _) (.cells #[.int .i64 x.t, .int .u64 ((x.v : Nat) : Int)] 79))).row).trans rfl); have hO3 := hO2.alloc (.cells #[.int .i64 x.t, .int .u64 ((x.v : Nat) : Int)] 79); have HR3 := Lib.hid (hR2.below ((Below.refl w2.heap.size w2).alloc (Nat.le_refl _) (.cells #[.int .i64 x.t, .int .u64 ((x.v : Nat) : Int)] 79))); have hJ3 := HJ.out _ _ _ _ HJs.out (hO3.mono (fun z hz => (by simp at hz ⊢; omega : z ∈ [A, p, g]))); obtain ⟨fn, tmps, assign, body, hy, hRn⟩ := HY.out [A, p, g] pre x (w2.alloc (.cells #[.int .i64 x.t, .int .u64 ((x.v : Nat) : Int)] 79)) hJ3 hlen; have HRn := Lib.hid hRn; unfold smV at hy; clear hR2 hO2 hJ3 hRn)
        refine HRn.out.mono ?_
        rintro e W3 (⟨rfl, hJ3, hk3⟩ | ⟨rfl, hJx3⟩)
        · have HB3 := Lib.hid (show Between N L J A p g bs (k + 1) W3 from ⟨pre ++ [x], s', HQ.out, by rw [List.length_append, HP.out.2.1]; rfl, HP.out.2.2.2, HP.out.2.2.1, hJ3, HR3.out.kept hk3⟩)
          clear hJ3 hk3
          have hw : RowKit.wrap64 ((k : Int) + 1) = ((k + 1 : Nat) : Int) := by
            unfold RowKit.wrap64
            have := HL.out.2.2
            omega
          gi_wp2
          exact ⟨⟨k + 1, by omega, by rw [hw], HB3⟩, by rw [hw]; simp [intOf]; omega⟩
        · have HX3 := Lib.hid (show ∃ T pre', pre' <+: L ∧ Jx T pre' W3 from ⟨_, _, ⟨_, HQ.out⟩, hJx3⟩)
          clear hJx3
          gi_wp2
          refine bodyPost_ret (results_none rfl _ _ _) rfl ?_
          exact ⟨⟨_, rfl⟩, .inr HX3.out⟩
    · have da : decide ((k : Int) < (N : Int)) = false := decide_eq_false (by omega)
      have da2 : decide (k < N) = false := decide_eq_false hlt
      have hke : N - k = 0 := by omega
      rw [hke] at hpre
      have HE := Lib.hid (show J [A, p, g] L wr from by rw [← hpre]; simpa [Gm.rdAll] using hJs)
      clear hpre hpl hsI hJs hRd HBt
      gi_wp2
      go_end0
      exact ⟨⟨_, rfl⟩, .inl ⟨_, _, rfl, HE.out⟩⟩
/-- a chunk's cells -/
def chR (f t N : Int) (d : Value) : Array Value := #[.int .i64 f, .int .i64 t, .int .i64 N, d]
theorem read_stops (m : Nat) (hm1 : 1 ≤ m) (b cap N : Nat) (ad : Option Addr) (f t : Int) (bs : List Nat) (hc0 : ad = none → cap = 0) (hbd : bs.length ≤ 1000000000) (hN : N ≤ 9223372036854775807) (w : World)
    (hb : w.heap[b]? = some (.cells (chR f t N (.slice ad bs.length cap)) 26 (0, 0))) (hB : Bys w ad bs) :
    SeqOwn Fence.wide m Tryz.prog 84 #[pt b] (fun x : Smp => #[smV x]) (fun xs => xs = Gm.rdAll N (Gm.rd0 (B2.Bt.unpack bs))) (fun pre => pre <+: Gm.rdAll N (Gm.rd0 (B2.Bt.unpack bs))) w :=
  fun l J Jx W hW h0 hJ _ hY => read_in m hm1 l b cap N ad f t bs hc0 hbd hN J Jx W ((hW.block b (Array.getElem?_eq_some_iff.1 hb).1).trans hb) (hB.below hW) h0 hJ hY
set_option maxRecDepth 100000 in
theorem readseq_in (F : Fence) (m : Nat) (h5 : F.fn 32) (hro : F.round = none) (f t N : Int) (d : Value) (w : World) :
    CallsIn F m Tryz.prog 32 #[.agg (chR f t N d)] w fun e w' => e = .returned (.func (.func 84) #[] #[pt w.heap.size]) ∧ w' = w.alloc (.cells (chR f t N d) 26) := by
  unfold chR pt
  refine callsIn_of_wp Tryz.func32 rfl h5 ?_ hro
  simp only [Tryz.ntmps32, List.size_toArray, List.length_cons, List.length_nil, Nat.reduceAdd, Nat.reduceSub, Array.replicate_succ, Array.replicate_zero, List.push_toArray, List.append_toArray, List.nil_append, List.cons_append]
  gi_wp2
  go_ret
  exact ⟨rfl, rfl⟩
end Go.Proofs.YtdlifcpdlbmijaaGreatDoor
