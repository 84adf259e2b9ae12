/-
  WALKS: a duration that is written.
-/
import Derived.Test.YthhlhiighgnkmaaGreatDoorTwC
import Derived.Test.YthhlhiighgnkmaaGreatDoorTiB
import Derived.Deep.RegionLaw
namespace Go.Proofs.YthhlhiighgnkmaaGreatDoor
set_option linter.unusedVariables false
set_option linter.unusedSimpArgs false
open Go.RowKit Go.PlainAid
/-- a duration's text from the unit k on -/
def durW : Nat → Nat → List Nat
  | 0, _ => []
  | f + 1, r => (if r / unitMs (7 - f) = 0 then [] else decN (r / unitMs (7 - f)) ++ unl (6 - f)) ++ durW f (r % unitMs (7 - f))
theorem units5 {w : World} {g : Nat} (h : ∀ i v, unitsB[i]? = some v → w.cell? ⟨g, i, none⟩ = some v) (j : Nat) (hj : j < 5) : w.cell? ⟨g, j * 2, none⟩ = some (.string (strOf (unl (j + 2)))) ∧ w.cell? ⟨g, j * 2 + 1, none⟩ = some (.int .i64 ((unitMs (j + 3) : Nat) : Int)) := by
  match j, hj with
  | 0, _ => exact ⟨h _ _ rfl, h _ _ rfl⟩
  | 1, _ => exact ⟨h _ _ rfl, h _ _ rfl⟩
  | 2, _ => exact ⟨h _ _ rfl, h _ _ rfl⟩
  | 3, _ => exact ⟨h _ _ rfl, h _ _ rfl⟩
  | 4, _ => exact ⟨h _ _ rfl, h _ _ rfl⟩
theorem decN_len19 (n : Nat) (h : n < 9223372036854775808) : (decN n).length ≤ 19 := decN_len 18 n (Nat.lt_of_lt_of_le h (by decide))
theorem unl_len (i : Nat) : (unl i).length ≤ 2 := by
  match i with
  | 0 => decide
  | 1 => decide
  | 2 => decide
  | 3 => decide
  | 4 => decide
  | 5 => decide
  | i + 6 => exact show [109, 115].length ≤ 2 by decide
set_option maxRecDepth 100000 in
set_option maxHeartbeats 2000000 in
theorem duration_write (ms : Nat) (h0 : 0 < ms) (hm : ms ≤ 9007199254740992) (w : World) (ht : PowT w) : Calls Tryz.prog 18 #[.int .i64 (ms : Int)] w (Gives w (.tuple #[.string (strOf (durW 5 ms)), .int .u16 0])) := by
  have d1 : decide ((ms : Int) < 0) = false := decide_eq_false (by omega)
  have d2 : decide ((ms : Int) > 9007199254740992) = false := decide_eq_false (by omega)
  have d3 : decide ((9007199254740992 : Int) < (ms : Int)) = false := d2
  have d4 : decide (9007199254740992 < ms) = false := decide_eq_false (by omega)
  have d5 : ((ms : Int) == 0) = false := by simp; omega
  have HT := Lib.hid ht
  have CF := Lib.hid (fun (n : Nat) (hn : n < 9223372036854775808) (w : World) (ht : PowT w) => fmt_any n hn w ht)
  have HM := Lib.hid hm
  have HS0 : Hid ([] ++ durW 5 ms = durW 5 ms) := Lib.hid (List.nil_append _)
  have HU := Lib.hid (show ∀ i v, unitsB[i]? = some v → (w.alloc (.cells unitsB.toArray 77)).cell? ⟨w.heap.size, i, none⟩ = some v from fun i v hv => by
    rw [cell_of_row _ _ _ _ _ _ (heap_alloc_new w _), List.getElem?_toArray]; exact hv)
  have HB0 := Lib.hid ((Below.refl w.heap.size w).alloc (Nat.le_refl _) (.cells unitsB.toArray 77))
  obtain ⟨R, hR⟩ : ∃ R, durW 5 ms = R := ⟨_, rfl⟩
  rw [hR] at HS0 ⊢
  have HS1 : Hid ([] ++ durW 5 ms = R) := Lib.hid (by rw [List.nil_append]; exact hR)
  clear ht h0 hm hR HS0
  go_enter Tryz.func18, Tryz.ntmps18
  go_wp2
  go_loopw [0, 4, 18] (fun mv sv iv wr => ∃ (j r : Nat) (out : List Nat), j ≤ 5 ∧ iv = .int .i64 ((j : Nat) : Int) ∧ mv = .int .i64 ((r : Nat) : Int) ∧ sv = .string (strOf out) ∧ r ≤ 9007199254740992 ∧ Hid (out.length ≤ 21 * j) ∧ Hid (out ++ durW (5 - j) r = R) ∧ Hid (Below (w.heap.size + 1) (w.alloc (.cells unitsB.toArray 77)) wr)) (fun _ _ iv _ => (5 - intOf iv).toNat)
  case atStart => exact ⟨0, ms, [], by omega, rfl, rfl, rfl, HM.out, Lib.hid (by simp), HS1, Lib.hid (Below.refl _ _)⟩
  case round =>
    obtain ⟨j, r, out, hj, rfl, rfl, rfl, hr, HL, HE, HB⟩ := hrel
    have HBW := Lib.hid (HB0.out.trans (HB.out.mono (by omega)))
    by_cases hj5 : j < 5
    · have g1 : decide ((j : Int) < 5) = true := decide_eq_true (by omega)
      have g2 : decide (j < 5) = true := decide_eq_true hj5
      obtain ⟨c0, c1⟩ := units5 (w := wr) (fun i v hv => (HB.out.cell (p := ⟨w.heap.size, i, none⟩) (Nat.lt_succ_self _)).trans (HU.out i v hv)) j hj5
      have hu := unitMs_pos (j + 3) (by omega) (by omega)
      have hul := unl_len (j + 2)
      have hus := strOf_size (unl (j + 2))
      have hos := strOf_size out
      have HD := Lib.hid (show durW (5 - j) r = (if r / unitMs (j + 3) = 0 then [] else decN (r / unitMs (j + 3)) ++ unl (j + 2)) ++ durW (5 - (j + 1)) (r % unitMs (j + 3)) by
        rw [show 5 - j = (4 - j) + 1 by omega, durW, show 7 - (4 - j) = j + 3 by omega, show 6 - (4 - j) = j + 2 by omega, show 5 - (j + 1) = 4 - j by omega])
      obtain ⟨u, hu2⟩ : ∃ u, unitMs (j + 3) = u := ⟨_, rfl⟩
      rw [hu2] at c1 hu HD
      obtain ⟨U, hU⟩ : ∃ U, strOf (unl (j + 2)) = U := ⟨_, rfl⟩
      rw [hU] at c0 hus
      have HUU := Lib.hid hU
      obtain ⟨q, hq⟩ : ∃ q, r / u = q := ⟨_, rfl⟩
      obtain ⟨t, ht⟩ : ∃ t, r % u = t := ⟨_, rfl⟩
      have tq : (r : Int).tdiv (u : Int) = (q : Int) := by rw [Int.tdiv_eq_ediv_of_nonneg (by omega), ← hq]; simp
      have tt : (r : Int).tmod (u : Int) = (t : Int) := by rw [Int.tmod_eq_emod_of_nonneg (by omega), ← ht]; simp
      have hqr : q ≤ r := by rw [← hq]; exact Nat.div_le_self _ _
      have htr : t ≤ r := by rw [← ht]; exact Nat.mod_le _ _
      have u0 : ((u : Int) == 0) = false := by simp; omega
      have wq : IntKind.i64.wrap (q : Int) = (q : Int) := by rw [IntKind.wrap_i64]; omega
      have wt : IntKind.i64.wrap (t : Int) = (t : Int) := by rw [IntKind.wrap_i64]; omega
      rw [hq, ht] at HD
      obtain ⟨O, hO⟩ : ∃ O, strOf out = O := ⟨_, rfl⟩
      have HO := Lib.hid hO
      rw [hO] at hos ⊢
      have hji : (j : Int) < 5 := by omega
      have hune : ¬ u = 0 := by omega
      by_cases hq0 : q = 0
      · have e1 : decide ((q : Int) > 0) = false := decide_eq_false (by omega)
        have e2 : decide ((0 : Int) < (q : Int)) = false := e1
        have e3 : decide (0 < q) = false := decide_eq_false (by omega)
        have HN := Lib.hid (show out ++ durW (5 - (j + 1)) t = R by rw [← HE.out, HD.out, if_pos hq0, List.nil_append])
        have HJ := Lib.hid (show j + 1 ≤ 5 ∧ t ≤ 9007199254740992 by omega)
        have HL2 := Lib.hid (show out.length ≤ 21 * (j + 1) by have := HL.out; omega)
        clear hu hul hu2 hU hq ht hqr htr hO hq0 hj5 hus hos
        go_wp2
        go_roundw
        case rel => exact ⟨j + 1, t, out, HJ.out.1, rfl, rfl, by rw [HO.out], HJ.out.2, HL2, HN, Lib.hid (HB.out.alloc (by have := HB.out.size; simp at this; omega) _)⟩
        case measure => simp [intOf]; omega
      · have e1 : decide ((q : Int) > 0) = true := decide_eq_true (by omega)
        have e2 : decide ((0 : Int) < (q : Int)) = true := e1
        have e3 : decide (0 < q) = true := decide_eq_true (by omega)
        have HN := Lib.hid (show (out ++ (decN q ++ unl (j + 2))) ++ durW (5 - (j + 1)) t = R by rw [← HE.out, HD.out, if_neg hq0, List.append_assoc])
        have HJ := Lib.hid (show j + 1 ≤ 5 ∧ t ≤ 9007199254740992 by omega)
        have hql := decN_len19 q (by omega)
        have HL2 := Lib.hid (show (out ++ (decN q ++ unl (j + 2))).length ≤ 21 * (j + 1) by rw [List.length_append, List.length_append]; have := HL.out; omega)
        have hqs := strOf_size (decN q)
        have CFQ := Lib.hid (fun (w' : World) (hb : Below w.heap.size w w') => CF.out q (by omega) w' (HT.out.below hb))
        obtain ⟨Q, hQ⟩ : ∃ Q, strOf (decN q) = Q := ⟨_, rfl⟩
        have HQ := Lib.hid hQ
        simp only [hQ] at CFQ hqs
        have b1 : Q.size ≤ 19 := by omega
        have b2 : U.size ≤ 2 := by omega
        have b3 : O.size ≤ 105 := by have := HL.out; omega
        clear hu hul hu2 hU hq ht hqr htr hO hq0 hj5 hus hos hql hqs hQ
        have HW1 := Lib.hid (HBW.out.alloc HBW.out.size (.cells #[.string U, .int .i64 (u : Int)] 77))
        have HBX := Lib.hid (HB.out.alloc (by have := HB.out.size; simp at this; omega) (.cells #[.string U, .int .i64 (u : Int)] 77))
        have hN0 : (wr.alloc (.cells #[.string U, .int .i64 (u : Int)] 77)).cell? ⟨wr.heap.size, 0, none⟩ = some (.string U) := by rw [World.cell?_alloc_at _ _ _ _ (by simp)]; rfl
        have hN1 : (wr.alloc (.cells #[.string U, .int .i64 (u : Int)] 77)).cell? ⟨wr.heap.size, 1, none⟩ = some (.int .i64 (u : Int)) := by rw [World.cell?_alloc_at _ _ _ _ (by simp)]; rfl
        have hNs : wr.heap.size < (wr.alloc (.cells #[.string U, .int .i64 (u : Int)] 77)).heap.size := by simp
        go_wp2_with fail
        obtain ⟨W1, hW1⟩ : ∃ W, wr.alloc (.cells #[.string U, .int .i64 (u : Int)] 77) = W := ⟨_, rfl⟩
        rw [hW1] at HW1 HBX hN0 hN1 hNs ⊢
        obtain ⟨N, hN⟩ : ∃ N, wr.heap.size = N := ⟨_, rfl⟩
        rw [hN] at hN0 hN1 hNs ⊢
        have HN0 := Lib.hid hN0
        have HN1 := Lib.hid hN1
        have HNS := Lib.hid hNs
        have hc1 : Q.size + U.size ≤ 9223372036854775807 := by omega
        have hc2 : O.size + (Q.size + U.size) ≤ 9223372036854775807 := by omega
        have hc3 : ¬ 9223372036854775807 < Q.size + U.size := by omega
        have hc4 : ¬ 9223372036854775807 < O.size + (Q.size + U.size) := by omega
        have hc5 : ¬ 9223372036854775807 < O.size + (Q ++ U).size := by rw [ByteArray.size_append]; omega
        clear hW1 hN hNs
        go_region_law (go_simp; go_at_call 52; refine (CFQ.out _ HW1.out.drew).mono ?_; rintro e w2 ⟨rfl, hb⟩; have hz := (hb.cell (p := ⟨N, 0, none⟩) HNS.out).trans HN0.out; go_simp)
        · have hz1 := (hb.cell (p := ⟨N, 1, none⟩) HNS.out).trans HN1.out
          have HBF : Hid (Below (w.heap.size + 1) (w.alloc (.cells unitsB.toArray 77)) w2) := Lib.hid (HBX.out.drew.trans (hb.mono (by have h1 := HBX.out.size; simp at h1; show w.heap.size + 1 ≤ W1.heap.size; omega)))
          have HSTR := Lib.hid (show O ++ (Q ++ U) = strOf (out ++ (decN q ++ unl (j + 2))) by rw [← HO.out, ← HQ.out, ← HUU.out, strOf_append, strOf_append])
          clear hb hN0 hN1
          go_wp2_with fail
          refine ⟨⟨_, _, _, _, _, _, _, _, _, _, _, _, _, _, _, _, _, _, _, _, _, _, _, _, _, _, ⟨j + 1, t, out ++ (decN q ++ unl (j + 2)), HJ.out.1, ?_, ?_, ?_, HJ.out.2, HL2, HN, HBF⟩, rfl⟩, ?_⟩
          · rfl
          · rfl
          · rw [← HSTR.out]
          · simp [intOf]; omega
        · have hz1 := (hb.cell (p := ⟨N, 1, none⟩) HNS.out).trans HN1.out
          have HBF : Hid (Below (w.heap.size + 1) (w.alloc (.cells unitsB.toArray 77)) w2) := Lib.hid (HBX.out.drew.trans (hb.mono (by have h1 := HBX.out.size; simp at h1; show w.heap.size + 1 ≤ W1.heap.size; omega)))
          have HSTR := Lib.hid (show O ++ (Q ++ U) = strOf (out ++ (decN q ++ unl (j + 2))) by rw [← HO.out, ← HQ.out, ← HUU.out, strOf_append, strOf_append])
          clear hb hN0 hN1
          go_wp2_with fail
          refine ⟨⟨_, _, _, _, _, _, _, _, _, _, _, _, _, _, _, _, _, _, _, _, _, _, _, _, _, _, ⟨j + 1, t, out ++ (decN q ++ unl (j + 2)), HJ.out.1, ?_, ?_, ?_, HJ.out.2, HL2, HN, HBF⟩, rfl⟩, ?_⟩
          · rfl
          · rfl
          · rw [← HSTR.out]
          · simp [intOf]; omega
    · obtain rfl : j = 5 := by omega
      have g1 : decide (((5 : Nat) : Int) < 5) = false := decide_eq_false (by omega)
      have HR := Lib.hid (show strOf out = strOf R by rw [← HE.out, Nat.sub_self, durW, List.append_nil])
      obtain ⟨O, hO⟩ : ∃ O, strOf out = O := ⟨_, rfl⟩
      rw [hO] at HR ⊢
      clear hO hj5 hj
      go_wp2
      go_ret2
      rw [← HR.out]
      exact ⟨rfl, HBW.out⟩
end Go.Proofs.YthhlhiighgnkmaaGreatDoor
