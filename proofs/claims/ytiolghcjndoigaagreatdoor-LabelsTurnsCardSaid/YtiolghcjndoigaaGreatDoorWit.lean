/-
  WALKS: With.
-/
import Derived.Test.YtiolghcjndoigaaGreatDoorKep
import Derived.Test.YtiolghcjndoigaaGreatDoorRkp
import Derived.Shelf.Spec.SlicesInsert
import Derived.Lib.AppendZerosOnto
import Derived.Laws.CopyOwn
namespace Go.Proofs.YtiolghcjndoigaaGreatDoor
set_option linter.unusedVariables false
set_option linter.unusedSimpArgs false
open Go.RowKit Go.PlainAid Go.Shelf
/-- copy of n labels, all read before anything is written -/
theorem copy_two (w : World) (ty : TypeId) (g o dLen dCap : Nat) (a : Addr) (sLen sCap n : Nat) (cur : Array Value) (cs : List Value)
    (hg : w.heap[g]? = some (.cells cur 94 (0, 0))) (hn : n = Nat.min sLen dLen) (hl : cs.length = n * 2)
    (hsrc : ∀ j v, cs[j]? = some v → w.cell? (a.add j) = some v) (hfit : o + cs.length ≤ cur.size) (h1 : ∀ v ∈ cs, v.oneCell' = true) :
    (Builtin.copy_ #[22, 22] ty #[.slice (some ⟨g, o, none⟩) dLen dCap, .slice (some a) sLen sCap]).run Tryz.prog w =
      .ok (goInt n) (w.setRow g (cur.toList.take o ++ cs ++ cur.toList.drop (o + cs.length)).toArray) := by
  obtain ⟨i0, hi, hz0, hz1, hz2⟩ := info_parts info94
  have hld := run_loadCells_list (P := Tryz.prog) w a cs hsrc
  have hst := run_storeCells_at Tryz.prog g o 94 cs 0 cur w hg (by simpa using hfit) h1
  simp [Builtin.copy_, run_underlying Tryz.underlying22, Builtin.lenOf, Builtin.firstCells, sizeOf, typeInfo, hi, hz1, ← hn, ← hl, hld, hst]
theorem block_row {w : World} {g : Nat} {cur : Array Value} (hg : w.heap[g]? = some (.cells cur 94 (0, 0))) (cs : Array Value) : (w.setRow g cs).heap[g]? = some (.cells cs 94 (0, 0)) := setRow_heap w g cur cs 94 (0, 0) hg
theorem only_row (w : World) (g : Nat) (cs : Array Value) : Only [g] w (w.setRow g cs) := by
  have h := below_setRow (B := 0) (Below.refl 0 w) (Nat.zero_le g) cs
  refine ⟨h.os, h.tape, h.output, h.size, fun k hk hn => ?_⟩
  have hne : k ≠ g := by simpa using hn
  unfold World.setRow
  simp [Array.getElem?_modify, Ne.symm hne]
theorem slice_lo (g n c i : Nat) (hi : i ≤ n) (hc : i < c) (w : World) : (Instr.slice 22 (.slice (some ⟨g, 0, none⟩) n c) (some (.int .i64 (i : Int))) none none).run Tryz.prog w = .ok (.slice (some ⟨g, i * 2, none⟩) (n - i) (c - i)) w := by
  rw [run_slice_l w 22 (some ⟨g, 0, none⟩) n c (show Tryz.prog.underlying 22 = some (.slice (Tryz.prog.elem 22)) by kernel_rfl) .i64 (i : Int) (by omega) (by omega)]
  rw [show (sizeOf (Tryz.prog.elem 22)).run Tryz.prog w = .ok 2 w by kernel_rfl]
  simp only [Int.toNat_natCast, Result.andThen_ok]
  unfold sliced
  simp [show ¬ c = i by omega, add_here]
theorem slice_hi (a : Option Addr) (n c i : Nat) (hc : i ≤ c) (w : World) : (Instr.slice 22 (.slice a n c) none (some (.int .i64 (i : Int))) none).run Tryz.prog w = .ok (.slice a i c) w := by
  rw [run_slice_h w 22 a n c (show Tryz.prog.underlying 22 = some (.slice (Tryz.prog.elem 22)) by kernel_rfl) .i64 (i : Int) (by omega) (by omega)]
  rw [show (sizeOf (Tryz.prog.elem 22)).run Tryz.prog w = .ok 2 w by kernel_rfl]
  simp only [Int.toNat_natCast, Result.andThen_ok]
  unfold sliced
  cases a with
  | none => simp
  | some a =>
    simp
    intro _
    unfold Addr.add
    split <;> simp_all
theorem flat2_take (r : List Lm.Lb) (i : Nat) (hi : i ≤ r.length) : (r.flatMap enc2).take (i * 2) = (r.take i).flatMap enc2 := by
  conv => lhs; rw [← List.take_append_drop i r, List.flatMap_append]
  exact List.take_left' (by rw [flat2_len, List.length_take, Nat.min_eq_left hi])
/-- the row behind two copies in place -/
theorem row_shift (cur : List Value) (r : List Lm.Lb) (x : Lm.Lb) (i n c o0 o1 : Nat) (hn : r.length = n) (hi : i < n) (hc : cur.length = c * 2) (hnc : n + 1 ≤ c) (ht : cur.take (n * 2) = r.flatMap enc2) (h0 : i * 2 = o0) (h1 : (i + 1) * 2 = o1) :
    let cs1 := (r.drop i).flatMap enc2
    let cur1 := cur.take o1 ++ cs1 ++ cur.drop (o1 + cs1.length)
    let cur2 := cur1.take o0 ++ enc2 x ++ cur1.drop (o0 + (enc2 x).length)
    cur1.length = c * 2 ∧ cur2.length = c * 2 ∧ cur2.take ((n + 1) * 2) = (r.take i ++ x :: r.drop i).flatMap enc2 := by
  intro cs1 cur1 cur2
  have l1 : cs1.length = (n - i) * 2 := by show ((r.drop i).flatMap enc2).length = _; rw [flat2_len, List.length_drop, hn]
  have lx : (enc2 x).length = 2 := rfl
  have lc1 : cur1.length = c * 2 := by
    show (cur.take o1 ++ cs1 ++ cur.drop (o1 + cs1.length)).length = _
    simp only [List.length_append, List.length_take, List.length_drop, l1, hc]
    omega
  have e1 : cur1.take o0 = cur.take o0 := by
    show (cur.take o1 ++ cs1 ++ cur.drop (o1 + cs1.length)).take o0 = _
    rw [List.append_assoc, List.take_append_of_le_length (by rw [List.length_take, hc]; omega), List.take_take, Nat.min_eq_left (by omega)]
  have e2 : cur1.drop (o0 + 2) = cs1 ++ cur.drop (o1 + cs1.length) := by
    show (cur.take o1 ++ cs1 ++ cur.drop (o1 + cs1.length)).drop (o0 + 2) = _
    rw [List.append_assoc]
    exact List.drop_left' (by rw [List.length_take, hc]; omega)
  have e3 : cur2 = cur.take o0 ++ enc2 x ++ (cs1 ++ cur.drop (o1 + cs1.length)) := by
    show cur1.take o0 ++ enc2 x ++ cur1.drop (o0 + (enc2 x).length) = _
    rw [e1, lx, e2]
  have e4 : cur.take o0 = (r.take i).flatMap enc2 := by
    have : cur.take o0 = (cur.take (n * 2)).take o0 := by rw [List.take_take, Nat.min_eq_left (by omega)]
    rw [this, ht, ← h0]
    exact flat2_take r i (by omega)
  refine ⟨lc1, ?_, ?_⟩
  · rw [e3]
    simp only [List.length_append, List.length_take, List.length_drop, l1, hc, lx]
    omega
  · rw [e3, e4, ← List.append_assoc]
    have e5 : (r.take i ++ x :: r.drop i).flatMap enc2 = (r.take i).flatMap enc2 ++ enc2 x ++ cs1 := by
      rw [List.flatMap_append, List.flatMap_cons, ← List.append_assoc]
    rw [e5]
    refine List.take_left' ?_
    simp only [List.length_append, l1, lx, flat2_len, List.length_take, hn]
    omega
theorem hov (nb lb cb o : Nat) (g : Nat) (w : World) (x : Lm.Lb) (hx : w.heap[nb]? = some (.cells (enc2 x).toArray 94 (0, 0))) (cur : Array Value) (hg : w.heap[g]? = some (.cells cur 94 (0, 0))) (hc : cur.size ≠ 0) (hne : nb ≠ g) :
    (callFunc 113 #[.slice (some ⟨nb, 0, none⟩) 1 1, .slice (some ⟨g, o, none⟩) lb cb]).run Tryz.prog w = .ok (.value (.bool false)) w := by
  rw [run_callFunc_extern Tryz.func113 (by kernel_rfl) (by kernel_rfl) (by kernel_rfl) (e := Extern.SlicesOverlaps.overlaps #[22, 22] #[4]) (by kernel_rfl),
    Lib.run_overlaps_apart w 22 4 94 Tryz.underlying22 2 Tryz.sizeOf94 ⟨nb, 0, none⟩ ⟨g, o, none⟩ 1 1 lb cb hne 94 94 2 cur.size (by simp [World.shape?, hx, enc2]) (by simp [World.shape?, hg]) hc (frozen_of_row _ _ _ _ _ hx) (frozen_of_row _ _ _ _ _ hx)]
  rfl
theorem addW (n : Nat) (h : n ≤ 1000000) : wrap64 ((n : Int) + 1) = ((n + 1 : Nat) : Int) ∧ IntKind.i64.wrap ((n : Int) + 1) = ((n + 1 : Nat) : Int) := ⟨by rw [wrap64_small (by omega) (by omega)]; omega, by rw [IntKind.wrap_i64]; omega⟩
theorem subW (n i q : Nat) (h : n ≤ 1000000) (hi : i ≤ n) (hq : n - i = q) : wrap64 ((n : Int) - (i : Int)) = (q : Int) ∧ IntKind.i64.wrap ((n : Int) - (i : Int)) = (q : Int) := ⟨by rw [wrap64_small (by omega) (by omega)]; omega, by rw [IntKind.wrap_i64]; omega⟩
def InsPost (base : Nat) (w : World) (r : List Lm.Lb) (x : Lm.Lb) (i : Nat) (e : Ending) (w' : World) : Prop := ∃ v, e = .returned v ∧ OwnL w' base v (r.take i ++ x :: r.drop i) ∧ Below base w w'
theorem lab_src {w : World} {nb : Nat} {x : Lm.Lb} (hx : w.heap[nb]? = some (.cells (enc2 x).toArray 94 (0, 0))) : ∀ j u, (enc2 x)[j]? = some u → w.cell? ((⟨nb, 0, none⟩ : Addr).add j) = some u := by
  intro j u hu
  rw [add_here, cell_of_row _ _ _ _ _ _ hx, List.getElem?_toArray]
  exact hu
set_option maxRecDepth 100000 in
set_option maxHeartbeats 2000000 in
theorem insert_end (base nb n cr : Nat) (ar : Option Addr) (r : List Lm.Lb) (x : Lm.Lb) (w : World) (hn : r.length = n) (hcr : n ≤ cr) (H : OwnL w base (.slice ar n cr) r) (hx : w.heap[nb]? = some (.cells (enc2 x).toArray 94 (0, 0))) (hb : base ≤ w.heap.size) (hs : n ≤ 100000) :
    Calls Tryz.prog 92 #[.slice ar n cr, .int .i64 (n : Int), .slice (some ⟨nb, 0, none⟩) 1 1] w (InsPost base w r x n) := by
  obtain ⟨i0, hi, hz0, hz1, hz2⟩ := info_parts info94
  obtain ⟨a', hsl, _⟩ := labs_drop ar n cr n (Nat.le_refl _) hcr
  have hO : w.ownsRow base 94 2 (.slice ar n cr) n (r.flatMap enc2) := by have h := H; unfold OwnL at h; rw [hn] at h; exact h
  have HO := Lib.hid hO
  have HX := Lib.hid (lab_src hx)
  have HR := Lib.hid (show r.take n ++ x :: r.drop n = r ++ [x] by rw [← hn, List.take_length, List.drop_length])
  have HN := Lib.hid hn
  have HB := Lib.hid hb
  have HBL := Lib.hid (ownL_block H)
  unfold InsPost
  rw [HR.out]
  clear H hx hO hn hcr
  go_enter Tryz.func92, Tryz.ntmps92
  go_wp2_with (first
    | (at_builtin; refine wpList_append_own _ rfl (.tmp 23) (.tmp 24) 22 rfl base 94 i0 (.agg #[.string ⟨#[]⟩, .string ⟨#[]⟩]) 2 32 Tryz.underlying22 hi hz0 hz1 hz2 rfl (by decide) (.slice ar n cr) n (r.flatMap enc2) rfl HO.out ⟨nb, 0, none⟩ 1 1 (enc2 x) rfl rfl HX.out (by simp [Value.oneCell', enc2]) (by unfold maxLen; omega) (by omega) HB.out ?_; intro v5 w5 hown5 hgr5 hne5
       have g1 : OwnL w5 base v5 (r ++ [x]) := (by unfold OwnL; rw [List.length_append, List.flatMap_append, HN.out]; simpa using hown5)
       have N5 := Lib.hid ((Below.refl base w).grown hgr5 HB.out (fun j hj => HBL.out j hj))
       have O5 := Lib.hid g1
       clear hown5 hgr5 hne5 g1)
    | fail)
  go_ret
  exact ⟨_, rfl, O5.out, N5.out⟩
set_option maxRecDepth 100000 in
set_option maxHeartbeats 4000000 in
theorem insert_shift (base nb n c g i : Nat) (r : List Lm.Lb) (x : Lm.Lb) (w : World) (hn : r.length = n) (hi : i < n) (hc : n + 1 ≤ c) (hc63 : c ≤ maxLen) (H : OwnL w base (.slice (some ⟨g, 0, none⟩) n c) r) (hx : w.heap[nb]? = some (.cells (enc2 x).toArray 94 (0, 0))) (hne : nb ≠ g) (hs : n ≤ 100000) :
    Calls Tryz.prog 92 #[.slice (some ⟨g, 0, none⟩) n c, .int .i64 (i : Int), .slice (some ⟨nb, 0, none⟩) 1 1] w (InsPost base w r x i) := by
  obtain ⟨hlen, hrow⟩ := H
  rcases hrow with ⟨h0, _⟩ | ⟨g', cap, cur, hv, hbg, hg, hq1, hq2, hcs, ht⟩
  · cases h0
  injection hv with e1 e2 e3
  have eg : g = g' := by injection e1 with e1; injection e1
  subst eg e3
  clear e1 e2 hq1 hq2
  rw [hn] at ht
  have hcl : cur.toList.length = c * 2 := by simpa using hcs
  obtain ⟨n1, hn1⟩ : ∃ n1, n + 1 = n1 := ⟨_, rfl⟩
  obtain ⟨i1, hi1⟩ : ∃ i1, i + 1 = i1 := ⟨_, rfl⟩
  obtain ⟨o0, ho0⟩ : ∃ o0, i * 2 = o0 := ⟨_, rfl⟩
  obtain ⟨o1, ho1⟩ : ∃ o1, i1 * 2 = o1 := ⟨_, rfl⟩
  obtain ⟨p, hp⟩ : ∃ p, n - i = p := ⟨_, rfl⟩
  obtain ⟨q, hq⟩ : ∃ q, n1 - i = q := ⟨_, rfl⟩
  obtain ⟨c0, hc0⟩ : ∃ c0, c - i = c0 := ⟨_, rfl⟩
  obtain ⟨c1, hc1⟩ : ∃ c1, c - i1 = c1 := ⟨_, rfl⟩
  have hp1 : n1 - i1 = p := by omega
  have hs1 := slice_lo g n c i (by omega) (by omega)
  have hs2 := slice_hi (some ⟨g, 0, none⟩) n c n1 (by omega)
  have hs3 := slice_lo g n1 c i1 (by omega) (by omega)
  have hs4 := slice_lo g n1 c i (by omega) (by omega)
  rw [ho0, hp, hc0] at hs1
  rw [ho1, hp1, hc1] at hs3
  rw [ho0, hq, hc0] at hs4
  have hov1 := fun W hW hG => hov nb p c1 o1 g W x hW (cur := cur) hG (by omega) hne
  have hn6 : n ≤ 1000000 := by omega
  have hi6 : i ≤ 1000000 := by omega
  obtain ⟨r1, r2, r3⟩ := row_shift cur.toList r x i n c o0 o1 hn hi hcl hc ht ho0 (by rw [hi1]; exact ho1)
  obtain ⟨cs1, hcs1⟩ : ∃ cs1, (r.drop i).flatMap enc2 = cs1 := ⟨_, rfl⟩
  have hl1 : cs1.length = p * 2 := by rw [← hcs1, flat2_len, List.length_drop, hn, hp]
  simp only [hcs1] at r1 r2 r3
  have hsrc1 : ∀ j v, cs1[j]? = some v → w.drew.cell? ((⟨g, o0, none⟩ : Addr).add j) = some v := fun j v hj => by
    rw [add_at, show w.drew.cell? ⟨g, o0 + j, none⟩ = w.cell? ⟨g, o0 + j, none⟩ from rfl, cell_of_row _ _ _ _ _ _ hg, ← Array.getElem?_toList]
    have h1 : (cur.toList.take (n * 2))[o0 + j]? = some v := by
      rw [ht]
      conv => lhs; rw [← List.take_append_drop i r, List.flatMap_append]
      rw [List.getElem?_append_right (by rw [flat2_len, List.length_take]; omega), hcs1, flat2_len, List.length_take, Nat.min_eq_left (by omega), ho0, Nat.add_sub_cancel_left]
      exact hj
    rw [List.getElem?_take] at h1
    split at h1
    · exact h1
    · cases h1
  have hone1 : ∀ v ∈ cs1, v.oneCell' = true := by rw [← hcs1]; exact enc2_one _
  obtain ⟨L1, hL1⟩ : ∃ L1, cur.toList.take o1 ++ cs1 ++ cur.toList.drop (o1 + cs1.length) = L1 := ⟨_, rfl⟩
  have hcp1 : ∀ ty, (Builtin.copy_ #[22, 22] ty #[.slice (some ⟨g, o1, none⟩) p c1, .slice (some ⟨g, o0, none⟩) q c0]).run Tryz.prog w.drew = .ok (goInt p) (w.drew.setRow g L1.toArray) := fun ty => by
    have h := copy_two w.drew ty g o1 p c1 ⟨g, o0, none⟩ q c0 p cur cs1 hg (by simp only [Nat.min_def]; split <;> omega) hl1 hsrc1 (by rw [hl1, hcs]; omega) hone1
    rw [hL1] at h
    exact h
  rw [hL1] at r1 r2 r3
  obtain ⟨W1, hW1⟩ : ∃ W1, w.drew.setRow g L1.toArray = W1 := ⟨_, rfl⟩
  rw [hW1] at hcp1
  have hO1 : Only [g] w W1 := by rw [← hW1]; exact (Only.refl [g] w).drew.trans (only_row w.drew g L1.toArray) (fun x hx => .inl hx)
  have hG1 : W1.heap[g]? = some (.cells L1.toArray 94 (0, 0)) := by rw [← hW1]; exact block_row (w := w.drew) hg _
  have hX1 : W1.heap[nb]? = some (.cells (enc2 x).toArray 94 (0, 0)) := (hO1.block nb (Array.getElem?_eq_some_iff.1 hx).1 (by simpa using hne)).trans hx
  obtain ⟨L2, hL2⟩ : ∃ L2, L1.take o0 ++ enc2 x ++ L1.drop (o0 + (enc2 x).length) = L2 := ⟨_, rfl⟩
  rw [hL2] at r2 r3
  have hcp2 : ∀ ty, (Builtin.copy_ #[22, 22] ty #[.slice (some ⟨g, o0, none⟩) q c0, .slice (some ⟨nb, 0, none⟩) 1 1]).run Tryz.prog W1 = .ok (goInt 1) (W1.setRow g L2.toArray) := fun ty => by
    have h := copy_two W1 ty g o0 q c0 ⟨nb, 0, none⟩ 1 1 1 L1.toArray (enc2 x) hG1 (by simp only [Nat.min_def]; split <;> omega) rfl (lab_src hX1) (by rw [List.size_toArray, r1]; simp [enc2]; omega) (by simp [Value.oneCell', enc2])
    rw [show L1.toArray.toList = L1 from rfl, hL2] at h
    exact h
  have HEND := Lib.hid (show InsPost base w r x i (.returned (.slice (some ⟨g, 0, none⟩) n1 c)) (W1.setRow g L2.toArray) from by
    have hO2 : Only [g] w (W1.setRow g L2.toArray) := hO1.trans (only_row W1 g L2.toArray) (fun x hx => .inl hx)
    have hll : (r.take i ++ x :: r.drop i).length = n1 := by rw [List.length_append, List.length_cons, List.length_take, List.length_drop]; omega
    refine ⟨_, rfl, ?_, hO2.below (Nat.le_of_lt (Nat.lt_of_le_of_lt hbg (Array.getElem?_eq_some_iff.1 hg).1)) (fun k hk => by simp at hk; omega)⟩
    unfold OwnL
    rw [hll]
    refine ⟨by rw [flat2_len, hll], .inr ⟨g, c, L2.toArray, rfl, hbg, block_row hG1 _, by omega, hc63, by rw [List.size_toArray]; exact r2, ?_⟩⟩
    rw [← hn1]
    exact r3)
  have g1 : ((1 : Int) == 0) = false := rfl
  have g2 : ((i : Int) == (n : Int)) = false := by simp; omega
  have g3 : decide ((n1 : Int) > (c : Int)) = false := decide_eq_false (by omega)
  have g4 : decide ((c : Int) < (n1 : Int)) = false := decide_eq_false (by omega)
  have g5 : decide (c < n1) = false := decide_eq_false (by omega)
  have hovw := hov1 w hx hg
  obtain ⟨a1, a2⟩ := addW n hn6
  obtain ⟨b1, b2⟩ := addW i hi6
  rw [hn1] at a1 a2
  rw [hi1] at b1 b2
  clear hn6 hi6 hsrc1 hone1 hlen hg hx hcs hcl ht hn hi hc r1 r2 r3 hn1 hi1 ho0 ho1 hp hq hc0 hc1 hp1 hl1 hcs1 hO1 hG1 hX1 hov1 hL1 hL2 hW1 hbg hs hne hc63
  have mixed : Tryz.prog.follows Departure.mixedOrders = true := by kernel_rfl
  go_enter Tryz.func92, Tryz.ntmps92
  go_wp2_with fail
  go_region_law_o (refine step_copy_runI rfl _ _ 22 22 rfl _ _ (by simp [Act.eval, Act.put]) (by simp [Act.eval, Act.put]) (hcp1 _) ?_)
  go_wp2_with (at_builtin; refine wpList_copy_runI _ rfl _ _ 22 22 rfl _ _ rfl rfl (hcp2 _) ?_)
  go_ret
  exact HEND.out
/-- the row behind two copies, made anew -/
theorem row_grow (Z : List Value) (r : List Lm.Lb) (x : Lm.Lb) (i n G o0 o1 : Nat) (hn : r.length = n) (hi : i < n) (hG : n + 1 ≤ G) (hZ : o0 + Z.length = G * 2) (h0 : i * 2 = o0) (h1 : (i + 1) * 2 = o1) :
    let cs1 := (r.drop i).flatMap enc2
    let cur := (r.take i).flatMap enc2 ++ Z
    let cur1 := cur.take o0 ++ enc2 x ++ cur.drop (o0 + (enc2 x).length)
    let cur2 := cur1.take o1 ++ cs1 ++ cur1.drop (o1 + cs1.length)
    cur1.length = G * 2 ∧ cur2.length = G * 2 ∧ cur2.take ((n + 1) * 2) = (r.take i ++ x :: r.drop i).flatMap enc2 := by
  intro cs1 cur cur1 cur2
  have l1 : cs1.length = (n - i) * 2 := by show ((r.drop i).flatMap enc2).length = _; rw [flat2_len, List.length_drop, hn]
  have lx : (enc2 x).length = 2 := rfl
  have lt : ((r.take i).flatMap enc2).length = o0 := by rw [flat2_len, List.length_take, ← h0, Nat.min_eq_left (by omega)]
  have lc : cur.length = G * 2 := by
    show ((r.take i).flatMap enc2 ++ Z).length = _
    rw [List.length_append, lt, hZ]
  have e0 : cur.take o0 = (r.take i).flatMap enc2 := List.take_left' lt
  have e1 : cur1 = (r.take i).flatMap enc2 ++ enc2 x ++ cur.drop (o0 + 2) := by
    show cur.take o0 ++ enc2 x ++ cur.drop (o0 + (enc2 x).length) = _
    rw [e0, lx]
  have lc1 : cur1.length = G * 2 := by
    rw [e1]
    simp only [List.length_append, lt, lx, List.length_drop, lc]
    omega
  have e2 : cur1.take o1 = (r.take i).flatMap enc2 ++ enc2 x := by
    rw [e1]
    exact List.take_left' (by rw [List.length_append, lt, lx]; omega)
  have e3 : cur2 = (r.take i).flatMap enc2 ++ enc2 x ++ cs1 ++ cur1.drop (o1 + cs1.length) := by
    show cur1.take o1 ++ cs1 ++ cur1.drop (o1 + cs1.length) = _
    rw [e2]
  refine ⟨lc1, ?_, ?_⟩
  · rw [e3]
    simp only [List.length_append, lt, lx, l1, List.length_drop, lc1]
    omega
  · rw [e3]
    have e5 : (r.take i ++ x :: r.drop i).flatMap enc2 = (r.take i).flatMap enc2 ++ enc2 x ++ cs1 := by
      rw [List.flatMap_append, List.flatMap_cons, ← List.append_assoc]
    rw [e5]
    refine List.take_left' ?_
    simp only [List.length_append, l1, lx, lt]
    omega
set_option maxRecDepth 100000 in
set_option maxHeartbeats 4000000 in
theorem insert_grow (base nb n c g i : Nat) (r : List Lm.Lb) (x : Lm.Lb) (w : World) (hn : r.length = n) (hi : i < n) (hnc : n ≤ c) (hc : c < n + 1) (hb : base ≤ w.heap.size) (H : OwnL w base (.slice (some ⟨g, 0, none⟩) n c) r) (hx : w.heap[nb]? = some (.cells (enc2 x).toArray 94 (0, 0))) (hs : n ≤ 100000) :
    Calls Tryz.prog 92 #[.slice (some ⟨g, 0, none⟩) n c, .int .i64 (i : Int), .slice (some ⟨nb, 0, none⟩) 1 1] w (InsPost base w r x i) := by
  obtain ⟨i0, hi0, hz0, hzs, hzb⟩ := info_parts info94
  obtain ⟨hlen, hrow⟩ := H
  rcases hrow with ⟨h0, _⟩ | ⟨g', cap, cur, hv, hbg, hg, hq1, hq2, hcs, ht⟩
  · cases h0
  injection hv with e1 e2 e3
  have eg : g = g' := by injection e1 with e1; injection e1
  subst eg e3
  clear e1 e2 hq1 hq2
  rw [hn] at ht
  obtain ⟨n1, hn1⟩ : ∃ n1, n + 1 = n1 := ⟨_, rfl⟩
  obtain ⟨i1, hi1⟩ : ∃ i1, i + 1 = i1 := ⟨_, rfl⟩
  obtain ⟨o0, ho0⟩ : ∃ o0, i * 2 = o0 := ⟨_, rfl⟩
  obtain ⟨o1, ho1⟩ : ∃ o1, i1 * 2 = o1 := ⟨_, rfl⟩
  obtain ⟨p, hp⟩ : ∃ p, n - i = p := ⟨_, rfl⟩
  obtain ⟨q, hq⟩ : ∃ q, n1 - i = q := ⟨_, rfl⟩
  obtain ⟨c0, hc0⟩ : ∃ c0, c - i = c0 := ⟨_, rfl⟩
  obtain ⟨G, hG⟩ : ∃ G, grownCap w n1 c 94 = G := ⟨_, rfl⟩
  obtain ⟨G0, hG0⟩ : ∃ G0, G - i = G0 := ⟨_, rfl⟩
  obtain ⟨G1, hG1⟩ : ∃ G1, G - i1 = G1 := ⟨_, rfl⟩
  obtain ⟨N, hN⟩ : ∃ N, w.heap.size = N := ⟨_, rfl⟩
  have hGn : n1 ≤ G := by rw [← hG]; exact grownCap_ge w _ _ _
  have hG63 : G ≤ maxLen := by rw [← hG]; exact grownCap_le_maxLen w n1 c 94 (by unfold maxLen; omega)
  have hp1 : n1 - i1 = p := by omega
  have hgl : g < N := by rw [← hN]; exact (Array.getElem?_eq_some_iff.1 hg).1
  have hnl : nb < N := by rw [← hN]; exact (Array.getElem?_eq_some_iff.1 hx).1
  have hs1 := slice_lo g n c i (by omega) (by omega)
  have hs2 := slice_hi (some ⟨g, 0, none⟩) n c i (by omega)
  have hs3 := slice_lo N n1 G i1 (by omega) (by omega)
  have hs4 := slice_lo N n1 G i (by omega) (by omega)
  rw [ho0, hp, hc0] at hs1
  rw [ho1, hp1, hG1] at hs3
  rw [ho0, hq, hG0] at hs4
  have hn6 : n ≤ 1000000 := by omega
  have hi6 : i ≤ 1000000 := by omega
  have hn16 : n1 ≤ 1000000 := by omega
  have hin1 : i ≤ n1 := by omega
  obtain ⟨T, hT⟩ : ∃ T, (r.take i).flatMap enc2 = T := ⟨_, rfl⟩
  have hTl : T.length = i * 2 := by rw [← hT, flat2_len, List.length_take, Nat.min_eq_left (by omega)]
  have hcell : ∀ j v, (r.flatMap enc2)[j]? = some v → w.cell? ⟨g, j, none⟩ = some v := fun j v hj => by
    rw [cell_of_row _ _ _ _ _ _ hg, ← Array.getElem?_toList]
    rw [← ht, List.getElem?_take] at hj
    split at hj
    · exact hj
    · cases hj
  have hold : (Builtin.firstCells i0.size i (.slice (some ⟨g, 0, none⟩) i c)).run Tryz.prog w.drew = .ok T.toArray w.drew := by
    rw [hzs]
    refine run_firstCells_some w.drew 2 i ⟨g, 0, none⟩ i c T hTl (fun j v hj => ?_)
    rw [add_here]
    refine hcell j v ?_
    have h2 : ((r.flatMap enc2).take (i * 2))[j]? = some v := by rw [flat2_take r i (by omega), hT]; exact hj
    rw [List.getElem?_take] at h2
    split at h2
    · exact h2
    · cases h2
  obtain ⟨Z, hZ⟩ : ∃ Z, (Builtin.zeroCells (Value.agg #[.string ⟨#[]⟩, .string ⟨#[]⟩]).cells q ++ Builtin.zeroCells (Value.agg #[.string ⟨#[]⟩, .string ⟨#[]⟩]).cells (G - n1)).toList = Z := ⟨_, rfl⟩
  have hZl : o0 + Z.length = G * 2 := by
    rw [← hZ]
    simp [Builtin.zeroCells, Value.cells]
    omega
  have hrz : ∀ ty, (Builtin.append_ #[22, 3] ty #[.slice (some ⟨g, 0, none⟩) i c, .int .i64 (q : Int)]).run Tryz.prog w = .ok (.slice (some ⟨N, 0, none⟩) n1 G) (w.drew.alloc (.cells (T ++ Z).toArray 94)) := fun ty => by
    have hik : i + q = n1 := by omega
    have h := Lib.run_append_grow_zeros w 22 3 ty 94 i0 _ .i64 .i64 Tryz.underlying22 Tryz.underlying3 hi0 hz0 (some ⟨g, 0, none⟩) i c T hold q (by omega) (by omega) (by omega) (by omega) (by rw [hzb]; omega) (by rw [hzb, hik]; exact growslice_fits (by omega) (by omega))
    rw [hik, hG, hN] at h
    rw [h]
    congr 3
    apply Array.toList_inj.1
    rw [← hZ]
    simp
  obtain ⟨r1, r2, r3⟩ := row_grow Z r x i n G o0 o1 hn hi (by omega) hZl ho0 (by rw [hi1]; exact ho1)
  obtain ⟨cs1, hcs1⟩ : ∃ cs1, (r.drop i).flatMap enc2 = cs1 := ⟨_, rfl⟩
  have hl1 : cs1.length = p * 2 := by rw [← hcs1, flat2_len, List.length_drop, hn, hp]
  simp only [hcs1, hT] at r1 r2 r3
  obtain ⟨W0, hW0⟩ : ∃ W0, w.drew.alloc (.cells (T ++ Z).toArray 94) = W0 := ⟨_, rfl⟩
  rw [hW0] at hrz
  have hB0 : Below N w W0 := by rw [← hW0, ← hN]; exact (Below.refl w.heap.size w).drew.alloc (Nat.le_refl _) _
  have hR0 : W0.heap[N]? = some (.cells (T ++ Z).toArray 94 (0, 0)) := by rw [← hW0, ← hN]; exact heap_alloc_new w.drew _
  have hX0 : W0.heap[nb]? = some (.cells (enc2 x).toArray 94 (0, 0)) := (hB0.block nb hnl).trans hx
  have hg0 : W0.heap[g]? = some (.cells cur 94 (0, 0)) := (hB0.block g hgl).trans hg
  have hszTZ : (T ++ Z).length = G * 2 := by rw [List.length_append, hTl, ho0]; exact hZl
  obtain ⟨L1, hL1⟩ : ∃ L1, (T ++ Z).take o0 ++ enc2 x ++ (T ++ Z).drop (o0 + (enc2 x).length) = L1 := ⟨_, rfl⟩
  rw [hL1] at r1 r2 r3
  have hcp1 : ∀ ty, (Builtin.copy_ #[22, 22] ty #[.slice (some ⟨N, o0, none⟩) q G0, .slice (some ⟨nb, 0, none⟩) 1 1]).run Tryz.prog W0 = .ok (goInt 1) (W0.setRow N L1.toArray) := fun ty => by
    have h := copy_two W0 ty N o0 q G0 ⟨nb, 0, none⟩ 1 1 1 (T ++ Z).toArray (enc2 x) hR0 (by simp only [Nat.min_def]; split <;> omega) rfl (lab_src hX0) (by rw [List.size_toArray, hszTZ]; simp [enc2]; omega) (by simp [Value.oneCell', enc2])
    rw [show (T ++ Z).toArray.toList = T ++ Z from rfl, hL1] at h
    exact h
  obtain ⟨W1, hW1⟩ : ∃ W1, W0.setRow N L1.toArray = W1 := ⟨_, rfl⟩
  rw [hW1] at hcp1
  have hB1 : Below N w W1 := by rw [← hW1]; exact below_setRow hB0 (Nat.le_refl _) _
  have hR1 : W1.heap[N]? = some (.cells L1.toArray 94 (0, 0)) := by rw [← hW1]; exact block_row hR0 _
  have hg1 : W1.heap[g]? = some (.cells cur 94 (0, 0)) := (hB1.block g hgl).trans hg
  have hsrc2 : ∀ j v, cs1[j]? = some v → W1.drew.cell? ((⟨g, o0, none⟩ : Addr).add j) = some v := fun j v hj => by
    rw [add_at, show W1.drew.cell? ⟨g, o0 + j, none⟩ = W1.cell? ⟨g, o0 + j, none⟩ from rfl, hB1.cell (p := ⟨g, o0 + j, none⟩) hgl]
    refine hcell _ v ?_
    conv => lhs; rw [← List.take_append_drop i r, List.flatMap_append]
    rw [List.getElem?_append_right (by rw [flat2_len, List.length_take]; omega), hcs1, flat2_len, List.length_take, Nat.min_eq_left (by omega), ho0, Nat.add_sub_cancel_left]
    exact hj
  have hone1 : ∀ v ∈ cs1, v.oneCell' = true := by rw [← hcs1]; exact enc2_one _
  obtain ⟨L2, hL2⟩ : ∃ L2, L1.take o1 ++ cs1 ++ L1.drop (o1 + cs1.length) = L2 := ⟨_, rfl⟩
  rw [hL2] at r2 r3
  have hcp2 : ∀ ty, (Builtin.copy_ #[22, 22] ty #[.slice (some ⟨N, o1, none⟩) p G1, .slice (some ⟨g, o0, none⟩) p c0]).run Tryz.prog W1.drew = .ok (goInt p) (W1.drew.setRow N L2.toArray) := fun ty => by
    have h := copy_two W1.drew ty N o1 p G1 ⟨g, o0, none⟩ p c0 p L1.toArray cs1 hR1 (by simp) hl1 hsrc2 (by rw [List.size_toArray, hl1, r1]; omega) hone1
    rw [show L1.toArray.toList = L1 from rfl, hL2] at h
    exact h
  obtain ⟨W2, hW2⟩ : ∃ W2, W1.drew.setRow N L2.toArray = W2 := ⟨_, rfl⟩
  rw [hW2] at hcp2
  have HEND := Lib.hid (show InsPost base w r x i (.returned (.slice (some ⟨N, 0, none⟩) n1 G)) W2 from by
    have hB2 : Below N w W2 := by rw [← hW2]; exact below_setRow hB1.drew (Nat.le_refl _) _
    have hll : (r.take i ++ x :: r.drop i).length = n1 := by rw [List.length_append, List.length_cons, List.length_take, List.length_drop]; omega
    refine ⟨_, rfl, ?_, ⟨hB2.os, hB2.tape, hB2.output, hB2.size, fun k hk => hB2.block k (by omega)⟩⟩
    unfold OwnL
    rw [hll]
    refine ⟨by rw [flat2_len, hll], .inr ⟨N, G, L2.toArray, rfl, by omega, by rw [← hW2]; exact block_row (w := W1.drew) hR1 _, hGn, hG63, by rw [List.size_toArray]; exact r2, ?_⟩⟩
    rw [← hn1]
    exact r3)
  have g1 : ((1 : Int) == 0) = false := rfl
  have g2 : ((i : Int) == (n : Int)) = false := by simp; omega
  have g3 : decide ((n1 : Int) > (c : Int)) = true := decide_eq_true (by omega)
  have g4 : decide ((c : Int) < (n1 : Int)) = true := decide_eq_true (by omega)
  have g5 : decide (c < n1) = true := decide_eq_true (by omega)
  obtain ⟨a1, a2⟩ := addW n hn6
  obtain ⟨b1, b2⟩ := addW i hi6
  obtain ⟨d1, d2⟩ := subW n1 i q hn16 hin1 hq
  rw [hn1] at a1 a2
  rw [hi1] at b1 b2
  have mixed : Tryz.prog.follows Departure.mixedOrders = true := by kernel_rfl
  clear hn6 hi6 hn16 hin1 hsrc2 hone1 hlen hg hx hcs ht hn hi hnc hc r1 r2 r3 hn1 hi1 ho0 ho1 hp hq hc0 hG0 hG1 hp1 hl1 hcs1 hB0 hR0 hX0 hg0 hszTZ hL1 hL2 hW0 hW1 hW2 hB1 hR1 hg1 hZ hZl hTl hT hcell hold hGn hG63 hG hgl hnl hN hbg hs hb hi0 hz0 hzs hzb
  go_enter Tryz.func92, Tryz.ntmps92
  go_wp2_with (first
    | (at_builtin; refine Lib.wpList_append_run _ rfl _ _ _ _ rfl _ _ rfl rfl _ _ (hrz _) ?_)
    | (at_builtin; refine wpList_copy_runI _ rfl _ _ 22 22 rfl _ _ rfl rfl (hcp1 _) ?_))
  go_region_law_o (refine step_copy_runI rfl _ _ 22 22 rfl _ _ (by simp [Act.eval, Act.put]) (by simp [Act.eval, Act.put]) (hcp2 _) ?_)
  go_wp2
  go_ret
  exact HEND.out
end Go.Proofs.YtiolghcjndoigaaGreatDoor
namespace Go.Proofs.YtiolghcjndoigaaGreatDoor
set_option linter.unusedVariables false
set_option linter.unusedSimpArgs false
open Go.RowKit Go.PlainAid Go.Shelf
/-- with a label -/
def withL (s v : ByteArray) (l : List Lm.Lb) : List Lm.Lb := if v = ⟨#[]⟩ then l.filter (fun x => !hasB [s] x.1) else insL (s, v) (l.filter fun x => !hasB [s] x.1)
set_option maxRecDepth 100000 in
set_option maxHeartbeats 4000000 in
theorem rwith_any (a : Option Addr) (c : Nat) (l : List Lm.Lb) (s v : ByteArray) (w : World) (H : Labs w a l) (hz : l.length ≤ 100000) :
    Calls Tryz.prog 30 #[.slice a l.length c, .string s, .string v] w fun e w' => ∃ u, e = .returned u ∧ OwnL w' w.heap.size u (withL s v l) ∧ Below w.heap.size w w' := by
  obtain ⟨i0, hi, hz0, hz1, hz2⟩ := info_parts info94
  have hA : Below w.heap.size w (w.alloc (.cells #[.string s] 9)) := (Below.refl _ w).alloc (Nat.le_refl _) _
  have HA := Lib.hid hA
  have HST : Strs (w.alloc (.cells #[.string s] 9)) (some ⟨w.heap.size, 0, none⟩) [s] := fun _ => ⟨w.heap.size, 0, rfl, by simp, fun i hi => by
    have : i = 0 := by simpa using hi
    subst this
    rw [cell_of_row _ _ _ _ _ _ (heap_alloc_new w _)]
    rfl⟩
  have CW := Lib.hid (show Calls Tryz.prog 32 #[.slice a l.length c, .slice (some ⟨w.heap.size, 0, none⟩) 1 1] (w.alloc (.cells #[.string s] 9)) _ from rwithout_any a _ c 1 l [s] (w.alloc (.cells #[.string s] 9)) (H.below hA) HST hz (by unfold maxLen; simp))
  obtain ⟨r, hr⟩ : ∃ r, (l.filter fun x => !hasB [s] x.1) = r := ⟨_, rfl⟩
  have HRL : r.length ≤ 100000 := by rw [← hr]; exact Nat.le_trans (List.length_filter_le _ _) hz
  have HW := Lib.hid (show withL s v l = if v = ⟨#[]⟩ then r else insL (s, v) r by unfold withL; rw [hr])
  rw [hr] at CW
  obtain ⟨R, hR⟩ : ∃ R, withL s v l = R := ⟨_, rfl⟩
  rw [hR] at HW ⊢
  obtain ⟨n0, hn0⟩ : ∃ n, l.length = n := ⟨_, rfl⟩
  rw [hn0] at CW ⊢
  clear H HST hr hR hn0 hz hA
  go_enter Tryz.func30, Tryz.ntmps30
  go_wp2_with fail
  refine CW.out.mono ?_
  rintro e w1 ⟨v1, rfl, ho, hb⟩
  have B1 := Lib.hid (HA.out.trans (hb.mono HA.out.size))
  have hlow : OwnL w1 w.heap.size v1 r := ho.lower HA.out.size
  clear hb CW
  obtain ⟨ar, cr, rfl, hL, _⟩ := hlow.labs
  have HL := Lib.hid hL
  have OR := Lib.hid hlow
  have HCR := Lib.hid (show (ar = none → r = [] ∧ cr = 0) ∧ r.length ≤ cr from by
    obtain ⟨_, h2⟩ := hlow
    rcases h2 with ⟨hv, h0⟩ | ⟨g, cap, cur, hv, _, _, h3, _⟩
    · injection hv with e1 e2 e3
      exact ⟨fun _ => ⟨List.eq_nil_of_length_eq_zero h0, e3⟩, by omega⟩
    · injection hv with e1 e2 e3
      exact ⟨fun h => (by rw [h] at e1; cases e1), by omega⟩)
  obtain ⟨n, hn⟩ : ∃ n, r.length = n := ⟨_, rfl⟩
  have HN := Lib.hid hn
  rw [hn] at HRL ⊢
  clear ho hlow hL hn
  by_cases hv : v = ⟨#[]⟩
  · have h2 : v.toList = [] := by rw [hv, ByteArray.toList_eq]
    have h3 : v.toList.isEmpty = true := by rw [h2]; rfl
    have E := Lib.hid (show R = r by rw [HW.out, if_pos hv])
    have O2 : Hid (OwnL w1 w.heap.size (.slice ar n cr) r) := Lib.hid (by have h := OR.out; rw [HN.out] at h; exact h)
    clear hv OR
    go_wp2
    go_ret
    exact ⟨_, rfl, by rw [E.out]; exact O2.out, B1.out⟩
  have h2 : ¬ v.toList = [] := fun e => hv ((toList_iff _ _).1 (by rw [e, ByteArray.toList_eq]))
  have h3 : v.toList.isEmpty = false := by cases hh : v.toList with
    | nil => exact absurd hh h2
    | cons => rfl
  have HR := Lib.hid (show R = insL (s, v) r by rw [HW.out, if_neg hv])
  clear hv HW OR
  cases ar with
  | none =>
    obtain ⟨hr0, rfl⟩ := HCR.out.1 rfl
    subst hr0
    have hn0 : n = 0 := HN.out.symm
    subst hn0
    obtain ⟨a', hs, hn1, _, _⟩ := labs_drop none 0 0 0 (Nat.le_refl _) (Nat.le_refl _)
    rw [hn1 rfl] at hs
    have hs' : ∀ w, (Instr.slice 22 (.slice none 0 0) (some (.int .i64 0)) none none).run Tryz.prog w = .ok (.slice none 0 0) w := hs
    have HI := Lib.hid (show R = [(s, v)] from HR.out)
    clear hs hn1
    go_wp2
    go_loopw [8, 9] (fun u i wr => u = .slice none 0 0 ∧ i = .int .i64 0 ∧ Hid (Below w1.heap.size w1 wr)) (fun _ i _ => 0)
    case atStart => exact ⟨rfl, rfl, Lib.hid (Below.refl _ _)⟩
    case round =>
      obtain ⟨rfl, rfl, HB⟩ := hrel
      have hws : w1.heap.size ≤ wr.heap.size := HB.out.size
      go_wp2_with (first
        | (at_builtin; refine wpList_append_own _ rfl (.tmp 39) (.tmp 43) 22 rfl w1.heap.size 94 i0 (.agg #[.string ⟨#[]⟩, .string ⟨#[]⟩]) 2 32 Tryz.underlying22 hi hz0 hz1 hz2 rfl (by decide) (.slice none 0 0) 0 [] rfl (World.ownsRow_nil _ _ _ _) ⟨wr.heap.size, 0, none⟩ 1 1 (enc2 (s, v)) rfl rfl (two_new wr (s, v)) (by simp [Value.oneCell', enc2]) (by unfold maxLen; omega) (by omega) (by simp; omega) ?_; intro v5 w5 hown5 hgr5 hne5
           have g1 : OwnL w5 w1.heap.size v5 [(s, v)] := (by unfold OwnL; simpa using hown5)
           have hbA : Below wr.heap.size wr (wr.alloc (.cells #[.string s, .string v] 94)) := (Below.refl _ wr).alloc (Nat.le_refl _) _
           have B5 := Lib.hid ((HB.out.trans (hbA.mono hws)).grown hgr5 (by simp; omega) (fun j hj => by cases hj))
           have O5 := Lib.hid g1
           obtain ⟨a5, c5, rfl⟩ := ownL_shape g1
           have HON5 : Hid (w5.ownsRow w1.heap.size 94 2 (.slice a5 1 c5) 1 (enc2 (s, v))) := Lib.hid (by have h := g1; unfold OwnL at h; simpa using h)
           clear hown5 hgr5 hne5 g1 hbA)
        | (at_builtin; refine wpList_append_own_none rfl (.tmp 45) (.tmp 48) 22 rfl w1.heap.size 94 i0 2 Tryz.underlying22 hi (.slice a5 1 c5) 1 (enc2 (s, v)) rfl HON5.out rfl ?_)
        | fail)
      go_ret
      exact ⟨_, rfl, by rw [HI.out]; exact O5.out.lower B1.out.size, B1.out.trans (B5.out.mono B1.out.size)⟩
  | some ad =>
    have hcr : n ≤ cr := by have := HCR.out.2; rw [HN.out] at this; exact this
    go_wp2
    go_loopw [8, 9] (fun u i wr => ∃ k : Nat, k ≤ n ∧ i = .int .i64 (k : Nat) ∧ Hid (OwnL wr w1.heap.size u (r.take k)) ∧ Hid (Below w1.heap.size w1 wr) ∧ Hid (insL (s, v) r = r.take k ++ insL (s, v) (r.drop k))) (fun _ i _ => n - (intOf i).toNat)
    case atStart => exact ⟨0, Nat.zero_le _, rfl, Lib.hid (World.ownsRow_nil _ _ _ _), Lib.hid (Below.refl _ _), Lib.hid rfl⟩
    case round =>
      obtain ⟨k, hk, rfl, HO, HB, HE⟩ := hrel
      obtain ⟨av, cv, rfl⟩ := ownL_shape HO.out
      have hkt : (r.take k).length = k := by rw [List.length_take, HN.out]; omega
      have HKT := Lib.hid hkt
      rw [hkt] at HO ⊢
      clear hkt
      by_cases hkn : k < n
      · have da : decide ((k : Int) < (n : Int)) = true := decide_eq_true (by omega)
        have da2 : decide (k < n) = true := decide_eq_true hkn
        have i1 : (k : Int) < (n : Int) := by omega
        have hkl : k < r.length := by rw [HN.out]; exact hkn
        obtain ⟨b1, o1, had, hb1, hc1⟩ := (HL.out.below HB.out) (by intro e; rw [e] at hkl; simp at hkl)
        cases had
        obtain ⟨p1, p2⟩ := hc1 k hkl
        obtain ⟨⟨y1, y2⟩, hy⟩ : ∃ x, r[k] = x := ⟨_, rfl⟩
        rw [hy] at p1 p2
        simp only at p1 p2
        have hl := less_strC y1 s
        have hq := toList_eqb y1 s
        have hs := Lm.strC_lin.same y1 s
        have dk : r.drop k = (y1, y2) :: r.drop (k + 1) := by rw [← hy]; exact List.drop_eq_getElem_cons hkl
        clear hc1
        by_cases hr : Lm.strC y1 s ≤ 0
        · have hor : (Op.bytesLess y1.toList s.toList || y1.toList == s.toList) = true := by
            rw [hl, hq]
            by_cases e : Lm.strC y1 s < 0
            · rw [decide_eq_true e]; rfl
            · rw [decide_eq_true (hs.1 (by omega)), Bool.or_true]
          have HT := Lib.hid (show r.take (k + 1) = r.take k ++ [(y1, y2)] by rw [List.take_succ_eq_append_getElem hkl, hy])
          have HE2 := Lib.hid (show insL (s, v) r = r.take (k + 1) ++ insL (s, v) (r.drop (k + 1)) by
            rw [HE.out, dk, HT.out, insL, if_pos hr, List.append_assoc]; rfl)
          clear hl hq hs hy dk
          have hws : w1.heap.size ≤ wr.heap.size := HB.out.size
          have HON1 : Hid (∀ o : Obj, (wr.alloc o).ownsRow w1.heap.size 94 2 (.slice av k cv) k ((r.take k).flatMap enc2)) := Lib.hid (fun o => by
            have h := HO.out.below ((Below.refl wr.heap.size wr).alloc (Nat.le_refl _) o)
            unfold OwnL at h
            rw [HKT.out] at h
            exact h)
          have HOB := Lib.hid (ownL_block HO.out)
          go_wp2_with (first
          | (at_builtin; refine wpList_append_own _ rfl (.tmp 30) (.tmp 35) 22 rfl w1.heap.size 94 i0 (.agg #[.string ⟨#[]⟩, .string ⟨#[]⟩]) 2 32 Tryz.underlying22 hi hz0 hz1 hz2 rfl (by decide) (.slice av k cv) k ((r.take k).flatMap enc2) rfl (HON1.out _) ⟨wr.heap.size, 0, none⟩ 1 1 (enc2 (y1, y2)) rfl rfl (two_new wr (y1, y2)) (by simp [Value.oneCell', enc2]) (by unfold maxLen; omega) (by omega) (by simp; omega) ?_; intro v5 w5 hown5 hgr5 hne5
             have g1 : OwnL w5 w1.heap.size v5 (r.take k ++ [(y1, y2)]) := (by unfold OwnL; rw [List.length_append, List.flatMap_append, HKT.out]; simpa using hown5)
             have hbA : Below wr.heap.size wr (wr.alloc (.cells #[.string y1, .string y2] 94)) := (Below.refl _ wr).alloc (Nat.le_refl _) _
             have B5 := Lib.hid ((HB.out.trans (hbA.mono hws)).grown hgr5 (by simp; omega) (fun j hj => HOB.out j hj))
             have O5 := Lib.hid g1
             obtain ⟨a5, c5, rfl⟩ := ownL_shape g1
             have hk5 : (r.take k ++ [(y1, y2)]).length = k + 1 := by rw [List.length_append, HKT.out]; rfl
             rw [hk5] at O5 ⊢
             clear hown5 hgr5 hne5 hbA)
          | fail)
          go_roundw
          case rel => exact ⟨k + 1, by omega, by simp, Lib.hid (by rw [HT.out]; exact O5.out), B5, HE2⟩
          case measure => simp [intOf]; omega
        · rw [decide_eq_false (by omega)] at hl
          rw [decide_eq_false (fun e => by have := hs.2 e; omega)] at hq
          have HI := Lib.hid (show R = (r.take k ++ [(s, v)]) ++ r.drop k by
            rw [HR.out, HE.out, dk, insL, if_neg hr, List.append_assoc]; rfl)
          clear hs hy dk hr
          obtain ⟨a', hs, hn1, hn2, hld⟩ := labs_drop (some ⟨b1, o1, none⟩) n cr k hk hcr
          obtain ⟨ad', rfl⟩ := hn2 _ rfl
          have HLD := Lib.hid hld
          obtain ⟨m, hm⟩ : ∃ m, n - k = m := ⟨_, rfl⟩
          obtain ⟨cm, hcm⟩ : ∃ m, cr - k = m := ⟨_, rfl⟩
          have HMM := Lib.hid hm
          have HDL := Lib.hid (show ((r.drop k).flatMap enc2).length = m * 2 by rw [flat2_len, List.length_drop, HN.out, hm])
          have hnk : m ≤ n := by omega
          rw [hm, hcm] at hs
          have hkc : k ≤ cr := by omega
          clear hn1 hn2 hld hm hcm
          have hws : w1.heap.size ≤ wr.heap.size := HB.out.size
          have HON1 : Hid (∀ o : Obj, (wr.alloc o).ownsRow w1.heap.size 94 2 (.slice av k cv) k ((r.take k).flatMap enc2)) := Lib.hid (fun o => by
            have h := HO.out.below ((Below.refl wr.heap.size wr).alloc (Nat.le_refl _) o)
            unfold OwnL at h
            rw [HKT.out] at h
            exact h)
          have HOB := Lib.hid (ownL_block HO.out)
          go_wp2_with (first
          | (at_builtin; refine wpList_append_own _ rfl (.tmp 39) (.tmp 43) 22 rfl w1.heap.size 94 i0 (.agg #[.string ⟨#[]⟩, .string ⟨#[]⟩]) 2 32 Tryz.underlying22 hi hz0 hz1 hz2 rfl (by decide) (.slice av k cv) k ((r.take k).flatMap enc2) rfl (HON1.out _) ⟨wr.heap.size, 0, none⟩ 1 1 (enc2 (s, v)) rfl rfl (two_new wr (s, v)) (by simp [Value.oneCell', enc2]) (by unfold maxLen; omega) (by omega) (by simp; omega) ?_; intro v5 w5 hown5 hgr5 hne5
             have g1 : OwnL w5 w1.heap.size v5 (r.take k ++ [(s, v)]) := (by unfold OwnL; rw [List.length_append, List.flatMap_append, HKT.out]; simpa using hown5)
             have hbA : Below wr.heap.size wr (wr.alloc (.cells #[.string s, .string v] 94)) := (Below.refl _ wr).alloc (Nat.le_refl _) _
             have B5 := Lib.hid ((HB.out.trans (hbA.mono hws)).grown hgr5 (by simp; omega) (fun j hj => HOB.out j hj))
             have O5 := Lib.hid g1
             obtain ⟨a5, c5, rfl⟩ := ownL_shape g1
             have hk5 : (r.take k ++ [(s, v)]).length = k + 1 := by rw [List.length_append, HKT.out]; rfl
             have HOB5 := Lib.hid (ownL_block g1)
             have HON5 : Hid (w5.ownsRow w1.heap.size 94 2 (.slice a5 (k + 1) c5) (k + 1) ((r.take k ++ [(s, v)]).flatMap enc2)) := Lib.hid (by have h := g1; unfold OwnL at h; rw [hk5] at h; exact h)
             have HLN := Lib.hid (labs_news (HLD.out w5 r HN.out (HL.out.below B5.out)))
             have hw5s : w1.heap.size ≤ w5.heap.size := B5.out.size
             rw [hk5] at HOB5 ⊢
             clear hown5 hgr5 hne5 hbA)
          | (at_builtin; refine wpList_append_own _ rfl (.tmp 45) (.tmp 48) 22 rfl w1.heap.size 94 i0 (.agg #[.string ⟨#[]⟩, .string ⟨#[]⟩]) 2 32 Tryz.underlying22 hi hz0 hz1 hz2 rfl (by decide) (.slice a5 (k + 1) c5) (k + 1) ((r.take k ++ [(s, v)]).flatMap enc2) rfl HON5.out ad' m cm ((r.drop k).flatMap enc2) rfl HDL.out HLN.out (enc2_one _) (by unfold maxLen; omega) (by omega) hw5s ?_; intro v6 w6 hown6 hgr6 hne6
             have hk6 : ((r.take k ++ [(s, v)]) ++ r.drop k).length = k + 1 + m := by rw [List.length_append, hk5, List.length_drop, HN.out, HMM.out]
             have g2 : OwnL w6 w1.heap.size v6 ((r.take k ++ [(s, v)]) ++ r.drop k) := (by unfold OwnL; rw [hk6, List.flatMap_append]; exact hown6)
             have O6 := Lib.hid g2
             have B6 := Lib.hid (B5.out.grown hgr6 hw5s (fun j hj => HOB5.out j hj))
             clear hown6 hgr6 hne6 g2)
          | fail)
          go_ret
          exact ⟨_, rfl, by rw [HI.out]; exact O6.out.lower B1.out.size, B1.out.trans (B6.out.mono B1.out.size)⟩
      · have hkn2 : k = n := by omega
        have da : decide ((k : Int) < (n : Int)) = false := decide_eq_false (by omega)
        have da2 : decide (k < n) = false := decide_eq_false hkn
        have HI := Lib.hid (show R = (r.take k ++ [(s, v)]) ++ r.drop k by
          rw [HR.out, HE.out, List.drop_eq_nil_of_le (by rw [HN.out]; omega), List.append_nil]; rfl)
        obtain ⟨a', hs, hn1, hn2, hld⟩ := labs_drop (some ad) n cr k hk hcr
        obtain ⟨ad', rfl⟩ := hn2 _ rfl
        have HLD := Lib.hid hld
        obtain ⟨m, hm⟩ : ∃ m, n - k = m := ⟨_, rfl⟩
        obtain ⟨cm, hcm⟩ : ∃ m, cr - k = m := ⟨_, rfl⟩
        have HMM := Lib.hid hm
        have HDL := Lib.hid (show ((r.drop k).flatMap enc2).length = m * 2 by rw [flat2_len, List.length_drop, HN.out, hm])
        have hnk : m ≤ n := by omega
        rw [hm, hcm] at hs
        have hkc : k ≤ cr := by omega
        clear hn1 hn2 hld hm hcm hkn2
        have hws : w1.heap.size ≤ wr.heap.size := HB.out.size
        have HON1 : Hid (∀ o : Obj, (wr.alloc o).ownsRow w1.heap.size 94 2 (.slice av k cv) k ((r.take k).flatMap enc2)) := Lib.hid (fun o => by
          have h := HO.out.below ((Below.refl wr.heap.size wr).alloc (Nat.le_refl _) o)
          unfold OwnL at h
          rw [HKT.out] at h
          exact h)
        have HOB := Lib.hid (ownL_block HO.out)
        go_wp2_with (first
          | (at_builtin; refine wpList_append_own _ rfl (.tmp 39) (.tmp 43) 22 rfl w1.heap.size 94 i0 (.agg #[.string ⟨#[]⟩, .string ⟨#[]⟩]) 2 32 Tryz.underlying22 hi hz0 hz1 hz2 rfl (by decide) (.slice av k cv) k ((r.take k).flatMap enc2) rfl (HON1.out _) ⟨wr.heap.size, 0, none⟩ 1 1 (enc2 (s, v)) rfl rfl (two_new wr (s, v)) (by simp [Value.oneCell', enc2]) (by unfold maxLen; omega) (by omega) (by simp; omega) ?_; intro v5 w5 hown5 hgr5 hne5
             have g1 : OwnL w5 w1.heap.size v5 (r.take k ++ [(s, v)]) := (by unfold OwnL; rw [List.length_append, List.flatMap_append, HKT.out]; simpa using hown5)
             have hbA : Below wr.heap.size wr (wr.alloc (.cells #[.string s, .string v] 94)) := (Below.refl _ wr).alloc (Nat.le_refl _) _
             have B5 := Lib.hid ((HB.out.trans (hbA.mono hws)).grown hgr5 (by simp; omega) (fun j hj => HOB.out j hj))
             have O5 := Lib.hid g1
             obtain ⟨a5, c5, rfl⟩ := ownL_shape g1
             have hk5 : (r.take k ++ [(s, v)]).length = k + 1 := by rw [List.length_append, HKT.out]; rfl
             have HOB5 := Lib.hid (ownL_block g1)
             have HON5 : Hid (w5.ownsRow w1.heap.size 94 2 (.slice a5 (k + 1) c5) (k + 1) ((r.take k ++ [(s, v)]).flatMap enc2)) := Lib.hid (by have h := g1; unfold OwnL at h; rw [hk5] at h; exact h)
             have HLN := Lib.hid (labs_news (HLD.out w5 r HN.out (HL.out.below B5.out)))
             have hw5s : w1.heap.size ≤ w5.heap.size := B5.out.size
             rw [hk5] at HOB5 ⊢
             clear hown5 hgr5 hne5 hbA)
          | (at_builtin; refine wpList_append_own _ rfl (.tmp 45) (.tmp 48) 22 rfl w1.heap.size 94 i0 (.agg #[.string ⟨#[]⟩, .string ⟨#[]⟩]) 2 32 Tryz.underlying22 hi hz0 hz1 hz2 rfl (by decide) (.slice a5 (k + 1) c5) (k + 1) ((r.take k ++ [(s, v)]).flatMap enc2) rfl HON5.out ad' m cm ((r.drop k).flatMap enc2) rfl HDL.out HLN.out (enc2_one _) (by unfold maxLen; omega) (by omega) hw5s ?_; intro v6 w6 hown6 hgr6 hne6
             have hk6 : ((r.take k ++ [(s, v)]) ++ r.drop k).length = k + 1 + m := by rw [List.length_append, hk5, List.length_drop, HN.out, HMM.out]
             have g2 : OwnL w6 w1.heap.size v6 ((r.take k ++ [(s, v)]) ++ r.drop k) := (by unfold OwnL; rw [hk6, List.flatMap_append]; exact hown6)
             have O6 := Lib.hid g2
             have B6 := Lib.hid (B5.out.grown hgr6 hw5s (fun j hj => HOB5.out j hj))
             clear hown6 hgr6 hne6 g2)
          | fail)
        go_ret
        exact ⟨_, rfl, by rw [HI.out]; exact O6.out.lower B1.out.size, B1.out.trans (B6.out.mono B1.out.size)⟩
end Go.Proofs.YtiolghcjndoigaaGreatDoor
namespace Go.Proofs.YtiolghcjndoigaaGreatDoor
set_option linter.unusedVariables false
set_option linter.unusedSimpArgs false
open Go.RowKit Go.PlainAid Go.Shelf
theorem insert_any (base nb n c i : Nat) (ar : Option Addr) (r : List Lm.Lb) (x : Lm.Lb) (w : World) (hn : r.length = n) (hi : i ≤ n) (hb : base ≤ w.heap.size) (H : OwnL w base (.slice ar n c) r) (hx : w.heap[nb]? = some (.cells (enc2 x).toArray 94 (0, 0))) (hne : (Value.slice ar n c).ownBlock ≠ some nb) (hs : n ≤ 100000) :
    Calls Tryz.prog 92 #[.slice ar n c, .int .i64 (i : Int), .slice (some ⟨nb, 0, none⟩) 1 1] w (InsPost base w r x i) := by
  have hsh := H.2
  rcases hsh with ⟨hv, h0⟩ | ⟨g, cap, cur, hv, hg, hh, h1, h2, _⟩
  · injection hv with e1 e2 e3
    have hi0 : i = n := by omega
    subst hi0
    exact insert_end base nb i c ar r x w hn (by omega) H hx hb hs
  · injection hv with e1 e2 e3
    subst e1 e3
    rw [hn] at h1
    by_cases hin : i = n
    · subst hin
      exact insert_end base nb i c _ r x w hn h1 H hx hb hs
    · by_cases hroom : n + 1 ≤ c
      · exact insert_shift base nb n c g i r x w hn (by omega) hroom h2 H hx (fun e => hne (by rw [e]; rfl)) hs
      · exact insert_grow base nb n c g i r x w hn (by omega) h1 (by omega) hb H hx hs
theorem insL_at (x : Lm.Lb) : ∀ (r : List Lm.Lb) (k : Nat), k ≤ r.length → (∀ j (h : j < r.length), j < k → Lm.strC r[j].1 x.1 ≤ 0) → (∀ h : k < r.length, ¬ Lm.strC r[k].1 x.1 ≤ 0) → insL x r = r.take k ++ x :: r.drop k
  | [], k, hk, h1, h2 => by
    have : k = 0 := by simpa using hk
    subst this
    rfl
  | y :: t, 0, hk, h1, h2 => by
    have h := h2 (by simp)
    simp only [List.getElem_cons_zero] at h
    rw [insL, if_neg h]
    rfl
  | y :: t, k + 1, hk, h1, h2 => by
    have h := h1 0 (by simp) (by omega)
    simp only [List.getElem_cons_zero] at h
    rw [insL, if_pos h, insL_at x t k (by simpa using hk) (fun j hj hjk => by
      have := h1 (j + 1) (by simpa using hj) (by omega)
      simpa using this) (fun hj => by
      have := h2 (by simpa using hj)
      simpa using this)]
    rfl
def gtB (s : ByteArray) (y : Lm.Lb) : Bool := decide (Lm.strC s y.1 < 0)
theorem gtB_iff (s : ByteArray) (y : Lm.Lb) : gtB s y = true ↔ ¬ Lm.strC y.1 s ≤ 0 := by
  have := Lm.strC_lin.anti s y.1
  unfold gtB
  rw [decide_eq_true_iff]
  omega
theorem firstL_ins (s v : ByteArray) (r : List Lm.Lb) : (firstL (gtB s) r = -1 ∧ insL (s, v) r = r.take r.length ++ (s, v) :: r.drop r.length) ∨ ∃ k, k < r.length ∧ firstL (gtB s) r = (k : Int) ∧ insL (s, v) r = r.take k ++ (s, v) :: r.drop k := by
  rcases idx_spec (gtB s) r with ⟨h1, h2⟩ | ⟨k, hk, h1, h2, h3⟩
  · refine .inl ⟨h1, insL_at (s, v) r r.length (Nat.le_refl _) (fun j hj _ => ?_) (fun h => by omega)⟩
    have h := h2 _ (List.getElem_mem hj)
    refine Decidable.by_contra fun hn => ?_
    rw [(gtB_iff s r[j]).2 hn] at h
    cases h
  · refine .inr ⟨k, hk, h1, insL_at (s, v) r k (Nat.le_of_lt hk) (fun j hj hjk => ?_) (fun h => (gtB_iff s r[k]).1 h2)⟩
    have h := h3 r[j] (List.mem_take_iff_getElem.2 ⟨j, by omega, rfl⟩)
    refine Decidable.by_contra fun hn => ?_
    rw [(gtB_iff s r[j]).2 hn] at h
    cases h
set_option maxHeartbeats 1000000 in
theorem gt91_any (nm : Nat) (s : ByteArray) (x : Lm.Lb) (w : World) (hc : w.cell? ⟨nm, 0, none⟩ = some (.string s)) : Calls Tryz.prog 91 #[.agg #[.string x.1, .string x.2], .pointer (some ⟨nm, 0, none⟩)] w (Gives w (.bool (gtB s x))) := by
  have hb : Below w.heap.size w (w.alloc (.cells #[.string x.1, .string x.2] 94)) := (Below.refl _ w).alloc (Nat.le_refl _) _
  have HB := Lib.hid hb
  have cc := (hb.cell (p := ⟨nm, 0, none⟩) (World.block_lt_of_cell? _ _ hc)).trans hc
  have E := Lib.hid (show (!Op.bytesLess x.1.toList s.toList && !x.1.toList == s.toList) = gtB s x by
    rw [less_strC, toList_eqb]
    have h1 := Lm.strC_lin.anti s x.1
    have h2 := Lm.strC_lin.same x.1 s
    unfold gtB
    by_cases c1 : Lm.strC x.1 s < 0
    · have g : decide (Lm.strC s x.1 < 0) = false := decide_eq_false (by omega)
      rw [decide_eq_true c1, g]; rfl
    · by_cases c2 : x.1 = s
      · have g : decide (Lm.strC s x.1 < 0) = false := decide_eq_false (by have := h2.2 c2; omega)
        rw [decide_eq_true c2, g, Bool.not_true, Bool.and_false]
      · have c3 : ¬ Lm.strC x.1 s = 0 := fun h => c2 (h2.1 h)
        have g : decide (Lm.strC s x.1 < 0) = true := decide_eq_true (by omega)
        rw [decide_eq_false c1, decide_eq_false c2, g]; rfl)
  obtain ⟨R, hR⟩ : ∃ R, gtB s x = R := ⟨_, rfl⟩
  rw [hR] at E ⊢
  obtain ⟨x1, x2⟩ := x
  simp only at E cc HB ⊢
  clear hb hc hR
  go_enter Tryz.func91, Tryz.ntmps91
  go_wp2
  go_ret
  exact ⟨congrArg (fun b => Ending.returned (.bool b)) E.out, HB.out⟩
theorem eg91 : ∀ args w, (callFunc 91 args).run Tryz.prog w = .ok (.enter 91 args) w := enters_of Tryz.func91 (by kernel_rfl) rfl
theorem index91 (nm : Nat) (s : ByteArray) (a : Option Addr) (c : Nat) (l : List Lm.Lb) (w : World) (H : Labs w a l) (hz : l.length ≤ 100000) (hc : w.cell? ⟨nm, 0, none⟩ = some (.string s)) :
    Calls Tryz.prog 90 #[.slice a l.length c, .func (.func 91) #[] #[.pointer (some ⟨nm, 0, none⟩)]] w (Gives w (.int .i64 (firstL (gtB s) l))) := by
  by_cases h0 : l = []
  · subst h0
    clear H hz hc
    show Calls Tryz.prog 90 #[.slice a 0 c, .func (.func 91) #[] #[.pointer (some ⟨nm, 0, none⟩)]] w (Gives w (.int .i64 (-1)))
    go_enter Tryz.func90, Tryz.ntmps90
    go_wp2
    go_loopw [8] (fun i wr => i = .int .i64 0 ∧ wr = w) (fun _ _ => 0)
    case atStart => exact ⟨rfl, rfl⟩
    case round =>
      obtain ⟨rfl, rfl⟩ := hrel
      go_wp2
      go_ret
      exact ⟨rfl, Below.refl _ _⟩
  · obtain ⟨b, off, rfl, hb, hcc⟩ := H h0
    have h := AnyQ.slices_IndexFunc Tryz.indexF 2 Tryz.isAgg94 Tryz.sizeOf94 enc2 enc2_len (gtB s) 91 #[.pointer (some ⟨nm, 0, none⟩)] eg91 b off l.length c l w (fun W x hB => (gt91_any nm s x W ((hB.cell (p := ⟨nm, 0, none⟩) (World.block_lt_of_cell? _ _ hc)).trans hc)).mono fun e w' h => ⟨h.1, hB.trans (h.2.mono hB.size)⟩) (Nat.le_refl _) (by omega) hb (labs_cells hcc)
    rw [List.take_length] at h
    exact h
set_option maxRecDepth 100000 in
set_option maxHeartbeats 4000000 in
theorem with_any (a : Option Addr) (c : Nat) (l : List Lm.Lb) (s v : ByteArray) (w : World) (H : Labs w a l) (hz : l.length ≤ 100000) (hsz : s.size ≤ maxLen) (hlz : ∀ x ∈ l, x.1.size ≤ maxLen) :
    Calls Tryz.prog 24 #[.slice a l.length c, .string s, .string v] w fun e w' => ∃ u, e = .returned u ∧ OwnL w' w.heap.size u (withL s v l) ∧ Below w.heap.size w w' := by
  have hmf := hmf
  have hA : Below w.heap.size w (w.alloc (.cells #[.string s] 9)) := (Below.refl _ w).alloc (Nat.le_refl _) _
  have hA2 : Below w.heap.size w ((w.alloc (.cells #[.string s] 9)).alloc (.cells #[.string s] 9)) := hA.alloc (by simp) _
  have c1 : (w.alloc (.cells #[.string s] 9)).cell? ⟨w.heap.size, 0, none⟩ = some (.string s) := by rw [cell_of_row _ _ _ _ _ _ (heap_alloc_new w _)]; rfl
  have HST : Strs ((w.alloc (.cells #[.string s] 9)).alloc (.cells #[.string s] 9)) (some ⟨w.heap.size + 1, 0, none⟩) [s] := fun _ => ⟨w.heap.size + 1, 0, rfl, by simp, fun i hi => by
    have : i = 0 := by simpa using hi
    subst this
    have h := heap_alloc_new (w.alloc (.cells #[.string s] 9)) (.cells #[.string s] 9)
    rw [World.size_alloc] at h
    rw [cell_of_row _ _ _ _ _ _ h]
    rfl⟩
  have CW := Lib.hid (show Calls Tryz.prog 26 #[.slice a l.length c, .slice (some ⟨w.heap.size + 1, 0, none⟩) 1 1] ((w.alloc (.cells #[.string s] 9)).alloc (.cells #[.string s] 9)) _ from without_any a _ c 1 l [s] _ (H.below hA2) HST hz (by simp) (fun x hx => by simp at hx; rw [hx]; exact hsz) hlz)
  have HA2 := Lib.hid hA2
  have HC2 := Lib.hid (show ((w.alloc (.cells #[.string s] 9)).alloc (.cells #[.string s] 9)).cell? ⟨w.heap.size, 0, none⟩ = some (.string s) from ((Below.refl _ (w.alloc (.cells #[.string s] 9))).alloc (Nat.le_refl _) _ |>.cell (p := ⟨w.heap.size, 0, none⟩) (by simp)).trans c1)
  have HLT := Lib.hid (show w.heap.size < ((w.alloc (.cells #[.string s] 9)).alloc (.cells #[.string s] 9)).heap.size by simp; omega)
  have HSZ := Lib.hid (show w.heap.size + 2 ≤ ((w.alloc (.cells #[.string s] 9)).alloc (.cells #[.string s] 9)).heap.size by simp)
  obtain ⟨r, hr⟩ : ∃ r, (l.filter fun x => !hasB [s] x.1) = r := ⟨_, rfl⟩
  have HRL : r.length ≤ 100000 := by rw [← hr]; exact Nat.le_trans (List.length_filter_le _ _) hz
  have HW := Lib.hid (show withL s v l = if v = ⟨#[]⟩ then r else insL (s, v) r by unfold withL; rw [hr])
  rw [hr] at CW
  obtain ⟨R, hR⟩ : ∃ R, withL s v l = R := ⟨_, rfl⟩
  rw [hR] at HW ⊢
  obtain ⟨n0, hn0⟩ : ∃ n, l.length = n := ⟨_, rfl⟩
  rw [hn0] at CW ⊢
  clear H HST hr hR hn0 hz hA hA2 hsz hlz
  go_enter Tryz.func24, Tryz.ntmps24
  go_wp2_with fail
  refine CW.out.mono ?_
  rintro e w1 ⟨v1, rfl, ho, hb⟩
  have B1 := Lib.hid (HA2.out.trans (hb.mono HA2.out.size))
  have C1 := Lib.hid (show w1.cell? ⟨w.heap.size, 0, none⟩ = some (.string s) from (hb.cell (p := ⟨w.heap.size, 0, none⟩) HLT.out).trans HC2.out)
  have HSZ1 := Lib.hid (show w.heap.size + 2 ≤ w1.heap.size from Nat.le_trans HSZ.out hb.size)
  have OR := Lib.hid (ho.lower HA2.out.size)
  obtain ⟨ar, cr, rfl, hL, _⟩ := ho.labs
  have HL := Lib.hid hL
  have HOL := Lib.hid (World.ownsRow.lt ho)
  clear hb CW c1 ho hL
  by_cases hv : v = ⟨#[]⟩
  · have h2 : v.toList = [] := by rw [hv, ByteArray.toList_eq]
    have h3 : v.toList.isEmpty = true := by rw [h2]; rfl
    have E := Lib.hid (show R = r by rw [HW.out, if_pos hv])
    obtain ⟨n, hn⟩ : ∃ n, r.length = n := ⟨_, rfl⟩
    rw [hn] at OR ⊢
    clear hv HW hn
    go_wp2
    go_ret
    exact ⟨_, rfl, by rw [E.out]; exact OR.out, B1.out⟩
  · have h2 : ¬ v.toList = [] := fun e => hv ((toList_iff _ _).1 (by rw [e, ByteArray.toList_eq]))
    have h3 : v.toList.isEmpty = false := by cases hh : v.toList with
      | nil => exact absurd hh h2
      | cons => rfl
    have E := Lib.hid (show R = insL (s, v) r by rw [HW.out, if_neg hv])
    have CX := Lib.hid (index91 w.heap.size s ar cr r w1 HL.out HRL C1.out)
    have HFI := Lib.hid (firstL_ins s v r)
    obtain ⟨n, hn⟩ : ∃ n, r.length = n := ⟨_, rfl⟩
    have HN := Lib.hid hn
    obtain ⟨F, hF⟩ : ∃ F, firstL (gtB s) r = F := ⟨_, rfl⟩
    rw [hF] at CX HFI
    rw [hn] at CX HFI OR HRL HOL ⊢
    clear hv HW hn hF
    go_wp2_with fail
    refine CX.out.mono ?_
    rintro e w2 ⟨rfl, hb⟩
    have B2 := Lib.hid (B1.out.trans (hb.mono B1.out.size))
    have O2 := Lib.hid (OR.out.below hb)
    have c2 := (hb.cell (p := ⟨w.heap.size, 0, none⟩) (by show w.heap.size < w1.heap.size; have := HSZ1.out; omega)).trans C1.out
    have HSZ2 := Lib.hid (Nat.le_trans HSZ1.out hb.size)
    have HOL2 := Lib.hid (show ∀ k, (Value.slice ar n cr).ownBlock = some k → k < w2.heap.size from fun k hk => Nat.lt_of_lt_of_le (HOL.out k hk).2 hb.size)
    have HAX := Lib.hid ((Below.refl w2.heap.size w2).alloc (Nat.le_refl _) (.cells #[.string s, .string v] 94))
    have CI := Lib.hid (fun i hi => insert_any w.heap.size w2.heap.size n cr i ar r (s, v) (w2.alloc (.cells #[.string s, .string v] 94)) HN.out hi (by have := HSZ2.out; simp; omega) (O2.out.below HAX.out) (heap_alloc_new w2 _) (fun e => by have := HOL2.out _ e; omega) HRL)
    unfold InsPost at CI
    clear hb
    rcases HFI.out with ⟨rfl, hE⟩ | ⟨k, hk, rfl, hE⟩
    · have HE := Lib.hid hE
      have CI1 := Lib.hid (CI.out n (Nat.le_refl _))
      clear hE HFI
      go_wp2_with fail
      refine CI1.out.mono ?_
      rintro e w3 ⟨u, rfl, ho, hb⟩
      rw [← HE.out, ← E.out] at ho
      have O3 := Lib.hid ho
      have B3 := Lib.hid ((B2.out.trans (HAX.out.mono B2.out.size)).trans hb)
      clear ho hb
      go_wp2
      go_ret
      exact ⟨_, rfl, O3.out, B3.out⟩
    · have HE := Lib.hid hE
      have CI1 := Lib.hid (CI.out k (by omega))
      have d1 : decide ((k : Int) < 0) = false := decide_eq_false (by omega)
      clear hE HFI
      go_wp2_with fail
      refine CI1.out.mono ?_
      rintro e w3 ⟨u, rfl, ho, hb⟩
      rw [← HE.out, ← E.out] at ho
      have O3 := Lib.hid ho
      have B3 := Lib.hid ((B2.out.trans (HAX.out.mono B2.out.size)).trans hb)
      clear ho hb
      go_wp2
      go_ret
      exact ⟨_, rfl, O3.out, B3.out⟩
end Go.Proofs.YtiolghcjndoigaaGreatDoor
