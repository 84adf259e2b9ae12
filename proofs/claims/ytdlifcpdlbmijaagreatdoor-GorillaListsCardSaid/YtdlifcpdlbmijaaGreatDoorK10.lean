/-
  PACKED: LsF, LsG, B2BookB, B2BookC, BokB, B2BookD, LsH, LsI
-/
import Derived.Test.YtdlifcpdlbmijaaGreatDoorK03
import Derived.Test.YtdlifcpdlbmijaaGreatDoorK05
import Derived.Test.YtdlifcpdlbmijaaGreatDoorK07
import Derived.Test.YtdlifcpdlbmijaaGreatDoorK09
import Derived.BigRegion
set_option linter.unusedVariables false
set_option linter.unusedSimpArgs false
namespace Go.Proofs.YtdlifcpdlbmijaaGreatDoor
set_option linter.unusedVariables false
set_option linter.unusedSimpArgs false
open Go.RowKit Go.PlainAid Go.Shelf
open B2 (Only Bys Row cellsOf owns_only)
open Gm (St Smp Chk)
theorem out_yes (t : Int) (v : Nat) (h : ¬ (-9007199254740992 ≤ t ∧ t ≤ 9007199254740992)) (w : World) : Calls Tryz.prog 22 #[.agg #[.int .i64 t, .int .u64 ((v : Nat) : Int)]] w fun e w' => e = .returned (.bool true) ∧ Below w.heap.size w w' := by
  have hb := heap_alloc_new w (.cells #[.int .i64 t, .int .u64 ((v : Nat) : Int)] 79)
  have b0 : (w.alloc (.cells #[.int .i64 t, .int .u64 ((v : Nat) : Int)] 79)).cell? ⟨w.heap.size, 0, none⟩ = some (.int .i64 t) := (cell_of_row _ _ 0 _ _ _ hb).trans rfl
  have HA := Lib.hid ((Below.refl w.heap.size w).alloc (Nat.le_refl _) (.cells #[.int .i64 t, .int .u64 ((v : Nat) : Int)] 79))
  have CI := Lib.hid (fun W => inrange_any t W)
  rw [decide_eq_false h] at CI
  clear hb h
  go_enter Tryz.func22, Tryz.ntmps22
  go_wp2_with (go_at_call 23; refine (CI.out _).mono ?_; rintro e w1 ⟨rfl, hw⟩; subst hw)
  go_ret
  exact ⟨rfl, HA.out⟩
set_option maxRecDepth 100000 in
set_option maxHeartbeats 2000000 in
theorem index_some (a : Option Addr) (n c : Nat) (l : List Smp) (hn : l.length = n) (hz : n ≤ 1000000000) (hR : ¬ ∀ x ∈ l, -9007199254740992 ≤ x.t ∧ x.t ≤ 9007199254740992) (w : World) (H : Sms w a l) :
    Calls Tryz.prog 73 #[.slice a n c, .func (.func 22) #[] #[]] w fun e w' => (∃ i : Nat, e = .returned (.int .i64 ((i : Nat) : Int)) ∧ i ≤ n) ∧ Below w.heap.size w w' := by
  have HL := Lib.hid (And.intro H (And.intro hn hR))
  clear H hn hR
  go_enter Tryz.func73, Tryz.ntmps73
  go_wp2_with fail
  go_loopw [5, 8] (fun j i wr => ∃ k : Nat, k ≤ n ∧ i = .int .i64 k ∧ Hid (Below w.heap.size w wr ∧ ∀ i (hi : i < l.length), i < k → -9007199254740992 ≤ l[i].t ∧ l[i].t ≤ 9007199254740992)) (fun _ i _ => n - (intOf i).toNat)
  case atStart => exact ⟨0, Nat.zero_le _, rfl, Lib.hid ⟨Below.refl _ _, fun i hi h => by omega⟩⟩
  case round =>
    obtain ⟨k, hk, rfl, HB⟩ := hrel
    by_cases hkn : k < n
    · have da : decide ((k : Int) < (n : Int)) = true := decide_eq_true (by omega)
      have da2 : decide (k < n) = true := decide_eq_true hkn
      have hkl : k < l.length := by rw [HL.out.2.1]; exact hkn
      obtain ⟨b1, o1, rfl, hl1, hc1⟩ := (HL.out.1.below HB.out.1) (by intro e; rw [e] at hkl; simp at hkl)
      obtain ⟨p1, p2⟩ := hc1 k hkl
      by_cases hx : -9007199254740992 ≤ l[k].t ∧ l[k].t ≤ 9007199254740992
      · have HN := Lib.hid (show ∀ i (hi : i < l.length), i < k + 1 → -9007199254740992 ≤ l[i].t ∧ l[i].t ≤ 9007199254740992 from fun i hi h => by
          by_cases e : i = k
          · subst e; exact hx
          · exact HB.out.2 i hi (by omega))
        generalize l[k] = x at *
        have CO := Lib.hid (out_no x.t x.v hx wr)
        clear hc1 hx
        go_wp2_with fail
        go_at_call 22
        refine CO.out.mono ?_
        rintro e w1 ⟨rfl, hb⟩
        have HB2 := Lib.hid (HB.out.1.trans (hb.mono HB.out.1.size))
        clear hb CO
        go_wp2_with fail
        go_roundw
        case rel => exact ⟨k + 1, by omega, by go_num, Lib.hid ⟨HB2.out, HN.out⟩⟩
        case measure => simp [intOf]; omega
      · generalize l[k] = x at *
        have CO := Lib.hid (out_yes x.t x.v hx wr)
        clear hc1 hx
        go_wp2_with fail
        go_at_call 22
        refine CO.out.mono ?_
        rintro e w1 ⟨rfl, hb⟩
        have HB2 := Lib.hid (HB.out.1.trans (hb.mono HB.out.1.size))
        clear hb CO
        go_wp2_with fail
        go_ret
        exact ⟨⟨k, rfl, hk⟩, HB2.out⟩
    · exfalso
      refine HL.out.2.2 fun x hx => ?_
      obtain ⟨i, hi, rfl⟩ := List.getElem_of_mem hx
      exact HB.out.2 i hi (by have := HL.out.2.1; omega)
set_option maxRecDepth 100000 in
theorem contains_some (a : Option Addr) (n c : Nat) (l : List Smp) (hn : l.length = n) (hz : n ≤ 1000000000) (hR : ¬ ∀ x ∈ l, -9007199254740992 ≤ x.t ∧ x.t ≤ 9007199254740992) (w : World) (H : Sms w a l) :
    Calls Tryz.prog 21 #[.slice a n c, .func (.func 22) #[] #[]] w fun e w' => e = .returned (.bool true) ∧ Below w.heap.size w w' := by
  have C := Lib.hid (index_some a n c l hn hz hR w H)
  clear hn hR H
  go_enter Tryz.func21, Tryz.ntmps21
  go_wp2_with fail
  refine C.out.mono ?_
  rintro e w1 ⟨⟨i, rfl, hi⟩, hb⟩
  have HB := Lib.hid hb
  have h0 : decide (((i : Nat) : Int) ≥ 0) = true := decide_eq_true (by omega)
  have h1 : (0 : Int) ≤ ((i : Nat) : Int) := by omega
  clear hb
  go_wp2_with fail
  go_ret
  exact ⟨rfl, HB.out⟩
end Go.Proofs.YtdlifcpdlbmijaaGreatDoor
namespace Go.Proofs.YtdlifcpdlbmijaaGreatDoor
set_option linter.unusedVariables false
set_option linter.unusedSimpArgs false
open Go.RowKit Go.PlainAid Go.Shelf
open B2 (Only Bys Row cellsOf owns_only)
open Gm (St Smp Chk)
set_option maxRecDepth 100000 in
set_option maxHeartbeats 8000000 in
theorem encode_far (a : Option Addr) (n c : Nat) (l : List Smp) (hn : l.length = n) (hz : n ≤ 1000000000) (hR : ¬ ∀ x ∈ l, -9007199254740992 ≤ x.t ∧ x.t ≤ 9007199254740992) (w : World) (H : Sms w a l) :
    Calls Tryz.prog 6 #[.slice a n c] w fun e w' => e = .returned (.tuple #[.slice none 0 0, .int .u16 2]) ∧ Below w.heap.size w w' := by
  have C0 := Lib.hid (contains_some a n c l hn hz hR w H)
  clear hn hz hR H
  refine (callsIn_wide (n := 8)).1 ?_
  refine callsIn_of_wp_marks Tryz.func6 rfl trivial ?_ rfl
  simp only [Tryz.ntmps6, List.size_toArray, List.length_cons, List.length_nil, Nat.reduceAdd, Nat.reduceSub, Array.replicate_succ, Array.replicate_zero, List.push_toArray, List.append_toArray, List.nil_append, List.cons_append]
  gi_wp2_with (refine ⟨trivial, ?_⟩; gi_at_call 21; refine (callsIn_wide.2 C0.out).mono ?_; rintro e w1 ⟨rfl, hb1⟩; have HB1 := Lib.hid hb1; clear hb1)
  exact ⟨_, results_tmp2 rfl _ _ _, rfl, HB1.out⟩
set_option maxRecDepth 100000 in
set_option maxHeartbeats 8000000 in
theorem encode_old (a : Option Addr) (n c : Nat) (l : List Smp) (hU : ¬ ∀ i (h : i + 1 < l.length), l[i].t < l[i + 1].t) (hn : l.length = n) (hz : n ≤ 1000000) (hR : ∀ x ∈ l, -9007199254740992 ≤ x.t ∧ x.t ≤ 9007199254740992) (w : World) (H : Sms w a l) :
    Calls Tryz.prog 6 #[.slice a n c] w fun e w' => e = .returned (.tuple #[.slice none 0 0, .int .u16 100]) ∧ Below w.heap.size w w' := by
  have C0 := Lib.hid (contains_none a n c l hn (by omega) hR w H)
  have HL := Lib.hid (And.intro H (And.intro hn hU))
  clear H hn hR hU
  refine (callsIn_wide (n := 8)).1 ?_
  refine callsIn_of_wp_marks Tryz.func6 rfl trivial ?_ rfl
  simp only [Tryz.ntmps6, List.size_toArray, List.length_cons, List.length_nil, Nat.reduceAdd, Nat.reduceSub, Array.replicate_succ, Array.replicate_zero, List.push_toArray, List.append_toArray, List.nil_append, List.cons_append]
  gi_wp2_with (refine ⟨trivial, ?_⟩; gi_at_call 21; refine (callsIn_wide.2 C0.out).mono ?_; rintro e w1 ⟨rfl, hb1⟩; have HB1 := Lib.hid hb1; clear hb1)
  gi_loopw [4] (fun i wr => ∃ k : Nat, 1 ≤ k ∧ k ≤ n + 1 ∧ i = .int .i64 (k : Nat) ∧ Hid (Below w.heap.size w wr ∧ ∀ i (h : i + 1 < l.length), i + 1 < k → l[i].t < l[i + 1].t)) (fun i _ => n + 1 - (intOf i).toNat)
  case atStart => exact ⟨1, by omega, by omega, by simp, Lib.hid ⟨HB1.out, fun i h h2 => by omega⟩⟩
  case round =>
    obtain ⟨k, hk1, hk2, rfl, HB⟩ := hrel
    by_cases hlt : k < n
    · have da : decide ((k : Int) < (n : Int)) = true := decide_eq_true (by omega)
      have da2 : decide (k < n) = true := decide_eq_true hlt
      obtain ⟨q, rfl⟩ : ∃ q, k = q + 1 := ⟨k - 1, by omega⟩
      have hkl : q + 1 < l.length := by rw [HL.out.2.1]; exact hlt
      have hbd : Below w.heap.size w wr.drew := HB.out.1.trans ((drew_below wr).mono HB.out.1.size)
      obtain ⟨b1, o1, rfl, hl1, hc1⟩ := (HL.out.1.below hbd) (by intro e; rw [e] at hkl; simp at hkl)
      have p1 := (hc1 (q + 1) hkl).1
      have p2 := (hc1 q (by omega)).1
      have hsub : ((q + 1 : Nat) : Int) - 1 = (q : Int) := by omega
      have HBD := Lib.hid hbd
      have hq0 : (0 : Int) ≤ (q : Int) := by omega
      have hqn : (q : Int) < (n : Int) := by omega
      by_cases hle : l[q + 1].t ≤ l[q].t
      · obtain ⟨T1, hT1⟩ : ∃ T1, l[q + 1].t = T1 := ⟨_, rfl⟩
        obtain ⟨T0, hT0⟩ : ∃ T0, l[q].t = T0 := ⟨_, rfl⟩
        rw [hT1] at p1 hle
        rw [hT0] at p2 hle
        have dl : decide (T1 ≤ T0) = true := decide_eq_true hle
        obtain ⟨k, hk⟩ : ∃ k, q + 1 = k := ⟨_, rfl⟩
        rw [hk] at p1 hsub da da2 hk1 hk2 hlt ⊢
        clear hc1 hT1 hT0 hkl hbd hk
        gi_wp2
        gi_region
        all_goals gi_wp2
        all_goals exact ⟨_, results_tmp2 rfl _ _ _, rfl, HBD.out⟩
      · have HN := Lib.hid (show ∀ i (h : i + 1 < l.length), i + 1 < q + 1 + 1 → l[i].t < l[i + 1].t from fun i h h2 => by
          by_cases e : i = q
          · subst e; omega
          · exact HB.out.2 i h (by omega))
        obtain ⟨T1, hT1⟩ : ∃ T1, l[q + 1].t = T1 := ⟨_, rfl⟩
        obtain ⟨T0, hT0⟩ : ∃ T0, l[q].t = T0 := ⟨_, rfl⟩
        rw [hT1] at p1 hle
        rw [hT0] at p2 hle
        have dl : decide (T1 ≤ T0) = false := decide_eq_false hle
        obtain ⟨k, hk⟩ : ∃ k, q + 1 = k := ⟨_, rfl⟩
        rw [hk] at p1 hsub da da2 hk1 hk2 hlt HN ⊢
        clear hc1 hT1 hT0 hbd hk
        gi_wp2
        gi_region
        all_goals gi_wp2
        all_goals exact ⟨⟨k + 1, by omega, by omega, by simp, Lib.hid ⟨HBD.out, HN.out⟩⟩, by simp [intOf]; omega⟩
    · exfalso
      exact HL.out.2.2 fun i h => HB.out.2 i h (by have := HL.out.2.1; omega)
end Go.Proofs.YtdlifcpdlbmijaaGreatDoor
namespace Go.Proofs.YtdlifcpdlbmijaaGreatDoor.B2
open Go.RowKit
/-- the first rows have their marks, the row i those ahead of k -/
structure Marked (w : World) (N : Nat) (X : Nat → Value) (L : Nat → Nat) (a : Option Addr) (h n i k : Nat) (wr : World) : Prop where
  rows : ∃ C, Lots wr N X C ∧ (∀ j, (C j).length = L j) ∧ ∀ j k', (j < i ∨ (j = i ∧ k' < k)) → k' < L j → (C j)[k']? = some (mark1 j k')
  outer : Outer wr a h n X
  below : Below N w wr
theorem Marked.shape {w wr : World} {N h n i k : Nat} {X : Nat → Value} {L : Nat → Nat} {a : Option Addr} (H : Marked w N X L a h n i k wr) (j : Nat) : ∃ a' cap', X j = .slice a' (L j) cap' := by
  obtain ⟨C, hL, hlen, _⟩ := H.rows
  rcases hL.shape j with ⟨hv, h0⟩ | ⟨g, cap, _, hv, _⟩
  · have : L j = 0 := by rw [← hlen, h0]; rfl
    rw [hv, this]; exact ⟨_, _, rfl⟩
  · rw [hv, hlen]; exact ⟨_, _, rfl⟩
theorem Marked.cell {w wr : World} {N h n i k : Nat} {X : Nat → Value} {L : Nat → Nat} {a : Option Addr} (H : Marked w N X L a h n i k wr) (hk : k < L i) (hh : ∀ j g, (X j).ownBlock = some g → g ≠ h) :
    ∃ g cap u, X i = .slice (some ⟨g, 0, none⟩) (L i) cap ∧ wr.cell? ⟨g, k, none⟩ = some u ∧ wr.frozen? ⟨g, k, none⟩ = false ∧ Marked w N X L a h n i (k + 1) (wr.setCell ⟨g, k, none⟩ (.int .u8 ((mark1 i k : Nat) : Int))) := by
  obtain ⟨C, hL, hlen, hm⟩ := H.rows
  obtain ⟨g, cap, hX, hNg, hgl, hc, hf⟩ := hL.cell i k (by rw [hlen]; exact hk)
  refine ⟨g, cap, _, by rw [hX, hlen], hc, hf, ⟨⟨_, hL.set (c := mark1 i k) hX (by rw [hlen]; exact hk), fun j => ?_, fun j k' hj hk' => ?_⟩, ?_, ?_⟩⟩
  · by_cases e : j = i
    · subst e; simp [hlen]
    · simp [e, hlen]
  · by_cases e : j = i
    · subst e
      simp only [if_true]
      rw [List.getElem?_set]
      by_cases e2 : k = k'
      · subst e2; rw [if_pos rfl, if_pos (by rw [hlen]; exact hk)]
      · rw [if_neg e2]; exact hm j k' (by omega) hk'
    · simp only [e, if_false]
      exact hm j k' (by omega) hk'
  · exact H.outer.only ((Only.refl [g] _).setCell (p := ⟨g, k, none⟩) (.inl (by simp)) _) (by
      have := hh i g (by rw [hX]; rfl)
      simpa using this.symm)
  · exact H.below.setCell (p := ⟨g, k, none⟩) hNg _
theorem Marked.next {w wr : World} {N h n i k : Nat} {X : Nat → Value} {L : Nat → Nat} {a : Option Addr} (H : Marked w N X L a h n i k wr) (hk : L i ≤ k) : Marked w N X L a h n (i + 1) 0 wr := by
  obtain ⟨C, hL, hlen, hm⟩ := H.rows
  exact ⟨⟨C, hL, hlen, fun j k' hj hk' => hm j k' (by
    by_cases e : j = i
    · subst e; exact .inr ⟨rfl, by omega⟩
    · exact .inl (by omega)) hk'⟩, H.outer, H.below⟩
/-- a row with all its marks -/
def Cm (L : Nat → Nat) (j : Nat) : List Nat := (List.range (L j)).map (mark1 j)
def Dm (L : Nat → Nat) (j k : Nat) : List Nat := Cm L j ++ (List.range k).map (mark2 j)
theorem Cm_length (L : Nat → Nat) (j : Nat) : (Cm L j).length = L j := by simp [Cm]
theorem Dm_length (L : Nat → Nat) (j k : Nat) : (Dm L j k).length = L j + k := by simp [Dm, Cm]
theorem Dm_succ (L : Nat → Nat) (j k : Nat) : Dm L j (k + 1) = Dm L j k ++ [mark2 j k] := by simp [Dm, List.range_succ]
theorem Marked.all {w wr : World} {N h n : Nat} {X : Nat → Value} {L : Nat → Nat} {a : Option Addr} (H : Marked w N X L a h n n 0 wr) (hz : ∀ j, n ≤ j → L j = 0) : Lots wr N X (Cm L) := by
  obtain ⟨C, hL, hlen, hm⟩ := H.rows
  have e : C = Cm L := by
    funext j
    apply List.ext_getElem?
    intro k
    by_cases hk : k < L j
    · have hj : j < n := Nat.lt_of_not_le fun h => by have := hz j h; omega
      rw [hm j k (.inl hj) hk]
      simp [Cm, hk]
    · rw [List.getElem?_eq_none (by rw [hlen]; omega), List.getElem?_eq_none (by rw [Cm_length]; omega)]
  rw [← e]; exact hL
/-- one row, k marks longer -/
structure Ext (w0 : World) (N : Nat) (X : Nat → Value) (L : Nat → Nat) (i k : Nat) (xv : Value) (wr : World) : Prop where
  own : wr.ownsRow 0 5 1 xv (L i + k) (cellsOf (Dm L i k))
  pos : (∃ g cap, X i = .slice (some ⟨g, 0, none⟩) (L i) cap ∧ xv = .slice (some ⟨g, 0, none⟩) (L i + k) cap) ∨ (k = 0 ∧ xv = X i) ∨ (∃ g cap, xv = .slice (some ⟨g, 0, none⟩) (L i + k) cap ∧ w0.heap.size ≤ g)
  xi : wr.ownsRow N 5 1 (X i) (L i) (cellsOf (Cm L i))
  only : Only (X i).ownBlock.toList w0 wr
theorem Ext.shape {w0 wr : World} {N i k : Nat} {X : Nat → Value} {L : Nat → Nat} {xv : Value} (H : Ext w0 N X L i k xv wr) : ∃ a' cap', xv = .slice a' (L i + k) cap' := by
  rcases H.own.2 with ⟨hv, h0⟩ | ⟨g, cap, _, hv, _⟩
  · rw [hv, h0]; exact ⟨_, _, rfl⟩
  · exact ⟨_, _, hv⟩
theorem owns_in_place {w' : World} {N g n m cap : Nat} {xs news : List Value} {v : Value} (h : w'.ownsRow 0 5 1 v (n + m) (xs ++ news)) (hv : v = .slice (some ⟨g, 0, none⟩) (n + m) cap) (hl : xs.length = n) (hN : N ≤ g) (hc : n ≤ cap) : w'.ownsRow N 5 1 (.slice (some ⟨g, 0, none⟩) n cap) n xs := by
  rcases h.2 with ⟨h1, _⟩ | ⟨g2, cap2, cur, h1, _, hh, h2, h3, h4, h5⟩
  · rw [hv] at h1; cases h1
  · rw [hv] at h1
    cases h1
    refine ⟨by rw [Nat.mul_one]; exact hl, .inr ⟨g, cap, cur, rfl, hN, hh, hc, h3, h4, ?_⟩⟩
    have := congrArg (List.take n) h5
    rw [List.take_take, Nat.min_eq_left (by omega), List.take_left' hl] at this
    rw [Nat.mul_one]; exact this
theorem Ext.step {w0 wr w' : World} {N i k : Nat} {X : Nat → Value} {L : Nat → Nat} {xv v' : Value} {o : Obj} (H : Ext w0 N X L i k xv wr) (hown : w'.ownsRow 0 5 1 v' (L i + k + 1) (cellsOf (Dm L i k) ++ cellsOf [mark2 i k])) (hg : Goes (wr.alloc o) w' xv v' (L i + k) 1) (hXl : ∀ g, (X i).ownBlock = some g → g < w0.heap.size ∧ N ≤ g) :
    Ext w0 N X L i (k + 1) v' w' := by
  have hs := H.only.size
  have hown2 : w'.ownsRow 0 5 1 v' (L i + (k + 1)) (cellsOf (Dm L i (k + 1))) := by rw [Dm_succ, cellsOf_append]; exact hown
  have hxi := owns_only H.xi ((Only.refl [] wr).alloc o) (fun _ _ => by simp)
  rcases hg with ⟨g, cap, hv, hv', hgr⟩ | ⟨g, cap, hv', hgl, hgr⟩
  · have hpos : (X i = .slice (some ⟨g, 0, none⟩) (L i) cap) ∨ w0.heap.size ≤ g := by
      rcases H.pos with ⟨g2, c2, e1, e2⟩ | ⟨e1, e2⟩ | ⟨g2, c2, e2, e3⟩
      · rw [hv] at e2; cases e2; exact .inl e1
      · subst e1; rw [hv] at e2; exact .inl e2.symm
      · rw [hv] at e2; cases e2; exact .inr e3
    rcases hpos with hp | hp
    · refine ⟨hown2, .inl ⟨g, cap, hp, hv'⟩, ?_, ?_⟩
      · rw [hp]
        have hc : L i ≤ cap := by
          rcases hxi.2 with ⟨h1, _⟩ | ⟨g2, c2, _, h1, _, _, h2, _⟩
          · rw [hp] at h1; cases h1
          · rw [hp] at h1; cases h1; exact h2
        have hown3 : w'.ownsRow 0 5 1 v' (L i + (k + 1)) (cellsOf (Cm L i) ++ cellsOf ((List.range (k + 1)).map (mark2 i))) := by rw [← cellsOf_append]; exact hown2
        exact owns_in_place hown3 hv' (by rw [cellsOf_length, Cm_length]) (hXl g (by rw [hp]; rfl)).2 hc
      · exact (H.only.alloc o).grown hgr (fun k hk => by cases hk; exact .inl (by rw [hp]; simp [Value.ownBlock]))
    · refine ⟨hown2, .inr (.inr ⟨g, cap, hv', hp⟩), ?_, ?_⟩
      · refine owns_only hxi ((Only.refl [g] _).grown hgr (fun k hk => by cases hk; exact .inl (by simp))) (fun g2 hg2 => ?_)
        have := (hXl g2 hg2).1
        simp; omega
      · exact (H.only.alloc o).grown hgr (fun k hk => by cases hk; exact .inr hp)
  · refine ⟨hown2, .inr (.inr ⟨g, cap, hv', by simp at hgl; omega⟩), ?_, ?_⟩
    · exact owns_only hxi ((Only.refl [] _).grown hgr (fun k hk => by cases hk)) (fun _ _ => by simp)
    · exact (H.only.alloc o).grown hgr (fun k hk => by cases hk)
/-- the longer rows, i of them -/
structure Long (w : World) (N : Nat) (X : Nat → Value) (L : Nat → Nat) (a : Option Addr) (h n M i : Nat) (vl : Value) (Y : Nat → Value) (wr : World) : Prop where
  rows : Lots wr N X (Cm L)
  outer : Outer wr a h n X
  below : Below N w wr
  own : wr.ownsRow 0 24 1 vl i ((List.range i).map Y)
  each : ∀ j, j < i → ∃ g cap, Y j = .slice (some ⟨g, 0, none⟩) (L j + 16) cap ∧ wr.ownsRow 0 5 1 (Y j) (L j + 16) (cellsOf (Dm L j 16)) ∧ ((X j).ownBlock = some g ∨ M ≤ g) ∧ vl.ownBlock ≠ some g ∧ g < wr.heap.size
  pos : ∀ g, vl.ownBlock = some g → M ≤ g ∧ g < wr.heap.size
  size : M ≤ wr.heap.size
/-- what holds of the rows' places all the while -/
structure Places (N M h : Nat) (X : Nat → Value) : Prop where
  lt : ∀ j g, (X j).ownBlock = some g → g < M ∧ N ≤ g
  ne : ∀ j g, (X j).ownBlock = some g → g ≠ h
  h : h < M
  apart : ∀ i j, i ≠ j → (X i).ownBlock = none ∨ (X i).ownBlock ≠ (X j).ownBlock
  nm : N ≤ M
theorem Long.shape {w wr : World} {N h n M i : Nat} {X : Nat → Value} {L : Nat → Nat} {a : Option Addr} {vl : Value} {Y : Nat → Value} (H : Long w N X L a h n M i vl Y wr) : ∃ a' cap', vl = .slice a' i cap' := by
  rcases H.own.2 with ⟨hv, h0⟩ | ⟨g, cap, _, hv, _⟩
  · rw [hv, h0]; exact ⟨_, _, rfl⟩
  · exact ⟨_, _, hv⟩
theorem Long.step {w w0 wr w2 : World} {N h n M i : Nat} {X : Nat → Value} {L : Nat → Nat} {a : Option Addr} {vl v' xv : Value} {Y : Nat → Value} {o : Obj} (P : Places N M h X) (H : Long w N X L a h n M i vl Y w0) (E : Ext w0 N X L i 16 xv wr)
    (hown : w2.ownsRow 0 24 1 v' (i + 1) ((List.range i).map Y ++ [xv])) (hg : Goes (wr.alloc o) w2 vl v' i 1) : Long w N X L a h n M (i + 1) v' (fun j => if j = i then xv else Y j) w2 := by
  have s0 := H.size
  have s1 := E.only.size
  -- what the last append may have turned
  obtain ⟨T, hT, hTv⟩ : ∃ T : List Nat, Only T (wr.alloc o) w2 ∧ ∀ x ∈ T, vl.ownBlock = some x := by
    rcases hg with ⟨g, cap, hv, hv', hgr⟩ | ⟨g, cap, hv', hgl, hgr⟩
    · exact ⟨[g], (Only.refl [g] _).grown hgr (fun k hk => by cases hk; exact .inl (by simp)), fun x hx => by simp at hx; subst hx; rw [hv]; rfl⟩
    · exact ⟨[], (Only.refl [] _).grown hgr (fun k hk => by cases hk), fun x hx => by simp at hx⟩
  have hT2 : Only T wr w2 := ((Only.refl T wr).alloc o).trans hT (fun x hx => .inl hx)
  have s2 := hT2.size
  have hS : ∀ x ∈ (X i).ownBlock.toList, (X i).ownBlock = some x := fun x hx => by simpa using hx
  have hX : ∀ j g, j ≠ i → (X j).ownBlock = some g → g ∉ (X i).ownBlock.toList := fun j g hj hg hm => by
    have := hS g hm
    rcases P.apart j i hj with h1 | h1
    · rw [h1] at hg; cases hg
    · exact h1 (by rw [hg, this])
  have hXT : ∀ j g, (X j).ownBlock = some g → g ∉ T := fun j g hg hm => by
    have h1 := (H.pos g (hTv g hm)).1
    have h2 := (P.lt j g hg).1
    omega
  -- the new value's place
  have hv'pos : (v'.ownBlock = vl.ownBlock) ∨ (∃ g, v'.ownBlock = some g ∧ wr.heap.size ≤ g ∧ g < w2.heap.size) := by
    rcases hg with ⟨g, cap, hv, hv', hgr⟩ | ⟨g, cap, hv', hgl, hgr⟩
    · exact .inl (by rw [hv, hv']; rfl)
    · refine .inr ⟨g, by rw [hv']; rfl, by simp at hgl; omega, ?_⟩
      exact (hown.lt g (by rw [hv']; rfl)).2
  have hxv : ∃ g cap, xv = .slice (some ⟨g, 0, none⟩) (L i + 16) cap ∧ ((X i).ownBlock = some g ∨ w0.heap.size ≤ g) := by
    rcases E.pos with ⟨g2, c2, e1, e2⟩ | ⟨e1, e2⟩ | ⟨g2, c2, e2, e3⟩
    · exact ⟨g2, c2, e2, .inl (by rw [e1]; rfl)⟩
    · omega
    · exact ⟨g2, c2, e2, .inr e3⟩
  obtain ⟨gx, cx, hxe, hxp⟩ := hxv
  have hgxl : gx < wr.heap.size := (E.own.lt gx (by rw [hxe]; rfl)).2
  have hgxv : vl.ownBlock ≠ some gx := fun e => by
    have h1 := H.pos gx e
    rcases hxp with h2 | h2
    · have := (P.lt i gx h2).1; omega
    · omega
  have hgxT : gx ∉ T := fun hm => hgxv (hTv gx hm)
  refine ⟨⟨fun j => ?_, P.apart⟩, ?_, ?_, ?_, fun j hj => ?_, fun g hg2 => ?_, by omega⟩
  · by_cases hj : j = i
    · subst hj; rw [Cm_length]; exact owns_only E.xi hT2 (hXT j)
    · exact owns_only (owns_only (H.rows.own j) E.only (fun g hg => hX j g hj hg)) hT2 (hXT j)
  · refine (H.outer.only E.only (fun hm => ?_)).only hT2 (fun hm => ?_)
    · exact P.ne i h (hS h hm) rfl
    · have := (H.pos h (hTv h hm)).1; have := P.h; omega
  · refine (H.below.trans (E.only.below (Nat.le_trans P.nm s0) (fun x hx => (P.lt i x (hS x hx)).2))).trans (hT2.below (by have := P.nm; omega) (fun x hx => ?_))
    have := (H.pos x (hTv x hx)).1; have := P.nm; omega
  · have e : (List.range (i + 1)).map (fun j => if j = i then xv else Y j) = (List.range i).map Y ++ [xv] := by
      rw [List.range_succ, List.map_append]
      congr 1
      · apply List.map_congr_left
        intro j hj
        have : j ≠ i := by have := List.mem_range.1 hj; omega
        simp [this]
      · simp
    rw [e]; exact hown
  · by_cases hji : j = i
    · subst hji
      simp only [if_true]
      refine ⟨gx, cx, hxe, owns_only E.own hT2 (fun g hg => by rw [hxe] at hg; cases hg; exact hgxT), ?_, ?_, by omega⟩
      · rcases hxp with h2 | h2
        · exact .inl h2
        · exact .inr (by omega)
      · rcases hv'pos with h1 | ⟨g, h1, h2, _⟩
        · rw [h1]; exact hgxv
        · rw [h1]; intro e; injection e with e; omega
    · obtain ⟨g, cap, e1, e2, e3, e4, e5⟩ := H.each j (by omega)
      simp only [hji, if_false]
      have hgS : g ∉ (X i).ownBlock.toList := fun hm => by
        rcases e3 with h1 | h1
        · exact hX j g hji h1 hm
        · have := (P.lt i g (hS g hm)).1; omega
      have hgT : g ∉ T := fun hm => e4 (hTv g hm)
      refine ⟨g, cap, e1, owns_only (owns_only e2 E.only (fun g' hg' => by rw [e1] at hg'; cases hg'; exact hgS)) hT2 (fun g' hg' => by rw [e1] at hg'; cases hg'; exact hgT), e3, ?_, by omega⟩
      rcases hv'pos with h1 | ⟨g', h1, h2, _⟩
      · rw [h1]; exact e4
      · rw [h1]; intro e; injection e with e; omega
  · rcases hv'pos with h1 | ⟨g', h1, h2, h3⟩
    · rw [h1] at hg2
      have := H.pos g hg2; omega
    · rw [h1] at hg2; injection hg2 with hg2; omega
theorem Dm_low (L : Nat → Nat) (t k : Nat) (hk : k < L t) : (Dm L t 16)[k]? = some (mark1 t k) := by
  unfold Dm
  rw [List.getElem?_append_left (by rw [Cm_length]; exact hk)]
  simp [Cm, hk]
theorem Dm_high (L : Nat → Nat) (t k : Nat) (hk : k < 16) : (Dm L t 16)[L t + k]? = some (mark2 t k) := by
  unfold Dm
  rw [List.getElem?_append_right (by rw [Cm_length]; omega), Cm_length, show L t + k - L t = k by omega]
  simp [hk]
/-- what the last look meets -/
theorem Long.look {w wr : World} {N h n M i : Nat} {X : Nat → Value} {L : Nat → Nat} {a : Option Addr} {vl : Value} {Y : Nat → Value} (H : Long w N X L a h n M i vl Y wr) (t : Nat) (ht : t < i) :
    ∃ gl cl gy cy, vl = .slice (some ⟨gl, 0, none⟩) i cl ∧ wr.cell? ⟨gl, t, none⟩ = some (.slice (some ⟨gy, 0, none⟩) (L t + 16) cy) ∧ (∀ k, k < L t → wr.cell? ⟨gy, k, none⟩ = some (.int .u8 ((mark1 t k : Nat) : Int))) ∧ (∀ k, k < 16 → wr.cell? ⟨gy, L t + k, none⟩ = some (.int .u8 ((mark2 t k : Nat) : Int))) ∧
      (∀ k, k < L t → ∃ g cap, X t = .slice (some ⟨g, 0, none⟩) (L t) cap ∧ wr.cell? ⟨g, k, none⟩ = some (.int .u8 ((mark1 t k : Nat) : Int))) := by
  obtain ⟨gy, cy, e1, e2, _⟩ := H.each t ht
  have hvl : ∃ gl cl, vl = .slice (some ⟨gl, 0, none⟩) i cl := by
    rcases H.own.2 with ⟨_, h0⟩ | ⟨g, cap, _, hv, _⟩
    · omega
    · exact ⟨g, cap, hv⟩
  obtain ⟨gl, cl, hvl⟩ := hvl
  refine ⟨gl, cl, gy, cy, hvl, ?_, fun k hk => ?_, fun k hk => ?_, fun k hk => ?_⟩
  · have := H.own.cells (g := gl) (by rw [hvl]; rfl) t (Y t) (by simp [ht])
    rw [add_here] at this
    rw [this, e1]
  · have := e2.cells (g := gy) (by rw [e1]; rfl) k (.int .u8 ((mark1 t k : Nat) : Int)) (by unfold cellsOf; rw [List.getElem?_map, Dm_low L t k hk]; rfl)
    rw [add_here] at this
    exact this
  · have := e2.cells (g := gy) (by rw [e1]; rfl) (L t + k) (.int .u8 ((mark2 t k : Nat) : Int)) (by unfold cellsOf; rw [List.getElem?_map, Dm_high L t k hk]; rfl)
    rw [add_here] at this
    exact this
  · obtain ⟨g, cap, hX, _, _, hc, _⟩ := H.rows.cell t k (by rw [Cm_length]; exact hk)
    rw [Cm_length] at hX
    refine ⟨g, cap, hX, ?_⟩
    rw [hc]
    simp [Cm]
end Go.Proofs.YtdlifcpdlbmijaaGreatDoor.B2
namespace Go.Proofs.YtdlifcpdlbmijaaGreatDoor.B2
open Go.RowKit
theorem info27 : (Tryz.prog.info? 24).map (fun i => (i.zero, i.size, i.bytes)) = some (some (.slice none 0 0), 1, 24) := by kernel_rfl
theorem one_any (W : World) (u : Value) (t : TypeId) : ∀ (j : Nat) (x : Value), [u][j]? = some x → (W.alloc (.cells #[u] t)).cell? ((⟨W.heap.size, 0, none⟩ : Addr).add j) = some x := by
  intro j x hx
  rw [add_here, cell_of_row _ _ _ _ _ _ (heap_alloc_new W _)]
  rw [show (#[u] : Array Value) = [u].toArray from rfl, List.getElem?_toArray]
  exact hx
set_option maxRecDepth 100000 in
set_option maxHeartbeats 2000000 in
theorem ownbytes_any (a : Option Addr) (h n cap N : Nat) (X : Nat → Value) (L : Nat → Nat) (w : World) (P : Places N w.heap.size h X) (hO : Outer w a h n X) (hR : ∃ C, Lots w N X C ∧ ∀ j, (C j).length = L j) (hn : n ≤ 1000) (hL : ∀ j, L j ≤ 1000000) (hz : ∀ j, n ≤ j → L j = 0) :
    Calls Tryz.prog 41 #[.slice a n cap] w fun e w' => e = .returned (.bool true) ∧ Below N w w' := by
  obtain ⟨i0, hi0, hz0, hz1, hz2⟩ := info_parts info5
  obtain ⟨i1, hi1, hy0, hy1, hy2⟩ := info_parts info27
  obtain ⟨C, hC, hlen⟩ := hR
  have M0 := Lib.hid (show Marked w N X L a h n 0 0 w from ⟨⟨C, hC, hlen, fun j k' hj => by omega⟩, hO, Below.refl _ _⟩)
  have HH := Lib.hid P.ne
  have HP := Lib.hid P
  have HL := Lib.hid hL
  have HZ := Lib.hid hz
  clear hO hC hlen hL P hz
  go_enter Tryz.func41, Tryz.ntmps41
  go_wp2
  go_loopw [3] (fun ii wr => ∃ i : Nat, i ≤ n ∧ ii = .int .i64 (i : Nat) ∧ Hid (Marked w N X L a h n i 0 wr)) (fun ii _ => n - (intOf ii).toNat)
  case atStart => exact ⟨0, Nat.zero_le _, rfl, M0⟩
  case round =>
    obtain ⟨i, hi, rfl, HM⟩ := hrel
    by_cases hlt : i < n
    · have hd : decide (i < n) = true := by simpa using hlt
      have hix : (i : Int) < (n : Int) := by omega
      go_wp2
      go_loopw [4] (fun kk wr2 => ∃ k : Nat, k ≤ L i ∧ kk = .int .i64 (k : Nat) ∧ Hid (Marked w N X L a h n i k wr2)) (fun kk _ => L i - (intOf kk).toNat)
      case atStart => exact ⟨0, Nat.zero_le _, rfl, HM⟩
      case round =>
        obtain ⟨k, hk, rfl, HM2⟩ := hrel
        have hLi := HL.out i
        obtain ⟨rfl, hhl, hcs⟩ := HM2.out.outer (by omega)
        have hci := hcs i hlt
        by_cases hlt2 : k < L i
        · obtain ⟨g, cp, u, hX, hc, hf, hst⟩ := HM2.out.cell hlt2 HH.out
          rw [hX] at hci
          have HST := Lib.hid hst
          obtain ⟨Li, hLe⟩ : ∃ Li, L i = Li := ⟨_, rfl⟩
          rw [hLe] at hci hlt2 hLi hk ⊢
          have hd2 : decide (k < Li) = true := by simpa using hlt2
          have hkx : (k : Int) < (Li : Int) := by omega
          have HMS := Lib.hid (mark1_spell i k)
          clear hst hX hLe hcs
          go_wp2
          rw [HMS.out]
          go_roundw
          case rel => exact ⟨k + 1, by omega, by go_num, HST⟩
          case measure => simp [intOf]; omega
        · obtain ⟨a', cp, hX⟩ := HM2.out.shape i
          rw [hX] at hci
          have HN := Lib.hid (HM2.out.next (by omega))
          obtain ⟨Li, hLe⟩ : ∃ Li, L i = Li := ⟨_, rfl⟩
          rw [hLe] at hci hlt2 hLi hk ⊢
          have hd2 : decide (k < Li) = false := by simpa using hlt2
          clear hX hLe hcs
          go_wp2
          go_roundw
          case rel => exact ⟨i + 1, by omega, by go_num, HN⟩
          case measure => simp [intOf]; omega
    · obtain rfl : i = n := by omega
      have hd : decide (i < i) = false := by simp
      have G0 := Lib.hid (show Long w N X L a h i w.heap.size 0 (.slice none 0 0) (fun _ => .slice none 0 0) wr from ⟨HM.out.all HZ.out, HM.out.outer, HM.out.below, World.ownsRow_nil _ _ _ _, fun j hj => by omega, fun g hg => (by cases hg), HM.out.below.size⟩)
      obtain ⟨M, hM⟩ : ∃ M, w.heap.size = M := ⟨_, rfl⟩
      rw [hM] at G0 HP
      clear hM hlt
      go_wp2
      go_loopw [5, 6] (fun vl ii wr => ∃ (j : Nat) (Y : Nat → Value), j ≤ i ∧ ii = .int .i64 (j : Nat) ∧ Hid (Long w N X L a h i M j vl Y wr)) (fun _ ii _ => i - (intOf ii).toNat)
      case atStart => exact ⟨0, _, Nat.zero_le _, rfl, G0⟩
      case round =>
        obtain ⟨j, Y, hj, rfl, HG⟩ := hrel
        by_cases hlt : j < i
        · have hd2 : decide (j < i) = true := by simpa using hlt
          have hjx : (j : Int) < (i : Int) := by omega
          obtain ⟨rfl, hhl, hcs⟩ := HG.out.outer (by omega)
          have hcj := hcs j hlt
          have hXs : ∃ a' cap', X j = .slice a' (L j) cap' := by
            rcases (HG.out.rows.own j).2 with ⟨hv, h0⟩ | ⟨g, cp, _, hv, _⟩
            · rw [Cm_length] at h0; rw [hv, h0]; exact ⟨_, _, rfl⟩
            · rw [Cm_length] at hv; exact ⟨_, _, hv⟩
          obtain ⟨aj, cj, hXj⟩ := hXs
          have hLj := HL.out j
          have E0 := Lib.hid (show Ext wr N X L j 0 (X j) wr from ⟨by
            have h1 := HG.out.rows.own j
            have h2 : wr.ownsRow 0 5 1 (X j) (L j) (cellsOf (Cm L j)) := by
              rw [Cm_length] at h1
              refine ⟨h1.1, ?_⟩
              rcases h1.2 with h3 | ⟨g, c2, cur, e1, _, r⟩
              · exact .inl h3
              · exact .inr ⟨g, c2, cur, e1, Nat.zero_le _, r⟩
            simpa [Dm] using h2, .inr (.inl ⟨rfl, rfl⟩), by have h1 := HG.out.rows.own j; rw [Cm_length] at h1; exact h1, Only.refl _ _⟩)
          rw [hXj] at hcj E0
          obtain ⟨av, cv, rfl⟩ := HG.out.shape
          clear hcs hXj
          obtain ⟨wo, hwo⟩ : ∃ wo, wo = wr := ⟨_, rfl⟩
          subst hwo
          go_wp2
          go_loopw [7, 8] (fun xv kk wr2 => ∃ k : Nat, k ≤ 16 ∧ kk = .int .i64 (k : Nat) ∧ Hid (Ext wo N X L j k xv wr2)) (fun _ kk _ => 16 - (intOf kk).toNat)
          case atStart => exact ⟨0, Nat.zero_le _, rfl, E0⟩
          case round =>
            obtain ⟨k, hk, rfl, HE⟩ := hrel
            by_cases hlt2 : k < 16
            · have hd3 : decide ((k : Int) < 16) = true := by simp; omega
              obtain ⟨ax, cx, rfl⟩ := HE.out.shape
              have HSP := Lib.hid (mark2_spell j k)
              have HXL := Lib.hid (show ∀ g, (X j).ownBlock = some g → g < wo.heap.size ∧ N ≤ g from fun g hg => ⟨by have h1 := (HP.out.lt j g hg).1; have h2 := HG.out.size; omega, (HP.out.lt j g hg).2⟩)
              go_wp2_with (at_builtin; refine wpList_append_goes _ rfl (.tmp 54) (.tmp 62) 24 rfl 5 i0 (.int .u8 0) 1 1 Tryz.underlying24 hi0 hz0 hz1 hz2 rfl (by decide) (.slice ax (L j + k) cx) (L j + k) (cellsOf (Dm L j k)) rfl (HE.out.own.alloc _) ⟨wr.heap.size, 0, none⟩ 1 1 [Value.int .u8 (((-1 - (j : Int)) * 97 + (k : Int) * 13) % 256)] rfl rfl (one_any wr _ 5) (by simp [Value.oneCell']) (by unfold maxLen; omega) (by omega) (by decide) ?_)
              intro v2 w2 hown2 hgo2
              rw [HSP.out] at hown2
              have HN := Lib.hid (HE.out.step hown2 hgo2 HXL.out)
              obtain ⟨a2, c2, rfl⟩ := HN.out.shape
              clear hown2 hgo2
              go_wp2
              go_roundw
              case rel => exact ⟨k + 1, by omega, by go_num, HN⟩
              case measure => simp [intOf]; omega
            · obtain rfl : k = 16 := by omega
              obtain ⟨ax, cx, rfl⟩ := HE.out.shape
              have HOW := Lib.hid (show wr.ownsRow 0 24 1 (.slice av j cv) j ((List.range j).map Y) from owns_only HG.out.own HE.out.only (fun g hg hm => by
                have h1 := (HG.out.pos g hg).1
                have h2 := (HP.out.lt j g (by simpa using hm)).1
                omega))
              go_wp2_with (at_builtin; refine wpList_append_goes _ rfl (.tmp 64) (.tmp 66) 40 rfl 24 i1 (.slice none 0 0) 1 24 Tryz.underlying40 hi1 hy0 hy1 hy2 rfl (by decide) (.slice av j cv) j ((List.range j).map Y) rfl (HOW.out.alloc _) ⟨wr.heap.size, 0, none⟩ 1 1 [Value.slice ax (L j + 16) cx] rfl rfl (one_any wr _ 24) (by simp [Value.oneCell']) (by unfold maxLen; omega) (by omega) (by decide) ?_)
              intro v2 w2 hown2 hgo2
              have HN := Lib.hid (HG.out.step HP.out HE.out hown2 hgo2)
              obtain ⟨a2, c2, rfl⟩ := HN.out.shape
              clear hown2 hgo2
              go_wp2
              go_roundw
              case rel => exact ⟨j + 1, _, by omega, by go_num, HN⟩
              case measure => simp [intOf]; omega
        · obtain rfl : j = i := by omega
          have hd2 : decide (j < j) = false := by simp
          obtain ⟨av, cv, rfl⟩ := HG.out.shape
          clear G0 hlt
          go_wp2
          go_loop [9] (fun ii => ∃ t : Nat, t ≤ j ∧ ii = .int .i64 (t : Nat)) (fun ii => j - (intOf ii).toNat)
          case atStart => exact ⟨0, Nat.zero_le _, rfl⟩
          case round =>
            obtain ⟨t, ht, rfl⟩ := hrel
            by_cases hlt3 : t < j
            · have hd4 : decide (t < j) = true := by simpa using hlt3
              have htx : (t : Int) < (j : Int) := by omega
              obtain ⟨rfl, hhl, hcs⟩ := HG.out.outer (by omega)
              have hct := hcs t hlt3
              obtain ⟨gl, cl, gy, cy, hvl, hlc, hy1, hy2, hx1⟩ := HG.out.look t hlt3
              have hXs : ∃ a' cap', X t = .slice a' (L t) cap' := by
                rcases (HG.out.rows.own t).2 with ⟨hv, h0⟩ | ⟨g, cp, _, hv, _⟩
                · rw [Cm_length] at h0; rw [hv, h0]; exact ⟨_, _, rfl⟩
                · rw [Cm_length] at hv; exact ⟨_, _, hv⟩
              obtain ⟨aj, cj, hXj⟩ := hXs
              have hLt := HL.out t
              rw [hXj] at hct hx1
              cases hvl
              have HY1 := Lib.hid hy1
              have HY2 := Lib.hid hy2
              have HX1 := Lib.hid hx1
              obtain ⟨Lt, hLe⟩ : ∃ Lt, L t = Lt := ⟨_, rfl⟩
              rw [hLe] at hct hlc HY1 HY2 HX1 hLt
              clear hXj hcs hy1 hy2 hx1 hLe
              go_wp2
              go_loop [11] (fun kk => ∃ k : Nat, k ≤ Lt ∧ kk = .int .i64 (k : Nat)) (fun kk => Lt - (intOf kk).toNat)
              case atStart => exact ⟨0, Nat.zero_le _, rfl⟩
              case round =>
                obtain ⟨k, hk, rfl⟩ := hrel
                by_cases hlt4 : k < Lt
                · have hd5 : decide (k < Lt) = true := by simpa using hlt4
                  have hkx : (k : Int) < (Lt : Int) := by omega
                  have hkx2 : (k : Int) < (Lt : Int) + 16 := by omega
                  obtain ⟨g, cp, hXe, hc1⟩ := HX1.out k hlt4
                  cases hXe
                  have hc2 := HY1.out k hlt4
                  have hms := mark1_spell t k
                  go_wp2
                  go_round
                  case rel => exact ⟨k + 1, by omega, by go_num⟩
                  case measure => simp [intOf]; omega
                · obtain rfl : k = Lt := by omega
                  have hd5 : decide (k < k) = false := by simp
                  go_wp2
                  go_loop [12] (fun kk => ∃ q : Nat, q ≤ 16 ∧ kk = .int .i64 (q : Nat)) (fun kk => 16 - (intOf kk).toNat)
                  case atStart => exact ⟨0, by omega, rfl⟩
                  case round =>
                    obtain ⟨q, hq, rfl⟩ := hrel
                    by_cases hlt5 : q < 16
                    · have hd6 : decide ((q : Int) < 16) = true := by simp; omega
                      have hqx : (k : Int) + (q : Int) < (k : Int) + 16 := by omega
                      have hqx0 : (0 : Int) ≤ (k : Int) + (q : Int) := by omega
                      have hqx2 : (q : Int) < 16 := by omega
                      have hc3 := HY2.out q hlt5
                      have hms2 := mark2_spell t q
                      go_wp2
                      go_round
                      case rel => exact ⟨q + 1, by omega, by go_num⟩
                      case measure => simp [intOf]; omega
                    · obtain rfl : q = 16 := by omega
                      go_wp2
                      go_round
                      case rel => exact ⟨t + 1, by omega, by go_num⟩
                      case measure => simp [intOf]; omega
            · obtain rfl : t = j := by omega
              have hd4 : decide (t < t) = false := by simp
              go_wp2
              go_ret
              exact ⟨rfl, HG.out.below⟩
end Go.Proofs.YtdlifcpdlbmijaaGreatDoor.B2
namespace Go.Proofs.YtdlifcpdlbmijaaGreatDoor.B2
open Go.RowKit
/-- the first rows have their marks, the row i those ahead of k -/
structure MarkedT (TT : List Nat) (w : World) (N : Nat) (X : Nat → Value) (L : Nat → Nat) (a : Option Addr) (h n i k : Nat) (wr : World) : Prop where
  rows : ∃ C, Lots wr N X C ∧ (∀ j, (C j).length = L j) ∧ ∀ j k', (j < i ∨ (j = i ∧ k' < k)) → k' < L j → (C j)[k']? = some (mark1 j k')
  outer : Outer wr a h n X
  below : Only TT w wr
theorem MarkedT.shape {TT : List Nat} {w wr : World} {N h n i k : Nat} {X : Nat → Value} {L : Nat → Nat} {a : Option Addr} (H : MarkedT TT w N X L a h n i k wr) (j : Nat) : ∃ a' cap', X j = .slice a' (L j) cap' := by
  obtain ⟨C, hL, hlen, _⟩ := H.rows
  rcases hL.shape j with ⟨hv, h0⟩ | ⟨g, cap, _, hv, _⟩
  · have : L j = 0 := by rw [← hlen, h0]; rfl
    rw [hv, this]; exact ⟨_, _, rfl⟩
  · rw [hv, hlen]; exact ⟨_, _, rfl⟩
theorem MarkedT.cell {TT : List Nat} {w wr : World} {N h n i k : Nat} {X : Nat → Value} {L : Nat → Nat} {a : Option Addr} (H : MarkedT TT w N X L a h n i k wr) (hk : k < L i) (hh : ∀ j g, (X j).ownBlock = some g → g ≠ h) (hTT : ∀ j g, (X j).ownBlock = some g → g ∈ TT) :
    ∃ g cap u, X i = .slice (some ⟨g, 0, none⟩) (L i) cap ∧ wr.cell? ⟨g, k, none⟩ = some u ∧ wr.frozen? ⟨g, k, none⟩ = false ∧ MarkedT TT w N X L a h n i (k + 1) (wr.setCell ⟨g, k, none⟩ (.int .u8 ((mark1 i k : Nat) : Int))) := by
  obtain ⟨C, hL, hlen, hm⟩ := H.rows
  obtain ⟨g, cap, hX, hNg, hgl, hc, hf⟩ := hL.cell i k (by rw [hlen]; exact hk)
  refine ⟨g, cap, _, by rw [hX, hlen], hc, hf, ⟨⟨_, hL.set (c := mark1 i k) hX (by rw [hlen]; exact hk), fun j => ?_, fun j k' hj hk' => ?_⟩, ?_, ?_⟩⟩
  · by_cases e : j = i
    · subst e; simp [hlen]
    · simp [e, hlen]
  · by_cases e : j = i
    · subst e
      simp only [if_true]
      rw [List.getElem?_set]
      by_cases e2 : k = k'
      · subst e2; rw [if_pos rfl, if_pos (by rw [hlen]; exact hk)]
      · rw [if_neg e2]; exact hm j k' (by omega) hk'
    · simp only [e, if_false]
      exact hm j k' (by omega) hk'
  · exact H.outer.only ((Only.refl [g] _).setCell (p := ⟨g, k, none⟩) (.inl (by simp)) _) (by
      have := hh i g (by rw [hX]; rfl)
      simpa using this.symm)
  · exact H.below.setCell (p := ⟨g, k, none⟩) (.inl (hTT i g (by rw [hX]; rfl))) _
theorem MarkedT.next {TT : List Nat} {w wr : World} {N h n i k : Nat} {X : Nat → Value} {L : Nat → Nat} {a : Option Addr} (H : MarkedT TT w N X L a h n i k wr) (hk : L i ≤ k) : MarkedT TT w N X L a h n (i + 1) 0 wr := by
  obtain ⟨C, hL, hlen, hm⟩ := H.rows
  exact ⟨⟨C, hL, hlen, fun j k' hj hk' => hm j k' (by
    by_cases e : j = i
    · subst e; exact .inr ⟨rfl, by omega⟩
    · exact .inl (by omega)) hk'⟩, H.outer, H.below⟩
theorem MarkedT.all {TT : List Nat} {w wr : World} {N h n : Nat} {X : Nat → Value} {L : Nat → Nat} {a : Option Addr} (H : MarkedT TT w N X L a h n n 0 wr) (hz : ∀ j, n ≤ j → L j = 0) : Lots wr N X (Cm L) := by
  obtain ⟨C, hL, hlen, hm⟩ := H.rows
  have e : C = Cm L := by
    funext j
    apply List.ext_getElem?
    intro k
    by_cases hk : k < L j
    · have hj : j < n := Nat.lt_of_not_le fun h => by have := hz j h; omega
      rw [hm j k (.inl hj) hk]
      simp [Cm, hk]
    · rw [List.getElem?_eq_none (by rw [hlen]; omega), List.getElem?_eq_none (by rw [Cm_length]; omega)]
  rw [← e]; exact hL
/-- the longer rows, i of them -/
structure LongT (TT : List Nat) (w : World) (N : Nat) (X : Nat → Value) (L : Nat → Nat) (a : Option Addr) (h n M i : Nat) (vl : Value) (Y : Nat → Value) (wr : World) : Prop where
  rows : Lots wr N X (Cm L)
  outer : Outer wr a h n X
  below : Only TT w wr
  own : wr.ownsRow 0 24 1 vl i ((List.range i).map Y)
  each : ∀ j, j < i → ∃ g cap, Y j = .slice (some ⟨g, 0, none⟩) (L j + 16) cap ∧ wr.ownsRow 0 5 1 (Y j) (L j + 16) (cellsOf (Dm L j 16)) ∧ ((X j).ownBlock = some g ∨ M ≤ g) ∧ vl.ownBlock ≠ some g ∧ g < wr.heap.size
  pos : ∀ g, vl.ownBlock = some g → M ≤ g ∧ g < wr.heap.size
  size : M ≤ wr.heap.size
theorem LongT.shape {TT : List Nat} {w wr : World} {N h n M i : Nat} {X : Nat → Value} {L : Nat → Nat} {a : Option Addr} {vl : Value} {Y : Nat → Value} (H : LongT TT w N X L a h n M i vl Y wr) : ∃ a' cap', vl = .slice a' i cap' := by
  rcases H.own.2 with ⟨hv, h0⟩ | ⟨g, cap, _, hv, _⟩
  · rw [hv, h0]; exact ⟨_, _, rfl⟩
  · exact ⟨_, _, hv⟩
theorem LongT.step {TT : List Nat} {w w0 wr w2 : World} {N h n M i : Nat} {X : Nat → Value} {L : Nat → Nat} {a : Option Addr} {vl v' xv : Value} {Y : Nat → Value} {o : Obj} (hwM : w.heap.size ≤ M) (hTT : ∀ j g, (X j).ownBlock = some g → g ∈ TT) (P : Places N M h X) (H : LongT TT w N X L a h n M i vl Y w0) (E : Ext w0 N X L i 16 xv wr)
    (hown : w2.ownsRow 0 24 1 v' (i + 1) ((List.range i).map Y ++ [xv])) (hg : Goes (wr.alloc o) w2 vl v' i 1) : LongT TT w N X L a h n M (i + 1) v' (fun j => if j = i then xv else Y j) w2 := by
  have s0 := H.size
  have s1 := E.only.size
  -- what the last append may have turned
  obtain ⟨T, hT, hTv⟩ : ∃ T : List Nat, Only T (wr.alloc o) w2 ∧ ∀ x ∈ T, vl.ownBlock = some x := by
    rcases hg with ⟨g, cap, hv, hv', hgr⟩ | ⟨g, cap, hv', hgl, hgr⟩
    · exact ⟨[g], (Only.refl [g] _).grown hgr (fun k hk => by cases hk; exact .inl (by simp)), fun x hx => by simp at hx; subst hx; rw [hv]; rfl⟩
    · exact ⟨[], (Only.refl [] _).grown hgr (fun k hk => by cases hk), fun x hx => by simp at hx⟩
  have hT2 : Only T wr w2 := ((Only.refl T wr).alloc o).trans hT (fun x hx => .inl hx)
  have s2 := hT2.size
  have hS : ∀ x ∈ (X i).ownBlock.toList, (X i).ownBlock = some x := fun x hx => by simpa using hx
  have hX : ∀ j g, j ≠ i → (X j).ownBlock = some g → g ∉ (X i).ownBlock.toList := fun j g hj hg hm => by
    have := hS g hm
    rcases P.apart j i hj with h1 | h1
    · rw [h1] at hg; cases hg
    · exact h1 (by rw [hg, this])
  have hXT : ∀ j g, (X j).ownBlock = some g → g ∉ T := fun j g hg hm => by
    have h1 := (H.pos g (hTv g hm)).1
    have h2 := (P.lt j g hg).1
    omega
  -- the new value's place
  have hv'pos : (v'.ownBlock = vl.ownBlock) ∨ (∃ g, v'.ownBlock = some g ∧ wr.heap.size ≤ g ∧ g < w2.heap.size) := by
    rcases hg with ⟨g, cap, hv, hv', hgr⟩ | ⟨g, cap, hv', hgl, hgr⟩
    · exact .inl (by rw [hv, hv']; rfl)
    · refine .inr ⟨g, by rw [hv']; rfl, by simp at hgl; omega, ?_⟩
      exact (hown.lt g (by rw [hv']; rfl)).2
  have hxv : ∃ g cap, xv = .slice (some ⟨g, 0, none⟩) (L i + 16) cap ∧ ((X i).ownBlock = some g ∨ w0.heap.size ≤ g) := by
    rcases E.pos with ⟨g2, c2, e1, e2⟩ | ⟨e1, e2⟩ | ⟨g2, c2, e2, e3⟩
    · exact ⟨g2, c2, e2, .inl (by rw [e1]; rfl)⟩
    · omega
    · exact ⟨g2, c2, e2, .inr e3⟩
  obtain ⟨gx, cx, hxe, hxp⟩ := hxv
  have hgxl : gx < wr.heap.size := (E.own.lt gx (by rw [hxe]; rfl)).2
  have hgxv : vl.ownBlock ≠ some gx := fun e => by
    have h1 := H.pos gx e
    rcases hxp with h2 | h2
    · have := (P.lt i gx h2).1; omega
    · omega
  have hgxT : gx ∉ T := fun hm => hgxv (hTv gx hm)
  refine ⟨⟨fun j => ?_, P.apart⟩, ?_, ?_, ?_, fun j hj => ?_, fun g hg2 => ?_, by omega⟩
  · by_cases hj : j = i
    · subst hj; rw [Cm_length]; exact owns_only E.xi hT2 (hXT j)
    · exact owns_only (owns_only (H.rows.own j) E.only (fun g hg => hX j g hj hg)) hT2 (hXT j)
  · refine (H.outer.only E.only (fun hm => ?_)).only hT2 (fun hm => ?_)
    · exact P.ne i h (hS h hm) rfl
    · have := (H.pos h (hTv h hm)).1; have := P.h; omega
  · refine (H.below.trans E.only (fun x hx => .inl (hTT i x (hS x hx)))).trans hT2 (fun x hx => .inr ?_)
    have := (H.pos x (hTv x hx)).1; omega
  · have e : (List.range (i + 1)).map (fun j => if j = i then xv else Y j) = (List.range i).map Y ++ [xv] := by
      rw [List.range_succ, List.map_append]
      congr 1
      · apply List.map_congr_left
        intro j hj
        have : j ≠ i := by have := List.mem_range.1 hj; omega
        simp [this]
      · simp
    rw [e]; exact hown
  · by_cases hji : j = i
    · subst hji
      simp only [if_true]
      refine ⟨gx, cx, hxe, owns_only E.own hT2 (fun g hg => by rw [hxe] at hg; cases hg; exact hgxT), ?_, ?_, by omega⟩
      · rcases hxp with h2 | h2
        · exact .inl h2
        · exact .inr (by omega)
      · rcases hv'pos with h1 | ⟨g, h1, h2, _⟩
        · rw [h1]; exact hgxv
        · rw [h1]; intro e; injection e with e; omega
    · obtain ⟨g, cap, e1, e2, e3, e4, e5⟩ := H.each j (by omega)
      simp only [hji, if_false]
      have hgS : g ∉ (X i).ownBlock.toList := fun hm => by
        rcases e3 with h1 | h1
        · exact hX j g hji h1 hm
        · have := (P.lt i g (hS g hm)).1; omega
      have hgT : g ∉ T := fun hm => e4 (hTv g hm)
      refine ⟨g, cap, e1, owns_only (owns_only e2 E.only (fun g' hg' => by rw [e1] at hg'; cases hg'; exact hgS)) hT2 (fun g' hg' => by rw [e1] at hg'; cases hg'; exact hgT), e3, ?_, by omega⟩
      rcases hv'pos with h1 | ⟨g', h1, h2, _⟩
      · rw [h1]; exact e4
      · rw [h1]; intro e; injection e with e; omega
  · rcases hv'pos with h1 | ⟨g', h1, h2, h3⟩
    · rw [h1] at hg2
      have := H.pos g hg2; omega
    · rw [h1] at hg2; injection hg2 with hg2; omega
/-- what the last look meets -/
theorem LongT.look {TT : List Nat} {w wr : World} {N h n M i : Nat} {X : Nat → Value} {L : Nat → Nat} {a : Option Addr} {vl : Value} {Y : Nat → Value} (H : LongT TT w N X L a h n M i vl Y wr) (t : Nat) (ht : t < i) :
    ∃ gl cl gy cy, vl = .slice (some ⟨gl, 0, none⟩) i cl ∧ wr.cell? ⟨gl, t, none⟩ = some (.slice (some ⟨gy, 0, none⟩) (L t + 16) cy) ∧ (∀ k, k < L t → wr.cell? ⟨gy, k, none⟩ = some (.int .u8 ((mark1 t k : Nat) : Int))) ∧ (∀ k, k < 16 → wr.cell? ⟨gy, L t + k, none⟩ = some (.int .u8 ((mark2 t k : Nat) : Int))) ∧
      (∀ k, k < L t → ∃ g cap, X t = .slice (some ⟨g, 0, none⟩) (L t) cap ∧ wr.cell? ⟨g, k, none⟩ = some (.int .u8 ((mark1 t k : Nat) : Int))) := by
  obtain ⟨gy, cy, e1, e2, _⟩ := H.each t ht
  have hvl : ∃ gl cl, vl = .slice (some ⟨gl, 0, none⟩) i cl := by
    rcases H.own.2 with ⟨_, h0⟩ | ⟨g, cap, _, hv, _⟩
    · omega
    · exact ⟨g, cap, hv⟩
  obtain ⟨gl, cl, hvl⟩ := hvl
  refine ⟨gl, cl, gy, cy, hvl, ?_, fun k hk => ?_, fun k hk => ?_, fun k hk => ?_⟩
  · have := H.own.cells (g := gl) (by rw [hvl]; rfl) t (Y t) (by simp [ht])
    rw [add_here] at this
    rw [this, e1]
  · have := e2.cells (g := gy) (by rw [e1]; rfl) k (.int .u8 ((mark1 t k : Nat) : Int)) (by unfold cellsOf; rw [List.getElem?_map, Dm_low L t k hk]; rfl)
    rw [add_here] at this
    exact this
  · have := e2.cells (g := gy) (by rw [e1]; rfl) (L t + k) (.int .u8 ((mark2 t k : Nat) : Int)) (by unfold cellsOf; rw [List.getElem?_map, Dm_high L t k hk]; rfl)
    rw [add_here] at this
    exact this
  · obtain ⟨g, cap, hX, _, _, hc, _⟩ := H.rows.cell t k (by rw [Cm_length]; exact hk)
    rw [Cm_length] at hX
    refine ⟨g, cap, hX, ?_⟩
    rw [hc]
    simp [Cm]
set_option maxRecDepth 100000 in
set_option maxHeartbeats 2000000 in
theorem ownbytesT_any (TT : List Nat) (a : Option Addr) (h n cap N : Nat) (X : Nat → Value) (L : Nat → Nat) (w : World) (hTT : ∀ j g, (X j).ownBlock = some g → g ∈ TT) (P : Places N w.heap.size h X) (hO : Outer w a h n X) (hR : ∃ C, Lots w N X C ∧ ∀ j, (C j).length = L j) (hn : n ≤ 1000) (hL : ∀ j, L j ≤ 1000000) (hz : ∀ j, n ≤ j → L j = 0) :
    Calls Tryz.prog 41 #[.slice a n cap] w fun e w' => e = .returned (.bool true) ∧ Only TT w w' := by
  obtain ⟨i0, hi0, hz0, hz1, hz2⟩ := info_parts info5
  obtain ⟨i1, hi1, hy0, hy1, hy2⟩ := info_parts info27
  obtain ⟨C, hC, hlen⟩ := hR
  have M0 := Lib.hid (show MarkedT TT w N X L a h n 0 0 w from ⟨⟨C, hC, hlen, fun j k' hj => by omega⟩, hO, Only.refl _ _⟩)
  have HTT := Lib.hid hTT
  have HH := Lib.hid P.ne
  have HP := Lib.hid P
  have HL := Lib.hid hL
  have HZ := Lib.hid hz
  clear hO hC hlen hL P hz hTT
  go_enter Tryz.func41, Tryz.ntmps41
  go_wp2
  go_loopw [3] (fun ii wr => ∃ i : Nat, i ≤ n ∧ ii = .int .i64 (i : Nat) ∧ Hid (MarkedT TT w N X L a h n i 0 wr)) (fun ii _ => n - (intOf ii).toNat)
  case atStart => exact ⟨0, Nat.zero_le _, rfl, M0⟩
  case round =>
    obtain ⟨i, hi, rfl, HM⟩ := hrel
    by_cases hlt : i < n
    · have hd : decide (i < n) = true := by simpa using hlt
      have hix : (i : Int) < (n : Int) := by omega
      go_wp2
      go_loopw [4] (fun kk wr2 => ∃ k : Nat, k ≤ L i ∧ kk = .int .i64 (k : Nat) ∧ Hid (MarkedT TT w N X L a h n i k wr2)) (fun kk _ => L i - (intOf kk).toNat)
      case atStart => exact ⟨0, Nat.zero_le _, rfl, HM⟩
      case round =>
        obtain ⟨k, hk, rfl, HM2⟩ := hrel
        have hLi := HL.out i
        obtain ⟨rfl, hhl, hcs⟩ := HM2.out.outer (by omega)
        have hci := hcs i hlt
        by_cases hlt2 : k < L i
        · obtain ⟨g, cp, u, hX, hc, hf, hst⟩ := HM2.out.cell hlt2 HH.out HTT.out
          rw [hX] at hci
          have HST := Lib.hid hst
          obtain ⟨Li, hLe⟩ : ∃ Li, L i = Li := ⟨_, rfl⟩
          rw [hLe] at hci hlt2 hLi hk ⊢
          have hd2 : decide (k < Li) = true := by simpa using hlt2
          have hkx : (k : Int) < (Li : Int) := by omega
          have HMS := Lib.hid (mark1_spell i k)
          clear hst hX hLe hcs
          go_wp2
          rw [HMS.out]
          go_roundw
          case rel => exact ⟨k + 1, by omega, by go_num, HST⟩
          case measure => simp [intOf]; omega
        · obtain ⟨a', cp, hX⟩ := HM2.out.shape i
          rw [hX] at hci
          have HN := Lib.hid (HM2.out.next (by omega))
          obtain ⟨Li, hLe⟩ : ∃ Li, L i = Li := ⟨_, rfl⟩
          rw [hLe] at hci hlt2 hLi hk ⊢
          have hd2 : decide (k < Li) = false := by simpa using hlt2
          clear hX hLe hcs
          go_wp2
          go_roundw
          case rel => exact ⟨i + 1, by omega, by go_num, HN⟩
          case measure => simp [intOf]; omega
    · obtain rfl : i = n := by omega
      have hd : decide (i < i) = false := by simp
      have G0 := Lib.hid (show LongT TT w N X L a h i w.heap.size 0 (.slice none 0 0) (fun _ => .slice none 0 0) wr from ⟨HM.out.all HZ.out, HM.out.outer, HM.out.below, World.ownsRow_nil _ _ _ _, fun j hj => by omega, fun g hg => (by cases hg), HM.out.below.size⟩)
      obtain ⟨M, hM⟩ : ∃ M, w.heap.size = M := ⟨_, rfl⟩
      rw [hM] at G0 HP
      have HWM := Lib.hid (Nat.le_of_eq hM)
      clear hM hlt
      go_wp2
      go_loopw [5, 6] (fun vl ii wr => ∃ (j : Nat) (Y : Nat → Value), j ≤ i ∧ ii = .int .i64 (j : Nat) ∧ Hid (LongT TT w N X L a h i M j vl Y wr)) (fun _ ii _ => i - (intOf ii).toNat)
      case atStart => exact ⟨0, _, Nat.zero_le _, rfl, G0⟩
      case round =>
        obtain ⟨j, Y, hj, rfl, HG⟩ := hrel
        by_cases hlt : j < i
        · have hd2 : decide (j < i) = true := by simpa using hlt
          have hjx : (j : Int) < (i : Int) := by omega
          obtain ⟨rfl, hhl, hcs⟩ := HG.out.outer (by omega)
          have hcj := hcs j hlt
          have hXs : ∃ a' cap', X j = .slice a' (L j) cap' := by
            rcases (HG.out.rows.own j).2 with ⟨hv, h0⟩ | ⟨g, cp, _, hv, _⟩
            · rw [Cm_length] at h0; rw [hv, h0]; exact ⟨_, _, rfl⟩
            · rw [Cm_length] at hv; exact ⟨_, _, hv⟩
          obtain ⟨aj, cj, hXj⟩ := hXs
          have hLj := HL.out j
          have E0 := Lib.hid (show Ext wr N X L j 0 (X j) wr from ⟨by
            have h1 := HG.out.rows.own j
            have h2 : wr.ownsRow 0 5 1 (X j) (L j) (cellsOf (Cm L j)) := by
              rw [Cm_length] at h1
              refine ⟨h1.1, ?_⟩
              rcases h1.2 with h3 | ⟨g, c2, cur, e1, _, r⟩
              · exact .inl h3
              · exact .inr ⟨g, c2, cur, e1, Nat.zero_le _, r⟩
            simpa [Dm] using h2, .inr (.inl ⟨rfl, rfl⟩), by have h1 := HG.out.rows.own j; rw [Cm_length] at h1; exact h1, Only.refl _ _⟩)
          rw [hXj] at hcj E0
          obtain ⟨av, cv, rfl⟩ := HG.out.shape
          clear hcs hXj
          obtain ⟨wo, hwo⟩ : ∃ wo, wo = wr := ⟨_, rfl⟩
          subst hwo
          go_wp2
          go_loopw [7, 8] (fun xv kk wr2 => ∃ k : Nat, k ≤ 16 ∧ kk = .int .i64 (k : Nat) ∧ Hid (Ext wo N X L j k xv wr2)) (fun _ kk _ => 16 - (intOf kk).toNat)
          case atStart => exact ⟨0, Nat.zero_le _, rfl, E0⟩
          case round =>
            obtain ⟨k, hk, rfl, HE⟩ := hrel
            by_cases hlt2 : k < 16
            · have hd3 : decide ((k : Int) < 16) = true := by simp; omega
              obtain ⟨ax, cx, rfl⟩ := HE.out.shape
              have HSP := Lib.hid (mark2_spell j k)
              have HXL := Lib.hid (show ∀ g, (X j).ownBlock = some g → g < wo.heap.size ∧ N ≤ g from fun g hg => ⟨by have h1 := (HP.out.lt j g hg).1; have h2 := HG.out.size; omega, (HP.out.lt j g hg).2⟩)
              go_wp2_with (at_builtin; refine wpList_append_goes _ rfl (.tmp 54) (.tmp 62) 24 rfl 5 i0 (.int .u8 0) 1 1 Tryz.underlying24 hi0 hz0 hz1 hz2 rfl (by decide) (.slice ax (L j + k) cx) (L j + k) (cellsOf (Dm L j k)) rfl (HE.out.own.alloc _) ⟨wr.heap.size, 0, none⟩ 1 1 [Value.int .u8 (((-1 - (j : Int)) * 97 + (k : Int) * 13) % 256)] rfl rfl (one_any wr _ 5) (by simp [Value.oneCell']) (by unfold maxLen; omega) (by omega) (by decide) ?_)
              intro v2 w2 hown2 hgo2
              rw [HSP.out] at hown2
              have HN := Lib.hid (HE.out.step hown2 hgo2 HXL.out)
              obtain ⟨a2, c2, rfl⟩ := HN.out.shape
              clear hown2 hgo2
              go_wp2
              go_roundw
              case rel => exact ⟨k + 1, by omega, by go_num, HN⟩
              case measure => simp [intOf]; omega
            · obtain rfl : k = 16 := by omega
              obtain ⟨ax, cx, rfl⟩ := HE.out.shape
              have HOW := Lib.hid (show wr.ownsRow 0 24 1 (.slice av j cv) j ((List.range j).map Y) from owns_only HG.out.own HE.out.only (fun g hg hm => by
                have h1 := (HG.out.pos g hg).1
                have h2 := (HP.out.lt j g (by simpa using hm)).1
                omega))
              go_wp2_with (at_builtin; refine wpList_append_goes _ rfl (.tmp 64) (.tmp 66) 40 rfl 24 i1 (.slice none 0 0) 1 24 Tryz.underlying40 hi1 hy0 hy1 hy2 rfl (by decide) (.slice av j cv) j ((List.range j).map Y) rfl (HOW.out.alloc _) ⟨wr.heap.size, 0, none⟩ 1 1 [Value.slice ax (L j + 16) cx] rfl rfl (one_any wr _ 24) (by simp [Value.oneCell']) (by unfold maxLen; omega) (by omega) (by decide) ?_)
              intro v2 w2 hown2 hgo2
              have HN := Lib.hid (HG.out.step HWM.out HTT.out HP.out HE.out hown2 hgo2)
              obtain ⟨a2, c2, rfl⟩ := HN.out.shape
              clear hown2 hgo2
              go_wp2
              go_roundw
              case rel => exact ⟨j + 1, _, by omega, by go_num, HN⟩
              case measure => simp [intOf]; omega
        · obtain rfl : j = i := by omega
          have hd2 : decide (j < j) = false := by simp
          obtain ⟨av, cv, rfl⟩ := HG.out.shape
          clear G0 hlt
          go_wp2
          go_loop [9] (fun ii => ∃ t : Nat, t ≤ j ∧ ii = .int .i64 (t : Nat)) (fun ii => j - (intOf ii).toNat)
          case atStart => exact ⟨0, Nat.zero_le _, rfl⟩
          case round =>
            obtain ⟨t, ht, rfl⟩ := hrel
            by_cases hlt3 : t < j
            · have hd4 : decide (t < j) = true := by simpa using hlt3
              have htx : (t : Int) < (j : Int) := by omega
              obtain ⟨rfl, hhl, hcs⟩ := HG.out.outer (by omega)
              have hct := hcs t hlt3
              obtain ⟨gl, cl, gy, cy, hvl, hlc, hy1, hy2, hx1⟩ := HG.out.look t hlt3
              have hXs : ∃ a' cap', X t = .slice a' (L t) cap' := by
                rcases (HG.out.rows.own t).2 with ⟨hv, h0⟩ | ⟨g, cp, _, hv, _⟩
                · rw [Cm_length] at h0; rw [hv, h0]; exact ⟨_, _, rfl⟩
                · rw [Cm_length] at hv; exact ⟨_, _, hv⟩
              obtain ⟨aj, cj, hXj⟩ := hXs
              have hLt := HL.out t
              rw [hXj] at hct hx1
              cases hvl
              have HY1 := Lib.hid hy1
              have HY2 := Lib.hid hy2
              have HX1 := Lib.hid hx1
              obtain ⟨Lt, hLe⟩ : ∃ Lt, L t = Lt := ⟨_, rfl⟩
              rw [hLe] at hct hlc HY1 HY2 HX1 hLt
              clear hXj hcs hy1 hy2 hx1 hLe
              go_wp2
              go_loop [11] (fun kk => ∃ k : Nat, k ≤ Lt ∧ kk = .int .i64 (k : Nat)) (fun kk => Lt - (intOf kk).toNat)
              case atStart => exact ⟨0, Nat.zero_le _, rfl⟩
              case round =>
                obtain ⟨k, hk, rfl⟩ := hrel
                by_cases hlt4 : k < Lt
                · have hd5 : decide (k < Lt) = true := by simpa using hlt4
                  have hkx : (k : Int) < (Lt : Int) := by omega
                  have hkx2 : (k : Int) < (Lt : Int) + 16 := by omega
                  obtain ⟨g, cp, hXe, hc1⟩ := HX1.out k hlt4
                  cases hXe
                  have hc2 := HY1.out k hlt4
                  have hms := mark1_spell t k
                  go_wp2
                  go_round
                  case rel => exact ⟨k + 1, by omega, by go_num⟩
                  case measure => simp [intOf]; omega
                · obtain rfl : k = Lt := by omega
                  have hd5 : decide (k < k) = false := by simp
                  go_wp2
                  go_loop [12] (fun kk => ∃ q : Nat, q ≤ 16 ∧ kk = .int .i64 (q : Nat)) (fun kk => 16 - (intOf kk).toNat)
                  case atStart => exact ⟨0, by omega, rfl⟩
                  case round =>
                    obtain ⟨q, hq, rfl⟩ := hrel
                    by_cases hlt5 : q < 16
                    · have hd6 : decide ((q : Int) < 16) = true := by simp; omega
                      have hqx : (k : Int) + (q : Int) < (k : Int) + 16 := by omega
                      have hqx0 : (0 : Int) ≤ (k : Int) + (q : Int) := by omega
                      have hqx2 : (q : Int) < 16 := by omega
                      have hc3 := HY2.out q hlt5
                      have hms2 := mark2_spell t q
                      go_wp2
                      go_round
                      case rel => exact ⟨q + 1, by omega, by go_num⟩
                      case measure => simp [intOf]; omega
                    · obtain rfl : q = 16 := by omega
                      go_wp2
                      go_round
                      case rel => exact ⟨t + 1, by omega, by go_num⟩
                      case measure => simp [intOf]; omega
            · obtain rfl : t = j := by omega
              have hd4 : decide (t < t) = false := by simp
              go_wp2
              go_ret
              exact ⟨rfl, HG.out.below⟩
end Go.Proofs.YtdlifcpdlbmijaaGreatDoor.B2
namespace Go.Proofs.YtdlifcpdlbmijaaGreatDoor.B2
open Go.RowKit
theorem info191 : (Tryz.prog.info? 225).map (fun i => (i.zero, i.size, i.bytes)) = some (some (.slice none 0 0), 1, 24) := by kernel_rfl
set_option maxRecDepth 100000 in
set_option maxHeartbeats 1000000 in
theorem own68 (w : World) : Calls Tryz.prog 70 #[.slice none 0 0] w fun e w' => e = .returned (.bool true) ∧ Below w.heap.size w w' := by
  obtain ⟨i0, hi, hz0, hz1, hz2⟩ := info_parts info191
  go_enter Tryz.func70, Tryz.ntmps70
  go_wp2_with (at_make; refine wpList_make_own _ rfl _ _ 69 rfl w.heap.size 225 i0 (.slice none 0 0) 1 Tryz.underlying69 hi hz0 hz1 .i64 .i64 _ 0 rfl rfl (by rfl) (by omega) (by unfold maxLen; omega) (Nat.le_refl _) ?_; intro w1 hown1 hgr1)
  have HB := Lib.hid ((Below.refl _ w).grown hgr1 (Nat.le_refl _) (fun k hk => by cases hk))
  clear hown1 hgr1
  go_loop [4] (fun i => i = .int .i64 0) (fun _ => 0)
  case atStart => rfl
  case round =>
    obtain rfl := hrel
    go_wp2
    go_ret
    exact ⟨rfl, HB.out⟩
/-- the book's cells: the rows of bytes, and nothing else -/
def bk (v : Value) : Array Value := (v :: List.replicate 31 (.slice none 0 0)).toArray
theorem bk_first (v : Value) : (bk v)[0]? = some v := rfl
theorem bk_rest (v : Value) (k : Nat) (h : k < 31) : (bk v)[k + 1]? = some (.slice none 0 0) := by
  unfold bk
  rw [List.getElem?_toArray, List.getElem?_cons_succ, List.getElem?_replicate, if_pos h]
/-- the book at pb has these rows; h is where they lie -/
def BookAt (w : World) (pb h n : Nat) (X : Nat → Value) : Prop :=
  ∃ v, w.heap[pb]? = some (.cells (bk v) 73 (0, 0)) ∧ w.ownsRow 0 24 1 v n ((List.range n).map X) ∧ h = v.ownBlock.getD pb ∧ v.ownBlock ≠ some pb
theorem BookAt.lt {w : World} {pb h n : Nat} {X : Nat → Value} (H : BookAt w pb h n X) : pb < w.heap.size ∧ h < w.heap.size := by
  obtain ⟨v, h1, h2, rfl, _⟩ := H
  have hp := (Array.getElem?_eq_some_iff.1 h1).1
  refine ⟨hp, ?_⟩
  cases e : v.ownBlock with
  | none => exact hp
  | some g => exact (h2.lt g e).2
theorem BookAt.only {w w' : World} {pb h n : Nat} {X : Nat → Value} (H : BookAt w pb h n X) {S : List Nat} (ho : Only S w w') (hp : pb ∉ S) (hh : h ∉ S) : BookAt w' pb h n X := by
  obtain ⟨v, h1, h2, rfl, h4⟩ := H
  refine ⟨v, (ho.block pb (Array.getElem?_eq_some_iff.1 h1).1 hp).trans h1, owns_only h2 ho (fun g hg => ?_), rfl, h4⟩
  rw [hg] at hh
  exact hh
theorem BookAt.below {w w' : World} {pb h n : Nat} {X : Nat → Value} (H : BookAt w pb h n X) (hb : Below w.heap.size w w') : BookAt w' pb h n X := H.only (Only.of_below hb []) (by simp) (by simp)
/-- behind a row more -/
def BookPost (w : World) (pb h n : Nat) (X : Nat → Value) (w' : World) : Prop := ∃ h', BookAt w' pb h' n X ∧ (h' = h ∨ w.heap.size ≤ h') ∧ Only [pb, h] w w'
theorem BookAt.congr {w : World} {pb h n : Nat} {X Y : Nat → Value} (H : BookAt w pb h n X) (he : ∀ j, j < n → Y j = X j) : BookAt w pb h n Y := by
  obtain ⟨v, h1, h2, h3, h4⟩ := H
  refine ⟨v, h1, ?_, h3, h4⟩
  have : (List.range n).map Y = (List.range n).map X := List.map_congr_left fun j hj => he j (List.mem_range.1 hj)
  rw [this]; exact h2
set_option maxRecDepth 100000 in
set_option maxHeartbeats 1000000 in
theorem bookbytes_any (pb h n m cap : Nat) (a : Option Addr) (X : Nat → Value) (hX : X n = .slice a m cap) (w : World) (H : BookAt w pb h n X) (hn : n ≤ 1000) :
    Calls Tryz.prog 38 #[.pointer (some ⟨pb, 0, none⟩), .slice a m cap] w fun e w' => e = .returned (.tuple #[]) ∧ BookPost w pb h (n + 1) X w' := by
  obtain ⟨i0, hi, hz0, hz1, hz2⟩ := info_parts info27
  obtain ⟨v, h1, h2, rfl, h4⟩ := H
  have hvs : ∃ av cv, v = .slice av n cv := by
    rcases h2.2 with ⟨hv, h0⟩ | ⟨g, c2, _, hv, _⟩
    · exact ⟨none, 0, by rw [hv, h0]⟩
    · exact ⟨_, _, hv⟩
  obtain ⟨av, cv, rfl⟩ := hvs
  have c0 : w.cell? ⟨pb, 0, none⟩ = some (.slice av n cv) := by rw [cell_of_row _ _ _ _ _ _ h1]; rfl
  have f0 : w.frozen? ⟨pb, 0, none⟩ = false := frozen_of_row _ _ _ _ _ h1
  have hpl := (Array.getElem?_eq_some_iff.1 h1).1
  have H1 := Lib.hid h1
  have H2 := Lib.hid h2
  have H4 := Lib.hid h4
  have HX := Lib.hid hX
  clear h1 h2 h4 hX
  go_enter Tryz.func38, Tryz.ntmps38
  go_wp2_with (at_builtin; refine wpList_append_place _ rfl (.tmp 8) (.tmp 10) 40 rfl 24 i0 (.slice none 0 0) 1 24 Tryz.underlying40 hi hz0 hz1 hz2 rfl (by decide) (.slice av n cv) n ((List.range n).map X) rfl (H2.out.alloc _) ⟨w.heap.size, 0, none⟩ 1 1 [Value.slice a m cap] rfl rfl (one_any w _ 24) (by simp [Value.oneCell']) (by unfold maxLen; omega) (by omega) ?_)
  intro v2 w2 hown2 hgr2 hpl2
  have hvs2 : ∃ a2 c3, v2 = .slice a2 (n + 1) c3 := by
    rcases hown2.2 with ⟨_, h0⟩ | ⟨g, c4, _, hv, _⟩
    · omega
    · exact ⟨_, _, hv⟩
  obtain ⟨a2, c3, rfl⟩ := hvs2
  have hne : some pb ≠ (Value.slice av n cv).ownBlock := fun e => H4.out e.symm
  have hb2 : w2.heap[pb]? = some (.cells (bk (.slice av n cv)) 73 (0, 0)) := (hgr2.block pb (by simp; omega) hne).trans ((Below.heap_alloc w _ pb hpl).trans H1.out)
  have c2 : w2.cell? ⟨pb, 0, none⟩ = some (.slice av n cv) := by rw [cell_of_row _ _ _ _ _ _ hb2]; rfl
  have f2 : w2.frozen? ⟨pb, 0, none⟩ = false := frozen_of_row _ _ _ _ _ hb2
  have hnb : (Value.slice a2 (n + 1) c3).ownBlock ≠ some pb := by
    rcases hpl2 with e | ⟨g, e, hg⟩
    · rw [e]; exact H4.out
    · rw [e]; simp at hg ⊢; omega
  have hsome : ∃ g, (Value.slice a2 (n + 1) c3).ownBlock = some g ∧ (g = (Value.slice av n cv).ownBlock.getD pb ∨ w.heap.size ≤ g) := by
    rcases hown2.2 with ⟨_, h0⟩ | ⟨g, _, _, hv, _⟩
    · omega
    · refine ⟨g, by rw [hv]; rfl, ?_⟩
      rcases hpl2 with e | ⟨g', e, hg⟩
      · left; rw [← e, hv]; rfl
      · right; rw [hv] at e; simp [Value.ownBlock] at e; omega
  have ho2 : Only [pb, (Value.slice av n cv).ownBlock.getD pb] w w2 := ((Only.refl _ w).alloc _).grown hgr2 (fun k hk => .inl (by simp [hk]))
  have HN := Lib.hid (show BookPost w pb ((Value.slice av n cv).ownBlock.getD pb) (n + 1) X (w2.setCell ⟨pb, 0, none⟩ (.slice a2 (n + 1) c3)) from by
    obtain ⟨g, hg1, hg2⟩ := hsome
    refine ⟨g, ⟨_, ?_, ?_, by rw [hg1]; rfl, hnb⟩, hg2, ho2.setCell (p := ⟨pb, 0, none⟩) (.inl (by simp)) _⟩
    · rw [heap_setCell_same _ _ _ _ _ _ hb2]; rfl
    · have e : (List.range (n + 1)).map X = (List.range n).map X ++ [Value.slice a m cap] := by rw [List.range_succ, List.map_append, List.map_singleton, HX.out]
      rw [e]
      exact owns_only hown2 ((Only.refl [pb] _).setCell (p := ⟨pb, 0, none⟩) (.inl (by simp)) _) (fun g' hg' hm => by
        simp at hm; subst hm; exact hnb hg'))
  clear hown2 hgr2 hpl2 hb2 hsome ho2
  go_wp2
  go_end0
  exact ⟨rfl, HN.out⟩
end Go.Proofs.YtdlifcpdlbmijaaGreatDoor.B2
namespace Go.Proofs.YtdlifcpdlbmijaaGreatDoor
set_option linter.unusedVariables false
set_option linter.unusedSimpArgs false
open Go.RowKit Go.PlainAid Go.Shelf
open B2 (Only Bys Row cellsOf owns_only)
open Gm (St Smp Chk)
/-- a chunk that is one -/
def GoodI (r : Cin) : Prop := ∃ g, IsC g r.f r.t r.N r.bs
set_option maxRecDepth 100000 in
theorem dec29_all (r : Cin) (hN : r.N ≤ 9223372036854775807) (a : Option Addr) (cap : Nat) (hc0 : a = none → cap = 0) (hbd : r.bs.length ≤ 1000000) (w : World) (H : Bys w a r.bs) (hT : TabAt w) :
    Calls Tryz.prog 29 #[.agg (chR r.f r.t r.N (.slice a r.bs.length cap))] w fun e w' => ((e = .returned (.bool false) ∧ GoodI r) ∨ (e = .returned (.bool true) ∧ ¬ GoodI r)) ∧ Below w.heap.size w w' := by
  obtain ⟨f, t, N, bs⟩ := r
  have A1 := (Below.refl w.heap.size w).alloc (Nat.le_refl _) (.cells (chR f t N (.slice a bs.length cap)) 26)
  have r1 := heap_alloc_new w (.cells (chR f t N (.slice a bs.length cap)) 26)
  obtain ⟨y0, y1, y2, y3⟩ := four73 r1
  have CC := Lib.hid (check_all f t N hN a bs cap hc0 hbd _ (H.below A1) (hT.below A1 hT.lt))
  have HA := Lib.hid A1
  clear A1 r1 H hT hN hc0 hbd
  unfold chR at *
  go_enter Tryz.func29, Tryz.ntmps29
  go_wp2_with fail
  go_at_call 30
  refine CC.out.mono ?_
  rintro e w1 ⟨h, hb⟩
  have HB := Lib.hid (HA.out.trans (hb.mono HA.out.size))
  clear hb CC
  rcases h with ⟨rfl, h⟩ | ⟨rfl, h⟩
  all_goals
    have HG := Lib.hid h
    clear h
    go_wp2_with fail
    go_ret
  · exact ⟨.inl ⟨rfl, HG.out⟩, HB.out⟩
  · exact ⟨.inr ⟨rfl, HG.out⟩, HB.out⟩
set_option maxRecDepth 100000 in
set_option maxHeartbeats 2000000 in
theorem index_all (a : Option Addr) (n c : Nat) (cs : List Cin) (hn : cs.length = n) (hz : n ≤ 1000000000) (hG : ∀ r ∈ cs, r.bs.length ≤ 1000000 ∧ r.N ≤ 9223372036854775807) (w : World) (H : CinAt w a cs) (hT : TabAt w) :
    Calls Tryz.prog 82 #[.slice a n c, .func (.func 29) #[] #[]] w fun e w' => ((e = .returned (.int .i64 (-1)) ∧ ∀ r ∈ cs, GoodI r) ∨ (∃ i : Nat, e = .returned (.int .i64 ((i : Nat) : Int)) ∧ i ≤ n ∧ ¬ ∀ r ∈ cs, GoodI r)) ∧ Below w.heap.size w w' := by
  have HL := Lib.hid (And.intro H (And.intro hn (And.intro hG hT)))
  clear H hn hG hT
  go_enter Tryz.func82, Tryz.ntmps82
  go_wp2_with fail
  go_loopw [5, 8] (fun j i wr => ∃ k : Nat, k ≤ n ∧ i = .int .i64 k ∧ Hid (Below w.heap.size w wr ∧ ∀ q (h : q < cs.length), q < k → GoodI cs[q])) (fun _ i _ => n - (intOf i).toNat)
  case atStart => exact ⟨0, Nat.zero_le _, rfl, Lib.hid ⟨Below.refl _ _, fun q h h2 => by omega⟩⟩
  case round =>
    obtain ⟨k, hk, rfl, HB⟩ := hrel
    by_cases hkn : k < n
    · have da : decide ((k : Int) < (n : Int)) = true := decide_eq_true (by omega)
      have da2 : decide (k < n) = true := decide_eq_true hkn
      have hkl : k < cs.length := by rw [HL.out.2.1]; exact hkn
      obtain ⟨b1, o1, rfl, hl1, hc1⟩ := (HL.out.1.below HB.out.1) (by intro e; rw [e] at hkl; simp at hkl)
      obtain ⟨ad, cap, p1, p2, p3, p4, hc0, hB⟩ := hc1 k hkl
      obtain ⟨hg1, hg2⟩ := HL.out.2.2.1 _ (List.getElem_mem hkl)
      have HST := Lib.hid (show GoodI cs[k] → ∀ q (h : q < cs.length), q < k + 1 → GoodI cs[q] from fun hx q h h2 => by
        by_cases e : q = k
        · subst e; exact hx
        · exact HB.out.2 q h (by omega))
      have HNO := Lib.hid (show ¬ GoodI cs[k] → ¬ ∀ r ∈ cs, GoodI r from fun hx h => hx (h _ (List.getElem_mem hkl)))
      generalize cs[k] = x at *
      have CO := Lib.hid (dec29_all x hg2 ad cap hc0 hg1 wr hB (HL.out.2.2.2.below HB.out.1 HL.out.2.2.2.lt))
      unfold chR at CO
      clear hc1 hB hg1 hg2 hc0
      go_wp2_with fail
      go_at_call 29
      refine CO.out.mono ?_
      rintro e w1 ⟨h, hb⟩
      have HB2 := Lib.hid (HB.out.1.trans (hb.mono HB.out.1.size))
      clear hb CO
      rcases h with ⟨rfl, h⟩ | ⟨rfl, h⟩
      · have HN := Lib.hid (HST.out h)
        clear h HST HNO
        go_wp2_with fail
        go_roundw
        case rel => exact ⟨k + 1, by omega, by go_num, Lib.hid ⟨HB2.out, HN.out⟩⟩
        case measure => simp [intOf]; omega
      · have HN := Lib.hid (HNO.out h)
        clear h HST HNO
        go_wp2_with fail
        go_ret
        exact ⟨.inr ⟨k, rfl, by omega, HN.out⟩, HB2.out⟩
    · obtain rfl : k = n := by omega
      have da : decide ((k : Int) < (k : Int)) = false := by simp
      have da2 : decide (k < k) = false := by simp
      go_wp2_with fail
      go_ret
      refine ⟨.inl ⟨rfl, fun r hr => ?_⟩, HB.out.1⟩
      obtain ⟨q, hq, rfl⟩ := List.getElem_of_mem hr
      exact HB.out.2 q hq (by rw [← HL.out.2.1]; exact hq)
set_option maxRecDepth 100000 in
theorem contains_all (a : Option Addr) (n c : Nat) (cs : List Cin) (hn : cs.length = n) (hz : n ≤ 1000000000) (hG : ∀ r ∈ cs, r.bs.length ≤ 1000000 ∧ r.N ≤ 9223372036854775807) (w : World) (H : CinAt w a cs) (hT : TabAt w) :
    Calls Tryz.prog 28 #[.slice a n c, .func (.func 29) #[] #[]] w fun e w' => ((e = .returned (.bool false) ∧ ∀ r ∈ cs, GoodI r) ∨ (e = .returned (.bool true) ∧ ¬ ∀ r ∈ cs, GoodI r)) ∧ Below w.heap.size w w' := by
  have C := Lib.hid (index_all a n c cs hn hz hG w H hT)
  clear hn hz hG H hT
  go_enter Tryz.func28, Tryz.ntmps28
  go_wp2_with fail
  go_at_call 82
  refine C.out.mono ?_
  rintro e w1 ⟨h, hb⟩
  have HB := Lib.hid hb
  clear hb
  rcases h with ⟨rfl, h⟩ | ⟨i, rfl, hi, h⟩
  · have HG := Lib.hid h
    clear h
    go_wp2_with fail
    go_ret
    exact ⟨.inl ⟨rfl, HG.out⟩, HB.out⟩
  · have HG := Lib.hid h
    have d1 : decide ((i : Int) ≥ 0) = true := decide_eq_true (by omega)
    have d2 : decide ((0 : Int) ≤ (i : Int)) = true := decide_eq_true (by omega)
    clear h
    go_wp2_with fail
    go_ret
    exact ⟨.inr ⟨rfl, HG.out⟩, HB.out⟩
end Go.Proofs.YtdlifcpdlbmijaaGreatDoor
namespace Go.Proofs.YtdlifcpdlbmijaaGreatDoor
set_option linter.unusedVariables false
set_option linter.unusedSimpArgs false
open Go.RowKit Go.PlainAid Go.Shelf
open B2 (Only Bys Row cellsOf owns_only)
open Gm (St Smp Chk)
/-- the samples of a chunk -/
def smpOf (r : Cin) : List Smp := Gm.rdAll r.N.toNat (Gm.rd0 (B2.Bt.unpack r.bs))
theorem isC_smp {r : Cin} {g : List Smp} (h : IsC g r.f r.t r.N r.bs) : g = smpOf r := by
  obtain ⟨G, hn, C⟩ := h
  have h2 := (one_says G C).2.1
  unfold smpOf
  rw [hn, Int.toNat_natCast]
  exact h2.symm
def upsC (cs : List Cin) : Prop := ∀ i (h : i + 1 < cs.length), cs[i].t < cs[i + 1].f
/-- what Decode tells -/
def DecSays (base : Nat) (cs : List Cin) (e : Ending) (w' : World) : Prop :=
  (e = .returned (.tuple #[.slice none 0 0, .int .u16 101]) ∧ ¬ ∀ r ∈ cs, GoodI r) ∨
  (e = .returned (.tuple #[.slice none 0 0, .int .u16 100]) ∧ (∀ r ∈ cs, GoodI r) ∧ ¬ upsC cs) ∨
  (∃ v, e = .returned (.tuple #[v, .int .u16 0]) ∧ OwnS w' base v (cs.flatMap smpOf) ∧ (∀ r ∈ cs, GoodI r) ∧ upsC cs)
theorem smps_len (cs : List Cin) (h : ∀ r ∈ cs, GoodI r) : ∀ k, k ≤ cs.length → ((cs.take k).flatMap smpOf).length ≤ 120 * k := by
  intro k
  induction k with
  | zero => intro _; simp
  | succ k ih =>
    intro hk
    rw [List.take_succ_eq_append_getElem (by omega), List.flatMap_append, List.length_append]
    have h1 := ih (by omega)
    obtain ⟨g, G⟩ := h _ (List.getElem_mem (show k < cs.length by omega))
    have h2 := isC_smp G
    have h3 := G.1.len
    rw [h2] at h3
    simp only [List.flatMap_cons, List.flatMap_nil, List.append_nil]
    omega
theorem smps_step (cs : List Cin) (k : Nat) (h : k < cs.length) : (cs.take k).flatMap smpOf ++ smpOf cs[k] = (cs.take (k + 1)).flatMap smpOf := by
  rw [List.take_succ_eq_append_getElem h, List.flatMap_append]
  simp
set_option maxRecDepth 100000 in
set_option maxHeartbeats 4000000 in
theorem decode_all (a : Option Addr) (n c : Nat) (cs : List Cin) (hn : cs.length = n) (hz : n ≤ 100000) (hG : ∀ r ∈ cs, r.bs.length ≤ 1000000 ∧ r.N ≤ 9223372036854775807) (w : World) (H : CinAt w a cs) (hT : TabAt w) :
    Calls Tryz.prog 7 #[.slice a n c] w fun e w' => DecSays w.heap.size cs e w' ∧ Below w.heap.size w w' := by
  have C0 := Lib.hid (contains_all a n c cs hn (by omega) hG w H hT)
  have HL := Lib.hid (And.intro H (And.intro hn hT))
  clear H hn hT hG
  go_enter Tryz.func7, Tryz.ntmps7
  go_wp2_with fail
  go_at_call 28
  refine C0.out.mono ?_
  rintro e w1 ⟨h, hb1⟩
  have HB1 := Lib.hid hb1
  clear hb1
  rcases h with ⟨rfl, h⟩ | ⟨rfl, h⟩
  rotate_left
  · have HG := Lib.hid h
    clear h
    go_wp2_with fail
    go_ret2
    exact ⟨.inl ⟨rfl, HG.out⟩, HB1.out⟩
  have HG := Lib.hid h
  clear h
  go_wp2_with fail
  go_loopw [4] (fun i wr => ∃ k : Nat, 1 ≤ k ∧ k ≤ n + 1 ∧ i = .int .i64 (k : Nat) ∧ Hid (Below w.heap.size w wr ∧ ∀ i (h : i + 1 < cs.length), i + 1 < k → cs[i].t < cs[i + 1].f)) (fun i _ => n + 1 - (intOf i).toNat)
  case atStart => exact ⟨1, by omega, by omega, by simp, Lib.hid ⟨HB1.out, fun i h h2 => by omega⟩⟩
  case round =>
    obtain ⟨k, hk1, hk2, rfl, HB⟩ := hrel
    by_cases hlt : k < n
    · have da : decide ((k : Int) < (n : Int)) = true := decide_eq_true (by omega)
      have da2 : decide (k < n) = true := decide_eq_true hlt
      obtain ⟨q, rfl⟩ : ∃ q, k = q + 1 := ⟨k - 1, by omega⟩
      have hkl : q + 1 < cs.length := by rw [HL.out.2.1]; exact hlt
      have hbd : Below w.heap.size w wr.drew := HB.out.1.trans ((drew_below wr).mono HB.out.1.size)
      obtain ⟨b1, o1, rfl, hl1, hc1⟩ := (HL.out.1.below hbd) (by intro e; rw [e] at hkl; simp at hkl)
      have p1 := (hc1 (q + 1) hkl).choose_spec.choose_spec.1
      have p2 := (hc1 q (by omega)).choose_spec.choose_spec.2.1
      have HST := Lib.hid (show cs[q].t < cs[q + 1].f → ∀ i (h : i + 1 < cs.length), i + 1 < q + 1 + 1 → cs[i].t < cs[i + 1].f from fun hx i h h2 => by
        by_cases e : i = q
        · subst e; exact hx
        · exact HB.out.2 i h (by omega))
      have HNO := Lib.hid (show ¬ cs[q].t < cs[q + 1].f → ¬ upsC cs from fun hx h => hx (h q hkl))
      obtain ⟨T1, hT1⟩ : ∃ T1, cs[q + 1].f = T1 := ⟨_, rfl⟩
      obtain ⟨T0, hT0⟩ : ∃ T0, cs[q].t = T0 := ⟨_, rfl⟩
      rw [hT1] at p1 HST HNO
      rw [hT0] at p2 HST HNO
      have hsub : ((q + 1 : Nat) : Int) - 1 = (q : Int) := by omega
      obtain ⟨k, hk⟩ : ∃ k, q + 1 = k := ⟨_, rfl⟩
      rw [hk] at p1 hsub da da2 hk1 hk2 hlt HST ⊢
      have HBD := Lib.hid hbd
      have hq0 : (0 : Int) ≤ (q : Int) := by omega
      have hqn : (q : Int) < (n : Int) := by omega
      clear hc1 hT1 hT0 hkl hbd hk
      by_cases hup : T0 < T1
      · have dl : decide (T1 ≤ T0) = false := decide_eq_false (by omega)
        have HN := Lib.hid (HST.out hup)
        clear HST HNO hup
        go_wp2_with fail
        go_region
        all_goals go_wp2_with fail
        all_goals exact ⟨⟨k + 1, by omega, by omega, by simp, Lib.hid ⟨HBD.out, HN.out⟩⟩, by simp [intOf]; omega⟩
      · have dl : decide (T1 ≤ T0) = true := decide_eq_true (by omega)
        have HN := Lib.hid (HNO.out hup)
        clear HST HNO hup
        go_wp2_with fail
        go_region
        all_goals go_wp2_with fail
        all_goals go_ret2
        all_goals exact ⟨.inr (.inl ⟨rfl, HG.out, HN.out⟩), HBD.out⟩
    · have da : decide ((k : Int) < (n : Int)) = false := decide_eq_false (by omega)
      have da2 : decide (k < n) = false := decide_eq_false hlt
      have HB0 := Lib.hid HB.out.1
      have HUP := Lib.hid (show upsC cs from fun i h => HB.out.2 i h (by have := HL.out.2.1; omega))
      clear hk1 hk2 hlt
      go_wp2_with fail
      go_loopw [5, 30] (fun v i w2 => ∃ k : Nat, k ≤ n ∧ i = .int .i64 (k : Nat) ∧ Hid (OwnS w2 w.heap.size v ((cs.take k).flatMap smpOf) ∧ Below w.heap.size w w2)) (fun _ i _ => n - (intOf i).toNat)
      case atStart => exact ⟨0, Nat.zero_le _, rfl, Lib.hid ⟨by simpa [OwnS, smC] using World.ownsRow_nil wr w.heap.size 79 2, HB0.out⟩⟩
      case round =>
        clear HB HB0 da da2
        obtain ⟨k, hk, rfl, HI⟩ := hrel
        by_cases hlt : k < n
        · have da : decide ((k : Int) < (n : Int)) = true := decide_eq_true (by omega)
          have da2 : decide (k < n) = true := decide_eq_true hlt
          have hkl : k < cs.length := by rw [HL.out.2.1]; exact hlt
          obtain ⟨b1, o1, rfl, hl1, hc1⟩ := (HL.out.1.below HI.out.2) (by intro e; rw [e] at hkl; simp at hkl)
          obtain ⟨ad, cp, p1, p2, p3, p4, _, hB⟩ := hc1 k hkl
          obtain ⟨g, hg⟩ := HG.out _ (List.getElem_mem hkl)
          have hgs := isC_smp hg
          have hst := smps_step cs k hkl
          have hln := smps_len cs HG.out k (by omega)
          rw [← hgs] at hst
          obtain ⟨hg1, hgn, hg2⟩ := hg
          generalize cs[k] = y at *
          obtain ⟨yf, yt, yN, ybs⟩ := y
          simp only at hgn hg2 hgs p1 p2 p3 p4 hB
          subst hgn
          obtain ⟨x, hx⟩ : ∃ x : Chk, (⟨yf, yt, g.length, ybs⟩ : Chk) = x := ⟨_, rfl⟩
          rw [hx] at hg2
          rw [show yf = x.frm by rw [← hx]] at p1
          rw [show yt = x.to by rw [← hx]] at p2
          rw [show g.length = x.n by rw [← hx]] at p3
          rw [show ybs = x.bs by rw [← hx]] at p4 hB
          clear hx
          have A1 := (Below.refl wr.heap.size wr).alloc (Nat.le_refl _) (.cells #[.int .i64 x.frm, .int .i64 x.to, .int .i64 ((x.n : Nat) : Int), .slice ad x.bs.length cp] 26)
          have r1 := heap_alloc_new wr (.cells #[.int .i64 x.frm, .int .i64 x.to, .int .i64 ((x.n : Nat) : Int), .slice ad x.bs.length cp] 26)
          have y0 : (wr.alloc (.cells #[.int .i64 x.frm, .int .i64 x.to, .int .i64 ((x.n : Nat) : Int), .slice ad x.bs.length cp] 26)).cell? ⟨wr.heap.size, 0, none⟩ = some (.int .i64 x.frm) := (cell_of_row _ _ 0 _ _ _ r1).trans rfl
          have y1 : (wr.alloc (.cells #[.int .i64 x.frm, .int .i64 x.to, .int .i64 ((x.n : Nat) : Int), .slice ad x.bs.length cp] 26)).cell? ⟨wr.heap.size, 1, none⟩ = some (.int .i64 x.to) := (cell_of_row _ _ 1 _ _ _ r1).trans rfl
          have y2 : (wr.alloc (.cells #[.int .i64 x.frm, .int .i64 x.to, .int .i64 ((x.n : Nat) : Int), .slice ad x.bs.length cp] 26)).cell? ⟨wr.heap.size, 2, none⟩ = some (.int .i64 ((x.n : Nat) : Int)) := (cell_of_row _ _ 2 _ _ _ r1).trans rfl
          have y3 : (wr.alloc (.cells #[.int .i64 x.frm, .int .i64 x.to, .int .i64 ((x.n : Nat) : Int), .slice ad x.bs.length cp] 26)).cell? ⟨wr.heap.size, 3, none⟩ = some (.slice ad x.bs.length cp) := (cell_of_row _ _ 3 _ _ _ r1).trans rfl
          have C6 := Lib.hid ((callsIn_wide (n := 8)).1 (readseq_in Fence.wide 8 trivial rfl x.frm x.to (x.n : Nat) (.slice ad x.bs.length cp) (wr.alloc (.cells #[.int .i64 x.frm, .int .i64 x.to, .int .i64 ((x.n : Nat) : Int), .slice ad x.bs.length cp] 26))))
          have A2 := A1.alloc (by simp) (.cells (chR x.frm x.to (x.n : Nat) (.slice ad x.bs.length cp)) 26)
          have r2 := heap_alloc_new (wr.alloc (.cells #[.int .i64 x.frm, .int .i64 x.to, .int .i64 ((x.n : Nat) : Int), .slice ad x.bs.length cp] 26)) (.cells (chR x.frm x.to (x.n : Nat) (.slice ad x.bs.length cp)) 26)
          have sz1 : (wr.alloc (.cells #[.int .i64 x.frm, .int .i64 x.to, .int .i64 ((x.n : Nat) : Int), .slice ad x.bs.length cp] 26)).heap.size = wr.heap.size + 1 := by simp
          rw [sz1] at r2 C6
          have hws := HI.out.2.size
          have C7 := Lib.hid (dec_seq x _ ad cp w.heap.size g ((cs.take k).flatMap smpOf) hg1 hg2 (by omega) _ r2 (hB.below A2) _ (HI.out.1.below A2) (by have := A2.size; omega))
          rw [hst] at C7
          have HA2 := Lib.hid (HI.out.2.trans (A2.mono hws))
          clear A1 r1 A2 r2 hws hB hg1 hg2 hc1 hl1 sz1 hst hln hgs
          unfold chR pt at C6 C7
          unfold chR at HA2
          go_wp2_with (first
            | (go_at_call 32; refine C6.out.mono ?_; rintro e w5 ⟨rfl, rfl⟩)
            | (go_at_call 31; refine C7.out.mono ?_; rintro e w6 ⟨v6, rfl, hO6, hb6⟩; have HN6 := Lib.hid (And.intro hO6 (HA2.out.trans hb6)); clear hO6 hb6))
          exact ⟨⟨k + 1, by omega, by simp, HN6⟩, by simp [intOf]; omega⟩
        · obtain rfl : k = n := by omega
          have da : decide ((k : Int) < (k : Int)) = false := by simp
          have da2 : decide (k < k) = false := by simp
          have HF := Lib.hid (show cs.take k = cs from List.take_of_length_le (by have h := HL.out.2.1; omega))
          rw [HF.out] at HI
          go_wp2_with fail
          exact bodyPost_ret (results_tmp2 rfl _ _ _) rfl ⟨.inr (.inr ⟨_, rfl, HI.out.1, HG.out, HUP.out⟩), HI.out.2⟩
end Go.Proofs.YtdlifcpdlbmijaaGreatDoor
