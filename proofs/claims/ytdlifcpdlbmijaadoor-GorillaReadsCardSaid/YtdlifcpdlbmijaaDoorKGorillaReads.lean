/-
  PROVED: a chunk is one, and has samples, just as the chapter says, of any bytes, any times and any number; ranging over it gives all of them, or as many as are asked for; for every chunk, which reads afterwards as it read before, and every int. Conditions: none.
-/
import Derived.Test.YtdlifcpdlbmijaaDoorK09
import Derived.Test.YtdlifcpdlbmijaaDoorKFGorillaReads
import Derived.Test.YtdlifcpdlbmijaaDoorTie
import Derived.Test.YtdlifcpdlbmijaaDoorCards
import Derived.OpenShut
import Derived.Deep.Slices
import Derived.Deep.DeepHandedRow
import Derived.SevenTiedAt
import Derived.WalkKit
import Derived.ProofKit
import Derived.ShutString
import Derived.ChangeOld
import Derived.Below
set_option linter.unusedVariables false
set_option linter.unusedSimpArgs false
namespace Go.Proofs.YtdlifcpdlbmijaaDoor
set_option linter.unusedVariables false
set_option linter.unusedSimpArgs false
open Go.RowKit Go.PlainAid Go.Shelf
open B2 (Only Bys Row cellsOf owns_only Lent)
open Gm (St Smp Chk)
theorem Sms.take {w : World} {a : Option Addr} {l : List Smp} (h : Sms w a l) (k : Nat) : Sms w a (l.take k) := fun hn => by
  obtain ⟨b, off, h1, h2, h3⟩ := h (by intro e; rw [e] at hn; simp at hn)
  refine ⟨b, off, h1, h2, fun i hi => ?_⟩
  rw [List.length_take] at hi
  rw [List.getElem_take]
  exact h3 i (by omega)
theorem isC_one {g k : List Smp} {f t N : Int} {bs : List Nat} (h : IsC g f t N bs) (h2 : IsC k f t N bs) : g = k := by
  obtain ⟨G, hn, C⟩ := h
  obtain ⟨G2, hn2, C2⟩ := h2
  have hl : g.length = k.length := by omega
  rw [← hl] at C2
  exact Gm.chk_same G.ok G2.ok C C2 rfl
theorem chunk_row {W : World} {f t N : Int} {d : Value} : (W.alloc (.cells #[.int .i64 f, .int .i64 t, .int .i64 N, d] 73)).heap[W.heap.size]? = some (.cells (chR f t N d) 73 (0, 0)) := heap_alloc_new W _
set_option maxHeartbeats 8000000 in
set_option maxRecDepth 100000 in
theorem reads_law (f t N n : Int) (hN : N ≤ 9223372036854775807) (hn : n ≤ 9223372036854775807) (a : Option Addr) (bs : List Nat) (cap : Nat) (hc0 : a = none → cap = 0) (k0 p0 p1 p2 c c0 c1 c2 o9 oa oc od : Nat) (w : World) (H : Bys w a bs) (hT : TabAt w) (HT : TabB w k0 p0 p1 p2 c c0 c1 c2 o9 oa oc od) :
    Calls Tryd.prog 4 #[.agg (chR f t N (.slice a bs.length cap)), .int .i64 n] w fun e w' => e = .returned (.bool true) ∧ Below w.heap.size w w' := by
  obtain ⟨m, hm⟩ : ∃ m, w.heap.size = m := ⟨_, rfl⟩
  have A1 := (Below.refl w.heap.size w).alloc (Nat.le_refl _) (.cells (chR f t N (.slice a bs.length cap)) 73)
  have r1 := heap_alloc_new w (.cells (chR f t N (.slice a bs.length cap)) 73)
  have s1 : (w.alloc (.cells (chR f t N (.slice a bs.length cap)) 73)).heap.size = m + 1 := by simp [hm]
  obtain ⟨y0, y1, y2, y3⟩ := four73 r1
  by_cases hbig : bs.length > 100000
  · have d1 : decide ((bs.length : Int) > 100000) = true := decide_eq_true (by omega)
    have HP := Lib.hid A1
    clear A1 r1 s1 H hT HT
    unfold chR at *
    go_enter Tryd.func4, Tryd.ntmps4
    go_wp2_with fail
    go_ret
    exact ⟨rfl, HP.out⟩
  have d1 : decide ((bs.length : Int) > 100000) = false := decide_eq_false (by omega)
  have HX := Lib.hid (And.intro H (And.intro hT (And.intro HT (And.intro hc0 (show bs.length ≤ 100000 by omega)))))
  have HM := Lib.hid hm
  have CK := Lib.hid (fun W (h : Below w.heap.size w W) => known_any W (hT.below h hT.lt))
  have CK1 := Lib.hid (CK.out _ A1)
  have HNN := Lib.hid (And.intro hN hn)
  obtain ⟨L, hL⟩ : ∃ L, bs.length = L := ⟨_, rfl⟩
  have HL := Lib.hid hL
  rw [hL] at y0 y1 y2 y3 d1 CK1 A1 r1 s1 ⊢
  have HA := Lib.hid (And.intro A1 (And.intro r1 s1))
  clear A1 r1 s1 H hT HT hbig hc0 hN hn hm hL
  unfold chR at *
  go_enter Tryd.func4, Tryd.ntmps4
  go_wp2_with fail
  refine CK1.out.mono ?_
  rintro e w2 ⟨rfl, hb2⟩
  -- what holds of every world behind it
  obtain ⟨W1, hW1⟩ : ∃ W1, w.alloc (.cells #[.int .i64 f, .int .i64 t, .int .i64 N, .slice a L cap] 73) = W1 := ⟨_, rfl⟩
  rw [hW1] at HA hb2 y0 y1 y2 y3
  have HBW := Lib.hid (fun W (h : Below W1.heap.size W1 W) => show Below w.heap.size w W from HA.out.1.trans (h.mono HA.out.1.size))
  have HCL := Lib.hid (fun W (h : Below W1.heap.size W1 W) => show W.cell? ⟨w.heap.size, 0, none⟩ = some (.int .i64 f) ∧ W.cell? ⟨w.heap.size, 1, none⟩ = some (.int .i64 t) ∧ W.cell? ⟨w.heap.size, 2, none⟩ = some (.int .i64 N) ∧ W.cell? ⟨w.heap.size, 3, none⟩ = some (.slice a L cap) from ⟨cell_below y0 h, cell_below y1 h, cell_below y2 h, cell_below y3 h⟩)
  obtain ⟨x0, x1, x2, x3⟩ := HCL.out w2 hb2
  have CE := Lib.hid (lentone_any w2.heap.size 1 f t N a bs cap HX.out.2.2.2.1 HX.out.2.2.2.2 (w2.alloc (.cells #[.int .i64 f, .int .i64 t, .int .i64 N, .slice a L cap] 73)) (by rw [HL.out]; exact chunk_row) (HX.out.1.below (HBW.out _ (hb2.alloc hb2.size _))))
  have HB2 := Lib.hid (hb2.alloc hb2.size (.cells #[.int .i64 f, .int .i64 t, .int .i64 N, .slice a L cap] 73))
  clear hb2 CK1 y0 y1 y2 y3 hW1
  go_wp2_with fail
  refine CE.out.mono ?_
  rintro e w3 ⟨g, g2, rfl, hLC, hg, hg2, hb3⟩
  have HB3 := Lib.hid (HB2.out.trans (hb3.mono HB2.out.size))
  obtain ⟨z0, z1, z2, z3, _⟩ := hLC.cells
  rw [HL.out] at z3
  have HLC := Lib.hid (fun W (h : Below w3.heap.size w3 W) => show LentC W g g2 f t N bs ∧ Bys W (some ⟨g2, 0, none⟩) bs from ⟨hLC.below h, (hLC.below h).lent.bytes HX.out.1.1 HX.out.1.2.1⟩)
  have HZC := Lib.hid (fun W (h : Below w3.heap.size w3 W) => show W.cell? ⟨g, 0, none⟩ = some (.int .i64 f) ∧ W.cell? ⟨g, 1, none⟩ = some (.int .i64 t) ∧ W.cell? ⟨g, 2, none⟩ = some (.int .i64 N) ∧ W.cell? ⟨g, 3, none⟩ = some (.slice (some ⟨g2, 0, none⟩) L (L + 2)) from ⟨cell_below z0 h, cell_below z1 h, cell_below z2 h, cell_below z3 h⟩)
  have HTA := Lib.hid (fun W (h : Below W1.heap.size W1 W) => show TabAt W ∧ TabB W k0 p0 p1 p2 c c0 c1 c2 o9 oa oc od from ⟨HX.out.2.1.below (HBW.out W h) HX.out.2.1.lt, HX.out.2.2.1.below (HBW.out W h)⟩)
  have CC := Lib.hid (check_all f t N HNN.out.1 (some ⟨g2, 0, none⟩) bs (L + 2) (fun e => by cases e) (by have := HX.out.2.2.2.2; omega) w3 (HLC.out w3 (Below.refl _ _)).2 (HTA.out w3 HB3.out).1)
  unfold chR at CC
  rw [HL.out] at CC
  clear hLC hg hg2 hb3 CE x0 x1 x2 x3 HB2
  go_wp2_with fail
  refine CC.out.mono ?_
  rintro e w4 ⟨hcase, hb4⟩
  have HB34 := Lib.hid hb4
  have HB4 := Lib.hid (HB3.out.trans (hb4.mono HB3.out.size))
  clear z0 z1 z2 z3 CC
  obtain ⟨z0, z1, z2, z3⟩ := HZC.out w4 hb4
  clear hb4
  rcases hcase with ⟨rfl, l, hl⟩ | ⟨rfl, hno⟩
  · have HC := Lib.hid hl
    obtain ⟨G, hn9, C⟩ := hl
    obtain ⟨nn, hnn⟩ : ∃ nn, n.toNat = nn := ⟨_, rfl⟩
    have hmx : max (0 : Int) n = ((nn : Nat) : Int) := by omega
    have HMX := Lib.hid hmx
    obtain ⟨ll, hll⟩ : ∃ ll, l.length = ll := ⟨_, rfl⟩
    obtain ⟨kk, hkk⟩ : ∃ kk, (l.take nn).length = kk := ⟨_, rfl⟩
    have hk1 : kk = min nn ll := by rw [← hkk, List.length_take, hll]
    have hlen := G.len
    rw [hll] at hlen hn9
    have HLL := Lib.hid (And.intro hll (And.intro hkk (And.intro hk1 hlen)))
    have CA1 := Lib.hid (show ∀ W, Below w3.heap.size w3 W → Below W1.heap.size W1 W → Calls Tryd.prog 18 #[.agg #[.int .i64 f, .int .i64 t, .int .i64 N, .slice (some ⟨g2, 0, none⟩) L (L + 2)], .int .i64 (-1)] W fun e w' => ∃ v', e = .returned v' ∧ OwnS w' W.heap.size v' l ∧ Below W.heap.size W w' from fun W h h2 => by
      have h9 := all_any l ⟨f, t, l.length, bs⟩ G C (some ⟨g2, 0, none⟩) (L + 2) W (HLC.out W h).2 (HTA.out W h2).1
      unfold chR at h9
      simp only at h9
      rw [hll, ← hn9, HL.out] at h9
      exact h9)
    have CA2 := Lib.hid (show ∀ W, Below w3.heap.size w3 W → Below W1.heap.size W1 W → Calls Tryd.prog 18 #[.agg #[.int .i64 f, .int .i64 t, .int .i64 N, .slice (some ⟨g2, 0, none⟩) L (L + 2)], .int .i64 (max 0 n)] W fun e w' => ∃ v', e = .returned v' ∧ OwnS w' W.heap.size v' (l.take nn) ∧ Below W.heap.size W w' from fun W h h2 => by
      have h9 := all_upto nn l ⟨f, t, l.length, bs⟩ G C (some ⟨g2, 0, none⟩) (L + 2) W (HLC.out W h).2 (HTA.out W h2).1
      unfold chR at h9
      simp only at h9
      rw [hll, ← hn9, HL.out, ← HMX.out] at h9
      exact h9)
    clear hnn hmx hll hkk hk1 hlen hn9 G C
    go_wp2_with fail
    refine (CA1.out w4 HB34.out HB4.out).mono ?_
    rintro e w5 ⟨v5, rfl, hO5, hb5⟩
    have HB35 := Lib.hid (HB34.out.trans (hb5.mono HB34.out.size))
    have HB5 := Lib.hid (HB4.out.trans (hb5.mono HB4.out.size))
    have HO5 := Lib.hid hO5
    clear z0 z1 z2 z3
    obtain ⟨z0, z1, z2, z3⟩ := HZC.out w5 HB35.out
    obtain ⟨a5, c5, rfl, _⟩ := hO5.shape
    rw [HLL.out.1]
    clear hO5 hb5
    go_wp2_with fail
    refine (CA2.out w5 HB35.out HB5.out).mono ?_
    rintro e w6 ⟨v6, rfl, hO6, hb6⟩
    have HB36 := Lib.hid (HB35.out.trans (hb6.mono HB35.out.size))
    have HB6 := Lib.hid (HB5.out.trans (hb6.mono HB5.out.size))
    have HO6 := Lib.hid hO6
    have HO56 := Lib.hid (HO5.out.below hb6)
    obtain ⟨a6, c6, rfl, _⟩ := hO6.shape
    rw [HLL.out.2.1]
    clear z0 z1 z2 z3 hO6 hb6
    obtain ⟨x0, x1, x2, x3⟩ := HCL.out w6 HB6.out
    have A6 := (Below.refl w6.heap.size w6).alloc (Nat.le_refl _) (.cells #[.int .i64 f, .int .i64 t, .int .i64 N, .slice a L cap] 73)
    have HB36a := Lib.hid (HB36.out.trans (A6.mono HB36.out.size))
    have HB6a := Lib.hid (HB6.out.trans (A6.mono HB6.out.size))
    have CWH := Lib.hid (wholeone_any g g2 w6.heap.size 1 f t N a bs cap HX.out.2.2.2.2 _ (HLC.out _ HB36a.out).1 (by rw [HL.out]; exact chunk_row) (HX.out.1.below (HBW.out _ HB6a.out)))
    have HA6 := Lib.hid A6
    clear A6
    go_wp2_with fail
    refine CWH.out.mono ?_
    rintro e w7 ⟨rfl, hb7⟩
    have HB7 := Lib.hid (HB6a.out.trans (hb7.mono HB6a.out.size))
    have HO57 := Lib.hid ((HO56.out.below HA6.out).below hb7)
    have HO67 := Lib.hid ((HO6.out.below HA6.out).below hb7)
    clear x0 x1 x2 x3 hb7 CWH
    obtain ⟨x0, x1, x2, x3⟩ := HCL.out w7 HB7.out
    have CR := Lib.hid (refall_any f t N a bs cap (by have := HX.out.2.2.2.2; omega) k0 p0 p1 p2 c c0 c1 c2 o9 oa oc od w7 (HX.out.1.below (HBW.out _ HB7.out)) (HTA.out _ HB7.out).2)
    unfold chR at CR
    rw [HL.out] at CR
    go_wp2_with fail
    refine CR.out.mono ?_
    rintro e w8 ⟨hb8, hres⟩
    rcases hres.symm with ⟨a8, n8, c8, _, hnc⟩ | ⟨l2, v, rfl, hO8, hC⟩
    · exact absurd ⟨l, HC.out⟩ hnc
    obtain rfl := isC_one HC.out hC
    have HB8 := Lib.hid (HB7.out.trans (hb8.mono HB7.out.size))
    have HO58 := Lib.hid (HO57.out.below hb8)
    have HO68 := Lib.hid (HO67.out.below hb8)
    have HO8 := Lib.hid hO8
    have CK8 := Lib.hid (CK.out _ (HBW.out _ HB8.out))
    obtain ⟨a8, c8, rfl, _⟩ := hO8.shape
    have hcap : l.length ≤ c8 := by
      rcases hO8.2 with ⟨hv, h0⟩ | ⟨gq, cq, cur, hv, _, _, hc, _⟩
      · omega
      · injection hv with _ _ e; omega
    rw [HLL.out.1] at hcap ⊢
    have hk0 : min ((ll : Nat) : Int) (max 0 n) = ((kk : Nat) : Int) := by have := HMX.out; have := HLL.out.2.2.1; omega
    have hk3 : ((kk : Nat) : Int) ≤ ((c8 : Nat) : Int) := by have := HLL.out.2.2.1; omega
    have hk4 : kk ≤ c8 := by omega
    have hk5 : (0 : Int) ≤ ((kk : Nat) : Int) := by omega
    clear x0 x1 x2 x3 hb8 CR hO8 hC hcap
    go_wp2_with fail
    refine CK8.out.mono ?_
    rintro e w9 ⟨rfl, hb9⟩
    have HB9 := Lib.hid (HB8.out.trans (hb9.mono HB8.out.size))
    have sms : ∀ {W : World} {N : Nat} {x : Option Addr} {y z : Nat} {q : List Smp}, OwnS W N (.slice x y z) q → Sms W x q := fun {W N x y z q} h => by
      obtain ⟨b9, d9, e9, h9⟩ := h.shape
      injection e9 with e9 _ _
      rw [e9]
      exact h9
    have CS1 := Lib.hid (samesmp_any a5 a8 c5 c8 ll ll l l HLL.out.1 HLL.out.1 w9 (sms (HO58.out.below hb9)) (sms (HO8.out.below hb9)) (by have := HLL.out.2.2.2; omega) (by have := HLL.out.2.2.2; omega))
    have CS2 := Lib.hid (fun W (h : Below w9.heap.size w9 W) => samesmp_any a6 a8 c6 c8 kk kk (l.take nn) (l.take nn) HLL.out.2.1 HLL.out.2.1 W (sms ((HO68.out.below hb9).below h)) ((sms ((HO8.out.below hb9).below h)).take nn) (by have := HLL.out.2.2; omega) (by have := HLL.out.2.2; omega))
    rw [show decide (l = l) = true from decide_eq_true rfl] at CS1
    rw [show decide (l.take nn = l.take nn) = true from decide_eq_true rfl] at CS2
    clear hb9 CK8 sms
    go_wp2_with fail
    refine CS1.out.mono ?_
    rintro e w10 ⟨rfl, hb10⟩
    have HB10 := Lib.hid (HB9.out.trans (hb10.mono HB9.out.size))
    have HB910 := Lib.hid hb10
    clear hb10 CS1
    go_wp2_with fail
    refine (CS2.out _ HB910.out).mono ?_
    rintro e w11 ⟨rfl, hb11⟩
    have HB11 := Lib.hid (HB10.out.trans (hb11.mono HB10.out.size))
    clear hb11 CS2
    go_wp2_with fail
    go_ret
    exact ⟨rfl, HBW.out _ HB11.out⟩
  · have HNO := Lib.hid hno
    have CA := Lib.hid (fun nn W (h : Below w3.heap.size w3 W) (h2 : Below W1.heap.size W1 W) => all_none f t N nn HNN.out.1 (some ⟨g2, 0, none⟩) bs (L + 2) (fun e => by cases e) (by have := HX.out.2.2.2.2; omega) hno W (HLC.out W h).2 (HTA.out W h2).1)
    unfold chR at CA
    rw [HL.out] at CA
    clear hno
    go_wp2_with fail
    refine (CA.out (-1) w4 HB34.out HB4.out).mono ?_
    rintro e w5 ⟨v5, rfl, hO5, hb5⟩
    have HB35 := Lib.hid (HB34.out.trans (hb5.mono HB34.out.size))
    have HB5 := Lib.hid (HB4.out.trans (hb5.mono HB4.out.size))
    have HO5 := Lib.hid hO5
    clear z0 z1 z2 z3
    obtain ⟨z0, z1, z2, z3⟩ := HZC.out w5 HB35.out
    obtain ⟨a5, c5, rfl, _⟩ := hO5.shape
    clear hO5 hb5
    go_wp2_with fail
    refine (CA.out (max 0 n) w5 HB35.out HB5.out).mono ?_
    rintro e w6 ⟨v6, rfl, hO6, hb6⟩
    have HB36 := Lib.hid (HB35.out.trans (hb6.mono HB35.out.size))
    have HB6 := Lib.hid (HB5.out.trans (hb6.mono HB5.out.size))
    have HO6 := Lib.hid hO6
    have HO56 := Lib.hid (HO5.out.below hb6)
    obtain ⟨a6, c6, rfl, _⟩ := hO6.shape
    clear z0 z1 z2 z3 hO6 hb6
    obtain ⟨x0, x1, x2, x3⟩ := HCL.out w6 HB6.out
    have A6 := (Below.refl w6.heap.size w6).alloc (Nat.le_refl _) (.cells #[.int .i64 f, .int .i64 t, .int .i64 N, .slice a L cap] 73)
    have HB36a := Lib.hid (HB36.out.trans (A6.mono HB36.out.size))
    have HB6a := Lib.hid (HB6.out.trans (A6.mono HB6.out.size))
    have CWH := Lib.hid (wholeone_any g g2 w6.heap.size 1 f t N a bs cap HX.out.2.2.2.2 _ (HLC.out _ HB36a.out).1 (by rw [HL.out]; exact chunk_row) (HX.out.1.below (HBW.out _ HB6a.out)))
    have HA6 := Lib.hid A6
    clear A6
    go_wp2_with fail
    refine CWH.out.mono ?_
    rintro e w7 ⟨rfl, hb7⟩
    have HB7 := Lib.hid (HB6a.out.trans (hb7.mono HB6a.out.size))
    have HO57 := Lib.hid ((HO56.out.below HA6.out).below hb7)
    have HO67 := Lib.hid ((HO6.out.below HA6.out).below hb7)
    clear x0 x1 x2 x3 hb7 CWH
    obtain ⟨x0, x1, x2, x3⟩ := HCL.out w7 HB7.out
    have CR := Lib.hid (refall_any f t N a bs cap (by have := HX.out.2.2.2.2; omega) k0 p0 p1 p2 c c0 c1 c2 o9 oa oc od w7 (HX.out.1.below (HBW.out _ HB7.out)) (HTA.out _ HB7.out).2)
    unfold chR at CR
    rw [HL.out] at CR
    go_wp2_with fail
    refine CR.out.mono ?_
    rintro e w8 ⟨hb8, hres⟩
    rcases hres with ⟨l, v, _, _, hC⟩ | ⟨a8, n8, c8, rfl, _⟩
    · exact absurd ⟨l, hC⟩ HNO.out
    have HB8 := Lib.hid (HB7.out.trans (hb8.mono HB7.out.size))
    have HO58 := Lib.hid (HO57.out.below hb8)
    have HO68 := Lib.hid (HO67.out.below hb8)
    have CK8 := Lib.hid (CK.out _ (HBW.out _ HB8.out))
    clear x0 x1 x2 x3 hb8 CR
    have hk0 : min (0 : Int) (max 0 n) = 0 := by omega
    go_wp2_with fail
    refine CK8.out.mono ?_
    rintro e w9 ⟨rfl, hb9⟩
    have HB9 := Lib.hid (HB8.out.trans (hb9.mono HB8.out.size))
    have hS5 : Sms w9 a5 [] := fun h => absurd rfl h
    have CS1 := Lib.hid (samesmp_any a5 none c5 0 0 0 [] [] rfl rfl w9 (fun h => absurd rfl h) (fun h => absurd rfl h) (by decide) (by decide))
    have CS2 := Lib.hid (fun W => samesmp_any a6 none c6 0 0 0 [] [] rfl rfl W (fun h => absurd rfl h) (fun h => absurd rfl h) (by decide) (by decide))
    rw [show decide (([] : List Smp) = []) = true from rfl] at CS1 CS2
    clear hb9 CK8 hS5
    go_wp2_with fail
    refine CS1.out.mono ?_
    rintro e w10 ⟨rfl, hb10⟩
    have HB10 := Lib.hid (HB9.out.trans (hb10.mono HB9.out.size))
    clear hb10 CS1
    go_wp2_with fail
    refine (CS2.out _).mono ?_
    rintro e w11 ⟨rfl, hb11⟩
    have HB11 := Lib.hid (HB10.out.trans (hb11.mono HB10.out.size))
    clear hb11 CS2
    go_wp2_with fail
    go_ret
    exact ⟨rfl, HBW.out _ HB11.out⟩
end Go.Proofs.YtdlifcpdlbmijaaDoor
namespace Go.Proofs.YtdlifcpdlbmijaaDoor
set_option linter.unusedVariables false
set_option linter.unusedSimpArgs false
open Go.RowKit Go.ChangeShapes Go.WideShapes
open B2 (Bys)
theorem cellsR2 : Tryd.prog.cellsOf 2 = 1 := by kernel_rfl
theorem cellsR3 : Tryd.prog.cellsOf 3 = 1 := by kernel_rfl
theorem cellsR71 : Tryd.prog.cellsOf 71 = 1 := by kernel_rfl
theorem cellsR73 : Tryd.prog.cellsOf 73 = 4 := by kernel_rfl
theorem four_list {cs : List Value} (h : cs.length = 4) : ∃ c0 c1 c2 c3, cs = [c0, c1, c2, c3] := by
  match cs, h with
  | [c0, c1, c2, c3], _ => exact ⟨c0, c1, c2, c3, rfl⟩
theorem chunk_of_trod {H : Type} {enc : TypeId × Value → H} {w : World} {fuel : Nat} {held : Bool} {cs : List Value} {x : DataW H × List MemPlace}
    (h : DataW.trod enc Tryd.prog w 0 (fun _ => true) held fuel 73 cs = some x) : ∃ (f t N : Int) (a : Option Addr) (bs : List Nat) (cap : Nat), cs = [.int .i64 f, .int .i64 t, .int .i64 N, .slice a bs.length cap] ∧ N ≤ 9223372036854775807 ∧ Bys w a bs ∧ (a = none → cap = 0) := by
  obtain ⟨ys, n, _, _, hcl, hyl, hf⟩ := DataW.trod_struct Tryd.underlying73 h
  rw [cellsR73] at hcl
  obtain ⟨c0, c1, c2, c3, rfl⟩ := four_list hcl
  have t0 : DataW.trod enc Tryd.prog w 0 (fun _ => true) held n 2 (([c0, c1, c2, c3].drop 0).take (Tryd.prog.cellsOf 2)) = ys[0]? := hf 0 _ rfl
  have t1 : DataW.trod enc Tryd.prog w 0 (fun _ => true) held n 2 (([c0, c1, c2, c3].drop 1).take (Tryd.prog.cellsOf 2)) = ys[1]? := hf 1 _ rfl
  have t2 : DataW.trod enc Tryd.prog w 0 (fun _ => true) held n 3 (([c0, c1, c2, c3].drop 2).take (Tryd.prog.cellsOf 3)) = ys[2]? := hf 2 _ rfl
  have t3 : DataW.trod enc Tryd.prog w 0 (fun _ => true) held n 71 (([c0, c1, c2, c3].drop 3).take (Tryd.prog.cellsOf 71)) = ys[3]? := hf 3 _ rfl
  have z0 : ys[0]? = some (ys[0]'(by rw [hyl]; decide)) := List.getElem?_eq_getElem _
  have z1 : ys[1]? = some (ys[1]'(by rw [hyl]; decide)) := List.getElem?_eq_getElem _
  have z2 : ys[2]? = some (ys[2]'(by rw [hyl]; decide)) := List.getElem?_eq_getElem _
  have z3 : ys[3]? = some (ys[3]'(by rw [hyl]; decide)) := List.getElem?_eq_getElem _
  rw [z0, cellsR2] at t0
  rw [z1, cellsR2] at t1
  rw [z2, cellsR3] at t2
  rw [z3, cellsR71] at t3
  obtain ⟨n0, e0, _, _⟩ := DataW.trod_int Tryd.underlying2 t0
  obtain ⟨n1, e1, _, _⟩ := DataW.trod_int Tryd.underlying2 t1
  obtain ⟨n2, e2, _, f2⟩ := DataW.trod_int Tryd.underlying3 t2
  have a0 : c0 = .int .i64 n0 := by simpa using e0
  have a1 : c1 = .int .i64 n1 := by simpa using e1
  have a2 : c2 = .int .i64 n2 := by simpa using e2
  subst a0 a1 a2
  have b2 := bounds_i64 f2
  have t3 : DataW.trod enc Tryd.prog w 0 (fun _ => true) held n 71 [c3] = some (ys[3]'(by rw [hyl]; decide)) := t3
  obtain ⟨a, len, cap, zs, rfl, hrow⟩ : ∃ a len cap zs, c3 = .slice a len cap ∧ B2.IsRow .u8 w a len cap zs := by
    rcases open_ints Tryd.underlying71 Tryd.underlying5 (by kernel_rfl) t3 with ⟨hcs, _⟩ | ⟨x, l, c, zs, hcs, _, hl, hm, hz, _, hcell, hwz⟩
    · have hc : c3 = .slice none 0 0 := by simpa using hcs
      subst hc
      exact ⟨_, _, _, [], rfl, .inl ⟨rfl, rfl, rfl, rfl⟩⟩
    · have hc : c3 = .slice (some x) l c := by simpa using hcs
      subst hc
      exact ⟨_, _, _, zs, rfl, .inr ⟨_, rfl, hl, hm, by simpa using hz, hcell, hwz⟩⟩
  obtain ⟨bs, hbl, HB, hc0, _⟩ := B2.bys_of_row hrow
  subst hbl
  exact ⟨n0, n1, n2, a, bs, cap, rfl, b2.2, HB, hc0⟩
end Go.Proofs.YtdlifcpdlbmijaaDoor
namespace Go.Proofs.YtdlifcpdlbmijaaDoor.gorillaReads
open Go.ChangeShapes Go.WideShapes Go.ChangeAt Go.RowKit
open Go.ChangeMaps (open_string shut_string)
set_option linter.unusedVariables false
theorem own : ownKnob Tryd.prog.godebug = none := by kernel_rfl
theorem laidOut : laidOutB Tryd.prog = true := by kernel_rfl
set_option maxRecDepth 100000 in
theorem lifted (os : Os) (started : os.Started) (H : Type) (enc : TypeId × Value → H) (F : Stop.Interp) :
    ReturnsInHanded {} Tryd.checked os 4 .any ((OpenSpec.ofChange Rows.gorillaReadsSpec).preRow enc Tryd.prog Tryd.f4 [] false laid1) (((OpenSpec.ofChange Rows.gorillaReadsSpec).at F).post enc Tryd.prog Tryd.f4 false true false false) := by
  refine returnsInHanded_of_row (C := Tryd.checked) (s := OpenSpec.ofChange Rows.gorillaReadsSpec) (F := F) (laid := laid1) own started (by kernel_rfl) Tryd.func4
    (ChangeSpec.witness_shaped (enc := enc) (C := Tryd.checked) (os := os) (s := Rows.gorillaReadsSpec) (X := fun w _ => laidMetH Tryd.prog laid1 w) false (startWorld os) #[.agg #[.int .i64 0, .int .i64 0, .int .i64 0, .slice none 0 0], .int .i64 0] 8 (startWorld_os os) (start_shaped os _) (by kernel_rfl) (by kernel_rfl) (by kernel_rfl) (door_met os _)) ?_
  intro W base args ds gs before hval0 hW hcnd _ _ hL hsh _
  have hval : ∀ (j : Nat) t v, Tryd.f4.params[j]? = some t → args[j]? = some v → Value.okWide Tryd.prog W .any base t v := hval0
  have hW' := hW
  obtain ⟨p, q, hA0, hV, rfl, hfz, hnd⟩ := hW
  have hA : DataW.TrodAll enc Tryd.prog W 0 (fun _ => true) true Tryd.f4.params.toList args.toList ds p := hA0
  rw [Tryd.params4] at hA hval
  obtain ⟨v0, vs0, d0, ds0, p0, q0, hargs, rfl, rfl, h0, r0⟩ := trodAll_cons hA
  obtain ⟨v1, vs1, d1, ds1, p1, q1, rfl, rfl, rfl, h1, r1⟩ := trodAll_cons r0
  obtain ⟨rfl, rfl, rfl⟩ := trodAll_nil r1
  obtain rfl : args = #[v0, v1] := by cases args; simp_all
  obtain ⟨rfl, rfl⟩ := trodVars_none hV
  obtain ⟨cs, rfl, hsz⟩ := okWide_struct Tryd.underlying73 (hval 0 73 v0 rfl rfl)
  have k0 := h0
  have lt0 : ∀ x ∈ p0, x.block < W.heap.size := by obtain ⟨m, hm⟩ := k0; exact DataW.trod_lt m _ _ _ hm
  have k1 := h1
  obtain ⟨a1, rfl, rfl, rfl, w1⟩ := open_int Tryd.underlying3 (hval 1 3 v1 rfl rfl) h1
  have b1 := bounds_i64 w1
  obtain ⟨fuel, hf⟩ := h0
  obtain ⟨f9, t9, N9, a9, bs, cap9, hcs, hN9, HO, hc9⟩ := chunk_of_trod hf
  obtain rfl : cs = chR f9 t9 N9 (.slice a9 bs.length cap9) := by
    obtain ⟨l9⟩ := cs
    have : l9 = [.int .i64 f9, .int .i64 t9, .int .i64 N9, .slice a9 bs.length cap9] := hcs
    rw [this]
    rfl
  have hT : TabAt W := laid_tab hL
  obtain ⟨q9, b0, b1', b2, c, c0, c1, c2, o9, oa, oc, od, hTB⟩ := laid_rows hL
  clear hA0 hval0 hf hL hsh
  refine (reads_law f9 t9 N9 a1 hN9 b1.2 a9 bs cap9 hc9 q9 b0 b1' b2 c c0 c1 c2 o9 oa oc od W HO hT hTB).mono fun e W' ⟨he, bel⟩ => ?_
  subst he
  exact ⟨_, rfl, _, _, _, [], _, [], hW', trodAll_mk1 (shut_bool Tryd.underlying4 _), (trodAll_cons_mk (Below.trod laidOut (by kernel_rfl) (of_decide_eq_true (by kernel_rfl)) k0 bel lt0) (trodAll_cons_mk (Below.trod laidOut (by kernel_rfl) (of_decide_eq_true (by kernel_rfl)) k1 bel (by simp)) trodAll_mk0)), rfl, bel.frame _, fun h => by cases h⟩
theorem over : Rows.gorillaReadsRow.holds Tryd.pinned (OpenSpec.ofChange Rows.gorillaReadsSpec) :=
  OpenClaim.holds_of_cond 4 Tryd.f4 rfl rfl rfl rfl rfl rfl rfl ⟨rfl, rfl, rfl, rfl, rfl⟩ rfl rfl rfl rfl rfl f1 Tryd.func4 f2 f3 f4
    (fun os started H enc _ F => by rw [OpenClaim.pre_eq_preRow]; exact lifted os started H enc F)
theorem proved : Rows.GorillaReadsSaid := over
/-- the tied card -/
theorem card : Rows.GorillaReadsCardSaid :=
  Claim7.holds_tied_plain_at .later [] [.data, .widerDeep] true (true, "4c488f6300586be83fdabe05b71e34cd2b865f58dfdb8a9afce37ced25a0800f") false
    proved (fun _ h => by cases h) (by kernel_rfl) (fun _ h => by cases h) gorillaReads_row_tie rfl ⟨rfl, rfl⟩ (by kernel_rfl) rfl
    (fun f fn hf hfn => by
      obtain rfl : f = 4 := Option.some.inj ((show Tryd.prog.funcNamed "barograph/barographlaw10.GorillaReads" = some 4 by kernel_rfl).symm.trans hf) |>.symm
      obtain rfl : fn = Tryd.f4 := (Option.some.inj (Tryd.func4.symm.trans hfn)).symm
      exact ⟨by kernel_rfl, fun j t ht => by
        rw [Tryd.params4] at ht
        have hm : t ∈ [73, 3] := by simpa using Array.mem_of_getElem? ht
        have hall : ([73, 3].all fun u => !Tryd.prog.wantsStandIn u) = true := by kernel_rfl
        exact (show Tryd.prog.wantsStandIn t = false by simpa using List.all_eq_true.1 hall t hm)⟩)
    (by kernel_rfl)
#print axioms card
end Go.Proofs.YtdlifcpdlbmijaaDoor.gorillaReads
