/-
  PROVED: samples whose times rise, of any steps and any numbers, are read again as they were written, bit for bit, by Decode and by All of each chunk; every chunk passes Check and says its number, its first and its last time; for every list of samples, which reads afterwards as it read before. Conditions: none.
-/
import Derived.Test.YtdlifcpdlbmijaaDoorK08
import Derived.Test.YtdlifcpdlbmijaaDoorK07
import Derived.Test.YtdlifcpdlbmijaaDoorKFGorillaBack
import Derived.Test.YtdlifcpdlbmijaaDoorTie
import Derived.Test.YtdlifcpdlbmijaaDoorCards
import Derived.OpenShut
import Derived.Deep.Slices
import Derived.Deep.DeepHandedRow
import Derived.SevenTiedAt
import Derived.WalkKit
import Derived.ProofKit
import Derived.ShutString
import Derived.ChangeOld
import Derived.Below
namespace Go.Proofs.YtdlifcpdlbmijaaDoor
set_option linter.unusedVariables false
set_option linter.unusedSimpArgs false
open Go.RowKit Go.PlainAid Go.Shelf
open B2 (Only Bys Row cellsOf owns_only)
open Gm (St Smp Chk)
theorem enc_small {l : List Smp} {cs : List Chk} (hl : ∀ a ∈ l, Gm.OkS a) (C : Gm.Enc l cs) : cs.length ≤ l.length + 1 ∧ ∀ c ∈ cs, c.bs.length ≤ 1000000000 := by
  refine ⟨by rw [C.len]; unfold Gm.cnt; omega, fun c hc => ?_⟩
  obtain ⟨j, hj, rfl⟩ := List.getElem_of_mem hc
  obtain ⟨_, _, _, k, hk, hP⟩ := C.each j hj
  have h1 := hP.length
  have h2 := out_len (Gm.grp l j) (fun y hy => hl y (Gm.grp_mem hy)) _ (Nat.le_refl _)
  rw [List.take_length] at h2
  have h3 : (Gm.grp l j).length ≤ 120 := by rw [Gm.grp_len]; omega
  omega
set_option maxHeartbeats 8000000 in
set_option maxRecDepth 100000 in
theorem one_law (a1 a2 : Option Addr) (n1 n2 c1 c2 : Nat) (l m : List Smp) (hl : l.length = n1) (hm : m.length = n2) (hz1 : n1 ≤ 9223372036854775807) (hz2 : n2 ≤ 9223372036854775807) (hlo : ∀ x ∈ l, Gm.OkS x) (hmo : ∀ x ∈ m, Gm.OkS x) (w : World) (H1 : Sms w a1 l) (H2 : Sms w a2 m) (hT : TabAt w) :
    Calls Tryd.prog 6 #[.slice a1 n1 c1, .slice a2 n2 c2] w fun e w' => e = .returned (.bool true) ∧ Below w.heap.size w w' := by
  have C1 := Lib.hid (rising_any a1 n1 c1 l hl hz1 hlo w H1)
  have HM := Lib.hid (And.intro H2 (And.intro hm (And.intro hz2 hmo)))
  have HT := Lib.hid hT
  have R1 := Gm.rising_is l hlo
  have R2 := Gm.rising_is m hmo
  obtain ⟨s, hs⟩ : ∃ s, Gm.rising l = s := ⟨_, rfl⟩
  obtain ⟨t, ht⟩ : ∃ t, Gm.rising m = t := ⟨_, rfl⟩
  rw [hs] at C1 R1
  rw [ht] at R2
  have HTT := Lib.hid ht
  have HR1 := Lib.hid R1
  have HR2 := Lib.hid R2
  clear hl hm hz1 hz2 hlo hmo H1 H2 hT hs ht R1 R2
  go_enter Tryd.func6, Tryd.ntmps6
  go_wp2_with fail
  go_at_call 22
  refine C1.out.mono ?_
  rintro e w1 ⟨v1, rfl, hO1, hb1⟩
  have HO1 := Lib.hid (And.intro hO1 hb1)
  have C2 := Lib.hid (rising_any a2 n2 c2 m HM.out.2.1 HM.out.2.2.1 HM.out.2.2.2 w1 (HM.out.1.below hb1))
  rw [HTT.out] at C2
  obtain ⟨b1, d1, rfl, _⟩ := hO1.shape
  clear hO1 hb1 C1
  go_wp2_with fail
  go_at_call 22
  refine C2.out.mono ?_
  rintro e w2 ⟨v2, rfl, hO2, hb2⟩
  have HO2 := Lib.hid (And.intro hO2 (And.intro hb2 (HO1.out.1.below hb2)))
  obtain ⟨b2, d2, rfl, _⟩ := hO2.shape
  have HB2 := Lib.hid (HO1.out.2.trans (hb2.mono HO1.out.2.size))
  have capOf : ∀ {W : World} {N : Nat} {b : Option Addr} {d : Nat} {q : List Smp}, OwnS W N (.slice b q.length d) q → q.length ≤ d := fun {W N b d q} h => by
    rcases h.2 with ⟨hv, h0⟩ | ⟨g, c, cur, hv, _, _, hc, _⟩
    · omega
    · injection hv with _ _ e; omega
  obtain ⟨k1, hk1⟩ : ∃ k1, s.length = k1 := ⟨_, rfl⟩
  obtain ⟨k2, hk2⟩ : ∃ k2, t.length = k2 := ⟨_, rfl⟩
  have HK := Lib.hid (And.intro hk1 hk2)
  have hT2 := HT.out.below HB2.out HT.out.lt
  have S1 : Sms w2 b1 s := by obtain ⟨a, c, h, h2⟩ := HO2.out.2.2.shape; injection h with h; subst h; exact h2
  have S2 : Sms w2 b2 t := by obtain ⟨a, c, h, h2⟩ := HO2.out.1.shape; cases h; exact h2
  have hc1 := capOf HO2.out.2.2
  have hc2 := capOf HO2.out.1
  rw [hk1] at hc1 ⊢
  rw [hk2] at hc2 ⊢
  have C3 := Lib.hid (encode_any b1 k1 d1 s hk1 hc1 HR1.out w2 S1 hT2)
  have HSS := Lib.hid (And.intro S1 (And.intro S2 hc2))
  clear hO2 hb2 C2 capOf hT2 S1 S2 hc1 hc2 hk1 hk2
  go_wp2_with fail
  go_at_call 23
  refine C3.out.mono ?_
  rintro e w3 ⟨v3, cs, es, rfl, hE3, hC3, hb3⟩
  obtain ⟨x3, y3, rfl⟩ := hC3.shape
  have HC3 := Lib.hid (And.intro hE3 (And.intro hC3 hb3))
  have HB3 := Lib.hid (HB2.out.trans (hb3.mono HB2.out.size))
  have C4 := Lib.hid (encode_any b2 k2 d2 t HK.out.2 HSS.out.2.2 HR2.out w3 (HSS.out.2.1.below hb3) (HT.out.below HB3.out HT.out.lt))
  obtain ⟨j1, hj1⟩ : ∃ j1, cs.length = j1 := ⟨_, rfl⟩
  have HJ1 := Lib.hid hj1
  rw [hj1]
  clear hE3 hC3 hb3 C3 hj1
  go_wp2_with fail
  go_at_call 23
  refine C4.out.mono ?_
  rintro e w4 ⟨v4, ds, fs, rfl, hE4, hC4, hb4⟩
  obtain ⟨x4, y4, rfl⟩ := hC4.shape
  have HC4 := Lib.hid (And.intro hE4 (And.intro hC4 (And.intro hb4 (HC3.out.2.1.below hb4))))
  have HB4 := Lib.hid (HB3.out.trans (hb4.mono HB3.out.size))
  obtain ⟨j2, hj2⟩ : ∃ j2, ds.length = j2 := ⟨_, rfl⟩
  have HJ2 := Lib.hid hj2
  rw [hj2]
  have CK := Lib.hid (known_any w4 (HT.out.below HB4.out HT.out.lt))
  clear hE4 hC4 hb4 C4 hj2
  go_wp2_with fail
  go_at_call 8
  refine CK.out.mono ?_
  rintro e w5 ⟨rfl, hb5⟩
  have HB5 := Lib.hid (HB4.out.trans (hb5.mono HB4.out.size))
  have q1 := HC4.out.2.2.2.below hb5
  have q2 := HC4.out.2.1.below hb5
  have e3 := enc_small HR1.out.ok HC3.out.1
  have e4 := enc_small HR2.out.ok HC4.out.1
  have l1 := HR1.out.len
  have l2 := HR2.out.len
  have C5 := Lib.hid (samechs_any x3 x4 y3 y4 j1 j2 cs ds HJ1.out HJ2.out w5 (q1.chs x3 _ y3 rfl) (q2.chs x4 _ y4 rfl) (by rw [← HJ1.out]; omega) (by rw [← HJ2.out]; omega) e3.2 e4.2)
  have HS5 := Lib.hid (show Sms w5 b1 s ∧ Sms w5 b2 t from ⟨((HSS.out.1.below HC3.out.2.2).below HC4.out.2.2.1).below hb5, ((HSS.out.2.1.below HC3.out.2.2).below HC4.out.2.2.1).below hb5⟩)
  have HLL := Lib.hid (And.intro l1 l2)
  have HEQ := Lib.hid (show decide (cs = ds) = decide (s = t) from decide_eq_decide.2 (Gm.enc_same HR1.out.ok HR2.out.ok HC3.out.1 HC4.out.1))
  rw [HEQ.out] at C5
  clear hb5 q1 q2 e3 e4 l1 l2 CK
  obtain ⟨D, hD⟩ : ∃ D, decide (s = t) = D := ⟨_, rfl⟩
  rw [hD] at C5
  have HD := Lib.hid hD
  clear hD
  go_wp2_with fail
  go_at_call 13
  refine C5.out.mono ?_
  rintro e w6 ⟨rfl, hb6⟩
  have C6 := Lib.hid (samesmp_any b1 b2 d1 d2 k1 k2 s t HK.out.1 HK.out.2 w6 (HS5.out.1.below hb6) (HS5.out.2.below hb6) (by rw [← HK.out.1]; have := HLL.out.1; omega) (by rw [← HK.out.2]; have := HLL.out.2; omega))
  rw [HD.out] at C6
  have HB6 := Lib.hid (HB5.out.trans (hb6.mono HB5.out.size))
  clear hb6 C5
  go_wp2_with fail
  go_at_call 21
  refine C6.out.mono ?_
  rintro e w7 ⟨rfl, hb7⟩
  have HB7 := Lib.hid (HB6.out.trans (hb7.mono HB6.out.size))
  clear hb7 C6
  have hDD : (D == D) = true := by simp
  go_wp2_with fail
  go_ret
  exact ⟨rfl, HB7.out⟩
end Go.Proofs.YtdlifcpdlbmijaaDoor
namespace Go.Proofs.YtdlifcpdlbmijaaDoor
set_option linter.unusedVariables false
set_option linter.unusedSimpArgs false
open Go.RowKit Go.ChangeShapes Go.WideShapes
open Gm (St Smp)
theorem two_cellsO {cs : List Value} (h : cs.length = 2) : ∃ c0 c1, cs = [c0, c1] := by
  rcases cs with _ | ⟨c0, _ | ⟨c1, _ | ⟨c2, t⟩⟩⟩
  · cases h
  · cases h
  · exact ⟨c0, c1, rfl⟩
  · simp at h
theorem cells2O : Tryd.prog.cellsOf 2 = 1 := by kernel_rfl
theorem cells65nO : Tryd.prog.cellsOf 68 = 1 := by kernel_rfl
theorem cells70O : Tryd.prog.cellsOf 70 = 2 := by kernel_rfl
/-- one sample's cells -/
theorem smp_cellsO {H : Type} {enc : TypeId × Value → H} {w : World} {base fuel : Nat} {spare : Nat → Bool} {held : Bool} {cs : List Value} {a : Addr} {d : DataW H} {pl : List MemPlace}
    (hc : w.cells? base a 2 = some cs) (ht : DataW.trod enc Tryd.prog w base spare held fuel 70 cs = some (d, pl)) :
    ∃ o : Smp, Gm.OkS o ∧ w.cell? (a.add 0) = some (.int .i64 o.t) ∧ w.cell? (a.add 1) = some (.int .u64 ((o.v : Nat) : Int)) := by
  obtain ⟨ys, n, _, _, _, hyl, hf⟩ := DataW.trod_struct Tryd.underlying70 ht
  obtain ⟨_, hcl, hat⟩ := World.cells?_some hc
  obtain ⟨c0, c1, rfl⟩ := two_cellsO hcl
  have t0 : DataW.trod enc Tryd.prog w base spare held n 2 (([c0, c1].drop 0).take (Tryd.prog.cellsOf 2)) = ys[0]? := hf 0 _ rfl
  have t1 : DataW.trod enc Tryd.prog w base spare held n 68 (([c0, c1].drop 1).take (Tryd.prog.cellsOf 68)) = ys[1]? := hf 1 _ rfl
  have y0 : ys[0]? = some (ys[0]'(by rw [hyl]; decide)) := List.getElem?_eq_getElem _
  have y1 : ys[1]? = some (ys[1]'(by rw [hyl]; decide)) := List.getElem?_eq_getElem _
  rw [y0, cells2O] at t0
  rw [y1, cells65nO] at t1
  obtain ⟨n0, e0, _, f0⟩ := DataW.trod_int Tryd.underlying2 t0
  obtain ⟨n1, e1, _, f1⟩ := DataW.trod_int Tryd.underlying68 t1
  have a0 : c0 = .int .i64 n0 := by simpa using e0
  have a1 : c1 = .int .u64 n1 := by simpa using e1
  subst a0 a1
  have b0 := bounds_i64 f0
  have b1 := bounds_u64 f1
  obtain ⟨m1, rfl⟩ := Int.eq_ofNat_of_zero_le b1.1
  exact ⟨⟨n0, m1⟩, ⟨b0.1, b0.2, by show m1 < _; omega⟩, hat 0 (by decide), hat 1 (by decide)⟩
/-- a slice of samples that came in -/
theorem smps_of_trodO {H : Type} {enc : TypeId × Value → H} {w : World} {base fuel : Nat} {spare : Nat → Bool} {held : Bool} {a : Option Addr} {len cap : Nat} {x : DataW H × List MemPlace}
    (h : DataW.trod enc Tryd.prog w base spare held fuel 22 [.slice a len cap] = some x) : ∃ xs : List Smp, xs.length = len ∧ len ≤ maxLen ∧ (∀ x ∈ xs, Gm.OkS x) ∧ Sms w a xs := by
  rcases Go.Deep.open_slice Tryd.underlying22 h with ⟨hcs, _⟩ | ⟨ad, l, c, m, n, D, Pl, hcs, _, hl, hm, hmm, _, hi⟩
  · simp at hcs
    obtain ⟨rfl, rfl, rfl⟩ := hcs
    exact ⟨[], rfl, Nat.zero_le _, fun _ h => absurd h (by simp), fun h => absurd rfl h⟩
  · simp at hcs
    obtain ⟨rfl, rfl, rfl⟩ := hcs
    have hlm : len ≤ m := by rw [hmm]; split <;> omega
    have hone : ∀ i, i < len → ∃ o : Smp, Gm.OkS o ∧ w.cell? ((ad.add (i * 2)).add 0) = some (.int .i64 o.t) ∧ w.cell? ((ad.add (i * 2)).add 1) = some (.int .u64 ((o.v : Nat) : Int)) := by
      intro i hil
      obtain ⟨cs', hc, ht⟩ := hi i (by omega)
      rw [cells70O] at hc
      exact smp_cellsO hc ht
    have hall : ∀ k, k ≤ len → ∃ os : List Smp, os.length = k ∧ ∀ i (hi : i < os.length), Gm.OkS os[i] ∧ w.cell? ((ad.add (i * 2)).add 0) = some (.int .i64 os[i].t) ∧ w.cell? ((ad.add (i * 2)).add 1) = some (.int .u64 ((os[i].v : Nat) : Int)) := by
      intro k hk
      induction k with
      | zero => exact ⟨[], rfl, fun i hi => absurd hi (by simp)⟩
      | succ k ih =>
        obtain ⟨os, hl, ho⟩ := ih (by omega)
        obtain ⟨o, h1⟩ := hone k (by omega)
        refine ⟨os ++ [o], by simp [hl], fun i hi => ?_⟩
        by_cases hik : i < os.length
        · rw [List.getElem_append_left hik]; exact ho i hik
        · have : i = k := by simp [hl] at hi; omega
          subst this
          have e : (os ++ [o])[i] = o := by rw [List.getElem_append_right (by omega)]; simp [hl]
          rw [e]; exact h1
    obtain ⟨os, hl2, ho⟩ := hall len (Nat.le_refl _)
    refine ⟨os, hl2, Nat.le_trans hl hm, ?_, fun hn => ?_⟩
    · intro o ho2
      obtain ⟨i, hi, rfl⟩ := List.getElem_of_mem ho2
      exact (ho i hi).1
    · have h0 : 0 < os.length := List.length_pos_iff.2 hn
      obtain ⟨b, off, spot⟩ := ad
      have hc0 := (ho 0 h0).2.1
      have hspot : spot = none := by simpa [Addr.add] using World.cell?_spot hc0
      subst hspot
      refine ⟨b, off, rfl, ?_, fun i hi => ?_⟩
      · have := World.block_lt_of_cell? _ _ hc0
        simpa [Addr.add] using this
      · obtain ⟨_, k1, k2⟩ := ho i hi
        rw [B2.add_at, B2.add_at] at k1 k2
        exact ⟨k1, k2⟩
end Go.Proofs.YtdlifcpdlbmijaaDoor
namespace Go.Proofs.YtdlifcpdlbmijaaDoor
set_option linter.unusedVariables false
set_option linter.unusedSimpArgs false
open Go.RowKit Go.PlainAid Go.Shelf
open B2 (Only Bys Row cellsOf owns_only)
open Gm (St Smp Chk)
theorem ownS_cells {w : World} {base n c : Nat} {a : Addr} {g : List Smp} (H : OwnS w base (.slice (some a) n c) g) : ∀ j u, (smC g)[j]? = some u → w.cell? (a.add j) = some u := by
  have H2 := H
  unfold OwnS at H2
  rcases H.2 with ⟨hv, h0⟩ | ⟨q, c', cur, hv, _, _, _, _⟩
  · cases hv
  · injection hv with e1 e2 e3
    injection e1 with e1
    subst e1
    exact H2.cells (g := q) rfl
theorem smC_len (l : List Smp) : (smC l).length = l.length * 2 := by
  induction l with
  | nil => rfl
  | cons a l ih => rw [show smC (a :: l) = .int .i64 a.t :: .int .u64 ((a.v : Nat) : Int) :: smC l from rfl]; simp only [List.length_cons, ih]; omega
theorem smC_app (l m : List Smp) : smC (l ++ m) = smC l ++ smC m := by simp [smC]
theorem smC_one (l : List Smp) : ∀ u ∈ smC l, u.oneCell' = true := by
  intro u hu
  unfold smC at hu
  rw [List.mem_flatMap] at hu
  obtain ⟨a, _, ha⟩ := hu
  simp only [List.mem_cons, List.not_mem_nil, or_false] at ha
  rcases ha with rfl | rfl <;> rfl
set_option maxHeartbeats 8000000 in
set_option maxRecDepth 100000 in
theorem back_law (a1 : Option Addr) (n1 c1 : Nat) (l : List Smp) (hl : l.length = n1) (hz1 : n1 ≤ 9223372036854775807) (hlo : ∀ x ∈ l, Gm.OkS x) (w : World) (H1 : Sms w a1 l) (hT : TabAt w) :
    Calls Tryd.prog 5 #[.slice a1 n1 c1] w fun e w' => e = .returned (.bool true) ∧ Below w.heap.size w w' := by
  have C1 := Lib.hid (rising_any a1 n1 c1 l hl hz1 hlo w H1)
  have HT := Lib.hid hT
  have R1 := Gm.rising_is l hlo
  obtain ⟨s, hs⟩ : ∃ s, Gm.rising l = s := ⟨_, rfl⟩
  rw [hs] at C1 R1
  have HR1 := Lib.hid R1
  clear hl hz1 hlo H1 hT hs R1
  go_enter Tryd.func5, Tryd.ntmps5
  go_wp2_with fail
  go_at_call 22
  refine C1.out.mono ?_
  rintro e w1 ⟨v1, rfl, hO1, hb1⟩
  have capOf : ∀ {W : World} {N : Nat} {b : Option Addr} {d : Nat} {q : List Smp}, OwnS W N (.slice b q.length d) q → q.length ≤ d := fun {W N b d q} h => by
    rcases h.2 with ⟨hv, h0⟩ | ⟨g, c, cur, hv, _, _, hc, _⟩
    · omega
    · injection hv with _ _ e; omega
  obtain ⟨b1, d1, rfl, S1⟩ := hO1.shape
  have hc1 := capOf hO1
  have HO1 := Lib.hid (And.intro hO1 (And.intro hb1 S1))
  obtain ⟨k1, hk1⟩ : ∃ k1, s.length = k1 := ⟨_, rfl⟩
  have HK := Lib.hid hk1
  rw [hk1] at hc1 ⊢
  have hT1 := HT.out.below hb1 HT.out.lt
  have C3 := Lib.hid (encode_any b1 k1 d1 s hk1 hc1 HR1.out w1 S1 hT1)
  clear hO1 hb1 C1 capOf hT1 S1 hc1 hk1
  go_wp2_with fail
  go_at_call 23
  refine C3.out.mono ?_
  rintro e w3 ⟨v3, cs, es, rfl, hE3, hC3, hb3⟩
  obtain ⟨x3, y3, rfl⟩ := hC3.shape
  have HC3 := Lib.hid (And.intro hE3 (And.intro hC3 hb3))
  have HB3 := Lib.hid (HO1.out.2.1.trans (hb3.mono HO1.out.2.1.size))
  obtain ⟨j1, hj1⟩ : ∃ j1, cs.length = j1 := ⟨_, rfl⟩
  have HJ1 := Lib.hid hj1
  have CD := Lib.hid (decode_any x3 j1 y3 s cs hj1 HR1.out hE3 w3 (hC3.chs x3 _ y3 rfl) (HT.out.below HB3.out HT.out.lt))
  rw [hj1]
  have hq : ((k1 : Int) + 119) / 120 = (j1 : Int) := by
    have h := hE3.len
    rw [hj1, HK.out] at h
    unfold Gm.cnt at h
    omega
  have hk2 : k1 ≤ 2000 := by rw [← HK.out]; exact HR1.out.len
  clear hE3 hC3 hb3 C3 hj1
  go_wp2_with fail
  go_at_call 24
  refine CD.out.mono ?_
  rintro e w4 ⟨v4, rfl, hO4, hb4⟩
  obtain ⟨b5, d5, rfl, _⟩ := hO4.shape
  have HO4 := Lib.hid (And.intro hO4 hb4)
  rw [HK.out]
  have HB4 := Lib.hid (HB3.out.trans (hb4.mono HB3.out.size))
  have CK := Lib.hid (known_any w4 (HT.out.below HB4.out HT.out.lt))
  clear hO4 hb4 CD
  go_wp2_with fail
  go_at_call 8
  refine CK.out.mono ?_
  rintro e w5 ⟨rfl, hb5⟩
  have HB5 := Lib.hid (HB4.out.trans (hb5.mono HB4.out.size))
  have HB45 := Lib.hid hb5
  have HO5 := Lib.hid (HO4.out.1.below hb5)
  have HC5 := Lib.hid (((HC3.out.2.1.below HO4.out.2).below hb5).chs x3 _ y3 rfl)
  clear hb5 CK
  go_wp2_with fail
  go_loopw [8, 9, 10] (fun y i _ wr => ∃ k : Nat, k ≤ j1 ∧ i = .int .i64 (k : Nat) ∧ Hid (OwnS wr w5.heap.size y (s.take (120 * k)) ∧ Below w5.heap.size w5 wr)) (fun _ i _ _ => j1 - (intOf i).toNat)
  case atStart => exact ⟨0, Nat.zero_le _, rfl, Lib.hid ⟨by simpa [OwnS, smC] using World.ownsRow_nil w5 w5.heap.size 70 2, Below.refl _ _⟩⟩
  case round =>
    obtain ⟨k, hk, rfl, HI⟩ := hrel
    by_cases hlt : k < j1
    · have da : decide ((k : Int) < (j1 : Int)) = true := decide_eq_true (by omega)
      have da2 : decide (k < j1) = true := decide_eq_true hlt
      have hkl : k < cs.length := by rw [HJ1.out]; exact hlt
      obtain ⟨b4, o4, rfl, hl4, hc4⟩ := (HC5.out.below HI.out.2) (by intro e; rw [e] at hkl; simp at hkl)
      obtain ⟨p1, p2, p3, ad, cp, p4, hB⟩ := hc4 k hkl
      have hg2 := HC3.out.1.each k hkl
      have hg1 := one_grp HR1.out k (by rw [← HC3.out.1.len]; exact hkl)
      generalize cs[k] = x at *
      have hTr := HT.out.below (HB5.out.trans (HI.out.2.mono HB5.out.size)) HT.out.lt
      have CA := Lib.hid (all_any (Gm.grp s k) x hg1 hg2 ad cp wr hB hTr)
      unfold chR at CA
      go_wp2_with (go_at_call 18; refine CA.out.mono ?_; rintro e w6 ⟨v6, rfl, hO6, hb6⟩; have p16 := cell_below p1 hb6; have p26 := cell_below p2 hb6; have p36 := cell_below p3 hb6; have p46 := cell_below p4 hb6)
      obtain ⟨pa, pc, rfl, hP6⟩ := hO6.shape
      have hlen := one_says hg1 hg2
      have h1g := hg1.some
      have h2g := hg1.len
      obtain ⟨pb, po, rfl, hpl, hpc⟩ := hP6 (by intro e; rw [e] at h1g; simp at h1g)
      have f1 := (hpc 0 (by omega)).1
      have f2 := (hpc ((Gm.grp s k).length - 1) (by omega)).1
      have e1 : (Gm.grp s k)[0].t = x.frm := by rw [hg2.1, run_frm1 _ (by omega)]
      have e2 : (Gm.grp s k)[(Gm.grp s k).length - 1].t = x.to := by rw [hg2.2.1, run_last' _ ((Gm.grp s k).length - 1) (by omega)]
      rw [e1, Nat.zero_mul, Nat.add_zero] at f1
      rw [e2] at f2
      have hxn := hlen.1
      obtain ⟨np, hnp⟩ : ∃ np, (Gm.grp s k).length = np := ⟨_, rfl⟩
      rw [hnp] at f2 h1g h2g hxn ⊢
      rw [hxn] at p36
      have hn1 : ((np : Int) == 0) = false := by simp; omega
      have hn2 : ¬ np = 0 := by omega
      obtain ⟨lp, hlp⟩ : ∃ lp, np - 1 = lp := ⟨_, rfl⟩
      rw [hlp] at f2
      have hn3 : (np : Int) - 1 = (lp : Int) := by omega
      have hn4 : (lp : Int) < (np : Int) := by omega
      have hn5 : lp < np := by omega
      have hn6 : (0 : Int) ≤ (lp : Int) := by omega
      have hn7 : (0 : Int) < (np : Int) := by omega
      have hn8 : 0 < np := by omega
      have hn9 : RowKit.wrap64 ((np : Int) - 1) = (lp : Int) := by rw [hn3]; unfold RowKit.wrap64; omega
      have hn11 : ¬ (np : Int) ≤ (lp : Int) := by omega
      have hn12 : ¬ np ≤ lp := by omega
      have hn13 : decide ((lp : Int) < (np : Int)) = true := decide_eq_true hn4
      have hn14 : decide ((0 : Int) ≤ (lp : Int)) = true := decide_eq_true hn6
      have hn15 : ((lp : Int)).toNat = lp := Int.toNat_natCast lp
      have hn16 : RowKit.wrap64 (lp : Int) = (lp : Int) := by unfold RowKit.wrap64; omega
      have hn17 : IntKind.i64.wrap (lp : Int) = (lp : Int) := by rw [i64_is]; exact hn16
      have hn18 : IntKind.i64.wrap ((np : Int) - 1) = (lp : Int) := by rw [i64_is]; exact hn9
      have hbw6 := HI.out.2.trans (hb6.mono HI.out.2.size)
      have CC := Lib.hid (fun W (h : Below w6.heap.size w6 W) => check_good (Gm.grp s k) x hg1 hg2 ad cp W ((hB.below hb6).below h) ((hTr.below hb6 hTr.lt).below h (hTr.below hb6 hTr.lt).lt))
      unfold chR at CC
      rw [hxn] at CC
      have HQ6 := Lib.hid (And.intro hO6 (And.intro hb6 (And.intro hnp hbw6)))
      have q : (w6.drew.cell? ⟨b4, o4 + k * 4, none⟩ = some (.int .i64 x.frm) ∧ w6.drew.cell? ⟨b4, o4 + k * 4 + 1, none⟩ = some (.int .i64 x.to) ∧ w6.drew.cell? ⟨b4, o4 + k * 4 + 2, none⟩ = some (.int .i64 ((np : Nat) : Int)) ∧ w6.drew.cell? ⟨b4, o4 + k * 4 + 3, none⟩ = some (.slice ad x.bs.length cp)) ∧ (w6.drew.cell? ⟨pb, po, none⟩ = some (.int .i64 x.frm) ∧ w6.drew.cell? ⟨pb, po + lp * 2, none⟩ = some (.int .i64 x.to)) ∧ Below w6.heap.size w6 w6.drew := ⟨⟨p16, p26, p36, p46⟩, ⟨f1, f2⟩, drew_below w6⟩
      have KS : ∀ (A B : World), ((A.cell? ⟨b4, o4 + k * 4, none⟩ = some (.int .i64 x.frm) ∧ A.cell? ⟨b4, o4 + k * 4 + 1, none⟩ = some (.int .i64 x.to) ∧ A.cell? ⟨b4, o4 + k * 4 + 2, none⟩ = some (.int .i64 ((np : Nat) : Int)) ∧ A.cell? ⟨b4, o4 + k * 4 + 3, none⟩ = some (.slice ad x.bs.length cp)) ∧ (A.cell? ⟨pb, po, none⟩ = some (.int .i64 x.frm) ∧ A.cell? ⟨pb, po + lp * 2, none⟩ = some (.int .i64 x.to)) ∧ Below w6.heap.size w6 A) → Below A.heap.size A B → ((B.cell? ⟨b4, o4 + k * 4, none⟩ = some (.int .i64 x.frm) ∧ B.cell? ⟨b4, o4 + k * 4 + 1, none⟩ = some (.int .i64 x.to) ∧ B.cell? ⟨b4, o4 + k * 4 + 2, none⟩ = some (.int .i64 ((np : Nat) : Int)) ∧ B.cell? ⟨b4, o4 + k * 4 + 3, none⟩ = some (.slice ad x.bs.length cp)) ∧ (B.cell? ⟨pb, po, none⟩ = some (.int .i64 x.frm) ∧ B.cell? ⟨pb, po + lp * 2, none⟩ = some (.int .i64 x.to)) ∧ Below w6.heap.size w6 B) := fun A B h hb =>
        ⟨⟨cell_below h.1.1 hb, cell_below h.1.2.1 hb, cell_below h.1.2.2.1 hb, cell_below h.1.2.2.2 hb⟩, ⟨cell_below h.2.1.1 hb, cell_below h.2.1.2 hb⟩, h.2.2.trans (hb.mono h.2.2.size)⟩
      have KH := Lib.hid KS
      clear KS p1 p2 p3 p4 p16 p26 p36 p46 f1 f2 e1 e2 hpc hpl hlen hP6 hc4 hl4 hB hTr CA hg1 hg2 hO6 hb6 hnp hbw6
      go_region_held3 (fun w' => (w'.cell? ⟨b4, o4 + k * 4, none⟩ = some (.int .i64 x.frm) ∧ w'.cell? ⟨b4, o4 + k * 4 + 1, none⟩ = some (.int .i64 x.to) ∧ w'.cell? ⟨b4, o4 + k * 4 + 2, none⟩ = some (.int .i64 ((np : Nat) : Int)) ∧ w'.cell? ⟨b4, o4 + k * 4 + 3, none⟩ = some (.slice ad x.bs.length cp)) ∧ (w'.cell? ⟨pb, po, none⟩ = some (.int .i64 x.frm) ∧ w'.cell? ⟨pb, po + lp * 2, none⟩ = some (.int .i64 x.to)) ∧ Below w6.heap.size w6 w') ((first | exact q | assumption)) ((go_at_call 17; refine (CC.out _ (And.right (And.right q))).mono ?_; rintro e w9 ⟨rfl, hb9⟩; have hcs := KH.out _ _ q hb9; have hcc := hcs))
      have hb69 := hcs.2.2
      have hb6 := HQ6.out.2.1
      have HIW := Lib.hid ((HI.out.1.below hb6).below hb69)
      have HNW := Lib.hid (ownS_cells (HQ6.out.1.below hb69))
      have HBW := Lib.hid (HQ6.out.2.2.2.trans (hb69.mono HQ6.out.2.2.2.size))
      have HLN := Lib.hid (show (smC (Gm.grp s k)).length = np * 2 ∧ (s.take (120 * k)).length ≤ 2000 ∧ np ≤ 120 from ⟨by rw [smC_len, HQ6.out.2.2.1], by rw [List.length_take, HK.out]; omega, h2g⟩)
      obtain ⟨ya, yc, rfl, _⟩ := HIW.out.shape
      obtain ⟨ym, hym⟩ : ∃ ym, (s.take (120 * k)).length = ym := ⟨_, rfl⟩
      have HYM := Lib.hid hym
      have HOW := Lib.hid (show w9.ownsRow w5.heap.size 70 2 (.slice ya ym yc) ym (smC (s.take (120 * k))) from by
        have h := HIW.out
        unfold OwnS at h
        rw [hym] at h
        exact h)
      rw [hym]
      obtain ⟨i0, hi, hz0, hz1, hz2⟩ := info_parts info70'
      have HI0 := Lib.hid (And.intro hi (And.intro hz0 (And.intro hz1 hz2)))
      have hlk : k + 1 ≤ j1 := hlt
      clear hcs hcc hb69 hb6 hb9 KH q CC hym hi hz0 hz1 hz2 HIW HI hn3 hn4 hn5 hn6 hn7 hn8 hn9 hn16 hn17 hn18 hn12 hn13 hn14 hn15 hn1 hn2 hlp h1g h2g hxn hkl
      go_wp2_with (at_builtin; refine wpList_append_own_at _ rfl (.tmp 101) (.tmp 102) 22 rfl w5.heap.size 70 i0 (.agg #[.int .i64 0, .int .u64 0]) 2 16 Tryd.underlying22 HI0.out.1 HI0.out.2.1 HI0.out.2.2.1 HI0.out.2.2.2 rfl (by decide) (.slice ya ym yc) ym (smC (s.take (120 * k))) rfl HOW.out ⟨pb, po, none⟩ np pc (smC (Gm.grp s k)) rfl HLN.out.1 HNW.out (smC_one _) (by have := HLN.out; have := HYM.out; unfold maxLen; omega) (by have := HLN.out; have := HYM.out; omega) HBW.out.size ?_; intro v2 w10 hown2 hgr2 _ _; have HN := Lib.hid (show OwnS w10 w5.heap.size v2 (s.take (120 * (k + 1))) ∧ Below w5.heap.size w5 w10 from (by refine ⟨?_, ?_⟩; (· unfold OwnS; rw [← take_grp, smC_app, List.length_append, HYM.out, HQ6.out.2.2.1]; exact hown2); (· exact HBW.out.grown hgr2 HBW.out.size (fun q hq => (HOW.out.lt q hq).1)))); clear hown2 hgr2)
      go_wp2_with fail
      go_roundw
      case rel => exact ⟨k + 1, hlk, by go_num, HN⟩
      case measure => simp [intOf]; omega
    · obtain rfl : k = j1 := by omega
      have da : decide ((k : Int) < (k : Int)) = false := by simp
      have da2 : decide (k < k) = false := by simp
      have HF := Lib.hid (show s.take (120 * k) = s from List.take_of_length_le (by have h := HC3.out.1.len; rw [HJ1.out] at h; unfold Gm.cnt at h; omega))
      rw [HF.out] at HI
      have hds : decide (s = s) = true := decide_eq_true rfl
      obtain ⟨ya, yc, rfl, hSy⟩ := HI.out.1.shape
      have hbr := HI.out.2
      obtain ⟨b5', d5', e5, hS5⟩ := (HO5.out.below hbr).shape
      have hSx : Sms wr b5 s := by injection e5 with e5a _ _; rw [e5a]; exact hS5
      have hS1 : Sms wr b1 s := (((HO1.out.2.2.below (HC3.out.2.2)).below HO4.out.2).below HB45.out).below hbr
      rw [HK.out]
      have hk3 : k1 ≤ 1000000000 := by omega
      have C6 := Lib.hid (samesmp_any b5 b1 d5 d1 k1 k1 s s HK.out HK.out wr hSx hS1 hk3 hk3)
      have C7 := Lib.hid (fun W (h : Below wr.heap.size wr W) => samesmp_any ya b1 yc d1 k1 k1 s s HK.out HK.out W (hSy.below h) (hS1.below h) hk3 hk3)
      rw [hds] at C6 C7
      have HBR := Lib.hid (HB5.out.trans (hbr.mono HB5.out.size))
      clear hSx hS1 hSy hS5 hbr hk3 hds
      go_wp2_with fail
      refine C6.out.mono ?_
      rintro e w6 ⟨rfl, hb6⟩
      have HB6 := Lib.hid hb6
      clear hb6
      go_wp2_with fail
      refine (C7.out _ HB6.out).mono ?_
      rintro e w7 ⟨rfl, hb7⟩
      have HB7 := Lib.hid (HBR.out.trans ((HB6.out.trans (hb7.mono HB6.out.size)).mono HBR.out.size))
      clear hb7
      go_wp2_with fail
      go_ret
      exact ⟨rfl, HB7.out⟩
end Go.Proofs.YtdlifcpdlbmijaaDoor
namespace Go.Proofs.YtdlifcpdlbmijaaDoor.gorillaBack
open Go.ChangeShapes Go.WideShapes Go.ChangeAt Go.RowKit
open Go.ChangeMaps (open_string shut_string)
set_option linter.unusedVariables false
theorem own : ownKnob Tryd.prog.godebug = none := by kernel_rfl
theorem laidOut : laidOutB Tryd.prog = true := by kernel_rfl
set_option maxRecDepth 100000 in
theorem lifted (os : Os) (started : os.Started) (H : Type) (enc : TypeId × Value → H) (F : Stop.Interp) :
    ReturnsInHanded {} Tryd.checked os 5 .any ((OpenSpec.ofChange Rows.gorillaBackSpec).preRow enc Tryd.prog Tryd.f5 [] false laidO) (((OpenSpec.ofChange Rows.gorillaBackSpec).at F).post enc Tryd.prog Tryd.f5 false true false false) := by
  refine returnsInHanded_of_row (C := Tryd.checked) (s := OpenSpec.ofChange Rows.gorillaBackSpec) (F := F) (laid := laidO) own started (by kernel_rfl) Tryd.func5
    (ChangeSpec.witness_shaped (enc := enc) (C := Tryd.checked) (os := os) (s := Rows.gorillaBackSpec) (X := fun w _ => laidMetH Tryd.prog laidO w) false (startWorldO os) #[.slice none 0 0] 8 (startWorldO_os os) (startO_shaped os _) (by kernel_rfl) (by kernel_rfl) (by kernel_rfl) (doorO_met os _)) ?_
  intro W base args ds gs before hval0 hW hcnd _ _ hL hsh _
  have hval : ∀ (j : Nat) t v, Tryd.f5.params[j]? = some t → args[j]? = some v → Value.okWide Tryd.prog W .any base t v := hval0
  have hW' := hW
  obtain ⟨p, q, hA0, hV, rfl, hfz, hnd⟩ := hW
  have hA : DataW.TrodAll enc Tryd.prog W 0 (fun _ => true) true Tryd.f5.params.toList args.toList ds p := hA0
  rw [Tryd.params5] at hA hval
  obtain ⟨v0, vs0, d0, ds0, p0, q0, hargs, rfl, rfl, h0, r0⟩ := trodAll_cons hA
  obtain ⟨rfl, rfl, rfl⟩ := trodAll_nil r0
  obtain rfl : args = #[v0] := by cases args; simp_all
  obtain ⟨rfl, rfl⟩ := trodVars_none hV
  obtain ⟨a0, len0, cap0, rfl⟩ := okWide_slice Tryd.underlying22 (hval 0 22 v0 rfl rfl)
  have k0 := h0
  have lt0 : ∀ x ∈ p0, x.block < W.heap.size := by obtain ⟨m, hm⟩ := k0; exact DataW.trod_lt m _ _ _ hm
  obtain ⟨fuel, hf⟩ := h0
  obtain ⟨l, hl, hm, hlo, HO⟩ := smps_of_trodO hf
  have hT : TabAt W := laidO_tab hL
  clear hA0 hval0 hf hL hsh
  refine (back_law a0 len0 cap0 l hl hm hlo W HO hT).mono fun e W' ⟨he, bel⟩ => ?_
  subst he
  exact ⟨_, rfl, _, _, _, [], _, [], hW', trodAll_mk1 (shut_bool Tryd.underlying4 _), (trodAll_cons_mk (Below.trod laidOut (by kernel_rfl) (of_decide_eq_true (by kernel_rfl)) k0 bel lt0) trodAll_mk0), rfl, bel.frame _, fun h => by cases h⟩
theorem over : Rows.gorillaBackRow.holds Tryd.pinned (OpenSpec.ofChange Rows.gorillaBackSpec) :=
  OpenClaim.holds_of_cond 5 Tryd.f5 rfl rfl rfl rfl rfl rfl rfl ⟨rfl, rfl, rfl, rfl, rfl⟩ rfl rfl rfl rfl rfl f1 Tryd.func5 f2 f3 f4
    (fun os started H enc _ F => by rw [OpenClaim.pre_eq_preRow]; exact lifted os started H enc F)
theorem proved : Rows.GorillaBackSaid := over
/-- the tied card -/
theorem card : Rows.GorillaBackCardSaid :=
  Claim7.holds_tied_plain_at .later [] [.data] true (true, "4c488f6300586be83fdabe05b71e34cd2b865f58dfdb8a9afce37ced25a0800f") false
    proved (fun _ h => by cases h) (by kernel_rfl) (fun _ h => by cases h) gorillaBack_row_tie rfl ⟨rfl, rfl⟩ (by kernel_rfl) rfl
    (fun f fn hf hfn => by
      obtain rfl : f = 5 := Option.some.inj ((show Tryd.prog.funcNamed "barograph/barographlaw10.GorillaBack" = some 5 by kernel_rfl).symm.trans hf) |>.symm
      obtain rfl : fn = Tryd.f5 := (Option.some.inj (Tryd.func5.symm.trans hfn)).symm
      exact ⟨by kernel_rfl, fun j t ht => by
        rw [Tryd.params5] at ht
        have hm : t ∈ [22] := by simpa using Array.mem_of_getElem? ht
        have hall : ([22].all fun u => !Tryd.prog.wantsStandIn u) = true := by kernel_rfl
        exact (show Tryd.prog.wantsStandIn t = false by simpa using List.all_eq_true.1 hall t hm)⟩)
    (by kernel_rfl)
#print axioms card
end Go.Proofs.YtdlifcpdlbmijaaDoor.gorillaBack
