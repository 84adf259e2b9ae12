/-
  PROVED: unlike rows of samples have unlike chunks, and like rows like ones; for every two lists of samples; both read afterwards as they read before. Conditions: none.
-/
import Derived.Test.YtdlifcpdlbmijaaDoorK05
import Derived.Test.YtdlifcpdlbmijaaDoorKFGorillaOne
import Derived.Test.YtdlifcpdlbmijaaDoorTie
import Derived.Test.YtdlifcpdlbmijaaDoorCards
import Derived.OpenShut
import Derived.Deep.Slices
import Derived.Deep.DeepHandedRow
import Derived.SevenTiedAt
import Derived.WalkKit
import Derived.ProofKit
import Derived.ShutString
import Derived.ChangeOld
import Derived.Below
namespace Go.Proofs.YtdlifcpdlbmijaaDoor
set_option linter.unusedVariables false
set_option linter.unusedSimpArgs false
open Go.RowKit Go.PlainAid Go.Shelf
open B2 (Only Bys Row cellsOf owns_only)
open Gm (St Smp Chk)
theorem enc_small {l : List Smp} {cs : List Chk} (hl : ∀ a ∈ l, Gm.OkS a) (C : Gm.Enc l cs) : cs.length ≤ l.length + 1 ∧ ∀ c ∈ cs, c.bs.length ≤ 1000000000 := by
  refine ⟨by rw [C.len]; unfold Gm.cnt; omega, fun c hc => ?_⟩
  obtain ⟨j, hj, rfl⟩ := List.getElem_of_mem hc
  obtain ⟨_, _, _, k, hk, hP⟩ := C.each j hj
  have h1 := hP.length
  have h2 := out_len (Gm.grp l j) (fun y hy => hl y (Gm.grp_mem hy)) _ (Nat.le_refl _)
  rw [List.take_length] at h2
  have h3 : (Gm.grp l j).length ≤ 120 := by rw [Gm.grp_len]; omega
  omega
set_option maxHeartbeats 8000000 in
set_option maxRecDepth 100000 in
theorem one_law (a1 a2 : Option Addr) (n1 n2 c1 c2 : Nat) (l m : List Smp) (hl : l.length = n1) (hm : m.length = n2) (hz1 : n1 ≤ 9223372036854775807) (hz2 : n2 ≤ 9223372036854775807) (hlo : ∀ x ∈ l, Gm.OkS x) (hmo : ∀ x ∈ m, Gm.OkS x) (w : World) (H1 : Sms w a1 l) (H2 : Sms w a2 m) (hT : TabAt w) :
    Calls Tryd.prog 6 #[.slice a1 n1 c1, .slice a2 n2 c2] w fun e w' => e = .returned (.bool true) ∧ Below w.heap.size w w' := by
  have C1 := Lib.hid (rising_any a1 n1 c1 l hl hz1 hlo w H1)
  have HM := Lib.hid (And.intro H2 (And.intro hm (And.intro hz2 hmo)))
  have HT := Lib.hid hT
  have R1 := Gm.rising_is l hlo
  have R2 := Gm.rising_is m hmo
  obtain ⟨s, hs⟩ : ∃ s, Gm.rising l = s := ⟨_, rfl⟩
  obtain ⟨t, ht⟩ : ∃ t, Gm.rising m = t := ⟨_, rfl⟩
  rw [hs] at C1 R1
  rw [ht] at R2
  have HTT := Lib.hid ht
  have HR1 := Lib.hid R1
  have HR2 := Lib.hid R2
  clear hl hm hz1 hz2 hlo hmo H1 H2 hT hs ht R1 R2
  go_enter Tryd.func6, Tryd.ntmps6
  go_wp2_with fail
  go_at_call 22
  refine C1.out.mono ?_
  rintro e w1 ⟨v1, rfl, hO1, hb1⟩
  have HO1 := Lib.hid (And.intro hO1 hb1)
  have C2 := Lib.hid (rising_any a2 n2 c2 m HM.out.2.1 HM.out.2.2.1 HM.out.2.2.2 w1 (HM.out.1.below hb1))
  rw [HTT.out] at C2
  obtain ⟨b1, d1, rfl, _⟩ := hO1.shape
  clear hO1 hb1 C1
  go_wp2_with fail
  go_at_call 22
  refine C2.out.mono ?_
  rintro e w2 ⟨v2, rfl, hO2, hb2⟩
  have HO2 := Lib.hid (And.intro hO2 (And.intro hb2 (HO1.out.1.below hb2)))
  obtain ⟨b2, d2, rfl, _⟩ := hO2.shape
  have HB2 := Lib.hid (HO1.out.2.trans (hb2.mono HO1.out.2.size))
  have capOf : ∀ {W : World} {N : Nat} {b : Option Addr} {d : Nat} {q : List Smp}, OwnS W N (.slice b q.length d) q → q.length ≤ d := fun {W N b d q} h => by
    rcases h.2 with ⟨hv, h0⟩ | ⟨g, c, cur, hv, _, _, hc, _⟩
    · omega
    · injection hv with _ _ e; omega
  obtain ⟨k1, hk1⟩ : ∃ k1, s.length = k1 := ⟨_, rfl⟩
  obtain ⟨k2, hk2⟩ : ∃ k2, t.length = k2 := ⟨_, rfl⟩
  have HK := Lib.hid (And.intro hk1 hk2)
  have hT2 := HT.out.below HB2.out HT.out.lt
  have S1 : Sms w2 b1 s := by obtain ⟨a, c, h, h2⟩ := HO2.out.2.2.shape; injection h with h; subst h; exact h2
  have S2 : Sms w2 b2 t := by obtain ⟨a, c, h, h2⟩ := HO2.out.1.shape; cases h; exact h2
  have hc1 := capOf HO2.out.2.2
  have hc2 := capOf HO2.out.1
  rw [hk1] at hc1 ⊢
  rw [hk2] at hc2 ⊢
  have C3 := Lib.hid (encode_any b1 k1 d1 s hk1 hc1 HR1.out w2 S1 hT2)
  have HSS := Lib.hid (And.intro S1 (And.intro S2 hc2))
  clear hO2 hb2 C2 capOf hT2 S1 S2 hc1 hc2 hk1 hk2
  go_wp2_with fail
  go_at_call 23
  refine C3.out.mono ?_
  rintro e w3 ⟨v3, cs, es, rfl, hE3, hC3, hb3⟩
  obtain ⟨x3, y3, rfl⟩ := hC3.shape
  have HC3 := Lib.hid (And.intro hE3 (And.intro hC3 hb3))
  have HB3 := Lib.hid (HB2.out.trans (hb3.mono HB2.out.size))
  have C4 := Lib.hid (encode_any b2 k2 d2 t HK.out.2 HSS.out.2.2 HR2.out w3 (HSS.out.2.1.below hb3) (HT.out.below HB3.out HT.out.lt))
  obtain ⟨j1, hj1⟩ : ∃ j1, cs.length = j1 := ⟨_, rfl⟩
  have HJ1 := Lib.hid hj1
  rw [hj1]
  clear hE3 hC3 hb3 C3 hj1
  go_wp2_with fail
  go_at_call 23
  refine C4.out.mono ?_
  rintro e w4 ⟨v4, ds, fs, rfl, hE4, hC4, hb4⟩
  obtain ⟨x4, y4, rfl⟩ := hC4.shape
  have HC4 := Lib.hid (And.intro hE4 (And.intro hC4 (And.intro hb4 (HC3.out.2.1.below hb4))))
  have HB4 := Lib.hid (HB3.out.trans (hb4.mono HB3.out.size))
  obtain ⟨j2, hj2⟩ : ∃ j2, ds.length = j2 := ⟨_, rfl⟩
  have HJ2 := Lib.hid hj2
  rw [hj2]
  have CK := Lib.hid (known_any w4 (HT.out.below HB4.out HT.out.lt))
  clear hE4 hC4 hb4 C4 hj2
  go_wp2_with fail
  go_at_call 8
  refine CK.out.mono ?_
  rintro e w5 ⟨rfl, hb5⟩
  have HB5 := Lib.hid (HB4.out.trans (hb5.mono HB4.out.size))
  have q1 := HC4.out.2.2.2.below hb5
  have q2 := HC4.out.2.1.below hb5
  have e3 := enc_small HR1.out.ok HC3.out.1
  have e4 := enc_small HR2.out.ok HC4.out.1
  have l1 := HR1.out.len
  have l2 := HR2.out.len
  have C5 := Lib.hid (samechs_any x3 x4 y3 y4 j1 j2 cs ds HJ1.out HJ2.out w5 (q1.chs x3 _ y3 rfl) (q2.chs x4 _ y4 rfl) (by rw [← HJ1.out]; omega) (by rw [← HJ2.out]; omega) e3.2 e4.2)
  have HS5 := Lib.hid (show Sms w5 b1 s ∧ Sms w5 b2 t from ⟨((HSS.out.1.below HC3.out.2.2).below HC4.out.2.2.1).below hb5, ((HSS.out.2.1.below HC3.out.2.2).below HC4.out.2.2.1).below hb5⟩)
  have HLL := Lib.hid (And.intro l1 l2)
  have HEQ := Lib.hid (show decide (cs = ds) = decide (s = t) from decide_eq_decide.2 (Gm.enc_same HR1.out.ok HR2.out.ok HC3.out.1 HC4.out.1))
  rw [HEQ.out] at C5
  clear hb5 q1 q2 e3 e4 l1 l2 CK
  obtain ⟨D, hD⟩ : ∃ D, decide (s = t) = D := ⟨_, rfl⟩
  rw [hD] at C5
  have HD := Lib.hid hD
  clear hD
  go_wp2_with fail
  go_at_call 13
  refine C5.out.mono ?_
  rintro e w6 ⟨rfl, hb6⟩
  have C6 := Lib.hid (samesmp_any b1 b2 d1 d2 k1 k2 s t HK.out.1 HK.out.2 w6 (HS5.out.1.below hb6) (HS5.out.2.below hb6) (by rw [← HK.out.1]; have := HLL.out.1; omega) (by rw [← HK.out.2]; have := HLL.out.2; omega))
  rw [HD.out] at C6
  have HB6 := Lib.hid (HB5.out.trans (hb6.mono HB5.out.size))
  clear hb6 C5
  go_wp2_with fail
  go_at_call 21
  refine C6.out.mono ?_
  rintro e w7 ⟨rfl, hb7⟩
  have HB7 := Lib.hid (HB6.out.trans (hb7.mono HB6.out.size))
  clear hb7 C6
  have hDD : (D == D) = true := by simp
  go_wp2_with fail
  go_ret
  exact ⟨rfl, HB7.out⟩
end Go.Proofs.YtdlifcpdlbmijaaDoor
namespace Go.Proofs.YtdlifcpdlbmijaaDoor
set_option linter.unusedVariables false
set_option linter.unusedSimpArgs false
open Go.RowKit Go.ChangeShapes Go.WideShapes
open Gm (St Smp)
theorem two_cellsO {cs : List Value} (h : cs.length = 2) : ∃ c0 c1, cs = [c0, c1] := by
  rcases cs with _ | ⟨c0, _ | ⟨c1, _ | ⟨c2, t⟩⟩⟩
  · cases h
  · cases h
  · exact ⟨c0, c1, rfl⟩
  · simp at h
theorem cells2O : Tryd.prog.cellsOf 2 = 1 := by kernel_rfl
theorem cells65nO : Tryd.prog.cellsOf 68 = 1 := by kernel_rfl
theorem cells70O : Tryd.prog.cellsOf 70 = 2 := by kernel_rfl
/-- one sample's cells -/
theorem smp_cellsO {H : Type} {enc : TypeId × Value → H} {w : World} {base fuel : Nat} {spare : Nat → Bool} {held : Bool} {cs : List Value} {a : Addr} {d : DataW H} {pl : List MemPlace}
    (hc : w.cells? base a 2 = some cs) (ht : DataW.trod enc Tryd.prog w base spare held fuel 70 cs = some (d, pl)) :
    ∃ o : Smp, Gm.OkS o ∧ w.cell? (a.add 0) = some (.int .i64 o.t) ∧ w.cell? (a.add 1) = some (.int .u64 ((o.v : Nat) : Int)) := by
  obtain ⟨ys, n, _, _, _, hyl, hf⟩ := DataW.trod_struct Tryd.underlying70 ht
  obtain ⟨_, hcl, hat⟩ := World.cells?_some hc
  obtain ⟨c0, c1, rfl⟩ := two_cellsO hcl
  have t0 : DataW.trod enc Tryd.prog w base spare held n 2 (([c0, c1].drop 0).take (Tryd.prog.cellsOf 2)) = ys[0]? := hf 0 _ rfl
  have t1 : DataW.trod enc Tryd.prog w base spare held n 68 (([c0, c1].drop 1).take (Tryd.prog.cellsOf 68)) = ys[1]? := hf 1 _ rfl
  have y0 : ys[0]? = some (ys[0]'(by rw [hyl]; decide)) := List.getElem?_eq_getElem _
  have y1 : ys[1]? = some (ys[1]'(by rw [hyl]; decide)) := List.getElem?_eq_getElem _
  rw [y0, cells2O] at t0
  rw [y1, cells65nO] at t1
  obtain ⟨n0, e0, _, f0⟩ := DataW.trod_int Tryd.underlying2 t0
  obtain ⟨n1, e1, _, f1⟩ := DataW.trod_int Tryd.underlying68 t1
  have a0 : c0 = .int .i64 n0 := by simpa using e0
  have a1 : c1 = .int .u64 n1 := by simpa using e1
  subst a0 a1
  have b0 := bounds_i64 f0
  have b1 := bounds_u64 f1
  obtain ⟨m1, rfl⟩ := Int.eq_ofNat_of_zero_le b1.1
  exact ⟨⟨n0, m1⟩, ⟨b0.1, b0.2, by show m1 < _; omega⟩, hat 0 (by decide), hat 1 (by decide)⟩
/-- a slice of samples that came in -/
theorem smps_of_trodO {H : Type} {enc : TypeId × Value → H} {w : World} {base fuel : Nat} {spare : Nat → Bool} {held : Bool} {a : Option Addr} {len cap : Nat} {x : DataW H × List MemPlace}
    (h : DataW.trod enc Tryd.prog w base spare held fuel 22 [.slice a len cap] = some x) : ∃ xs : List Smp, xs.length = len ∧ len ≤ maxLen ∧ (∀ x ∈ xs, Gm.OkS x) ∧ Sms w a xs := by
  rcases Go.Deep.open_slice Tryd.underlying22 h with ⟨hcs, _⟩ | ⟨ad, l, c, m, n, D, Pl, hcs, _, hl, hm, hmm, _, hi⟩
  · simp at hcs
    obtain ⟨rfl, rfl, rfl⟩ := hcs
    exact ⟨[], rfl, Nat.zero_le _, fun _ h => absurd h (by simp), fun h => absurd rfl h⟩
  · simp at hcs
    obtain ⟨rfl, rfl, rfl⟩ := hcs
    have hlm : len ≤ m := by rw [hmm]; split <;> omega
    have hone : ∀ i, i < len → ∃ o : Smp, Gm.OkS o ∧ w.cell? ((ad.add (i * 2)).add 0) = some (.int .i64 o.t) ∧ w.cell? ((ad.add (i * 2)).add 1) = some (.int .u64 ((o.v : Nat) : Int)) := by
      intro i hil
      obtain ⟨cs', hc, ht⟩ := hi i (by omega)
      rw [cells70O] at hc
      exact smp_cellsO hc ht
    have hall : ∀ k, k ≤ len → ∃ os : List Smp, os.length = k ∧ ∀ i (hi : i < os.length), Gm.OkS os[i] ∧ w.cell? ((ad.add (i * 2)).add 0) = some (.int .i64 os[i].t) ∧ w.cell? ((ad.add (i * 2)).add 1) = some (.int .u64 ((os[i].v : Nat) : Int)) := by
      intro k hk
      induction k with
      | zero => exact ⟨[], rfl, fun i hi => absurd hi (by simp)⟩
      | succ k ih =>
        obtain ⟨os, hl, ho⟩ := ih (by omega)
        obtain ⟨o, h1⟩ := hone k (by omega)
        refine ⟨os ++ [o], by simp [hl], fun i hi => ?_⟩
        by_cases hik : i < os.length
        · rw [List.getElem_append_left hik]; exact ho i hik
        · have : i = k := by simp [hl] at hi; omega
          subst this
          have e : (os ++ [o])[i] = o := by rw [List.getElem_append_right (by omega)]; simp [hl]
          rw [e]; exact h1
    obtain ⟨os, hl2, ho⟩ := hall len (Nat.le_refl _)
    refine ⟨os, hl2, Nat.le_trans hl hm, ?_, fun hn => ?_⟩
    · intro o ho2
      obtain ⟨i, hi, rfl⟩ := List.getElem_of_mem ho2
      exact (ho i hi).1
    · have h0 : 0 < os.length := List.length_pos_iff.2 hn
      obtain ⟨b, off, spot⟩ := ad
      have hc0 := (ho 0 h0).2.1
      have hspot : spot = none := by simpa [Addr.add] using World.cell?_spot hc0
      subst hspot
      refine ⟨b, off, rfl, ?_, fun i hi => ?_⟩
      · have := World.block_lt_of_cell? _ _ hc0
        simpa [Addr.add] using this
      · obtain ⟨_, k1, k2⟩ := ho i hi
        rw [B2.add_at, B2.add_at] at k1 k2
        exact ⟨k1, k2⟩
end Go.Proofs.YtdlifcpdlbmijaaDoor
namespace Go.Proofs.YtdlifcpdlbmijaaDoor.gorillaOne
open Go.ChangeShapes Go.WideShapes Go.ChangeAt Go.RowKit
open Go.ChangeMaps (open_string shut_string)
set_option linter.unusedVariables false
theorem own : ownKnob Tryd.prog.godebug = none := by kernel_rfl
theorem laidOut : laidOutB Tryd.prog = true := by kernel_rfl
set_option maxRecDepth 100000 in
theorem lifted (os : Os) (started : os.Started) (H : Type) (enc : TypeId × Value → H) (F : Stop.Interp) :
    ReturnsInHanded {} Tryd.checked os 6 .any ((OpenSpec.ofChange Rows.gorillaOneSpec).preRow enc Tryd.prog Tryd.f6 [] false laidO) (((OpenSpec.ofChange Rows.gorillaOneSpec).at F).post enc Tryd.prog Tryd.f6 false true false false) := by
  refine returnsInHanded_of_row (C := Tryd.checked) (s := OpenSpec.ofChange Rows.gorillaOneSpec) (F := F) (laid := laidO) own started (by kernel_rfl) Tryd.func6
    (ChangeSpec.witness_shaped (enc := enc) (C := Tryd.checked) (os := os) (s := Rows.gorillaOneSpec) (X := fun w _ => laidMetH Tryd.prog laidO w) false (startWorldO os) #[.slice none 0 0, .slice none 0 0] 8 (startWorldO_os os) (startO_shaped os _) (by kernel_rfl) (by kernel_rfl) (by kernel_rfl) (doorO_met os _)) ?_
  intro W base args ds gs before hval0 hW hcnd _ _ hL hsh _
  have hval : ∀ (j : Nat) t v, Tryd.f6.params[j]? = some t → args[j]? = some v → Value.okWide Tryd.prog W .any base t v := hval0
  have hW' := hW
  obtain ⟨p, q, hA0, hV, rfl, hfz, hnd⟩ := hW
  have hA : DataW.TrodAll enc Tryd.prog W 0 (fun _ => true) true Tryd.f6.params.toList args.toList ds p := hA0
  rw [Tryd.params6] at hA hval
  obtain ⟨v0, vs0, d0, ds0, p0, q0, hargs, rfl, rfl, h0, r0⟩ := trodAll_cons hA
  obtain ⟨v1, vs1, d1, ds1, p1, q1, rfl, rfl, rfl, h1, r1⟩ := trodAll_cons r0
  obtain ⟨rfl, rfl, rfl⟩ := trodAll_nil r1
  obtain rfl : args = #[v0, v1] := by cases args; simp_all
  obtain ⟨rfl, rfl⟩ := trodVars_none hV
  obtain ⟨a0, len0, cap0, rfl⟩ := okWide_slice Tryd.underlying22 (hval 0 22 v0 rfl rfl)
  obtain ⟨a1, len1, cap1, rfl⟩ := okWide_slice Tryd.underlying22 (hval 1 22 v1 rfl rfl)
  have k0 := h0
  have lt0 : ∀ x ∈ p0, x.block < W.heap.size := by obtain ⟨m, hm⟩ := k0; exact DataW.trod_lt m _ _ _ hm
  have k1 := h1
  have lt1 : ∀ x ∈ p1, x.block < W.heap.size := by obtain ⟨m, hm⟩ := k1; exact DataW.trod_lt m _ _ _ hm
  obtain ⟨fuel, hf⟩ := h0
  obtain ⟨l, hl, hm, hlo, HO⟩ := smps_of_trodO hf
  obtain ⟨fuel1, hf1⟩ := h1
  obtain ⟨m, hl1, hm1, hmo, HO1⟩ := smps_of_trodO hf1
  have hT : TabAt W := laidO_tab hL
  clear hA0 hval0 hf hf1 hL hsh
  refine (one_law a0 a1 len0 len1 cap0 cap1 l m hl hl1 hm hm1 hlo hmo W HO HO1 hT).mono fun e W' ⟨he, bel⟩ => ?_
  subst he
  exact ⟨_, rfl, _, _, _, [], _, [], hW', trodAll_mk1 (shut_bool Tryd.underlying4 _), (trodAll_cons_mk (Below.trod laidOut (by kernel_rfl) (of_decide_eq_true (by kernel_rfl)) k0 bel lt0) (trodAll_cons_mk (Below.trod laidOut (by kernel_rfl) (of_decide_eq_true (by kernel_rfl)) k1 bel lt1) trodAll_mk0)), rfl, bel.frame _, fun h => by cases h⟩
theorem over : Rows.gorillaOneRow.holds Tryd.pinned (OpenSpec.ofChange Rows.gorillaOneSpec) :=
  OpenClaim.holds_of_cond 6 Tryd.f6 rfl rfl rfl rfl rfl rfl rfl ⟨rfl, rfl, rfl, rfl, rfl⟩ rfl rfl rfl rfl rfl f1 Tryd.func6 f2 f3 f4
    (fun os started H enc _ F => by rw [OpenClaim.pre_eq_preRow]; exact lifted os started H enc F)
theorem proved : Rows.GorillaOneSaid := over
/-- the tied card -/
theorem card : Rows.GorillaOneCardSaid :=
  Claim7.holds_tied_plain_at .later [] [.data] true (true, "4c488f6300586be83fdabe05b71e34cd2b865f58dfdb8a9afce37ced25a0800f") false
    proved (fun _ h => by cases h) (by kernel_rfl) (fun _ h => by cases h) gorillaOne_row_tie rfl ⟨rfl, rfl⟩ (by kernel_rfl) rfl
    (fun f fn hf hfn => by
      obtain rfl : f = 6 := Option.some.inj ((show Tryd.prog.funcNamed "barograph/barographlaw10.GorillaOne" = some 6 by kernel_rfl).symm.trans hf) |>.symm
      obtain rfl : fn = Tryd.f6 := (Option.some.inj (Tryd.func6.symm.trans hfn)).symm
      exact ⟨by kernel_rfl, fun j t ht => by
        rw [Tryd.params6] at ht
        have hm : t ∈ [22] := by simpa using Array.mem_of_getElem? ht
        have hall : ([22].all fun u => !Tryd.prog.wantsStandIn u) = true := by kernel_rfl
        exact (show Tryd.prog.wantsStandIn t = false by simpa using List.all_eq_true.1 hall t hm)⟩)
    (by kernel_rfl)
#print axioms card
end Go.Proofs.YtdlifcpdlbmijaaDoor.gorillaOne
