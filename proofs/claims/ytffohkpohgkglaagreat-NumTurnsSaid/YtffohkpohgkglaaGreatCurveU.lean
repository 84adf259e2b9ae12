/-
  CURVES: the terms and series of the sine, the code's and the document's.
-/
import Derived.Test.YtffohkpohgkglaaGreatCurveG
namespace Go.Proofs.YtffohkpohgkglaaGreat
set_option linter.unusedVariables false
set_option linter.unusedSimpArgs false
open Go.RowKit
def fSin (r p : Nat) (i : Int) : Nat := Nm.dSub 4607182418800017408 (Nm.dDiv (Nm.dMul r p) (dInt (i * (i + 1))))
theorem fSin_ok (r p : Nat) (i : Int) : fSin r p i < 2 ^ 64 := sub_ok _ _ (by decide) (Nm.ok_div _ _).1
def dSerS (d n r : Nat) : Nat := serN (fSin (Nm.dMul r r)) 2 d n 4607182418800017408
theorem dSerS_ok (d n r : Nat) : dSerS d n r < 2 ^ 64 := serN_ok _ (fun p i => fSin_ok _ p i) _ _ _ _ (by decide)
def dSinOf (r : Nat) : Nat := Nm.dMul r (dSerS 0 8 r)
def dCosOf (r : Nat) : Nat := dSerS 1 9 r
theorem sq_bd (i : Int) (h1 : 0 ≤ i) (h2 : i ≤ 100) : 0 ≤ i * (i + 1) ∧ i * (i + 1) ≤ 10100 := by
  constructor
  · exact Int.mul_nonneg h1 (by omega)
  · have h := Int.mul_le_mul h2 (show i + 1 ≤ 101 by omega) (by omega) (by decide)
    simpa using h
set_option maxHeartbeats 4000000 in
theorem sin1_any (r p g : Nat) (i : Int) (h1 : 0 ≤ i) (h2 : i ≤ 100) (hr : r < 2 ^ 64) (hp : p < 2 ^ 64) (w : World) (hc : w.cell? ⟨g, 0, none⟩ = some (.int .u64 (r : Nat))) :
    Calls Tryz.prog 135 #[.int .u64 (p : Nat), .int .i64 i, .pointer (some ⟨g, 0, none⟩)] w (Gives w (.int .u64 (fSin r p i : Nat))) := by
  obtain ⟨b1, b2⟩ := sq_bd i h1 h2
  have e1 : IntKind.i64.wrap (i + 1) = i + 1 := by rw [IntKind.wrap_i64]; omega
  have e2 : IntKind.i64.wrap (i * (i + 1)) = i * (i + 1) := by rw [IntKind.wrap_i64]; omega
  have hf : fSin r p i = Nm.dSub 4607182418800017408 (Nm.dDiv (Nm.dMul r p) (dInt (i * (i + 1)))) := rfl
  obtain ⟨J, hJ⟩ : ∃ J, i * (i + 1) = J := ⟨_, rfl⟩
  rw [hJ] at e2 hf b1 b2
  have Cm : Hid (∀ w, Calls Tryz.prog 42 #[.int .u64 (r : Nat), .int .u64 (p : Nat)] w (Gives w (.int .u64 (Nm.dMul r p : Nat)))) := Lib.hid (fun w => mul_any r p hr hp w)
  have om : Nm.dMul r p < 2 ^ 64 := (Nm.ok_mul _ _).1
  obtain ⟨m, hm⟩ : ∃ vv, Nm.dMul r p = vv := ⟨_, rfl⟩
  rw [hm] at Cm om
  have Ct : Hid (∀ w, Calls Tryz.prog 47 #[.int .i64 (J)] w (Gives w (.int .u64 (dInt (J) : Nat)))) := Lib.hid (fun w => (int_any (J) w).mono fun _ _ h => gives_of h)
  have ot : dInt (J) < 2 ^ 64 := (ok_int _).1
  obtain ⟨t, ht⟩ : ∃ vv, dInt (J) = vv := ⟨_, rfl⟩
  rw [ht] at Ct ot
  have Cd : Hid (∀ w, Calls Tryz.prog 46 #[.int .u64 (m : Nat), .int .u64 (t : Nat)] w (Gives w (.int .u64 (Nm.dDiv m t : Nat)))) := Lib.hid (fun w => div_any m t om ot w)
  have od : Nm.dDiv m t < 2 ^ 64 := (Nm.ok_div _ _).1
  obtain ⟨d, hd⟩ : ∃ vv, Nm.dDiv m t = vv := ⟨_, rfl⟩
  rw [hd] at Cd od
  have CE : Hid (∀ w, Calls Tryz.prog 43 #[.int .u64 4607182418800017408, .int .u64 (d : Nat)] w (Gives w (.int .u64 (Nm.dSub 4607182418800017408 d : Nat)))) := Lib.hid (fun w => sub_any 4607182418800017408 d (by decide) od w)
  have oE : Nm.dSub 4607182418800017408 d < 2 ^ 64 := sub_ok _ _ (by decide) od
  obtain ⟨E, hE⟩ : ∃ vv, Nm.dSub 4607182418800017408 d = vv := ⟨_, rfl⟩
  rw [hE] at CE oE
  rw [show fSin r p i = E by rw [hf, hm, ht, hd, hE]]
  clear hm ht hd hE om ot od oE hf hr hp b1 b2 h1 h2
  have HJ := Lib.hid hJ
  clear hJ
  have e3 : IntKind.i64.wrap (i * (i + 1)) = J := by rw [HJ.out]; exact e2
  clear e2
  have BB := Lib.hid (Below.refl w.heap.size w)
  go_enter Tryz.func135, Tryz.ntmps135
  go_wp2_with fail
  refine (Cm.out _).mono ?_
  rintro e' wm1 ⟨rfl, hb⟩
  have BB := Lib.hid (BB.out.trans (hb.mono BB.out.size))
  clear hb
  go_wp2_with fail
  refine (Ct.out _).mono ?_
  rintro e' wm2 ⟨rfl, hb⟩
  have BB := Lib.hid (BB.out.trans (hb.mono BB.out.size))
  clear hb
  go_wp2_with fail
  refine (Cd.out _).mono ?_
  rintro e' wm3 ⟨rfl, hb⟩
  have BB := Lib.hid (BB.out.trans (hb.mono BB.out.size))
  clear hb
  go_wp2_with fail
  refine (CE.out _).mono ?_
  rintro e' wm4 ⟨rfl, hb⟩
  have BB := Lib.hid (BB.out.trans (hb.mono BB.out.size))
  clear hb
  go_wp2
  go_ret
  exact ⟨rfl, BB.out⟩
set_option maxHeartbeats 2000000 in
theorem serSin_any (r p g n d : Nat) (hd : d ≤ 1) (hn : n ≤ 40) (hr : r < 2 ^ 64) (hp : p < 2 ^ 64) (w : World) (hg : g < w.heap.size) (hc : w.cell? ⟨g, 0, none⟩ = some (.int .u64 (r : Nat))) (k : Int) (hk : k = (2 * n : Nat) - (d : Int)) :
    Calls Tryz.prog 44 #[.int .u64 (p : Nat), .int .i64 k, .int .i64 2, .int .i64 1, .func (.func 135) #[] #[.pointer (some ⟨g, 0, none⟩)]] w (Gives w (.int .u64 (serN (fSin r) 2 d n p : Nat))) := by
  have CE : Hid (∀ (t : Nat) (j : Int) (w' : World), t < 2 ^ 64 → 0 ≤ j → j ≤ 100 → Below w.heap.size w w' → Calls Tryz.prog 135 #[.int .u64 (t : Nat), .int .i64 j, .pointer (some ⟨g, 0, none⟩)] w' (Gives w' (.int .u64 (fSin r t j : Nat)))) :=
    Lib.hid (fun t j w' ht h1 h2 hb => sin1_any r t g j h1 h2 hr ht w' ((hb.cell hg).trans hc))
  have B0 := Lib.hid (Below.refl w.heap.size w)
  obtain ⟨R, hR⟩ : ∃ R, serN (fSin r) 2 d n p = R := ⟨_, rfl⟩
  have HR := Lib.hid hR
  have HK := Lib.hid hk
  have HP := Lib.hid hp
  have HD := Lib.hid hd
  have hk1 : k ≤ 100 := by omega
  have hk2 : -1 ≤ k := by omega
  rw [hR]
  clear hR hk hr hp hc hg hd
  go_enter Tryz.func44, Tryz.ntmps44
  go_wp2
  go_loopw [0, 11] (fun q i wr => ∃ (m t : Nat) (j : Int), i = .int .i64 j ∧ q = .int .u64 (t : Nat) ∧ -1 ≤ j ∧ j ≤ 100 ∧ Hid (j = (2 * m : Nat) - (d : Int)) ∧ Hid (t < 2 ^ 64) ∧ Hid (serN (fSin r) 2 d m t = R) ∧ Hid (Below w.heap.size w wr)) (fun _ i _ => (intOf i + 2).toNat)
  case atStart => exact ⟨n, p, k, rfl, rfl, hk2, hk1, HK, HP, HR, B0⟩
  case round =>
    obtain ⟨m, t, j, rfl, rfl, hj1, hj2, HJ, HT, HS, HB⟩ := hrel
    cases m with
    | zero =>
      have d1 : decide (j ≥ 1) = false := by have := HJ.out; apply decide_eq_false; omega
      have d2 : decide ((1 : Int) ≤ j) = false := d1
      have hs : t = R := HS.out
      subst hs
      go_wp2
      go_ret
      exact ⟨rfl, HB.out⟩
    | succ m =>
      have d1 : decide (j ≥ 1) = true := by have := HJ.out; have := HD.out; apply decide_eq_true; omega
      have d2 : decide ((1 : Int) ≤ j) = true := d1
      have hj3 : 1 ≤ j := of_decide_eq_true d2
      have e1 : IntKind.i64.wrap (j - 2) = j - 2 := by rw [IntKind.wrap_i64]; omega
      have HS2 : Hid (serN (fSin r) 2 d m (fSin r t j) = R) := Lib.hid (by
        have h := HS.out
        have ej : ((2 * (m + 1) : Nat) : Int) - (d : Int) = j := by have := HJ.out; omega
        rw [serN, ej] at h
        exact h)
      have CS := Lib.hid (CE.out t j wr HT.out (by omega) hj2 HB.out)
      have HF := Lib.hid (fSin_ok r t j)
      go_wp2_with fail
      refine CS.out.mono ?_
      rintro e' wk ⟨rfl, hbk⟩
      have BK := Lib.hid (HB.out.trans (hbk.mono HB.out.size))
      clear hbk
      go_wp2
      go_roundw
      case rel => exact ⟨m, _, j - 2, by first | rfl | rw [e1], rfl, by omega, by omega, Lib.hid (by have := HJ.out; omega), HF, HS2, BK⟩
      case measure => simp [intOf]; omega
set_option maxHeartbeats 2000000 in
theorem altern_any (r d n : Nat) (l : Int) (hl : l = (2 * n : Nat) - (d : Int)) (hd : d ≤ 1) (hn : n ≤ 40) (hz : r < 2 ^ 64) (w : World) : Calls Tryz.prog 127 #[.int .u64 (r : Int), .int .i64 l] w (Gives w (.int .u64 (dSerS d n r : Nat))) := by
  have hmf : ∀ (fn : Fn) (first cap : Array Value) (w : World), (Instr.makeFunc fn first cap).run Tryz.prog w = .ok (.func fn first cap) w := fun _ _ _ _ => rfl
  have Cq : Hid (∀ w, Calls Tryz.prog 42 #[.int .u64 (r : Nat), .int .u64 (r : Nat)] w (Gives w (.int .u64 (Nm.dMul r r : Nat)))) := Lib.hid (fun w => mul_any r r hz hz w)
  have oq : Nm.dMul r r < 2 ^ 64 := (Nm.ok_mul _ _).1
  obtain ⟨q, hq⟩ : ∃ vv, Nm.dMul r r = vv := ⟨_, rfl⟩
  rw [hq] at Cq oq
  have CS : Hid (∀ (w : World) (g : Nat), g < w.heap.size → w.cell? ⟨g, 0, none⟩ = some (.int .u64 (q : Nat)) → Calls Tryz.prog 44 #[.int .u64 4607182418800017408, .int .i64 l, .int .i64 2, .int .i64 1, .func (.func 135) #[] #[.pointer (some ⟨g, 0, none⟩)]] w (Gives w (.int .u64 (serN (fSin q) 2 d n 4607182418800017408 : Nat)))) := Lib.hid (fun w g hg hc => serSin_any q 4607182418800017408 g n d hd hn oq (by decide) w hg hc l hl)
  obtain ⟨P, hP⟩ : ∃ x, serN (fSin q) 2 d n 4607182418800017408 = x := ⟨_, rfl⟩
  rw [hP] at CS
  rw [show dSerS d n r = P by unfold dSerS; rw [hq, hP]]
  clear hq oq hP hz hl hd hn
  have BB := Lib.hid (Below.refl w.heap.size w)
  go_enter Tryz.func127, Tryz.ntmps127
  go_wp2_with fail
  refine (Cq.out _).mono ?_
  rintro e' wm1 ⟨rfl, hb⟩
  have BB := Lib.hid (BB.out.trans (hb.mono BB.out.size))
  clear hb
  have BB := Lib.hid (BB.out.alloc BB.out.size (Obj.cells #[.int .u64 (q : Nat)] 23))
  have LV := Lib.hid (Since.same (wm1.alloc (Obj.cells #[.int .u64 (q : Nat)] 23)))
  go_wp2_with fail
  refine (CS.out _ _ (Nat.lt_of_lt_of_le (alloc_lt _ _) LV.out.out.size) ((LV.out.out.cell (alloc_lt _ _)).trans (World.cell?_alloc_at _ _ _ _ rfl))).mono ?_
  rintro e' wm2 ⟨rfl, hb⟩
  have LV := Lib.hid (LV.out.below hb)
  have BB := Lib.hid (BB.out.trans (hb.mono BB.out.size))
  clear hb
  go_wp2
  go_ret
  exact ⟨rfl, BB.out⟩
theorem sineof_any (r : Nat) (hr : r < 2 ^ 64) (w : World) : Calls Tryz.prog 113 #[.int .u64 (r : Int)] w (Gives w (.int .u64 (dSinOf r : Nat))) := by
  have CP : Hid (∀ w, Calls Tryz.prog 127 #[.int .u64 (r : Nat), .int .i64 16] w (Gives w (.int .u64 (dSerS 0 8 r : Nat)))) := Lib.hid (fun w => altern_any r 0 8 16 (by decide) (by decide) (by decide) hr w)
  have oP := dSerS_ok 0 8 r
  obtain ⟨P, hP⟩ : ∃ vv, dSerS 0 8 r = vv := ⟨_, rfl⟩
  rw [hP] at CP oP
  have CE : Hid (∀ w, Calls Tryz.prog 42 #[.int .u64 (r : Nat), .int .u64 (P : Nat)] w (Gives w (.int .u64 (Nm.dMul r P : Nat)))) := Lib.hid (fun w => mul_any r P hr oP w)
  have oE : Nm.dMul r P < 2 ^ 64 := (Nm.ok_mul _ _).1
  obtain ⟨E, hE⟩ : ∃ vv, Nm.dMul r P = vv := ⟨_, rfl⟩
  rw [hE] at CE oE
  rw [show dSinOf r = E by unfold dSinOf; rw [hP, hE]]
  clear hE oE hr hP oP
  have BB := Lib.hid (Below.refl w.heap.size w)
  go_enter Tryz.func113, Tryz.ntmps113
  go_wp2_with fail
  refine (CP.out _).mono ?_
  rintro e' wm1 ⟨rfl, hb⟩
  have BB := Lib.hid (BB.out.trans (hb.mono BB.out.size))
  clear hb
  go_wp2_with fail
  refine (CE.out _).mono ?_
  rintro e' wm2 ⟨rfl, hb⟩
  have BB := Lib.hid (BB.out.trans (hb.mono BB.out.size))
  clear hb
  go_wp2
  go_ret
  exact ⟨rfl, BB.out⟩
theorem cosineof_any (r : Nat) (hr : r < 2 ^ 64) (w : World) : Calls Tryz.prog 114 #[.int .u64 (r : Int)] w (Gives w (.int .u64 (dCosOf r : Nat))) := by
  have CP : Hid (∀ w, Calls Tryz.prog 127 #[.int .u64 (r : Nat), .int .i64 17] w (Gives w (.int .u64 (dCosOf r : Nat)))) := Lib.hid (fun w => altern_any r 1 9 17 (by decide) (by decide) (by decide) hr w)
  obtain ⟨P, hP⟩ : ∃ vv, dCosOf r = vv := ⟨_, rfl⟩
  rw [hP] at CP ⊢
  clear hr hP
  have BB := Lib.hid (Below.refl w.heap.size w)
  go_enter Tryz.func114, Tryz.ntmps114
  go_wp2_with fail
  refine (CP.out _).mono ?_
  rintro e' wm1 ⟨rfl, hb⟩
  have BB := Lib.hid (BB.out.trans (hb.mono BB.out.size))
  clear hb
  go_wp2
  go_ret
  exact ⟨rfl, BB.out⟩
set_option maxHeartbeats 2000000 in
theorem row_any (q d n : Nat) (l t0 : Int) (hl : l = (2 * n : Nat) - (d : Int)) (ht0 : t0 = 2 - (d : Int)) (hd : d ≤ 1) (hn : n ≤ 40) (oq : q < 2 ^ 64) (w : World) : Calls Tryz.prog 116 #[.int .u64 (q : Int), .int .i64 l, .int .i64 t0] w (Gives w (.int .u64 (serN (fSin q) 2 d n 4607182418800017408 : Nat))) := by
  obtain ⟨P, hP⟩ : ∃ x, serN (fSin q) 2 d n 4607182418800017408 = x := ⟨_, rfl⟩
  have HP := Lib.hid hP
  have HQ := Lib.hid oq
  have HD := Lib.hid hd
  have HT0 := Lib.hid ht0
  have HL := Lib.hid hl
  have hk1 : l ≤ 100 := by omega
  have hk2 : -1 ≤ l := by omega
  rw [hP]
  clear hP oq hd ht0 hl hn
  have BB := Lib.hid (Below.refl w.heap.size w)
  go_enter Tryz.func116, Tryz.ntmps116
  go_wp2
  go_loopw [7, 8] (fun q' i' wr => ∃ (m t : Nat) (j : Int), i' = .int .i64 j ∧ q' = .int .u64 (t : Nat) ∧ -1 ≤ j ∧ j ≤ 100 ∧ Hid (j = (2 * m : Nat) - (d : Int)) ∧ Hid (t < 2 ^ 64) ∧ Hid (serN (fSin q) 2 d m t = P) ∧ Hid (Below w.heap.size w wr)) (fun _ i _ => (intOf i + 2).toNat)
  case atStart => exact ⟨n, 4607182418800017408, l, rfl, rfl, hk2, hk1, HL, Lib.hid (by decide), HP, BB⟩
  case round =>
    obtain ⟨m, t, j, rfl, rfl, hj1, hj2, HJ, HT, HS, BB⟩ := hrel
    cases m with
    | zero =>
      have d1 : decide (j ≥ t0) = false := by have := HJ.out; have := HT0.out; apply decide_eq_false; omega
      have d2 : decide (t0 ≤ j) = false := d1
      obtain rfl : t = P := HS.out
      go_wp2
      go_ret
      exact ⟨rfl, BB.out⟩
    | succ m =>
      have d1 : decide (j ≥ t0) = true := by have := HJ.out; have := HD.out; have := HT0.out; apply decide_eq_true; omega
      have d2 : decide (t0 ≤ j) = true := d1
      have hj3 : 1 ≤ j := by have := HJ.out; have := HD.out; omega
      have e3 : IntKind.i64.wrap (j - 2) = j - 2 := by rw [IntKind.wrap_i64]; omega
      have HS2 : Hid (serN (fSin q) 2 d m (fSin q t j) = P) := Lib.hid (by
        have h := HS.out
        have ej : ((2 * (m + 1) : Nat) : Int) - (d : Int) = j := by have := HJ.out; omega
        rw [serN, ej] at h
        exact h)
      have HF := Lib.hid (fSin_ok q t j)
      obtain ⟨b1, b2⟩ := sq_bd j (by omega) hj2
      have e1 : IntKind.i64.wrap (j + 1) = j + 1 := by rw [IntKind.wrap_i64]; omega
      have e2 : IntKind.i64.wrap (j * (j + 1)) = j * (j + 1) := by rw [IntKind.wrap_i64]; omega
      have hf : fSin q t j = Nm.dSub 4607182418800017408 (Nm.dDiv (Nm.dMul q t) (dInt (j * (j + 1)))) := rfl
      obtain ⟨J, hJ⟩ : ∃ J, j * (j + 1) = J := ⟨_, rfl⟩
      rw [hJ] at e2 hf b1 b2
      have HJJ := Lib.hid hJ
      clear hJ
      have e5 : IntKind.i64.wrap (j * (j + 1)) = J := by rw [HJJ.out]; exact e2
      have CX1 := Lib.hid (fun w => rmul_any q t HQ.out HT.out w)
      have CX2 := Lib.hid (fun w => rint_any J (by omega) (by omega) w)
      have CX3 : Hid (∀ w, Calls Tryz.prog 57 #[.int .u64 (Nm.dMul q t : Nat), .int .u64 (dInt J : Nat)] w (Gives w (.int .u64 (Nm.dDiv (Nm.dMul q t) (dInt J) : Nat)))) := Lib.hid (fun w => rdiv_any _ (dInt J) (Nm.ok_mul _ _).1 (ok_int _).1 w)
      have CX4 : Hid (∀ w, Calls Tryz.prog 56 #[.int .u64 4607182418800017408, .int .u64 (Nm.dDiv (Nm.dMul q t) (dInt J) : Nat)] w (Gives w (.int .u64 (fSin q t j : Nat)))) := Lib.hid (by rw [hf]; exact fun w => rsub_any 4607182418800017408 _ (by decide) (Nm.ok_div _ _).1 w)
      clear hf e2 b1 b2
      obtain ⟨Q, hQ⟩ : ∃ R, fSin q t j = R := ⟨_, rfl⟩
      rw [hQ] at CX4 HS2 HF
      obtain ⟨D, hD⟩ : ∃ R, Nm.dDiv (Nm.dMul q t) (dInt J) = R := ⟨_, rfl⟩
      rw [hD] at CX3 CX4
      obtain ⟨M, hM⟩ : ∃ R, Nm.dMul q t = R := ⟨_, rfl⟩
      rw [hM] at CX1 CX3
      obtain ⟨I, hI⟩ : ∃ R, dInt J = R := ⟨_, rfl⟩
      rw [hI] at CX2 CX3
      clear hQ hD hM hI
      go_wp2_with fail
      refine (CX1.out _).mono ?_
      rintro e' wm1 ⟨rfl, hb⟩
      have BB := Lib.hid (BB.out.trans (hb.mono BB.out.size))
      clear hb
      go_wp2_with fail
      refine (CX2.out _).mono ?_
      rintro e' wm2 ⟨rfl, hb⟩
      have BB := Lib.hid (BB.out.trans (hb.mono BB.out.size))
      clear hb
      go_wp2_with fail
      refine (CX3.out _).mono ?_
      rintro e' wm3 ⟨rfl, hb⟩
      have BB := Lib.hid (BB.out.trans (hb.mono BB.out.size))
      clear hb
      go_wp2_with fail
      refine (CX4.out _).mono ?_
      rintro e' wm4 ⟨rfl, hb⟩
      have BB := Lib.hid (BB.out.trans (hb.mono BB.out.size))
      clear hb
      go_wp2
      go_roundw
      case rel => exact ⟨m, _, j - 2, by first | rfl | rw [e3], rfl, by omega, by omega, Lib.hid (by have := HJ.out; omega), HF, HS2, BB⟩
      case measure => simp [intOf]; omega
end Go.Proofs.YtffohkpohgkglaaGreat
