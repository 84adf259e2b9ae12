/-
  PACKED: GwO, GwP, GwQ, GwR, GwS, GwT, GwU, B2BookA, B2BookB, B2BookC
-/
import Derived.Test.YtdlifcpdlbmijaaDoorK04
import Derived.Test.YtdlifcpdlbmijaaDoorK03
import Derived.Deep.RegionHeld3
import Derived.BigQuiet
import Derived.Deep.AppendLies
import Derived.Deep.RegionLaw
namespace Go.Proofs.YtdlifcpdlbmijaaDoor
set_option linter.unusedVariables false
set_option linter.unusedSimpArgs false
open Go.RowKit Go.PlainAid Go.Shelf
open B2 (Only Wr PutPost Bys Row cellsOf Rf RfPost)
open Gm (St Smp)
def lefI (ws we : Nat) : Int := if we = 0 then -1 else ((ws : Nat) : Int)
def rigI (we : Nat) : Int := if we = 0 then -1 else ((64 - we : Nat) : Int)
theorem cs_new (w : World) : Cs w (w.alloc (.cells #[.slice none 0 0, .int .i64 0] 165)) w.heap.size [] := by
  have hb2 := (Below.refl w.heap.size w).alloc (Nat.le_refl _) (.cells #[.slice none 0 0, .int .i64 0] 165)
  have hr := heap_alloc_new w (.cells #[.slice none 0 0, .int .i64 0] 165)
  refine ⟨Nat.le_refl _, hb2, w.heap.size, Nat.le_refl _, .slice none 0 0, hr, Row.nil _ _, .inl rfl, ?_⟩
  simp
theorem keep2 {W : World} {b m N : Nat} {x y v0 v1 v2 v3 : Value} (hne : b ≠ N) (h : W.cell? ⟨b, 0, none⟩ = some x ∧ W.cell? ⟨b, m * 2, none⟩ = some y) :
    (((((W.setCell ⟨N, 0, none⟩ v0).setCell ⟨N, 1, none⟩ v1).setCell ⟨N, 2, none⟩ v2).setCell ⟨N, 3, none⟩ v3).cell? ⟨b, 0, none⟩ = some x) ∧ (((((W.setCell ⟨N, 0, none⟩ v0).setCell ⟨N, 1, none⟩ v1).setCell ⟨N, 2, none⟩ v2).setCell ⟨N, 3, none⟩ v3).cell? ⟨b, m * 2, none⟩ = some y) := by
  have hO := ((((Only.refl [N] W).setCell (p := ⟨N, 0, none⟩) (.inl (by simp)) v0).setCell (p := ⟨N, 1, none⟩) (.inl (by simp)) v1).setCell (p := ⟨N, 2, none⟩) (.inl (by simp)) v2).setCell (p := ⟨N, 3, none⟩) (.inl (by simp)) v3
  exact ⟨Only_cell hO h.1 (by simpa using hne), Only_cell hO h.2 (by simpa using hne)⟩
theorem keepG {W W' : World} {p q : Addr} {x y : Value} (h : W.cell? p = some x ∧ W.cell? q = some y) (k : Below W.heap.size W W') : W'.cell? p = some x ∧ W'.cell? q = some y := ⟨cell_below h.1 k, cell_below h.2 k⟩
set_option maxHeartbeats 8000000 in
set_option maxRecDepth 100000 in
theorem rchunk_any (b n cap : Nat) (l : List Smp) (hn : l.length = n) (h0 : 0 < n) (hn9 : n ≤ 1000) (hl : ∀ a ∈ l, Gm.OkS a) (q p0 p1 p2 c c0 c1 c2 o9 oa oc od : Nat) (w : World) (HS : Sam w b l) (HT : TabB w q p0 p1 p2 c c0 c1 c2 o9 oa oc od) :
    Calls Tryd.prog 30 #[.slice (some ⟨b, 0, none⟩) n cap] w (ChPost w (l.getD 0 ⟨0, 0⟩).t (l.getD (n - 1) ⟨0, 0⟩).t n (Gm.run l).out) := by
  have hA := (Below.refl w.heap.size w).alloc (Nat.le_refl _) (.cells #[.int .i64 0, .int .i64 0, .int .i64 0, .slice none 0 0] 73)
  have HRUN := Lib.hid (show (Gm.run l).out = (Gm.run (l.take n)).out by rw [← hn, List.take_length])
  have hSZ : (w.alloc (.cells #[.int .i64 0, .int .i64 0, .int .i64 0, .slice none 0 0] 73)).heap.size = w.heap.size + 1 := by simp
  have HBB := Lib.hid (And.intro hA hSZ)
  have HSS := Lib.hid (HS.below hA)
  have HTT := Lib.hid (HT.below hA)
  have HL := Lib.hid hl
  have HLN := Lib.hid hn
  have k0 := hl _ (List.getElem_mem (show 0 < l.length by omega))
  have g0 := getD_is l 0 (by omega)
  have HR1 := Lib.hid (run_one l (by omega))
  obtain ⟨a0, ha0⟩ : ∃ a0, l.getD 0 ⟨0, 0⟩ = a0 := ⟨_, rfl⟩
  rw [← g0, ha0] at k0 HR1
  have hs0 : w.cell? ⟨b, 0, none⟩ = some (.int .i64 a0.t) ∧ w.cell? ⟨b, 1, none⟩ = some (.int .u64 ((a0.v : Nat) : Int)) := by
    have h := HS 0 (by omega)
    rw [← g0, ha0] at h
    exact h
  have hs0 : (w.alloc (.cells #[.int .i64 0, .int .i64 0, .int .i64 0, .slice none 0 0] 73)).cell? ⟨b, 0, none⟩ = some (.int .i64 a0.t) ∧ (w.alloc (.cells #[.int .i64 0, .int .i64 0, .int .i64 0, .slice none 0 0] 73)).cell? ⟨b, 1, none⟩ = some (.int .u64 ((a0.v : Nat) : Int)) := ⟨cell_below hs0.1 hA, cell_below hs0.2 hA⟩
  have HS0 := Lib.hid hs0
  have HK0 := Lib.hid k0
  have hb0 : (0 : Int) < (n : Int) := by omega
  have HROW := Lib.hid (heap_alloc_new w (.cells #[.int .i64 0, .int .i64 0, .int .i64 0, .slice none 0 0] 73))
  have HA0 := Lib.hid ha0
  rw [ha0]
  obtain ⟨T, hT⟩ : ∃ T, (l.getD (n - 1) ⟨0, 0⟩).t = T := ⟨_, rfl⟩
  obtain ⟨OUT, hOUT⟩ : ∃ OUT, (Gm.run l).out = OUT := ⟨_, rfl⟩
  have HTO := Lib.hid (And.intro hT hOUT)
  rw [hT, hOUT]
  rw [hOUT] at HRUN
  clear hA hl k0 hs0 g0 HS HT hT hOUT hn ha0
  go_enter Tryd.func30, Tryd.ntmps30
  go_upto_region 2 with (fail)
  generalize w.alloc (.cells #[.int .i64 0, .int .i64 0, .int .i64 0, .slice none 0 0] 73) = wB at *
  obtain ⟨N, hN⟩ : ∃ N, w.heap.size = N := ⟨_, rfl⟩
  obtain ⟨r, hr⟩ : ∃ r, N + 1 = r := ⟨_, rfl⟩
  have HNN := Lib.hid (show w.heap.size = N ∧ r = N + 1 ∧ wB.heap.size = r from ⟨hN, by omega, by have := hSZ; omega⟩)
  have HC := Lib.hid (cs_new wB)
  rw [HNN.out.2.2] at HC
  rw [hN] at HROW ⊢
  rw [hr]
  clear hN hr hSZ
  generalize wB.alloc (.cells #[.slice none 0 0, .int .i64 0] 165) = W1 at HC ⊢
  have q0 := cell_below HS0.out.1 HC.out.2.1
  go_wp2_with fail
  go_at_call 86
  refine (cs_sgn a0.t HK0.out.1 HK0.out.2.1 HC.out (by decide)).mono ?_
  rintro e w2 ⟨rfl, hc2⟩
  have HC2 := Lib.hid hc2
  have q1 := cell_below HS0.out.2 HC2.out.2.1
  have CB := Lib.hid (cs_bits a0.v 64 HK0.out.2.2 (by decide) HC2.out (by have := vb_len (B2.Bt.zz a0.t) (B2.Bt.zz_lt _ HK0.out.1 HK0.out.2.1); rw [List.nil_append]; omega))
  simp only [Int.cast_ofNat_Int, List.nil_append] at CB
  rw [← HR1.out.1] at CB
  clear q0 hc2 HC HC2
  go_wp2_with fail
  go_at_call 87
  refine CB.out.mono ?_
  rintro e w3 ⟨rfl, hc3⟩
  have HC3 := Lib.hid hc3
  have HW1 := Lib.hid HR1.out.2
  clear q1 hc3 CB HR1 HS0
  go_wp2_with fail
  go_loopw [4, 5, 6] (fun v4 v5 v6 wr => ∃ i : Nat, 1 ≤ i ∧ i ≤ n ∧ v4 = .int .i64 (lefI (Gm.run (l.take i)).ws (Gm.run (l.take i)).we) ∧ v5 = .int .i64 (rigI (Gm.run (l.take i)).we) ∧ v6 = .int .i64 ((i : Nat) : Int) ∧ Hid (Cs wB wr r (Gm.run (l.take i)).out)) (fun _ _ v6 _ => n - (intOf v6).toNat)
  case atStart => exact ⟨1, Nat.le_refl _, h0, by rw [HW1.out.1, HW1.out.2]; rfl, by rw [HW1.out.2]; rfl, rfl, HC3⟩
  case round =>
    obtain ⟨i, hi1, hin, rfl, rfl, rfl, HCi⟩ := hrel
    by_cases hlt : i < n
    · obtain ⟨j, hj⟩ : ∃ j, i = j + 1 := ⟨i - 1, by omega⟩
      have hlen := out_len l HL.out i (by have := HLN.out; omega)
      have hHP := step_put l i hi1 (by have := HLN.out; omega)
      have hwin := win_le l HL.out i
      have hxl := xrL_lt l HL.out i (by have := HLN.out; omega)
      have hci := (HSS.out i (by have := HLN.out; omega)).2
      have hcj := (HSS.out j (by have := HLN.out; omega)).2
      have hvi := (HL.out _ (List.getElem_mem (show i < l.length by have := HLN.out; omega))).2.2
      have hvj := (HL.out _ (List.getElem_mem (show j < l.length by have := HLN.out; omega))).2.2
      have e1 := getD_is l i (by have := HLN.out; omega)
      have e2 := getD_is l j (by have := HLN.out; omega)
      have hxr : xrL l i = (l.getD i ⟨0, 0⟩).v ^^^ (l.getD j ⟨0, 0⟩).v := by unfold xrL; rw [show i - 1 = j by omega]
      rw [← e1] at hci hvi
      rw [← e2] at hcj hvj
      obtain ⟨vi, hvii⟩ : ∃ vi, (l.getD i ⟨0, 0⟩).v = vi := ⟨_, rfl⟩
      obtain ⟨vj, hvjj⟩ : ∃ vj, (l.getD j ⟨0, 0⟩).v = vj := ⟨_, rfl⟩
      rw [hvii] at hci hvi hxr
      rw [hvjj] at hcj hvj hxr
      have hx := u64_xor_nat vi vj hvi hvj
      rw [← hxr] at hx
      obtain ⟨x, hxx⟩ : ∃ x, xrL l i = x := ⟨_, rfl⟩
      rw [hxx] at hx hxl hHP
      obtain ⟨ws, hws⟩ : ∃ ws, (Gm.run (l.take i)).ws = ws := ⟨_, rfl⟩
      obtain ⟨we, hwe⟩ : ∃ we, (Gm.run (l.take i)).we = we := ⟨_, rfl⟩
      obtain ⟨B, hBB⟩ : ∃ B, (Gm.run (l.take i)).out = B := ⟨_, rfl⟩
      rw [hws, hwe, hBB] at hHP
      rw [hws, hwe] at hwin
      rw [hBB] at hlen HCi
      rw [hws, hwe]
      have HP := Lib.hid hHP
      have HWIN := Lib.hid hwin
      have HXL := Lib.hid hxl
      have HLEN := Lib.hid hlen
      have htl := timeL_len l i
      have HTLN := Lib.hid htl
      have hji : ((i : Nat) : Int) - 1 = ((j : Nat) : Int) := by omega
      have hij : ((i : Nat) : Int) < (n : Int) := by omega
      have hjn : ((j : Nat) : Int) < (n : Int) := by omega
      have hjn2 : j < n := by omega
      have CT := Lib.hid (cs_time (cap := cap) l HLN.out hi1 hlt (by omega) (by omega) q p0 p1 p2 c c0 c1 c2 o9 oa oc od HSS.out HTT.out HCi.out)
      have HIN := Lib.hid (And.intro hi1 hlt)
      have HCC := Lib.hid (And.intro hci hcj)
      clear hHP hwin hxl hlen htl hci hcj hvi hvj e1 e2 hxr hvii hvjj hws hwe hBB hi1 hj hxx hb0
      go_wp2_with fail
      go_at_call 88
      refine CT.out.mono ?_
      rintro e w4 ⟨rfl, hc4⟩
      have HC4 := Lib.hid hc4
      have d1 := cell_below HCC.out.1 hc4.2.1
      have d2 := cell_below HCC.out.2 hc4.2.1
      clear hc4 CT HCi HCC
      go_wp2_with fail
      go_quiet (fail)
      have HC5 := Lib.hid (HC4.out.below (drewn_below w4 nq))
      generalize w4.drewN nq = w5 at HC5 ⊢
      clear d1 d2 HC4 hx hji hjn hjn2
      have hlB : (B ++ timeL l i).length + 200 ≤ 1000000000 := by rw [List.length_append]; have := HLEN.out; have := HTLN.out; omega
      have HLB := Lib.hid hlB
      clear hlB
      by_cases hx0 : x = 0
      · have hz1 : ((x : Int) == 0) = true := by rw [hx0]; rfl
        have hz2 : (x : Int) = 0 := by omega
        have HQ : Hid ((Gm.run (l.take (i + 1))).out = B ++ timeL l i ++ [false] ∧ (Gm.run (l.take (i + 1))).ws = ws ∧ (Gm.run (l.take (i + 1))).we = we) := by
          obtain ⟨h1, h2, h3⟩ := HP.out
          rw [h1, h2, h3]
          unfold Gm.numB Gm.numS Gm.numE
          rw [if_pos hx0, if_pos hx0, if_pos hx0]
          exact ⟨rfl, rfl, rfl⟩
        have C1 := Lib.hid (cs_bit false HC5.out (by have := HLB.out; omega))
        clear HP HC5
        subst hx0
        go_wp2_with fail
        go_at_call 89
        refine C1.out.mono ?_
        rintro e w6 ⟨rfl, hc6⟩
        rw [← HQ.out.1] at hc6
        have HC6 := Lib.hid hc6
        clear hc6 C1
        go_wp2_with fail
        go_roundw
        case rel => exact ⟨i + 1, by omega, by have := HIN.out; omega, by rw [HQ.out.2.1, HQ.out.2.2], by rw [HQ.out.2.2], by go_num, HC6⟩
        case measure => simp [intOf]; have := HIN.out; omega
      · have hz1 : ((x : Int) == 0) = false := by simp; omega
        have hz2 : ¬ (x : Int) = 0 := by omega
        obtain ⟨wf1, wf2, wf3, _⟩ := Gm.win_facts x hx0 HXL.out
        have hE := show Gm.wE x = 64 - Lib.ctz 64 x from rfl
        have hcl := (Gm.ctz_facts x hx0 HXL.out).1
        have CE := Lib.hid (fun W => ends_any x hx0 HXL.out W)
        have HCase := Lib.hid (show (we ≠ 0 ∧ ws ≤ Gm.wS x ∧ Gm.wE x ≤ we ∧ we ≤ 64 ∧ ws < we) ∨ we = 0 ∨ (we ≠ 0 ∧ Gm.wS x < ws ∧ we ≤ 64) ∨ (we ≠ 0 ∧ ws ≤ Gm.wS x ∧ we < Gm.wE x ∧ we ≤ 64) by have := HWIN.out; omega)
        have HNUM := Lib.hid (show (we ≠ 0 → ws ≤ Gm.wS x → Gm.wE x ≤ we → Gm.numS ws we x = ws ∧ Gm.numE ws we x = we ∧ Gm.numB ws we x = [true] ++ [false] ++ B2.Bt.top (x >>> (64 - we)) (we - ws)) ∧ (we = 0 ∨ Gm.wS x < ws ∨ we < Gm.wE x → Gm.numS ws we x = Gm.wS x ∧ Gm.numE ws we x = Gm.wE x ∧ Gm.numB ws we x = [true] ++ [true] ++ B2.Bt.top (Gm.wS x) 5 ++ B2.Bt.top (Gm.wE x - Gm.wS x - 1) 6 ++ B2.Bt.top (x >>> (64 - Gm.wE x)) (Gm.wE x - Gm.wS x)) from
          ⟨fun _ h1 h2 => num_hold ws we x hx0 (by simp [h1, h2]), fun h => num_new ws we x hx0 (by simp only [Bool.and_eq_true, decide_eq_true_eq]; omega)⟩)
        have hEC : Gm.wE x - Gm.wS x - 1 = 63 - Gm.wS x - Lib.ctz 64 x ∧ 64 - Gm.wE x = Lib.ctz 64 x ∧ Gm.wE x - Gm.wS x = 64 - Gm.wS x - Lib.ctz 64 x := by omega
        rw [hEC.1, hEC.2.1, hEC.2.2] at HNUM
        rw [hE] at HNUM HCase wf2 wf3
        clear hEC hE
        obtain ⟨a, haa⟩ : ∃ a, Gm.wS x = a := ⟨_, rfl⟩
        obtain ⟨d, hdd⟩ : ∃ d, Lib.ctz 64 x = d := ⟨_, rfl⟩
        rw [haa, hdd] at HNUM HCase CE wf2
        rw [haa] at wf1
        rw [hdd] at hcl
        have HAD := Lib.hid (show a ≤ 31 ∧ a + d < 64 ∧ d < 64 from ⟨wf1, by omega, hcl⟩)
        have C1 := Lib.hid (cs_bit true HC5.out (by have := HLB.out; omega))
        have HX0 := Lib.hid hx0
        clear haa hdd wf1 wf2 wf3 hcl HC5 hx0
        go_wp2_with fail
        go_at_call 89
        refine C1.out.mono ?_
        rintro e w6 ⟨rfl, hc6⟩
        have HC6 := Lib.hid hc6
        clear hc6 C1
        go_wp2_with fail
        go_at_call 90
        refine (CE.out w6).mono ?_
        rintro e w7 ⟨rfl, rfl⟩
        clear CE
        rcases HCase.out with ⟨k1, k2, k3, k4, k5⟩ | k1 | ⟨k1, k2, k4⟩ | ⟨k1, k2, k3, k4⟩
        · have hl : lefI ws we = ((ws : Nat) : Int) := by unfold lefI; rw [if_neg k1]
          have hr : rigI we = ((64 - we : Nat) : Int) := by unfold rigI; rw [if_neg k1]
          obtain ⟨R, hR⟩ : ∃ R, 64 - we = R := ⟨_, rfl⟩
          have hn := HNUM.out.1 k1 k2 k3
          have HRR := Lib.hid hR
          rw [hl, hr, hR]
          rw [hR] at hn
          obtain ⟨M, hM⟩ : ∃ M, we - ws = M := ⟨_, rfl⟩
          rw [hM] at hn
          have hHE := HP.out
          have HQ : Hid ((Gm.run (l.take (i + 1))).out = B ++ timeL l i ++ [true] ++ [false] ++ B2.Bt.top (x >>> R) M ∧ (Gm.run (l.take (i + 1))).ws = ws ∧ (Gm.run (l.take (i + 1))).we = we) := by
            obtain ⟨h1, h2, h3⟩ := hHE
            obtain ⟨n1, n2, n3⟩ := hn
            rw [h1, h2, h3, n1, n2, n3]
            refine Lib.hid ⟨?_, rfl, rfl⟩
            simp only [List.append_assoc]
          have g1 : decide ((a : Int) ≥ (ws : Int)) = true := by simp; omega
          have g2 : decide ((d : Int) ≥ (R : Int)) = true := by simp; omega
          have g3 : decide ((ws : Int) ≥ 0) = true := by simp
          have g4 : decide (ws ≤ a) = true := by simpa using k2
          have g5 : decide (R ≤ d) = true := by simp; omega
          have g6 : ws ≤ a := k2
          have g7 : R ≤ d := by omega
          have hM7 : (64 : Int) - (ws : Int) - (R : Int) = ((M : Nat) : Int) := by omega
          have hshr : (x : Int) / 2 ^ R = ((x >>> R : Nat) : Int) := by rw [Nat.shiftRight_eq_div_pow]; simp
          have hsl : x >>> R < 18446744073709551616 := by rw [Nat.shiftRight_eq_div_pow]; exact Nat.lt_of_le_of_lt (Nat.div_le_self _ _) HXL.out
          have hR64 : R < 64 := by omega
          have HF := Lib.hid (show M ≤ 64 ∧ x >>> R < 18446744073709551616 from ⟨by omega, hsl⟩)
          clear hn hHE HP HNUM HCase hl hr hM k1 k2 k3 k4 k5 hR hsl
          go_wp2_with fail
          go_at_call 89
          refine (cs_bit false HC6.out (by have := HLB.out; simp only [List.length_append, List.length_cons, List.length_nil] at this ⊢; omega)).mono ?_
          rintro e w8 ⟨rfl, hc8⟩
          have CB := Lib.hid (cs_bits (x >>> R) M HF.out.2 HF.out.1 hc8 (by have := HLB.out; have := HF.out.1; simp only [List.length_append, List.length_cons, List.length_nil] at *; omega))
          rw [show ((x >>> R : Nat) : Int) = (x : Int) >>> R from rfl, ← HQ.out.1] at CB
          clear hc8 HC6
          go_wp2_with fail
          go_at_call 87
          refine CB.out.mono ?_
          rintro e w9 ⟨rfl, hc9⟩
          have HC9 := Lib.hid hc9
          clear hc9 CB
          go_wp2_with fail
          go_roundw
          case rel => exact ⟨i + 1, by omega, by have := HIN.out; omega, by rw [HQ.out.2.1, HQ.out.2.2]; unfold lefI; rw [if_neg (by have := HRR.out; omega)], by rw [HQ.out.2.2]; unfold rigI; rw [if_neg (by have := HRR.out; omega), HRR.out], by go_num, HC9⟩
          case measure => simp [intOf]; have := HIN.out; omega
        · have hl : lefI ws we = -1 := by unfold lefI; rw [if_pos k1]
          have hr : rigI we = -1 := by unfold rigI; rw [if_pos k1]
          rw [hl, hr]
          have hn := HNUM.out.2 (.inl k1)
          have hHE := HP.out
          obtain ⟨z, hz⟩ : ∃ z, 63 - a - d = z := ⟨_, rfl⟩
          obtain ⟨m, hm⟩ : ∃ m, 64 - a - d = m := ⟨_, rfl⟩
          rw [hz, hm] at hn
          have HQ : Hid ((Gm.run (l.take (i + 1))).out = B ++ timeL l i ++ [true] ++ [true] ++ B2.Bt.top a 5 ++ B2.Bt.top z 6 ++ B2.Bt.top (x >>> d) m ∧ (Gm.run (l.take (i + 1))).ws = a ∧ (Gm.run (l.take (i + 1))).we = 64 - d) := by
            obtain ⟨h1, h2, h3⟩ := hHE
            obtain ⟨n1, n2, n3⟩ := hn
            rw [h1, h2, h3, n1, n2, n3]
            refine Lib.hid ⟨?_, rfl, rfl⟩
            simp only [List.append_assoc]
          have hsl : x >>> d < 18446744073709551616 := by rw [Nat.shiftRight_eq_div_pow]; exact Nat.lt_of_le_of_lt (Nat.div_le_self _ _) HXL.out
          have HF := Lib.hid (show m ≤ 64 ∧ x >>> d < 18446744073709551616 ∧ z < 64 ∧ a < 32 ∧ d < 64 from ⟨by omega, hsl, by omega, by have := HAD.out; omega, by have := HAD.out; omega⟩)
          have hz6 : (63 : Int) - (a : Int) - (d : Int) = ((z : Nat) : Int) := by have := HAD.out; omega
          have hz7 : (64 : Int) - (a : Int) - (d : Int) = ((m : Nat) : Int) := by have := HAD.out; omega
          have hd64 : d < 64 := HF.out.2.2.2.2
          have ha32 : a < 32 := HF.out.2.2.2.1
          have hz64 : z < 64 := HF.out.2.2.1
          clear hn hHE HP HNUM HCase hl hr k1  hsl hz hm
          go_wp2_with fail
          go_at_call 89
          refine (cs_bit true HC6.out (by have := HLB.out; simp only [List.length_append, List.length_cons, List.length_nil, B2.Bt.top_length] at this ⊢; omega)).mono ?_
          rintro e w8 ⟨rfl, hc8⟩
          have CB := Lib.hid (cs_bits a 5 (by have := HF.out; omega) (by decide) hc8 (by have := HLB.out; simp only [List.length_append, List.length_cons, List.length_nil, B2.Bt.top_length] at this ⊢; omega))
          simp only [Int.cast_ofNat_Int] at CB
          clear hc8 HC6
          go_wp2_with fail
          go_at_call 87
          refine CB.out.mono ?_
          rintro e w9 ⟨rfl, hc9⟩
          clear CB
          have CB := Lib.hid (cs_bits z 6 (by have := HF.out; omega) (by decide) hc9 (by have := HLB.out; simp only [List.length_append, List.length_cons, List.length_nil, B2.Bt.top_length] at this ⊢; omega))
          simp only [Int.cast_ofNat_Int] at CB
          clear hc9
          go_wp2_with fail
          go_at_call 87
          refine CB.out.mono ?_
          rintro e wa ⟨rfl, hca⟩
          clear CB
          have CB := Lib.hid (cs_bits (x >>> d) m HF.out.2.1 HF.out.1 hca (by have := HF.out.1; have := HLB.out; simp only [List.length_append, List.length_cons, List.length_nil, B2.Bt.top_length] at this ⊢; omega))
          rw [show ((x >>> d : Nat) : Int) = (x : Int) / 2 ^ d by rw [Nat.shiftRight_eq_div_pow]; simp, ← HQ.out.1] at CB
          clear hca
          go_wp2_with fail
          go_at_call 87
          refine CB.out.mono ?_
          rintro e wb ⟨rfl, hcb⟩
          have HCb := Lib.hid hcb
          clear hcb CB
          go_wp2_with fail
          go_roundw
          case rel => exact ⟨i + 1, by omega, by have := HIN.out; omega, by rw [HQ.out.2.1, HQ.out.2.2]; unfold lefI; rw [if_neg (by have := HF.out; omega)], by rw [HQ.out.2.2]; unfold rigI; rw [if_neg (by have := HF.out; omega)]; have := HF.out; simp; omega, by go_num, HCb⟩
          case measure => simp [intOf]; have := HIN.out; omega
        · have hl : lefI ws we = ((ws : Nat) : Int) := by unfold lefI; rw [if_neg k1]
          have hr : rigI we = ((64 - we : Nat) : Int) := by unfold rigI; rw [if_neg k1]
          obtain ⟨R, hR⟩ : ∃ R, 64 - we = R := ⟨_, rfl⟩
          rw [hl, hr, hR]
          have hn := HNUM.out.2 (.inr (.inl k2))
          have g4 : decide (ws ≤ a) = false := by simpa using k2
          have g6 : ¬ ws ≤ a := by omega
          clear hR
          have hHE := HP.out
          obtain ⟨z, hz⟩ : ∃ z, 63 - a - d = z := ⟨_, rfl⟩
          obtain ⟨m, hm⟩ : ∃ m, 64 - a - d = m := ⟨_, rfl⟩
          rw [hz, hm] at hn
          have HQ : Hid ((Gm.run (l.take (i + 1))).out = B ++ timeL l i ++ [true] ++ [true] ++ B2.Bt.top a 5 ++ B2.Bt.top z 6 ++ B2.Bt.top (x >>> d) m ∧ (Gm.run (l.take (i + 1))).ws = a ∧ (Gm.run (l.take (i + 1))).we = 64 - d) := by
            obtain ⟨h1, h2, h3⟩ := hHE
            obtain ⟨n1, n2, n3⟩ := hn
            rw [h1, h2, h3, n1, n2, n3]
            refine Lib.hid ⟨?_, rfl, rfl⟩
            simp only [List.append_assoc]
          have hsl : x >>> d < 18446744073709551616 := by rw [Nat.shiftRight_eq_div_pow]; exact Nat.lt_of_le_of_lt (Nat.div_le_self _ _) HXL.out
          have HF := Lib.hid (show m ≤ 64 ∧ x >>> d < 18446744073709551616 ∧ z < 64 ∧ a < 32 ∧ d < 64 from ⟨by omega, hsl, by omega, by have := HAD.out; omega, by have := HAD.out; omega⟩)
          have hz6 : (63 : Int) - (a : Int) - (d : Int) = ((z : Nat) : Int) := by have := HAD.out; omega
          have hz7 : (64 : Int) - (a : Int) - (d : Int) = ((m : Nat) : Int) := by have := HAD.out; omega
          have hd64 : d < 64 := HF.out.2.2.2.2
          have ha32 : a < 32 := HF.out.2.2.2.1
          have hz64 : z < 64 := HF.out.2.2.1
          clear hn hHE HP HNUM HCase hl hr k1 k2 k4 hsl hz hm
          go_wp2_with fail
          go_at_call 89
          refine (cs_bit true HC6.out (by have := HLB.out; simp only [List.length_append, List.length_cons, List.length_nil, B2.Bt.top_length] at this ⊢; omega)).mono ?_
          rintro e w8 ⟨rfl, hc8⟩
          have CB := Lib.hid (cs_bits a 5 (by have := HF.out; omega) (by decide) hc8 (by have := HLB.out; simp only [List.length_append, List.length_cons, List.length_nil, B2.Bt.top_length] at this ⊢; omega))
          simp only [Int.cast_ofNat_Int] at CB
          clear hc8 HC6
          go_wp2_with fail
          go_at_call 87
          refine CB.out.mono ?_
          rintro e w9 ⟨rfl, hc9⟩
          clear CB
          have CB := Lib.hid (cs_bits z 6 (by have := HF.out; omega) (by decide) hc9 (by have := HLB.out; simp only [List.length_append, List.length_cons, List.length_nil, B2.Bt.top_length] at this ⊢; omega))
          simp only [Int.cast_ofNat_Int] at CB
          clear hc9
          go_wp2_with fail
          go_at_call 87
          refine CB.out.mono ?_
          rintro e wa ⟨rfl, hca⟩
          clear CB
          have CB := Lib.hid (cs_bits (x >>> d) m HF.out.2.1 HF.out.1 hca (by have := HF.out.1; have := HLB.out; simp only [List.length_append, List.length_cons, List.length_nil, B2.Bt.top_length] at this ⊢; omega))
          rw [show ((x >>> d : Nat) : Int) = (x : Int) / 2 ^ d by rw [Nat.shiftRight_eq_div_pow]; simp, ← HQ.out.1] at CB
          clear hca
          go_wp2_with fail
          go_at_call 87
          refine CB.out.mono ?_
          rintro e wb ⟨rfl, hcb⟩
          have HCb := Lib.hid hcb
          clear hcb CB
          go_wp2_with fail
          go_roundw
          case rel => exact ⟨i + 1, by omega, by have := HIN.out; omega, by rw [HQ.out.2.1, HQ.out.2.2]; unfold lefI; rw [if_neg (by have := HF.out; omega)], by rw [HQ.out.2.2]; unfold rigI; rw [if_neg (by have := HF.out; omega)]; have := HF.out; simp; omega, by go_num, HCb⟩
          case measure => simp [intOf]; have := HIN.out; omega
        · have hl : lefI ws we = ((ws : Nat) : Int) := by unfold lefI; rw [if_neg k1]
          have hr : rigI we = ((64 - we : Nat) : Int) := by unfold rigI; rw [if_neg k1]
          obtain ⟨R, hR⟩ : ∃ R, 64 - we = R := ⟨_, rfl⟩
          rw [hl, hr, hR]
          have hn := HNUM.out.2 (.inr (.inr k3))
          have g4 : decide (ws ≤ a) = true := by simpa using k2
          have g5 : decide (R ≤ d) = false := by simp; have := HAD.out; omega
          have g6 : ws ≤ a := k2
          have g7 : ¬ R ≤ d := by have := HAD.out; omega
          clear hR
          have hHE := HP.out
          obtain ⟨z, hz⟩ : ∃ z, 63 - a - d = z := ⟨_, rfl⟩
          obtain ⟨m, hm⟩ : ∃ m, 64 - a - d = m := ⟨_, rfl⟩
          rw [hz, hm] at hn
          have HQ : Hid ((Gm.run (l.take (i + 1))).out = B ++ timeL l i ++ [true] ++ [true] ++ B2.Bt.top a 5 ++ B2.Bt.top z 6 ++ B2.Bt.top (x >>> d) m ∧ (Gm.run (l.take (i + 1))).ws = a ∧ (Gm.run (l.take (i + 1))).we = 64 - d) := by
            obtain ⟨h1, h2, h3⟩ := hHE
            obtain ⟨n1, n2, n3⟩ := hn
            rw [h1, h2, h3, n1, n2, n3]
            refine Lib.hid ⟨?_, rfl, rfl⟩
            simp only [List.append_assoc]
          have hsl : x >>> d < 18446744073709551616 := by rw [Nat.shiftRight_eq_div_pow]; exact Nat.lt_of_le_of_lt (Nat.div_le_self _ _) HXL.out
          have HF := Lib.hid (show m ≤ 64 ∧ x >>> d < 18446744073709551616 ∧ z < 64 ∧ a < 32 ∧ d < 64 from ⟨by omega, hsl, by omega, by have := HAD.out; omega, by have := HAD.out; omega⟩)
          have hz6 : (63 : Int) - (a : Int) - (d : Int) = ((z : Nat) : Int) := by have := HAD.out; omega
          have hz7 : (64 : Int) - (a : Int) - (d : Int) = ((m : Nat) : Int) := by have := HAD.out; omega
          have hd64 : d < 64 := HF.out.2.2.2.2
          have ha32 : a < 32 := HF.out.2.2.2.1
          have hz64 : z < 64 := HF.out.2.2.1
          clear hn hHE HP HNUM HCase hl hr k1 k2 k3 k4 hsl hz hm
          go_wp2_with fail
          go_at_call 89
          refine (cs_bit true HC6.out (by have := HLB.out; simp only [List.length_append, List.length_cons, List.length_nil, B2.Bt.top_length] at this ⊢; omega)).mono ?_
          rintro e w8 ⟨rfl, hc8⟩
          have CB := Lib.hid (cs_bits a 5 (by have := HF.out; omega) (by decide) hc8 (by have := HLB.out; simp only [List.length_append, List.length_cons, List.length_nil, B2.Bt.top_length] at this ⊢; omega))
          simp only [Int.cast_ofNat_Int] at CB
          clear hc8 HC6
          go_wp2_with fail
          go_at_call 87
          refine CB.out.mono ?_
          rintro e w9 ⟨rfl, hc9⟩
          clear CB
          have CB := Lib.hid (cs_bits z 6 (by have := HF.out; omega) (by decide) hc9 (by have := HLB.out; simp only [List.length_append, List.length_cons, List.length_nil, B2.Bt.top_length] at this ⊢; omega))
          simp only [Int.cast_ofNat_Int] at CB
          clear hc9
          go_wp2_with fail
          go_at_call 87
          refine CB.out.mono ?_
          rintro e wa ⟨rfl, hca⟩
          clear CB
          have CB := Lib.hid (cs_bits (x >>> d) m HF.out.2.1 HF.out.1 hca (by have := HF.out.1; have := HLB.out; simp only [List.length_append, List.length_cons, List.length_nil, B2.Bt.top_length] at this ⊢; omega))
          rw [show ((x >>> d : Nat) : Int) = (x : Int) / 2 ^ d by rw [Nat.shiftRight_eq_div_pow]; simp, ← HQ.out.1] at CB
          clear hca
          go_wp2_with fail
          go_at_call 87
          refine CB.out.mono ?_
          rintro e wb ⟨rfl, hcb⟩
          have HCb := Lib.hid hcb
          clear hcb CB
          go_wp2_with fail
          go_roundw
          case rel => exact ⟨i + 1, by omega, by have := HIN.out; omega, by rw [HQ.out.2.1, HQ.out.2.2]; unfold lefI; rw [if_neg (by have := HF.out; omega)], by rw [HQ.out.2.2]; unfold rigI; rw [if_neg (by have := HF.out; omega)]; have := HF.out; simp; omega, by go_num, HCb⟩
          case measure => simp [intOf]; have := HIN.out; omega
    · obtain rfl : i = n := by omega
      obtain ⟨m, hm⟩ : ∃ m, i - 1 = m := ⟨_, rfl⟩
      have hs1 := (HSS.out 0 (by have := HLN.out; omega)).1
      have hs2 := (HSS.out m (by have := HLN.out; omega)).1
      have e1 := getD_is l 0 (by have := HLN.out; omega)
      have e2 := getD_is l m (by have := HLN.out; omega)
      have hT2 := HTO.out.1
      rw [hm] at hT2
      rw [← e2, hT2] at hs2
      rw [← e1, HA0.out] at hs1
      rw [← HRUN.out] at HCi
      have hlen : OUT.length ≤ 160 * i := by have h := out_len l HL.out i (by have := HLN.out; omega); rw [← HRUN.out] at h; exact h
      have HBN := Lib.hid (show b < N from by have h : b < w.heap.size := World.block_lt_of_cell? _ _ hs0.1; have := HNN.out; omega)
      have hb2 := HCi.out.2.1
      have q := keepG (And.intro hs1 hs2) hb2
      have HR9a := Lib.hid ((hb2.block _ (by have := HNN.out; omega)).trans HROW.out)
      have hmi : ((i : Nat) : Int) - 1 = ((m : Nat) : Int) := by omega
      have hmn : ((m : Nat) : Int) < (i : Int) := by omega
      have hmn2 : m < i := by omega
      have hi0 : (0 : Int) < (i : Int) := by omega
      have hii : decide (((i : Nat) : Int) < (i : Int)) = false := by simp
      have HSZ := Lib.hid (show N < wr.heap.size from by have h := hb2.size; have := HNN.out; omega)
      have HB0 := Lib.hid (show Below N w wr from by have h1 := HBB.out.1; have h2 := HNN.out; rw [← h2.1]; exact h1.trans (hb2.mono (by have := HBB.out.2; omega)))
      have CY := Lib.hid (fun W (h : Cs wB W r OUT) => (show Calls Tryd.prog 91 #[.pointer (some ⟨r, 0, none⟩)] W (B2.BytesPost W OUT) from by obtain ⟨g, hg, hR⟩ := h.2.2; exact B2.fbytes_any r g 0 OUT W hR (by omega)))
      clear hlen hb2 hs1 hs2 e1 e2 hT2 hm hs0
      go_wp2_with fail
      have HH := Lib.hid (HCi.out.below (drew_below wr))
      have q' := keepG q (drew_below wr)
      have HR := Lib.hid (((drew_below wr).block _ HSZ.out).trans HR9a.out)
      have HSD := Lib.hid (show N < wr.drew.heap.size from HSZ.out)
      have HBD := Lib.hid (HB0.out.trans ((drew_below wr).mono (by have := HSZ.out; omega)))
      clear q HCi HR9a HSZ HB0
      have hw1 : RowKit.wrap64 ((i : Int) - 1) = (m : Int) := by rw [hmi]; unfold RowKit.wrap64; omega
      have hw2 : IntKind.i64.wrap ((i : Int) - 1) = (m : Int) := by rw [i64_is]; exact hw1
      have hw5 : IntKind.i64.wrap (m : Int) = (m : Int) := by rw [i64_is]; unfold RowKit.wrap64; omega
      go_region_held3 (fun w' => w'.cell? ⟨b, 0, none⟩ = some (.int .i64 a0.t) ∧ w'.cell? ⟨b, m * 2, none⟩ = some (.int .i64 T)) ((first | exact q' | assumption | (refine keep2 (by have := HBN.out; omega) ?_; assumption)))
        ((go_at_call 91; refine (CY.out _ HH.out).mono ?_; rintro e w9 ⟨bs, k, hk, hP, b9, cap9, g, rfl, hrow, hg, hb⟩; have hcs := keepG (by assumption) hb; have HR9 := Lib.hid ((hb.block _ (Array.getElem?_eq_some_iff.1 HR.out).1).trans HR.out); obtain ⟨r0, f0, r1, f1, r2, f2, r3, f3⟩ := stF (v0 := .int .i64 a0.t) (v1 := .int .i64 T) (v2 := .int .i64 ((i : Nat) : Int)) HR9.out))
      obtain ⟨hE, hO⟩ := stE HR9.out (.int .i64 a0.t) (.int .i64 T) (.int .i64 ((i : Nat) : Int)) (.slice b9 bs.length cap9)
      have HE := Lib.hid hE
      have HO := Lib.hid hO
      have HX := Lib.hid (show k < 8 ∧ B2.Bt.Packs k bs OUT from ⟨hk, hP⟩)
      have HG := Lib.hid (And.intro hrow hg)
      have HB9 := Lib.hid hb
      clear hE hO hk hP hrow hg hb r0 f0 r1 f1 r2 f2 r3 f3 hw1 hw2 hw5 hmi hmn hmn2
      go_wp2_with fail
      refine bodyPost_ret (v := .agg (chV a0.t T i (.slice b9 bs.length cap9))) ?_ ?_ ?_
      · exact results_cell_row (fn := Tryd.f30) (p := 2) (ty := 73) rfl _ _ N 73 _ (0, 0) _ rfl HE.out Tryd.underlying73 rfl (by kernel_rfl)
      · rfl
      · have hlt : N < wr.drew.heap.size := HSD.out
        have hwN := HNN.out.1
        refine ⟨bs, k, b9, cap9, g, HX.out.1, HX.out.2, rfl, ?_, ?_, ?_⟩
        · rcases HG.out.2 with h | h
          · subst h
            rcases HG.out.1.value with ⟨h1, h2⟩ | ⟨cap', cur, h1, _⟩
            · rw [h1, h2]; exact Row.nil _ _
            · cases h1
          · exact HG.out.1.only HO.out (by simp; omega)
        · rcases HG.out.2 with h | h
          · exact .inl h
          · exact .inr (by omega)
        · rw [hwN]
          have hB0 := HBD.out
          exact (hB0.trans (HB9.out.mono (by omega))).trans (HO.out.below (by have := HB9.out.size; omega) (by simp) |>.mono (Nat.le_refl _))
end Go.Proofs.YtdlifcpdlbmijaaDoor
namespace Go.Proofs.YtdlifcpdlbmijaaDoor
set_option linter.unusedVariables false
set_option linter.unusedSimpArgs false
open Go.RowKit Go.PlainAid Go.Shelf
open B2 (Only Wr PutPost Bys Row cellsOf Rf RfPost)
open Gm (St Smp)
set_option maxHeartbeats 8000000 in
set_option maxRecDepth 100000 in
theorem rch_any (r b n cap : Nat) (l : List Smp) (hn : l.length = n) (h0 : 0 < n) (hn9 : n ≤ 1000) (hl : ∀ a ∈ l, Gm.OkS a) (q p0 p1 p2 c c0 c1 c2 o9 oa oc od : Nat) (w : World) (H : w.cell? ⟨r, 0, none⟩ = some (.slice (some ⟨b, 0, none⟩) n cap)) (HS : Sam w b l) (HT : TabB w q p0 p1 p2 c c0 c1 c2 o9 oa oc od) :
    Calls Tryd.prog 14 #[pt r] w (ChPost w (l.getD 0 ⟨0, 0⟩).t (l.getD (n - 1) ⟨0, 0⟩).t n (Gm.run l).out) := by
  have hA := (Below.refl w.heap.size w).alloc (Nat.le_refl _) (.cells #[.int .i64 0, .int .i64 0, .int .i64 0, .slice none 0 0] 73)
  have HA := Lib.hid hA
  have CR := Lib.hid (fun W (hS : Sam W b l) (hT : TabB W q p0 p1 p2 c c0 c1 c2 o9 oa oc od) => rchunk_any b n cap l hn h0 hn9 hl q p0 p1 p2 c c0 c1 c2 o9 oa oc od W hS hT)
  have HSS := Lib.hid (HS.below hA)
  have HTT := Lib.hid (HT.below hA)
  have hc := cell_below H hA
  have hr := heap_alloc_new w (.cells #[.int .i64 0, .int .i64 0, .int .i64 0, .slice none 0 0] 73)
  have HR := Lib.hid hr
  have HZ := Lib.hid (show (w.alloc (.cells #[.int .i64 0, .int .i64 0, .int .i64 0, .slice none 0 0] 73)).heap.size = w.heap.size + 1 by simp)
  have hz1 : ((n : Int) == 0) = false := by simp; omega
  have hz2 : ¬ (n : Int) = 0 := by omega
  obtain ⟨F, hF⟩ : ∃ F, (l.getD 0 ⟨0, 0⟩).t = F := ⟨_, rfl⟩
  obtain ⟨T, hT⟩ : ∃ T, (l.getD (n - 1) ⟨0, 0⟩).t = T := ⟨_, rfl⟩
  obtain ⟨B, hB⟩ : ∃ B, (Gm.run l).out = B := ⟨_, rfl⟩
  rw [hF, hT, hB] at CR
  rw [hF, hT, hB]
  clear H HS HT hr hA hF hT hB hn hl
  unfold pt at *
  go_enter Tryd.func14, Tryd.ntmps14
  go_upto_region 1 with (fail)
  generalize w.alloc (.cells #[.int .i64 0, .int .i64 0, .int .i64 0, .slice none 0 0] 73) = W1 at *
  obtain ⟨N, hN⟩ : ∃ N, w.heap.size = N := ⟨_, rfl⟩
  have HNN := Lib.hid hN
  rw [hN] at HR HZ ⊢
  clear hN
  go_wp2_with fail
  go_at_call 30
  refine (CR.out W1 HSS.out HTT.out).mono ?_
  rintro e w9 ⟨bs, k, b9, cap9, g, hk, hP, rfl, hrow, hg, hb⟩
  have HR9 := Lib.hid ((hb.block _ (by have := HZ.out; omega)).trans HR.out)
  obtain ⟨r0, f0, r1, f1, r2, f2, r3, f3⟩ := stF (v0 := .int .i64 F) (v1 := .int .i64 T) (v2 := .int .i64 ((n : Nat) : Int)) HR9.out
  obtain ⟨hE, hO⟩ := stE HR9.out (.int .i64 F) (.int .i64 T) (.int .i64 ((n : Nat) : Int)) (.slice b9 bs.length cap9)
  have HE := Lib.hid hE
  have HO := Lib.hid hO
  have HX := Lib.hid (show k < 8 ∧ B2.Bt.Packs k bs B from ⟨hk, hP⟩)
  have HG := Lib.hid (And.intro hrow hg)
  have HB9 := Lib.hid hb
  clear hE hO hk hP hrow hg hb hc
  unfold chV
  go_wp2_with fail
  refine bodyPost_ret (v := .agg (chV F T n (.slice b9 bs.length cap9))) ?_ ?_ ?_
  · exact results_cell_row (fn := Tryd.f14) (p := 2) (ty := 73) rfl _ _ N 73 _ (0, 0) _ rfl HE.out Tryd.underlying73 rfl (by kernel_rfl)
  · rfl
  · have hwN := HNN.out
    have hz := HZ.out
    refine ⟨bs, k, b9, cap9, g, HX.out.1, HX.out.2, rfl, ?_, ?_, ?_⟩
    · rcases HG.out.2 with h | h
      · subst h
        rcases HG.out.1.value with ⟨h1, h2⟩ | ⟨cap', cur, h1, _⟩
        · rw [h1, h2]; exact Row.nil _ _
        · cases h1
      · exact HG.out.1.only HO.out (by simp; omega)
    · rcases HG.out.2 with h | h
      · exact .inl h
      · exact .inr (by omega)
    · have hA := HA.out
      rw [hwN] at hA ⊢
      exact (hA.trans (HB9.out.mono (by omega))).trans (HO.out.below (by have := HB9.out.size; omega) (by simp) |>.mono (Nat.le_refl _))
set_option maxHeartbeats 8000000 in
set_option maxRecDepth 100000 in
theorem rch_nil (r : Nat) (w : World) (H : w.cell? ⟨r, 0, none⟩ = some (.slice none 0 0)) :
    Calls Tryd.prog 14 #[pt r] w fun e w' => e = .returned (.agg (chV 0 0 0 (.slice none 0 0))) ∧ Below w.heap.size w w' := by
  have hA := (Below.refl w.heap.size w).alloc (Nat.le_refl _) (.cells #[.int .i64 0, .int .i64 0, .int .i64 0, .slice none 0 0] 73)
  have HA := Lib.hid hA
  have hc := cell_below H hA
  have hr := heap_alloc_new w (.cells #[.int .i64 0, .int .i64 0, .int .i64 0, .slice none 0 0] 73)
  have HR := Lib.hid hr
  have HZ := Lib.hid (show (w.alloc (.cells #[.int .i64 0, .int .i64 0, .int .i64 0, .slice none 0 0] 73)).heap.size = w.heap.size + 1 by simp)
  clear H hr hA
  unfold pt at *
  go_enter Tryd.func14, Tryd.ntmps14
  go_upto_region 1 with (fail)
  generalize w.alloc (.cells #[.int .i64 0, .int .i64 0, .int .i64 0, .slice none 0 0] 73) = W1 at *
  obtain ⟨N, hN⟩ : ∃ N, w.heap.size = N := ⟨_, rfl⟩
  have HNN := Lib.hid hN
  rw [hN] at HR HZ ⊢
  clear hN
  obtain ⟨r0, f0, r1, f1, r2, f2, r3, f3⟩ := stF (v0 := .int .i64 0) (v1 := .int .i64 0) (v2 := .int .i64 0) HR.out
  obtain ⟨hE, hO⟩ := stE HR.out (.int .i64 0) (.int .i64 0) (.int .i64 0) (.slice none 0 0)
  have HE := Lib.hid hE
  have HO := Lib.hid hO
  clear hE hO
  go_wp2_with fail
  refine bodyPost_ret (v := .agg (chV 0 0 0 (.slice none 0 0))) ?_ ?_ ?_
  · exact results_cell_row (fn := Tryd.f14) (p := 2) (ty := 73) rfl _ _ N 73 _ (0, 0) _ rfl HE.out Tryd.underlying73 rfl (by kernel_rfl)
  · rfl
  · refine ⟨rfl, ?_⟩
    have hA := HA.out
    have hwN := HNN.out
    rw [hwN] at hA ⊢
    exact hA.trans (HO.out.below (by have := HZ.out; omega) (by simp) |>.mono (Nat.le_refl _))
end Go.Proofs.YtdlifcpdlbmijaaDoor
namespace Go.Proofs.YtdlifcpdlbmijaaDoor
set_option linter.unusedVariables false
set_option linter.unusedSimpArgs false
open Go.RowKit Go.PlainAid Go.Shelf
open B2 (Only Wr PutPost Bys Row cellsOf Rf RfPost)
open Gm (St Smp)
/-- a chunk in memory -/
def ChAt (w : World) (s : Nat) (f t : Int) (n : Nat) (d : Value) : Prop := w.cell? ⟨s, 0, none⟩ = some (.int .i64 f) ∧ w.cell? ⟨s, 1, none⟩ = some (.int .i64 t) ∧ w.cell? ⟨s, 2, none⟩ = some (.int .i64 ((n : Nat) : Int)) ∧ w.cell? ⟨s, 3, none⟩ = some d
theorem ChAt.below {w w' : World} {s n : Nat} {f t : Int} {d : Value} (h : ChAt w s f t n d) (hb : Below w.heap.size w w') : ChAt w' s f t n d := ⟨cell_below h.1 hb, cell_below h.2.1 hb, cell_below h.2.2.1 hb, cell_below h.2.2.2 hb⟩
set_option maxHeartbeats 8000000 in
set_option maxRecDepth 100000 in
theorem samech_one (s1 s2 m c1 c2 n : Nat) (f t : Int) (a1 a2 : Option Addr) (w : World) (H1 : ChAt w s1 f t n (.slice a1 m c1)) (H2 : ChAt w s2 f t n (.slice a2 m c2))
    (CB : ∀ W, Below w.heap.size w W → Calls Tryd.prog 29 #[.slice a1 m c1, .slice a2 m c2] W fun e w' => e = .returned (.bool true) ∧ Below W.heap.size W w') :
    Calls Tryd.prog 13 #[.slice (some ⟨s1, 0, none⟩) 1 1, .slice (some ⟨s2, 0, none⟩) 1 1] w fun e w' => e = .returned (.bool true) ∧ Below w.heap.size w w' := by
  have CC := Lib.hid CB
  have HH1 := Lib.hid H1
  have HH2 := Lib.hid H2
  clear CB H1 H2
  go_enter Tryd.func13, Tryd.ntmps13
  go_wp2_with fail
  refine wp_loop_rounds 2 ?_
  rw [rounds_succ]
  go_wp2_with fail
  have HB := Lib.hid (drew_below w)
  have q1 := HH1.out.below HB.out
  have q2 := HH2.out.below HB.out
  have q := And.intro q1 q2
  unfold ChAt at q
  clear q1 q2
  go_region_held3 (fun w' => (w'.cell? ⟨s1, 0, none⟩ = some (.int .i64 f) ∧ w'.cell? ⟨s1, 1, none⟩ = some (.int .i64 t) ∧ w'.cell? ⟨s1, 2, none⟩ = some (.int .i64 ((n : Nat) : Int)) ∧ w'.cell? ⟨s1, 3, none⟩ = some (.slice a1 m c1)) ∧ (w'.cell? ⟨s2, 0, none⟩ = some (.int .i64 f) ∧ w'.cell? ⟨s2, 1, none⟩ = some (.int .i64 t) ∧ w'.cell? ⟨s2, 2, none⟩ = some (.int .i64 ((n : Nat) : Int)) ∧ w'.cell? ⟨s2, 3, none⟩ = some (.slice a2 m c2))) ((first | exact q | assumption))
    ((go_at_call 29; refine (CC.out _ HB.out).mono ?_; rintro e w9 ⟨rfl, hb⟩; have hq := And.intro (ChAt.below q.1 hb) (ChAt.below q.2 hb); unfold ChAt at hq; have HB9 := Lib.hid (HB.out.trans (hb.mono HB.out.size)); clear hb))
  clear hq
  go_wp2_with fail
  rw [rounds_succ]
  go_wp2_with fail
  go_ret
  exact ⟨rfl, HB9.out⟩
end Go.Proofs.YtdlifcpdlbmijaaDoor
namespace Go.Proofs.YtdlifcpdlbmijaaDoor
set_option linter.unusedVariables false
set_option linter.unusedSimpArgs false
open Go.RowKit Go.PlainAid Go.Shelf
open B2 (Only Wr PutPost Bys Row cellsOf Rf RfPost)
open Gm (St Smp)
def samC (l : List Smp) : List Value := l.flatMap fun a => [.int .i64 a.t, .int .u64 ((a.v : Nat) : Int)]
theorem samC_len (l : List Smp) : (samC l).length = l.length * 2 := by
  induction l with
  | nil => rfl
  | cons a l ih => simp only [samC, List.flatMap_cons, List.length_append, List.length_cons, List.length_nil] at ih ⊢; omega
theorem samC_get (l : List Smp) (i : Nat) (hi : i < l.length) : (samC l)[i * 2]? = some (.int .i64 l[i].t) ∧ (samC l)[i * 2 + 1]? = some (.int .u64 ((l[i].v : Nat) : Int)) := by
  induction l generalizing i with
  | nil => exact absurd hi (by simp)
  | cons a l ih =>
    cases i with
    | zero => exact ⟨rfl, rfl⟩
    | succ i =>
      have h := ih i (by simpa using hi)
      have e1 : (i + 1) * 2 = i * 2 + 2 := by omega
      have e2 : (i + 1) * 2 + 1 = i * 2 + 1 + 2 := by omega
      rw [e2, e1]
      exact h
/-- the document's appender; g: its list's block -/
structure Ra (w : World) (r g : Nat) (l : List Smp) : Prop where
  row : ∃ v, w.heap[r]? = some (.cells #[v] 28 (0, 0)) ∧ w.ownsRow 0 70 2 v l.length (samC l) ∧ ((l = [] ∧ v = .slice none 0 0) ∨ (l ≠ [] ∧ v.ownBlock = some g ∧ g ≠ r)) ∧ g < w.heap.size
theorem Ra.only {w w' : World} {r g : Nat} {l : List Smp} (h : Ra w r g l) {S : List Nat} (ho : Only S w w') (hr : r ∉ S) (hg : g ∉ S) : Ra w' r g l := by
  obtain ⟨v, h1, h2, h3, h4⟩ := h.row
  refine ⟨v, (ho.block r (Array.getElem?_eq_some_iff.1 h1).1 hr).trans h1, ⟨h2.1, ?_⟩, h3, Nat.lt_of_lt_of_le h4 ho.size⟩
  rcases h2.2 with h5 | ⟨g2, cap, cur, hv, hg2, hh, k⟩
  · exact .inl h5
  · refine .inr ⟨g2, cap, cur, hv, hg2, ?_, k⟩
    rcases h3 with ⟨_, h6⟩ | ⟨_, h6, _⟩
    · rw [hv] at h6; cases h6
    · rw [hv] at h6
      simp only [Value.ownBlock, Option.some.injEq] at h6
      subst h6
      exact (ho.block g2 (Array.getElem?_eq_some_iff.1 hh).1 hg).trans hh
theorem Ra.below {w w' : World} {r g : Nat} {l : List Smp} (h : Ra w r g l) (hb : Below w.heap.size w w') : Ra w' r g l := h.only (Only.of_below hb []) (by simp) (by simp)
theorem Ra.parts {w : World} {r g : Nat} {l : List Smp} (h : Ra w r g l) : (l = [] ∧ w.cell? ⟨r, 0, none⟩ = some (.slice none 0 0)) ∨ ∃ cap, l ≠ [] ∧ w.cell? ⟨r, 0, none⟩ = some (.slice (some ⟨g, 0, none⟩) l.length cap) ∧ Sam w g l := by
  obtain ⟨v, h1, h2, h3, h4⟩ := h.row
  have hc := (cell_of_row w r 0 _ _ _ h1).trans (show (#[v] : Array Value)[0]? = some v from rfl)
  rcases h3 with ⟨h5, h6⟩ | ⟨h5, h6, _⟩
  · subst h6
    exact .inl ⟨h5, hc⟩
  · rcases h2.2 with ⟨hv, _⟩ | ⟨g2, cap, cur, hv, hg, hh, hc2, hm, hs, ht⟩
    · rw [hv] at h6; cases h6
    · subst hv
      simp only [Value.ownBlock, Option.some.injEq] at h6
      subst h6
      refine .inr ⟨cap, h5, hc, fun i hi => ?_⟩
      have hk := samC_get l i hi
      rw [← ht] at hk
      rw [List.getElem?_take, if_pos (by omega), List.getElem?_take, if_pos (by omega)] at hk
      refine ⟨?_, ?_⟩
      · rw [cell_of_row _ _ _ _ _ _ hh, ← Array.getElem?_toList]; exact hk.1
      · rw [cell_of_row _ _ _ _ _ _ hh, ← Array.getElem?_toList]; exact hk.2
/-- Chunk, of any such appender -/
theorem rchunk_ra (r b : Nat) (l : List Smp) (hn9 : l.length ≤ 1000) (hl : ∀ a ∈ l, Gm.OkS a) (q p0 p1 p2 c c0 c1 c2 o9 oa oc od : Nat) (w : World) (H : Ra w r b l) (HT : TabB w q p0 p1 p2 c c0 c1 c2 o9 oa oc od) :
    Calls Tryd.prog 14 #[pt r] w (ChPost w (Gm.run l).frm (Gm.run l).last.t (Gm.run l).n (Gm.run l).out) := by
  rcases H.parts with ⟨rfl, hc⟩ | ⟨cap, hne, hc, hS⟩
  · refine (rch_nil r w hc).mono ?_
    rintro e w' ⟨rfl, hb⟩
    exact ⟨[], 0, none, 0, 0, by decide, B2.Bt.packs_nil, rfl, Row.nil _ _, .inl rfl, hb⟩
  · have h0 : l.length ≠ 0 := fun h => hne (List.eq_nil_of_length_eq_zero h)
    have e1 := run_frm l (l.length - 1) (by omega)
    have e2 := run_last l (l.length - 1) (by omega)
    rw [show l.length - 1 + 1 = l.length by omega, List.take_length] at e1 e2
    have h := rch_any r b l.length cap l rfl (by omega) hn9 hl q p0 p1 p2 c c0 c1 c2 o9 oa oc od w hc hS HT
    rw [getD_is l 0 (by omega), getD_is l (l.length - 1) (by omega)] at h
    rw [e1, e2, Gm.run_n]
    exact h
end Go.Proofs.YtdlifcpdlbmijaaDoor
namespace Go.Proofs.YtdlifcpdlbmijaaDoor
set_option linter.unusedVariables false
set_option linter.unusedSimpArgs false
open Go.RowKit Go.PlainAid Go.Shelf
open B2 (Only Wr PutPost Bys Row cellsOf Rf RfPost)
open Gm (St Smp)
set_option maxHeartbeats 4000000 in
set_option maxRecDepth 100000 in
theorem rap_range (r : Nat) (x : Smp) (w : World) (h : ¬ (-9007199254740992 ≤ x.t ∧ x.t ≤ 9007199254740992)) :
    Calls Tryd.prog 10 #[pt r, smV x] w fun e w' => e = .returned (.int .u16 2) ∧ Below w.heap.size w w' := by
  have hA := Lib.hid ((Below.refl w.heap.size w).alloc (Nat.le_refl _) (.cells #[.int .i64 x.t, .int .u64 ((x.v : Nat) : Int)] 70))
  have hbx := heap_alloc_new w (.cells #[.int .i64 x.t, .int .u64 ((x.v : Nat) : Int)] 70)
  have b0 : (w.alloc (.cells #[.int .i64 x.t, .int .u64 ((x.v : Nat) : Int)] 70)).cell? ⟨w.heap.size, 0, none⟩ = some (.int .i64 x.t) := (cell_of_row _ _ 0 _ _ _ hbx).trans rfl
  obtain ⟨t, ht⟩ : ∃ t, x.t = t := ⟨_, rfl⟩
  unfold smV pt
  rw [ht] at h hA b0 ⊢
  clear hbx ht
  by_cases h1 : t < -9007199254740992
  · have d1 : decide (t < -9007199254740992) = true := decide_eq_true h1
    go_enter Tryd.func10, Tryd.ntmps10
    go_wp2
    go_ret
    exact ⟨rfl, hA.out⟩
  · have d1 : decide (t < -9007199254740992) = false := decide_eq_false h1
    have h2 : 9007199254740992 < t := by omega
    have d2 : decide (9007199254740992 < t) = true := decide_eq_true h2
    go_enter Tryd.func10, Tryd.ntmps10
    go_wp2
    go_ret
    exact ⟨rfl, hA.out⟩
set_option maxHeartbeats 4000000 in
set_option maxRecDepth 100000 in
theorem rap_old (r b : Nat) (l : List Smp) (x : Smp) (w : World) (H : Ra w r b l) (hr : -9007199254740992 ≤ x.t ∧ x.t ≤ 9007199254740992) (h0 : 0 < l.length) (hn : l.length ≤ 1000) (hle : x.t ≤ (l.getD (l.length - 1) ⟨0, 0⟩).t) :
    Calls Tryd.prog 10 #[pt r, smV x] w fun e w' => e = .returned (.int .u16 100) ∧ Below w.heap.size w w' := by
  have hA := (Below.refl w.heap.size w).alloc (Nat.le_refl _) (.cells #[.int .i64 x.t, .int .u64 ((x.v : Nat) : Int)] 70)
  have HA := Lib.hid hA
  have hbx := heap_alloc_new w (.cells #[.int .i64 x.t, .int .u64 ((x.v : Nat) : Int)] 70)
  have b0 : (w.alloc (.cells #[.int .i64 x.t, .int .u64 ((x.v : Nat) : Int)] 70)).cell? ⟨w.heap.size, 0, none⟩ = some (.int .i64 x.t) := (cell_of_row _ _ 0 _ _ _ hbx).trans rfl
  rcases (H.below hA).parts with ⟨rfl, _⟩ | ⟨cap, hne, hc, hS⟩
  · exact absurd h0 (by simp)
  obtain ⟨m, hm⟩ : ∃ m, l.length - 1 = m := ⟨_, rfl⟩
  rw [hm] at hle
  have hs := (hS m (by omega)).1
  rw [← getD_is l m (by omega)] at hs
  obtain ⟨T, hT⟩ : ∃ T, (l.getD m ⟨0, 0⟩).t = T := ⟨_, rfl⟩
  rw [hT] at hs hle
  obtain ⟨n, hnn⟩ : ∃ n, l.length = n := ⟨_, rfl⟩
  rw [hnn] at hc hm h0 hn
  obtain ⟨t, ht⟩ : ∃ t, x.t = t := ⟨_, rfl⟩
  obtain ⟨v, hv⟩ : ∃ v, x.v = v := ⟨_, rfl⟩
  unfold smV pt
  rw [ht, hv] at HA b0 hbx hc hs ⊢
  rw [ht] at hr hle
  have d1 : decide (t < -9007199254740992) = false := decide_eq_false (by omega)
  have d2 : decide (9007199254740992 < t) = false := decide_eq_false (by omega)
  have d3 : ¬ t < -9007199254740992 := by omega
  have d4 : ¬ 9007199254740992 < t := by omega
  have d5 : decide (0 < n) = true := decide_eq_true h0
  have d6 : decide (t ≤ T) = true := decide_eq_true hle
  have hmi : (n : Int) - 1 = (m : Int) := by omega
  have hw5 : IntKind.i64.wrap (m : Int) = (m : Int) := by rw [i64_is]; unfold RowKit.wrap64; omega
  have hmn : (m : Int) < (n : Int) := by omega
  have hmn2 : m < n := by omega
  have hn0 : (0 : Int) < (n : Int) := by omega
  clear hbx ht hv hT hnn hS hne H hA hm hr
  go_enter Tryd.func10, Tryd.ntmps10
  go_upto_region 1 with (fail)
  generalize w.alloc (.cells #[.int .i64 t, .int .u64 ((v : Nat) : Int)] 70) = W1 at *
  go_wp2_with fail
  go_quiet (fail)
  go_wp2_with fail
  go_ret
  exact ⟨rfl, HA.out.trans ((drewn_below W1 _).mono HA.out.size)⟩
set_option maxHeartbeats 4000000 in
set_option maxRecDepth 100000 in
theorem rap_full (r b : Nat) (l : List Smp) (x : Smp) (w : World) (H : Ra w r b l) (hr : -9007199254740992 ≤ x.t ∧ x.t ≤ 9007199254740992) (h0 : l.length = 120) (hle : ¬ x.t ≤ (l.getD (l.length - 1) ⟨0, 0⟩).t) :
    Calls Tryd.prog 10 #[pt r, smV x] w fun e w' => e = .returned (.int .u16 102) ∧ Below w.heap.size w w' := by
  have hA := (Below.refl w.heap.size w).alloc (Nat.le_refl _) (.cells #[.int .i64 x.t, .int .u64 ((x.v : Nat) : Int)] 70)
  have HA := Lib.hid hA
  have hbx := heap_alloc_new w (.cells #[.int .i64 x.t, .int .u64 ((x.v : Nat) : Int)] 70)
  have b0 : (w.alloc (.cells #[.int .i64 x.t, .int .u64 ((x.v : Nat) : Int)] 70)).cell? ⟨w.heap.size, 0, none⟩ = some (.int .i64 x.t) := (cell_of_row _ _ 0 _ _ _ hbx).trans rfl
  rcases (H.below hA).parts with ⟨rfl, _⟩ | ⟨cap, hne, hc, hS⟩
  · exact absurd h0 (by simp)
  obtain ⟨m, hm⟩ : ∃ m, l.length - 1 = m := ⟨_, rfl⟩
  rw [hm] at hle
  have hs := (hS m (by omega)).1
  rw [← getD_is l m (by omega)] at hs
  obtain ⟨T, hT⟩ : ∃ T, (l.getD m ⟨0, 0⟩).t = T := ⟨_, rfl⟩
  rw [hT] at hs hle
  obtain ⟨n, hnn⟩ : ∃ n, l.length = n := ⟨_, rfl⟩
  rw [hnn] at hc hm h0
  obtain ⟨t, ht⟩ : ∃ t, x.t = t := ⟨_, rfl⟩
  obtain ⟨v, hv⟩ : ∃ v, x.v = v := ⟨_, rfl⟩
  unfold smV pt
  rw [ht, hv] at HA b0 hbx hc hs ⊢
  rw [ht] at hr hle
  have d1 : decide (t < -9007199254740992) = false := decide_eq_false (by omega)
  have d2 : decide (9007199254740992 < t) = false := decide_eq_false (by omega)
  have d3 : ¬ t < -9007199254740992 := by omega
  have d4 : ¬ 9007199254740992 < t := by omega
  have d5 : decide (0 < n) = true := decide_eq_true (by omega)
  have d7 : decide (120 ≤ n) = true := decide_eq_true (by omega)
  have d8 : 120 ≤ n := by omega
  have d6 : decide (t ≤ T) = false := decide_eq_false hle
  have hmi : (n : Int) - 1 = (m : Int) := by omega
  have hw5 : IntKind.i64.wrap (m : Int) = (m : Int) := by rw [i64_is]; unfold RowKit.wrap64; omega
  have hmn : (m : Int) < (n : Int) := by omega
  have hmn2 : m < n := by omega
  have hn0 : (0 : Int) < (n : Int) := by omega
  clear hbx ht hv hT hnn hS hne H hA hm hr h0
  go_enter Tryd.func10, Tryd.ntmps10
  go_upto_region 1 with (fail)
  generalize w.alloc (.cells #[.int .i64 t, .int .u64 ((v : Nat) : Int)] 70) = W1 at *
  go_wp2_with fail
  go_quiet (fail)
  have hc := cell_below hc (drewn_below W1 nq)
  have HB := Lib.hid (HA.out.trans ((drewn_below W1 nq).mono HA.out.size))
  generalize W1.drewN nq = W2 at hc HB ⊢
  go_wp2_with fail
  go_ret
  exact ⟨rfl, HB.out⟩
end Go.Proofs.YtdlifcpdlbmijaaDoor
namespace Go.Proofs.YtdlifcpdlbmijaaDoor
set_option linter.unusedVariables false
set_option linter.unusedSimpArgs false
open Go.RowKit Go.PlainAid Go.Shelf
open B2 (Only Wr PutPost Bys Row cellsOf Rf RfPost)
open Gm (St Smp)
theorem own_below {w w' : World} {v : Value} {n : Nat} {xs : List Value} (h : w.ownsRow 0 70 2 v n xs) (hb : Below w.heap.size w w') : w'.ownsRow 0 70 2 v n xs := by
  refine ⟨h.1, ?_⟩
  rcases h.2 with h4 | ⟨g, cap, cur, hv, hg, hh, k⟩
  · exact .inl h4
  · exact .inr ⟨g, cap, cur, hv, hg, (hb.block _ (Array.getElem?_eq_some_iff.1 hh).1).trans hh, k⟩
def RaPost (w : World) (r b : Nat) (l : List Smp) (w' : World) : Prop := ∃ g, Ra w' r g l ∧ (g = b ∨ w.heap.size ≤ g) ∧ Only [r, b] w w'
theorem info70 : (Tryd.prog.info? 70).map (fun i => (i.zero, i.size, i.bytes)) = some (some (.agg #[.int .i64 0, .int .u64 0]), 2, 16) := by kernel_rfl
theorem Ra.snoc {w W w1 : World} {r b g n cap : Nat} {l : List Smp} {t : Int} {v : Nat} {u : Value} (hn : l.length = n) (H : Ra w r b l) (hu : w.heap[r]? = some (.cells #[u] 28 (0, 0))) (hW : Below w.heap.size w W) (hown : w1.ownsRow 0 70 2 (.slice (some ⟨g, 0, none⟩) (n + 1) cap) (n + 1) (samC l ++ [.int .i64 t, .int .u64 ((v : Nat) : Int)])) (hgr : W.grownBy w1 u.ownBlock) (hg : u.ownBlock = some g ∨ g = W.heap.size) (hgl : g < w1.heap.size) :
    (w1.cell? ⟨r, 0, none⟩ = some u ∧ w1.frozen? ⟨r, 0, none⟩ = false) ∧ RaPost w r b (l ++ [⟨t, v⟩]) (w1.setCell ⟨r, 0, none⟩ (.slice (some ⟨g, 0, none⟩) (n + 1) cap)) := by
  subst hn
  obtain ⟨u', h1, h2, h3, h4⟩ := H.row
  rw [hu] at h1
  cases h1
  have hlr : r < w.heap.size := (Array.getElem?_eq_some_iff.1 hu).1
  have hs := hW.size
  have hWr : W.heap[r]? = some (.cells #[u] 28 (0, 0)) := (hW.block r hlr).trans hu
  have hne : some r ≠ u.ownBlock := by
    rcases h3 with ⟨_, h5⟩ | ⟨_, h5, h6⟩
    · rw [h5]; simp [Value.ownBlock]
    · rw [h5]; simp; omega
  have hr1 : w1.heap[r]? = some (.cells #[u] 28 (0, 0)) := (hgr.block r (by omega) hne).trans hWr
  have hgr' : g ≠ r := by
    rcases hg with h | h
    · rw [h] at hne; intro e; exact hne (by rw [e])
    · omega
  have hset : Only [r] w1 (w1.setCell ⟨r, 0, none⟩ (.slice (some ⟨g, 0, none⟩) (l.length + 1) cap)) := (Only.refl [r] _).setCell (p := ⟨r, 0, none⟩) (.inl (by simp)) _
  refine ⟨⟨(cell_of_row _ _ 0 _ _ _ hr1).trans rfl, frozen_of_row _ _ _ _ _ hr1⟩, g, ⟨_, (heap_setCell_same _ _ _ _ _ _ hr1).trans rfl, ⟨?_, ?_⟩, .inr ⟨by simp, rfl, hgr'⟩, Nat.lt_of_lt_of_le hgl hset.size⟩, ?_, ?_⟩
  · rw [samC_len]
  · rcases hown.2 with ⟨h5, _⟩ | ⟨g2, cap2, cur, hv, hg2, hh, k1, k2, k3, k4⟩
    · cases h5
    · cases hv
      refine .inr ⟨g, cap, cur, by simp, Nat.zero_le _, (hset.block g hgl (by simpa using hgr')).trans hh, by simpa using k1, k2, k3, ?_⟩
      rw [List.length_append, List.length_singleton, k4]
      simp [samC]
  · rcases h3 with ⟨_, h5⟩ | ⟨_, h5, h6⟩
    · rw [h5] at hg
      rcases hg with h | h
      · cases h
      · exact .inr (by omega)
    · rw [h5] at hg
      rcases hg with h | h
      · cases h; exact .inl rfl
      · exact .inr (by omega)
  · refine (((Only.of_below hW [r, b]).grown hgr ?_)).setCell (p := ⟨r, 0, none⟩) (.inl (by simp)) _
    intro k hk
    rcases h3 with ⟨_, h5⟩ | ⟨_, h5, h6⟩
    · rw [h5] at hk; cases hk
    · rw [h5] at hk; cases hk; exact .inl (by simp)
set_option maxHeartbeats 4000000 in
set_option maxRecDepth 100000 in
theorem rap_go (r b : Nat) (l : List Smp) (x : Smp) (w : World) (H : Ra w r b l) (hr : -9007199254740992 ≤ x.t ∧ x.t ≤ 9007199254740992) (h0 : 0 < l.length) (hn : l.length < 120) (hle : ¬ x.t ≤ (l.getD (l.length - 1) ⟨0, 0⟩).t) :
    Calls Tryd.prog 10 #[pt r, smV x] w fun e w' => e = .returned (.int .u16 0) ∧ RaPost w r b (l ++ [x]) w' := by
  have hA := (Below.refl w.heap.size w).alloc (Nat.le_refl _) (.cells #[.int .i64 x.t, .int .u64 ((x.v : Nat) : Int)] 70)
  have HA := Lib.hid hA
  have hbx := heap_alloc_new w (.cells #[.int .i64 x.t, .int .u64 ((x.v : Nat) : Int)] 70)
  have b0 : (w.alloc (.cells #[.int .i64 x.t, .int .u64 ((x.v : Nat) : Int)] 70)).cell? ⟨w.heap.size, 0, none⟩ = some (.int .i64 x.t) := (cell_of_row _ _ 0 _ _ _ hbx).trans rfl
  obtain ⟨i0, hi, hz0, hz1, hz2⟩ := info_parts info70
  have HRA := Lib.hid H
  obtain ⟨u0, hu0, ho0, _⟩ := H.row
  rcases (H.below hA).parts with ⟨rfl, _⟩ | ⟨cap, hne, hc, hS⟩
  · exact absurd h0 (by simp)
  obtain ⟨m, hm⟩ : ∃ m, l.length - 1 = m := ⟨_, rfl⟩
  rw [hm] at hle
  have hs := (hS m (by omega)).1
  rw [← getD_is l m (by omega)] at hs
  obtain ⟨T, hT⟩ : ∃ T, (l.getD m ⟨0, 0⟩).t = T := ⟨_, rfl⟩
  rw [hT] at hs hle
  have hcu : u0 = .slice (some ⟨b, 0, none⟩) l.length cap := by
    have h1 := (cell_of_row _ r 0 _ _ _ ((hA.block r (Array.getElem?_eq_some_iff.1 hu0).1).trans hu0))
    rw [hc] at h1
    simpa using h1.symm
  rw [hcu] at hu0 ho0
  have b1 : (w.alloc (.cells #[.int .i64 x.t, .int .u64 ((x.v : Nat) : Int)] 70)).cell? ⟨w.heap.size, 1, none⟩ = some (.int .u64 ((x.v : Nat) : Int)) := (cell_of_row _ _ 1 _ _ _ hbx).trans rfl
  obtain ⟨n, hnn⟩ : ∃ n, l.length = n := ⟨_, rfl⟩
  rw [hnn] at hc hm h0 hn hu0 ho0
  obtain ⟨t, ht⟩ : ∃ t, x.t = t := ⟨_, rfl⟩
  obtain ⟨v, hv⟩ : ∃ v, x.v = v := ⟨_, rfl⟩
  unfold smV pt
  have HXE := Lib.hid (show x = ⟨t, v⟩ by cases x; subst ht hv; rfl)
  rw [ht, hv] at HA b0 b1 hbx hc hs ⊢
  rw [HXE.out]
  have HNL := Lib.hid hnn
  have HU := Lib.hid (And.intro hu0 ho0)
  rw [ht] at hr hle
  have d1 : decide (t < -9007199254740992) = false := decide_eq_false (by omega)
  have d2 : decide (9007199254740992 < t) = false := decide_eq_false (by omega)
  have d3 : ¬ t < -9007199254740992 := by omega
  have d4 : ¬ 9007199254740992 < t := by omega
  have d5 : decide (0 < n) = true := decide_eq_true (by omega)
  have d7 : decide (120 ≤ n) = false := decide_eq_false (by omega)
  have d8 : ¬ 120 ≤ n := by omega
  have d6 : decide (t ≤ T) = false := decide_eq_false hle
  have hmi : (n : Int) - 1 = (m : Int) := by omega
  have hw5 : IntKind.i64.wrap (m : Int) = (m : Int) := by rw [i64_is]; unfold RowKit.wrap64; omega
  have hmn : (m : Int) < (n : Int) := by omega
  have hmn2 : m < n := by omega
  have hn0 : (0 : Int) < (n : Int) := by omega
  clear hbx ht hv hT hnn hS hne H hA hm hr h0 hu0 ho0 hcu HXE
  go_enter Tryd.func10, Tryd.ntmps10
  go_upto_region 1 with (fail)
  generalize w.alloc (.cells #[.int .i64 t, .int .u64 ((v : Nat) : Int)] 70) = W1 at *
  go_wp2_with fail
  go_quiet (fail)
  have hc := cell_below hc (drewn_below W1 nq)
  have HB := Lib.hid (HA.out.trans ((drewn_below W1 nq).mono HA.out.size))
  have p0 := cell_below b0 (drewn_below W1 nq)
  have p1 := cell_below b1 (drewn_below W1 nq)
  generalize W1.drewN nq = W2 at hc HB p0 p1 ⊢
  clear b0 b1 hs HA
  go_wp2_with fail
  have HWd : Below w.heap.size w W2.drew := HB.out.trans ((drew_below W2).mono HB.out.size)
  have HBo := Lib.hid (fun o => HWd.trans (((Below.refl W2.drew.heap.size W2.drew).alloc (Nat.le_refl _) o).mono HWd.size))
  have HOW := Lib.hid (fun o => own_below HU.out.2 (HBo.out o))
  have HSN := Lib.hid (fun o g cap1 (w1 : World) h1 h2 h3 h4 => Ra.snoc (t := t) (v := v) (W := W2.drew.alloc o) (g := g) (cap := cap1) (w1 := w1) HNL.out HRA.out HU.out.1 (HBo.out o) h1 h2 h3 h4)
  have HONE := Lib.hid (show ∀ u ∈ ([.int .i64 t, .int .u64 ((v : Nat) : Int)] : List Value), u.oneCell' = true by simp [Value.oneCell'])
  have HSRC := Lib.hid (World.news_of_block (w := W2.drew.alloc (.cells #[.int .i64 t, .int .u64 ((v : Nat) : Int)] 70)) (heap_alloc_new W2.drew (.cells #[.int .i64 t, .int .u64 ((v : Nat) : Int)] 70)))
  have HN := Lib.hid (show n + 1 ≤ maxLen ∧ (n + 1) * 16 ≤ 140737488355328 from ⟨by unfold maxLen; omega, by omega⟩)
  have hlr : r < W2.heap.size := by have := (Array.getElem?_eq_some_iff.1 HU.out.1).1; have := HB.out.size; omega
  have hlx : w.heap.size < W2.heap.size := World.block_lt_of_cell? _ _ p0
  have q0 : W2.drew.cell? ⟨r, 0, none⟩ = some (.slice (some ⟨b, 0, none⟩) n cap) := hc
  have p0' : W2.drew.cell? ⟨w.heap.size, 0, none⟩ = some (.int .i64 t) := p0
  have p1' : W2.drew.cell? ⟨w.heap.size, 1, none⟩ = some (.int .u64 ((v : Nat) : Int)) := p1
  have hAl := (Below.refl W2.drew.heap.size W2.drew).alloc (Nat.le_refl _) (.cells #[.int .i64 t, .int .u64 ((v : Nat) : Int)] 70)
  have hcA : (W2.drew.alloc (.cells #[.int .i64 t, .int .u64 ((v : Nat) : Int)] 70)).cell? ⟨r, 0, none⟩ = some (.slice (some ⟨b, 0, none⟩) n cap) := cell_below q0 hAl
  clear HWd hAl
  go_region_law (refine step_append_lies _ (by rfl) (.tmp 47) (.tmp 49) 22 (by rfl) 0 70 i0 (.agg #[.int .i64 0, .int .u64 0]) 2 16 Tryd.underlying22 hi hz0 hz1 hz2 (by rfl) (by decide) (.slice (some ⟨b, 0, none⟩) n cap) n (samC l) (by simp [Act.eval, Act.put]) (HOW.out _) ⟨W2.heap.size, 0, none⟩ 1 1 [.int .i64 t, .int .u64 ((v : Nat) : Int)] (by simp [Act.eval, Act.put]) (by rfl) HSRC.out HONE.out (by decide) HN.out.1 HN.out.2 (Nat.zero_le _) _ (by rfl) ?_; intro g cap1 w1 h1 h2 h3 h4; obtain ⟨⟨k1, k2⟩, hPR⟩ := HSN.out _ g cap1 w1 h1 h2 h3 h4; have HPR := Lib.hid hPR; clear h1 h2 h3 h4 hPR)
  all_goals
    go_wp2
    go_ret
    exact ⟨rfl, HPR.out⟩
end Go.Proofs.YtdlifcpdlbmijaaDoor
namespace Go.Proofs.YtdlifcpdlbmijaaDoor
set_option linter.unusedVariables false
set_option linter.unusedSimpArgs false
open Go.RowKit Go.PlainAid Go.Shelf
open B2 (Only Wr PutPost Bys Row cellsOf Rf RfPost)
open Gm (St Smp)
set_option maxHeartbeats 4000000 in
set_option maxRecDepth 100000 in
theorem rap_first (r b : Nat) (x : Smp) (w : World) (H : Ra w r b []) (hr : -9007199254740992 ≤ x.t ∧ x.t ≤ 9007199254740992) :
    Calls Tryd.prog 10 #[pt r, smV x] w fun e w' => e = .returned (.int .u16 0) ∧ RaPost w r b [x] w' := by
  have hA := (Below.refl w.heap.size w).alloc (Nat.le_refl _) (.cells #[.int .i64 x.t, .int .u64 ((x.v : Nat) : Int)] 70)
  have HA := Lib.hid hA
  have hbx := heap_alloc_new w (.cells #[.int .i64 x.t, .int .u64 ((x.v : Nat) : Int)] 70)
  have b0 : (w.alloc (.cells #[.int .i64 x.t, .int .u64 ((x.v : Nat) : Int)] 70)).cell? ⟨w.heap.size, 0, none⟩ = some (.int .i64 x.t) := (cell_of_row _ _ 0 _ _ _ hbx).trans rfl
  obtain ⟨i0, hi, hz0, hz1, hz2⟩ := info_parts info70
  have HRA := Lib.hid H
  obtain ⟨u0, hu0, ho0, _⟩ := H.row
  rcases (H.below hA).parts with ⟨_, hc⟩ | ⟨cap, hne, hc, hS⟩
  case inr => exact absurd rfl hne
  have hcu : u0 = .slice none 0 0 := by
    have h1 := (cell_of_row _ r 0 _ _ _ ((hA.block r (Array.getElem?_eq_some_iff.1 hu0).1).trans hu0))
    rw [hc] at h1
    simpa using h1.symm
  rw [hcu] at hu0 ho0
  have b1 : (w.alloc (.cells #[.int .i64 x.t, .int .u64 ((x.v : Nat) : Int)] 70)).cell? ⟨w.heap.size, 1, none⟩ = some (.int .u64 ((x.v : Nat) : Int)) := (cell_of_row _ _ 1 _ _ _ hbx).trans rfl
  obtain ⟨t, ht⟩ : ∃ t, x.t = t := ⟨_, rfl⟩
  obtain ⟨v, hv⟩ : ∃ v, x.v = v := ⟨_, rfl⟩
  unfold smV pt
  have HXE := Lib.hid (show x = ⟨t, v⟩ by cases x; subst ht hv; rfl)
  rw [ht, hv] at HA b0 b1 hbx hc ⊢
  rw [HXE.out]
  have HU := Lib.hid (And.intro hu0 ho0)
  rw [ht] at hr
  have d1 : decide (t < -9007199254740992) = false := decide_eq_false (by omega)
  have d2 : decide (9007199254740992 < t) = false := decide_eq_false (by omega)
  have d3 : ¬ t < -9007199254740992 := by omega
  have d4 : ¬ 9007199254740992 < t := by omega
  clear hbx ht hv H hA hr hu0 ho0 hcu HXE
  go_enter Tryd.func10, Tryd.ntmps10
  go_upto_region 1 with (fail)
  generalize w.alloc (.cells #[.int .i64 t, .int .u64 ((v : Nat) : Int)] 70) = W1 at *
  go_wp2_with fail
  go_quiet (fail)
  have hc := cell_below hc (drewn_below W1 nq)
  have HB := Lib.hid (HA.out.trans ((drewn_below W1 nq).mono HA.out.size))
  have p0 := cell_below b0 (drewn_below W1 nq)
  have p1 := cell_below b1 (drewn_below W1 nq)
  generalize W1.drewN nq = W2 at hc HB p0 p1 ⊢
  clear b0 b1 HA
  go_wp2_with fail
  have HWd : Below w.heap.size w W2.drew := HB.out.trans ((drew_below W2).mono HB.out.size)
  have HBo := Lib.hid (fun o => HWd.trans (((Below.refl W2.drew.heap.size W2.drew).alloc (Nat.le_refl _) o).mono HWd.size))
  have HOW := Lib.hid (fun o => own_below HU.out.2 (HBo.out o))
  have HSN := Lib.hid (fun o g cap1 (w1 : World) h1 h2 h3 h4 => Ra.snoc (t := t) (v := v) (W := W2.drew.alloc o) (g := g) (cap := cap1) (w1 := w1) rfl HRA.out HU.out.1 (HBo.out o) h1 h2 h3 h4)
  have HONE := Lib.hid (show ∀ u ∈ ([.int .i64 t, .int .u64 ((v : Nat) : Int)] : List Value), u.oneCell' = true by simp [Value.oneCell'])
  have HSRC := Lib.hid (World.news_of_block (w := W2.drew.alloc (.cells #[.int .i64 t, .int .u64 ((v : Nat) : Int)] 70)) (heap_alloc_new W2.drew (.cells #[.int .i64 t, .int .u64 ((v : Nat) : Int)] 70)))
  have HN := Lib.hid (show 0 + 1 ≤ maxLen ∧ (0 + 1) * 16 ≤ 140737488355328 from ⟨by unfold maxLen; omega, by omega⟩)
  have hlr : r < W2.heap.size := by have := (Array.getElem?_eq_some_iff.1 HU.out.1).1; have := HB.out.size; omega
  have hlx : w.heap.size < W2.heap.size := World.block_lt_of_cell? _ _ p0
  have q0 : W2.drew.cell? ⟨r, 0, none⟩ = some (.slice none 0 0) := hc
  have p0' : W2.drew.cell? ⟨w.heap.size, 0, none⟩ = some (.int .i64 t) := p0
  have p1' : W2.drew.cell? ⟨w.heap.size, 1, none⟩ = some (.int .u64 ((v : Nat) : Int)) := p1
  have hAl := (Below.refl W2.drew.heap.size W2.drew).alloc (Nat.le_refl _) (.cells #[.int .i64 t, .int .u64 ((v : Nat) : Int)] 70)
  have hcA : (W2.drew.alloc (.cells #[.int .i64 t, .int .u64 ((v : Nat) : Int)] 70)).cell? ⟨r, 0, none⟩ = some (.slice none 0 0) := cell_below q0 hAl
  clear HWd hAl
  go_region_law (refine step_append_lies _ (by rfl) (.tmp 47) (.tmp 49) 22 (by rfl) 0 70 i0 (.agg #[.int .i64 0, .int .u64 0]) 2 16 Tryd.underlying22 hi hz0 hz1 hz2 (by rfl) (by decide) (.slice none 0 0) 0 (samC []) (by simp [Act.eval, Act.put]) (HOW.out _) ⟨W2.heap.size, 0, none⟩ 1 1 [.int .i64 t, .int .u64 ((v : Nat) : Int)] (by simp [Act.eval, Act.put]) (by rfl) HSRC.out HONE.out (by decide) HN.out.1 HN.out.2 (Nat.zero_le _) _ (by rfl) ?_; intro g cap1 w1 h1 h2 h3 h4; obtain ⟨⟨k1, k2⟩, hPR⟩ := HSN.out _ g cap1 w1 h1 h2 h3 h4; have HPR := Lib.hid hPR; clear h1 h2 h3 h4 hPR)
  all_goals
    go_wp2
    go_ret
    exact ⟨rfl, HPR.out⟩
/-- Append of the document's appender, whole -/
theorem rappend_any (r b : Nat) (l : List Smp) (x : Smp) (hn : l.length ≤ 120) (w : World) (H : Ra w r b l) :
    Calls Tryd.prog 10 #[pt r, smV x] w fun e w' => e = .returned (.int .u16 ((apErr (Gm.run l) x : Nat) : Int)) ∧ RaPost w r b (if apErr (Gm.run l) x = 0 then l ++ [x] else l) w' := by
  have hN := Gm.run_n l
  have hsame : ∀ w', Below w.heap.size w w' → RaPost w r b l w' := fun w' hb => ⟨b, H.below hb, .inl rfl, Only.of_below hb _⟩
  by_cases h1 : -9007199254740992 ≤ x.t ∧ x.t ≤ 9007199254740992
  · by_cases h0 : l.length = 0
    · obtain rfl : l = [] := List.eq_nil_of_length_eq_zero h0
      have he : apErr (Gm.run []) x = 0 := by
        unfold apErr
        rw [if_neg (by simpa using h1)]
        rfl
      rw [he]
      exact rap_first r b x w H h1
    · have hl := run_last l (l.length - 1) (by omega)
      rw [show l.length - 1 + 1 = l.length by omega, List.take_length] at hl
      have hd := getD_is l (l.length - 1) (by omega)
      rw [← hd] at hl
      by_cases h2 : x.t ≤ (l.getD (l.length - 1) ⟨0, 0⟩).t
      · have he : apErr (Gm.run l) x = 100 := by
          unfold apErr
          rw [if_neg (fun h => h h1), if_pos ⟨by omega, by rw [hl]; exact h2⟩]
        rw [he]
        exact (rap_old r b l x w H h1 (by omega) (by omega) h2).mono fun e w' ⟨h3, h4⟩ => ⟨h3, hsame w' h4⟩
      · by_cases h3 : l.length = 120
        · have he : apErr (Gm.run l) x = 102 := by
            unfold apErr
            rw [if_neg (fun h => h h1), if_neg (by rw [hl]; exact fun h => h2 h.2), if_pos (by omega)]
          rw [he]
          exact (rap_full r b l x w H h1 h3 h2).mono fun e w' ⟨h3, h4⟩ => ⟨h3, hsame w' h4⟩
        · have he : apErr (Gm.run l) x = 0 := by
            unfold apErr
            rw [if_neg (fun h => h h1), if_neg (by rw [hl]; exact fun h => h2 h.2), if_neg (by omega)]
          rw [he]
          exact rap_go r b l x w H h1 (by omega) (by omega) h2
  · have he : apErr (Gm.run l) x = 2 := by unfold apErr; rw [if_pos h1]
    rw [he]
    exact (rap_range r x w h1).mono fun e w' ⟨h3, h4⟩ => ⟨h3, hsame w' h4⟩
end Go.Proofs.YtdlifcpdlbmijaaDoor
namespace Go.Proofs.YtdlifcpdlbmijaaDoor.B2
open Go.RowKit
section
variable {P : Program}
/-- where an append of at least one element goes: in place, with the same room; or to new memory, and then nothing that was there has turned -/
def Goes (w w' : World) (v v' : Value) (n m : Nat) : Prop :=
  (∃ g cap, v = .slice (some ⟨g, 0, none⟩) n cap ∧ v' = .slice (some ⟨g, 0, none⟩) (n + m) cap ∧ w.grownBy w' (some g)) ∨
  (∃ g cap, v' = .slice (some ⟨g, 0, none⟩) (n + m) cap ∧ w.heap.size ≤ g ∧ w.grownBy w' none)
theorem run_append_goes (w : World) (t ty e : TypeId) (i : TypeInfo) (z : Value) (size bytes : Nat) (ht : P.underlying t = some (.slice e)) (hi : P.info? e = some i) (hz : i.zero = some z)
    (hsize : i.size = size) (hby : i.bytes = bytes) (hzs : z.cells.size = size) (hsz : 0 < size)
    (v : Value) (n : Nat) (xs : List Value) (hown : w.ownsRow 0 e size v n xs)
    (a : Addr) (m c : Nat) (news : List Value) (hl : news.length = m * size) (hnews : ∀ j u, news[j]? = some u → w.cell? (a.add j) = some u) (h1 : ∀ u ∈ news, u.oneCell' = true)
    (h63 : n + m ≤ maxLen) (hbytes : (n + m) * bytes ≤ 140737488355328) (hm : 0 < m) :
    ∃ v' w', (Builtin.append_ #[t, t] ty #[v, .slice (some a) m c]).run P w = .ok v' w' ∧ w'.ownsRow 0 e size v' (n + m) (xs ++ news) ∧ Goes w w' v v' n m := by
  obtain ⟨v', w', hr, h2, h3, h4⟩ := run_append_own (P := P) w 0 t ty e i z size bytes ht hi hz hsize hby hzs hsz v n xs hown a m c news hl hnews h1 h63 hbytes (Nat.zero_le _)
  refine ⟨v', w', hr, h2, ?_⟩
  rcases hown.2 with ⟨rfl, rfl⟩ | ⟨g, cap, cur, rfl, hbg, hg, hnc, hcm, hcs, htake⟩
  · have hx : xs = [] := List.eq_nil_of_length_eq_zero (by simpa using hown.1)
    subst hx
    obtain ⟨v2, w2, hr2, k2, k3, k4⟩ := run_append_own (P := P) w w.heap.size t ty e i z size bytes ht hi hz hsize hby hzs hsz _ 0 [] (World.ownsRow_nil w _ e size) a m c news hl hnews h1 h63 hbytes (Nat.le_refl _)
    rw [hr] at hr2
    cases hr2
    rcases k2.2 with ⟨_, h0⟩ | ⟨g, cap, cur, hv, hg, _⟩
    · omega
    · exact .inr ⟨g, cap, hv, hg, h3⟩
  · by_cases hroom : n + m ≤ cap
    · have hfit : n * i.size + news.length ≤ cur.size := by rw [hl, hcs, hsize, ← Nat.add_mul]; exact Nat.mul_le_mul_right _ hroom
      have hr2 := run_append_room (P := P) w t ty e i ht hi g n cap cur hg a m c news (by rw [hsize]; exact hl) hnews h1 hroom hfit
      rw [hr] at hr2
      cases hr2
      exact .inl ⟨g, cap, rfl, rfl, h3⟩
    · have holds := hown.cells (g := g) rfl
      have hr2 := run_append_grow (P := P) w t ty e i z ht hi hz ⟨g, 0, none⟩ n cap xs (by rw [hsize]; exact hown.1) holds a m c news (by rw [hsize]; exact hl) hnews (by omega) (by simp only [maxLen] at h63; omega) (growslice_fits (by omega) (by rw [hby]; exact hbytes))
      rw [hr] at hr2
      cases hr2
      exact .inr ⟨_, _, rfl, Nat.le_refl _, ⟨rfl, rfl, rfl, by simp, fun k hk _ => Below.heap_alloc w.drew _ k hk⟩⟩
theorem wpList_append_goes (w : World) {ops : Array Oper} {rest : List Oper} {o : Oper} {a : Act} {Q : Exit → Act → World → Prop} (hgd : o.guard = none) (s x : Operand) (t : TypeId)
    (ho : o.op = .call { callee := .builtin .append, args := #[s, x], argTypes := #[t, t] })
    (e : TypeId) (i : TypeInfo) (z : Value) (size bytes : Nat) (ht : P.underlying t = some (.slice e)) (hi : P.info? e = some i) (hz : i.zero = some z)
    (hsize : i.size = size) (hby : i.bytes = bytes) (hzs : z.cells.size = size) (hsz : 0 < size)
    (v : Value) (n : Nat) (xs : List Value) (hs : a.eval s = v) (hown : w.ownsRow 0 e size v n xs)
    (ad : Addr) (m c : Nat) (news : List Value) (hx : a.eval x = .slice (some ad) m c) (hl : news.length = m * size) (hnews : ∀ j u, news[j]? = some u → w.cell? (ad.add j) = some u) (h1 : ∀ u ∈ news, u.oneCell' = true)
    (h63 : n + m ≤ maxLen) (hbytes : (n + m) * bytes ≤ 140737488355328) (hm : 0 < m)
    (h : ∀ v' w', w'.ownsRow 0 e size v' (n + m) (xs ++ news) → Goes w w' v v' n m → wpList P ops Q rest (a.put o.dst v') w') : wpList P ops Q (o :: rest) a w := by
  refine wpList_plain hgd fun K hK => ?_
  obtain ⟨v', w', hr, h2, h3⟩ := run_append_goes (P := P) w t o.type e i z size bytes ht hi hz hsize hby hzs hsz v n xs hown ad m c news hl hnews h1 h63 hbytes hm
  unfold Oper.wp execOp
  simp only [ho, resolve, invoke, builtin, Sem.run_bind, Sem.run_pure, Result.andThen_ok, List.map_toArray, List.map_cons, List.map_nil, hs, hx, hr]
  exact hK _ _ (h v' w' h2 h3)
end
/-- rows of bytes, each in a block of its own or nil -/
structure Lots (w : World) (N : Nat) (X : Nat → Value) (C : Nat → List Nat) : Prop where
  own : ∀ i, w.ownsRow N 5 1 (X i) (C i).length (cellsOf (C i))
  apart : ∀ i j, i ≠ j → (X i).ownBlock = none ∨ (X i).ownBlock ≠ (X j).ownBlock
theorem Lots.shape {w : World} {N : Nat} {X : Nat → Value} {C : Nat → List Nat} (h : Lots w N X C) (i : Nat) : (X i = .slice none 0 0 ∧ C i = []) ∨ ∃ g cap cur, X i = .slice (some ⟨g, 0, none⟩) (C i).length cap ∧ N ≤ g ∧ w.heap[g]? = some (.cells cur 5 (0, 0)) ∧ (C i).length ≤ cap ∧ cap ≤ maxLen ∧ cur.size = cap ∧ cur.toList.take (C i).length = cellsOf (C i) := by
  rcases (h.own i).2 with ⟨hv, hn⟩ | ⟨g, cap, cur, hv, hg, hh, hc, hm, hs, ht⟩
  · exact .inl ⟨hv, List.eq_nil_of_length_eq_zero hn⟩
  · exact .inr ⟨g, cap, cur, hv, hg, hh, hc, hm, by simpa using hs, by simpa using ht⟩
theorem Lots.cell {w : World} {N : Nat} {X : Nat → Value} {C : Nat → List Nat} (h : Lots w N X C) (i k : Nat) (hk : k < (C i).length) :
    ∃ g cap, X i = .slice (some ⟨g, 0, none⟩) (C i).length cap ∧ N ≤ g ∧ g < w.heap.size ∧ w.cell? ⟨g, k, none⟩ = some (.int .u8 (((C i)[k] : Nat) : Int)) ∧ w.frozen? ⟨g, k, none⟩ = false := by
  rcases h.shape i with ⟨_, h0⟩ | ⟨g, cap, cur, hv, hg, hh, hc, hm, hs, ht⟩
  · rw [h0] at hk; simp at hk
  · refine ⟨g, cap, hv, hg, (Array.getElem?_eq_some_iff.1 hh).1, ?_, frozen_of_row _ _ _ _ _ hh⟩
    rw [cell_of_row _ _ _ _ _ _ hh, ← Array.getElem?_toList]
    have := congrArg (fun l => l[k]?) ht
    simp only [List.getElem?_take, if_pos hk, cellsOf_get _ k hk] at this
    exact this
/-- a row that is not written, or not there, stays -/
theorem owns_only {w w' : World} {N e size n : Nat} {v : Value} {xs : List Value} (h : w.ownsRow N e size v n xs) {S : List Nat} (ho : Only S w w') (hn : ∀ g, v.ownBlock = some g → g ∉ S) : w'.ownsRow N e size v n xs := by
  refine ⟨h.1, ?_⟩
  rcases h.2 with h2 | ⟨g, cap, cur, hv, hg, hh, r⟩
  · exact .inl h2
  · exact .inr ⟨g, cap, cur, hv, hg, (ho.block g (Array.getElem?_eq_some_iff.1 hh).1 (hn g (by rw [hv]; rfl))).trans hh, r⟩
theorem Lots.only {w w' : World} {N : Nat} {X : Nat → Value} {C : Nat → List Nat} (h : Lots w N X C) {S : List Nat} (ho : Only S w w') (hn : ∀ i g, (X i).ownBlock = some g → g ∉ S) : Lots w' N X C :=
  ⟨fun i => owns_only (h.own i) ho (hn i), h.apart⟩
/-- one byte of one row is written -/
theorem Lots.set {w : World} {N i k g cap c : Nat} {X : Nat → Value} {C : Nat → List Nat} (h : Lots w N X C) (hX : X i = .slice (some ⟨g, 0, none⟩) (C i).length cap) (hk : k < (C i).length) :
    Lots (w.setCell ⟨g, k, none⟩ (.int .u8 ((c : Nat) : Int))) N X (fun j => if j = i then (C i).set k c else C j) := by
  refine ⟨fun j => ?_, h.apart⟩
  have ho : Only [g] w (w.setCell ⟨g, k, none⟩ (.int .u8 ((c : Nat) : Int))) := (Only.refl _ _).setCell (p := ⟨g, k, none⟩) (.inl (by simp)) _
  by_cases hj : j = i
  · subst hj
    rw [if_pos rfl]
    rcases h.shape j with ⟨hv, _⟩ | ⟨g2, cap2, cur, hv, hg, hh, hc, hm, hs, ht⟩
    · rw [hX] at hv; cases hv
    · rw [hX] at hv
      cases hv
      refine ⟨by simp [cellsOf_length], .inr ⟨g, cap, cur.setIfInBounds k (.int .u8 ((c : Nat) : Int)), by rw [hX]; simp, hg, heap_setCell_same _ _ _ _ _ _ hh, by simpa using hc, hm, by simpa using hs, ?_⟩⟩
      rw [Array.toList_setIfInBounds, List.length_set, Nat.mul_one, List.take_set, ht]
      simp [cellsOf, List.map_set]
  · rw [if_neg hj]
    refine owns_only (h.own j) ho (fun g' hg' => ?_)
    rcases h.apart j i hj with h1 | h1
    · rw [h1] at hg'; cases hg'
    · rw [hg', hX] at h1
      simp only [Value.ownBlock] at h1
      intro hm
      simp only [List.mem_singleton] at hm
      exact h1 (by rw [hm])
/-- the slice of slices itself -/
def Outer (w : World) (a : Option Addr) (h n : Nat) (X : Nat → Value) : Prop := 0 < n → a = some ⟨h, 0, none⟩ ∧ h < w.heap.size ∧ ∀ i, i < n → w.cell? ⟨h, i, none⟩ = some (X i)
theorem Outer.only {w w' : World} {a : Option Addr} {h n : Nat} {X : Nat → Value} (H : Outer w a h n X) {S : List Nat} (ho : Only S w w') (hn : h ∉ S) : Outer w' a h n X := fun h0 => by
  obtain ⟨e, hl, hc⟩ := H h0
  exact ⟨e, Nat.lt_of_lt_of_le hl ho.size, fun i hi => (ho.cell (p := ⟨h, i, none⟩) hl hn).trans (hc i hi)⟩
/-- the marks -/
def mark1 (i k : Nat) : Nat := (i * 97 + k * 13) % 256
def mark2 (i k : Nat) : Nat := ((((-1 : Int) - (i : Int)) * 97 + (k : Int) * 13) % 256).toNat
theorem mark1_spell (i k : Nat) : ((i : Int) * 97 + (k : Int) * 13) % 256 = ((mark1 i k : Nat) : Int) := by unfold mark1; omega
theorem mark2_spell (i k : Nat) : (((-1 : Int) - (i : Int)) * 97 + (k : Int) * 13) % 256 = ((mark2 i k : Nat) : Int) := by unfold mark2; omega
end Go.Proofs.YtdlifcpdlbmijaaDoor.B2
namespace Go.Proofs.YtdlifcpdlbmijaaDoor.B2
open Go.RowKit
/-- the first rows have their marks, the row i those ahead of k -/
structure Marked (w : World) (N : Nat) (X : Nat → Value) (L : Nat → Nat) (a : Option Addr) (h n i k : Nat) (wr : World) : Prop where
  rows : ∃ C, Lots wr N X C ∧ (∀ j, (C j).length = L j) ∧ ∀ j k', (j < i ∨ (j = i ∧ k' < k)) → k' < L j → (C j)[k']? = some (mark1 j k')
  outer : Outer wr a h n X
  below : Below N w wr
theorem Marked.shape {w wr : World} {N h n i k : Nat} {X : Nat → Value} {L : Nat → Nat} {a : Option Addr} (H : Marked w N X L a h n i k wr) (j : Nat) : ∃ a' cap', X j = .slice a' (L j) cap' := by
  obtain ⟨C, hL, hlen, _⟩ := H.rows
  rcases hL.shape j with ⟨hv, h0⟩ | ⟨g, cap, _, hv, _⟩
  · have : L j = 0 := by rw [← hlen, h0]; rfl
    rw [hv, this]; exact ⟨_, _, rfl⟩
  · rw [hv, hlen]; exact ⟨_, _, rfl⟩
theorem Marked.cell {w wr : World} {N h n i k : Nat} {X : Nat → Value} {L : Nat → Nat} {a : Option Addr} (H : Marked w N X L a h n i k wr) (hk : k < L i) (hh : ∀ j g, (X j).ownBlock = some g → g ≠ h) :
    ∃ g cap u, X i = .slice (some ⟨g, 0, none⟩) (L i) cap ∧ wr.cell? ⟨g, k, none⟩ = some u ∧ wr.frozen? ⟨g, k, none⟩ = false ∧ Marked w N X L a h n i (k + 1) (wr.setCell ⟨g, k, none⟩ (.int .u8 ((mark1 i k : Nat) : Int))) := by
  obtain ⟨C, hL, hlen, hm⟩ := H.rows
  obtain ⟨g, cap, hX, hNg, hgl, hc, hf⟩ := hL.cell i k (by rw [hlen]; exact hk)
  refine ⟨g, cap, _, by rw [hX, hlen], hc, hf, ⟨⟨_, hL.set (c := mark1 i k) hX (by rw [hlen]; exact hk), fun j => ?_, fun j k' hj hk' => ?_⟩, ?_, ?_⟩⟩
  · by_cases e : j = i
    · subst e; simp [hlen]
    · simp [e, hlen]
  · by_cases e : j = i
    · subst e
      simp only [if_true]
      rw [List.getElem?_set]
      by_cases e2 : k = k'
      · subst e2; rw [if_pos rfl, if_pos (by rw [hlen]; exact hk)]
      · rw [if_neg e2]; exact hm j k' (by omega) hk'
    · simp only [e, if_false]
      exact hm j k' (by omega) hk'
  · exact H.outer.only ((Only.refl [g] _).setCell (p := ⟨g, k, none⟩) (.inl (by simp)) _) (by
      have := hh i g (by rw [hX]; rfl)
      simpa using this.symm)
  · exact H.below.setCell (p := ⟨g, k, none⟩) hNg _
theorem Marked.next {w wr : World} {N h n i k : Nat} {X : Nat → Value} {L : Nat → Nat} {a : Option Addr} (H : Marked w N X L a h n i k wr) (hk : L i ≤ k) : Marked w N X L a h n (i + 1) 0 wr := by
  obtain ⟨C, hL, hlen, hm⟩ := H.rows
  exact ⟨⟨C, hL, hlen, fun j k' hj hk' => hm j k' (by
    by_cases e : j = i
    · subst e; exact .inr ⟨rfl, by omega⟩
    · exact .inl (by omega)) hk'⟩, H.outer, H.below⟩
/-- a row with all its marks -/
def Cm (L : Nat → Nat) (j : Nat) : List Nat := (List.range (L j)).map (mark1 j)
def Dm (L : Nat → Nat) (j k : Nat) : List Nat := Cm L j ++ (List.range k).map (mark2 j)
theorem Cm_length (L : Nat → Nat) (j : Nat) : (Cm L j).length = L j := by simp [Cm]
theorem Dm_length (L : Nat → Nat) (j k : Nat) : (Dm L j k).length = L j + k := by simp [Dm, Cm]
theorem Dm_succ (L : Nat → Nat) (j k : Nat) : Dm L j (k + 1) = Dm L j k ++ [mark2 j k] := by simp [Dm, List.range_succ]
theorem Marked.all {w wr : World} {N h n : Nat} {X : Nat → Value} {L : Nat → Nat} {a : Option Addr} (H : Marked w N X L a h n n 0 wr) (hz : ∀ j, n ≤ j → L j = 0) : Lots wr N X (Cm L) := by
  obtain ⟨C, hL, hlen, hm⟩ := H.rows
  have e : C = Cm L := by
    funext j
    apply List.ext_getElem?
    intro k
    by_cases hk : k < L j
    · have hj : j < n := Nat.lt_of_not_le fun h => by have := hz j h; omega
      rw [hm j k (.inl hj) hk]
      simp [Cm, hk]
    · rw [List.getElem?_eq_none (by rw [hlen]; omega), List.getElem?_eq_none (by rw [Cm_length]; omega)]
  rw [← e]; exact hL
/-- one row, k marks longer -/
structure Ext (w0 : World) (N : Nat) (X : Nat → Value) (L : Nat → Nat) (i k : Nat) (xv : Value) (wr : World) : Prop where
  own : wr.ownsRow 0 5 1 xv (L i + k) (cellsOf (Dm L i k))
  pos : (∃ g cap, X i = .slice (some ⟨g, 0, none⟩) (L i) cap ∧ xv = .slice (some ⟨g, 0, none⟩) (L i + k) cap) ∨ (k = 0 ∧ xv = X i) ∨ (∃ g cap, xv = .slice (some ⟨g, 0, none⟩) (L i + k) cap ∧ w0.heap.size ≤ g)
  xi : wr.ownsRow N 5 1 (X i) (L i) (cellsOf (Cm L i))
  only : Only (X i).ownBlock.toList w0 wr
theorem Ext.shape {w0 wr : World} {N i k : Nat} {X : Nat → Value} {L : Nat → Nat} {xv : Value} (H : Ext w0 N X L i k xv wr) : ∃ a' cap', xv = .slice a' (L i + k) cap' := by
  rcases H.own.2 with ⟨hv, h0⟩ | ⟨g, cap, _, hv, _⟩
  · rw [hv, h0]; exact ⟨_, _, rfl⟩
  · exact ⟨_, _, hv⟩
theorem owns_in_place {w' : World} {N g n m cap : Nat} {xs news : List Value} {v : Value} (h : w'.ownsRow 0 5 1 v (n + m) (xs ++ news)) (hv : v = .slice (some ⟨g, 0, none⟩) (n + m) cap) (hl : xs.length = n) (hN : N ≤ g) (hc : n ≤ cap) : w'.ownsRow N 5 1 (.slice (some ⟨g, 0, none⟩) n cap) n xs := by
  rcases h.2 with ⟨h1, _⟩ | ⟨g2, cap2, cur, h1, _, hh, h2, h3, h4, h5⟩
  · rw [hv] at h1; cases h1
  · rw [hv] at h1
    cases h1
    refine ⟨by rw [Nat.mul_one]; exact hl, .inr ⟨g, cap, cur, rfl, hN, hh, hc, h3, h4, ?_⟩⟩
    have := congrArg (List.take n) h5
    rw [List.take_take, Nat.min_eq_left (by omega), List.take_left' hl] at this
    rw [Nat.mul_one]; exact this
theorem Ext.step {w0 wr w' : World} {N i k : Nat} {X : Nat → Value} {L : Nat → Nat} {xv v' : Value} {o : Obj} (H : Ext w0 N X L i k xv wr) (hown : w'.ownsRow 0 5 1 v' (L i + k + 1) (cellsOf (Dm L i k) ++ cellsOf [mark2 i k])) (hg : Goes (wr.alloc o) w' xv v' (L i + k) 1) (hXl : ∀ g, (X i).ownBlock = some g → g < w0.heap.size ∧ N ≤ g) :
    Ext w0 N X L i (k + 1) v' w' := by
  have hs := H.only.size
  have hown2 : w'.ownsRow 0 5 1 v' (L i + (k + 1)) (cellsOf (Dm L i (k + 1))) := by rw [Dm_succ, cellsOf_append]; exact hown
  have hxi := owns_only H.xi ((Only.refl [] wr).alloc o) (fun _ _ => by simp)
  rcases hg with ⟨g, cap, hv, hv', hgr⟩ | ⟨g, cap, hv', hgl, hgr⟩
  · have hpos : (X i = .slice (some ⟨g, 0, none⟩) (L i) cap) ∨ w0.heap.size ≤ g := by
      rcases H.pos with ⟨g2, c2, e1, e2⟩ | ⟨e1, e2⟩ | ⟨g2, c2, e2, e3⟩
      · rw [hv] at e2; cases e2; exact .inl e1
      · subst e1; rw [hv] at e2; exact .inl e2.symm
      · rw [hv] at e2; cases e2; exact .inr e3
    rcases hpos with hp | hp
    · refine ⟨hown2, .inl ⟨g, cap, hp, hv'⟩, ?_, ?_⟩
      · rw [hp]
        have hc : L i ≤ cap := by
          rcases hxi.2 with ⟨h1, _⟩ | ⟨g2, c2, _, h1, _, _, h2, _⟩
          · rw [hp] at h1; cases h1
          · rw [hp] at h1; cases h1; exact h2
        have hown3 : w'.ownsRow 0 5 1 v' (L i + (k + 1)) (cellsOf (Cm L i) ++ cellsOf ((List.range (k + 1)).map (mark2 i))) := by rw [← cellsOf_append]; exact hown2
        exact owns_in_place hown3 hv' (by rw [cellsOf_length, Cm_length]) (hXl g (by rw [hp]; rfl)).2 hc
      · exact (H.only.alloc o).grown hgr (fun k hk => by cases hk; exact .inl (by rw [hp]; simp [Value.ownBlock]))
    · refine ⟨hown2, .inr (.inr ⟨g, cap, hv', hp⟩), ?_, ?_⟩
      · refine owns_only hxi ((Only.refl [g] _).grown hgr (fun k hk => by cases hk; exact .inl (by simp))) (fun g2 hg2 => ?_)
        have := (hXl g2 hg2).1
        simp; omega
      · exact (H.only.alloc o).grown hgr (fun k hk => by cases hk; exact .inr hp)
  · refine ⟨hown2, .inr (.inr ⟨g, cap, hv', by simp at hgl; omega⟩), ?_, ?_⟩
    · exact owns_only hxi ((Only.refl [] _).grown hgr (fun k hk => by cases hk)) (fun _ _ => by simp)
    · exact (H.only.alloc o).grown hgr (fun k hk => by cases hk)
/-- the longer rows, i of them -/
structure Long (w : World) (N : Nat) (X : Nat → Value) (L : Nat → Nat) (a : Option Addr) (h n M i : Nat) (vl : Value) (Y : Nat → Value) (wr : World) : Prop where
  rows : Lots wr N X (Cm L)
  outer : Outer wr a h n X
  below : Below N w wr
  own : wr.ownsRow 0 71 1 vl i ((List.range i).map Y)
  each : ∀ j, j < i → ∃ g cap, Y j = .slice (some ⟨g, 0, none⟩) (L j + 16) cap ∧ wr.ownsRow 0 5 1 (Y j) (L j + 16) (cellsOf (Dm L j 16)) ∧ ((X j).ownBlock = some g ∨ M ≤ g) ∧ vl.ownBlock ≠ some g ∧ g < wr.heap.size
  pos : ∀ g, vl.ownBlock = some g → M ≤ g ∧ g < wr.heap.size
  size : M ≤ wr.heap.size
/-- what holds of the rows' places all the while -/
structure Places (N M h : Nat) (X : Nat → Value) : Prop where
  lt : ∀ j g, (X j).ownBlock = some g → g < M ∧ N ≤ g
  ne : ∀ j g, (X j).ownBlock = some g → g ≠ h
  h : h < M
  apart : ∀ i j, i ≠ j → (X i).ownBlock = none ∨ (X i).ownBlock ≠ (X j).ownBlock
  nm : N ≤ M
theorem Long.shape {w wr : World} {N h n M i : Nat} {X : Nat → Value} {L : Nat → Nat} {a : Option Addr} {vl : Value} {Y : Nat → Value} (H : Long w N X L a h n M i vl Y wr) : ∃ a' cap', vl = .slice a' i cap' := by
  rcases H.own.2 with ⟨hv, h0⟩ | ⟨g, cap, _, hv, _⟩
  · rw [hv, h0]; exact ⟨_, _, rfl⟩
  · exact ⟨_, _, hv⟩
theorem Long.step {w w0 wr w2 : World} {N h n M i : Nat} {X : Nat → Value} {L : Nat → Nat} {a : Option Addr} {vl v' xv : Value} {Y : Nat → Value} {o : Obj} (P : Places N M h X) (H : Long w N X L a h n M i vl Y w0) (E : Ext w0 N X L i 16 xv wr)
    (hown : w2.ownsRow 0 71 1 v' (i + 1) ((List.range i).map Y ++ [xv])) (hg : Goes (wr.alloc o) w2 vl v' i 1) : Long w N X L a h n M (i + 1) v' (fun j => if j = i then xv else Y j) w2 := by
  have s0 := H.size
  have s1 := E.only.size
  -- what the last append may have turned
  obtain ⟨T, hT, hTv⟩ : ∃ T : List Nat, Only T (wr.alloc o) w2 ∧ ∀ x ∈ T, vl.ownBlock = some x := by
    rcases hg with ⟨g, cap, hv, hv', hgr⟩ | ⟨g, cap, hv', hgl, hgr⟩
    · exact ⟨[g], (Only.refl [g] _).grown hgr (fun k hk => by cases hk; exact .inl (by simp)), fun x hx => by simp at hx; subst hx; rw [hv]; rfl⟩
    · exact ⟨[], (Only.refl [] _).grown hgr (fun k hk => by cases hk), fun x hx => by simp at hx⟩
  have hT2 : Only T wr w2 := ((Only.refl T wr).alloc o).trans hT (fun x hx => .inl hx)
  have s2 := hT2.size
  have hS : ∀ x ∈ (X i).ownBlock.toList, (X i).ownBlock = some x := fun x hx => by simpa using hx
  have hX : ∀ j g, j ≠ i → (X j).ownBlock = some g → g ∉ (X i).ownBlock.toList := fun j g hj hg hm => by
    have := hS g hm
    rcases P.apart j i hj with h1 | h1
    · rw [h1] at hg; cases hg
    · exact h1 (by rw [hg, this])
  have hXT : ∀ j g, (X j).ownBlock = some g → g ∉ T := fun j g hg hm => by
    have h1 := (H.pos g (hTv g hm)).1
    have h2 := (P.lt j g hg).1
    omega
  -- the new value's place
  have hv'pos : (v'.ownBlock = vl.ownBlock) ∨ (∃ g, v'.ownBlock = some g ∧ wr.heap.size ≤ g ∧ g < w2.heap.size) := by
    rcases hg with ⟨g, cap, hv, hv', hgr⟩ | ⟨g, cap, hv', hgl, hgr⟩
    · exact .inl (by rw [hv, hv']; rfl)
    · refine .inr ⟨g, by rw [hv']; rfl, by simp at hgl; omega, ?_⟩
      exact (hown.lt g (by rw [hv']; rfl)).2
  have hxv : ∃ g cap, xv = .slice (some ⟨g, 0, none⟩) (L i + 16) cap ∧ ((X i).ownBlock = some g ∨ w0.heap.size ≤ g) := by
    rcases E.pos with ⟨g2, c2, e1, e2⟩ | ⟨e1, e2⟩ | ⟨g2, c2, e2, e3⟩
    · exact ⟨g2, c2, e2, .inl (by rw [e1]; rfl)⟩
    · omega
    · exact ⟨g2, c2, e2, .inr e3⟩
  obtain ⟨gx, cx, hxe, hxp⟩ := hxv
  have hgxl : gx < wr.heap.size := (E.own.lt gx (by rw [hxe]; rfl)).2
  have hgxv : vl.ownBlock ≠ some gx := fun e => by
    have h1 := H.pos gx e
    rcases hxp with h2 | h2
    · have := (P.lt i gx h2).1; omega
    · omega
  have hgxT : gx ∉ T := fun hm => hgxv (hTv gx hm)
  refine ⟨⟨fun j => ?_, P.apart⟩, ?_, ?_, ?_, fun j hj => ?_, fun g hg2 => ?_, by omega⟩
  · by_cases hj : j = i
    · subst hj; rw [Cm_length]; exact owns_only E.xi hT2 (hXT j)
    · exact owns_only (owns_only (H.rows.own j) E.only (fun g hg => hX j g hj hg)) hT2 (hXT j)
  · refine (H.outer.only E.only (fun hm => ?_)).only hT2 (fun hm => ?_)
    · exact P.ne i h (hS h hm) rfl
    · have := (H.pos h (hTv h hm)).1; have := P.h; omega
  · refine (H.below.trans (E.only.below (Nat.le_trans P.nm s0) (fun x hx => (P.lt i x (hS x hx)).2))).trans (hT2.below (by have := P.nm; omega) (fun x hx => ?_))
    have := (H.pos x (hTv x hx)).1; have := P.nm; omega
  · have e : (List.range (i + 1)).map (fun j => if j = i then xv else Y j) = (List.range i).map Y ++ [xv] := by
      rw [List.range_succ, List.map_append]
      congr 1
      · apply List.map_congr_left
        intro j hj
        have : j ≠ i := by have := List.mem_range.1 hj; omega
        simp [this]
      · simp
    rw [e]; exact hown
  · by_cases hji : j = i
    · subst hji
      simp only [if_true]
      refine ⟨gx, cx, hxe, owns_only E.own hT2 (fun g hg => by rw [hxe] at hg; cases hg; exact hgxT), ?_, ?_, by omega⟩
      · rcases hxp with h2 | h2
        · exact .inl h2
        · exact .inr (by omega)
      · rcases hv'pos with h1 | ⟨g, h1, h2, _⟩
        · rw [h1]; exact hgxv
        · rw [h1]; intro e; injection e with e; omega
    · obtain ⟨g, cap, e1, e2, e3, e4, e5⟩ := H.each j (by omega)
      simp only [hji, if_false]
      have hgS : g ∉ (X i).ownBlock.toList := fun hm => by
        rcases e3 with h1 | h1
        · exact hX j g hji h1 hm
        · have := (P.lt i g (hS g hm)).1; omega
      have hgT : g ∉ T := fun hm => e4 (hTv g hm)
      refine ⟨g, cap, e1, owns_only (owns_only e2 E.only (fun g' hg' => by rw [e1] at hg'; cases hg'; exact hgS)) hT2 (fun g' hg' => by rw [e1] at hg'; cases hg'; exact hgT), e3, ?_, by omega⟩
      rcases hv'pos with h1 | ⟨g', h1, h2, _⟩
      · rw [h1]; exact e4
      · rw [h1]; intro e; injection e with e; omega
  · rcases hv'pos with h1 | ⟨g', h1, h2, h3⟩
    · rw [h1] at hg2
      have := H.pos g hg2; omega
    · rw [h1] at hg2; injection hg2 with hg2; omega
theorem Dm_low (L : Nat → Nat) (t k : Nat) (hk : k < L t) : (Dm L t 16)[k]? = some (mark1 t k) := by
  unfold Dm
  rw [List.getElem?_append_left (by rw [Cm_length]; exact hk)]
  simp [Cm, hk]
theorem Dm_high (L : Nat → Nat) (t k : Nat) (hk : k < 16) : (Dm L t 16)[L t + k]? = some (mark2 t k) := by
  unfold Dm
  rw [List.getElem?_append_right (by rw [Cm_length]; omega), Cm_length, show L t + k - L t = k by omega]
  simp [hk]
/-- what the last look meets -/
theorem Long.look {w wr : World} {N h n M i : Nat} {X : Nat → Value} {L : Nat → Nat} {a : Option Addr} {vl : Value} {Y : Nat → Value} (H : Long w N X L a h n M i vl Y wr) (t : Nat) (ht : t < i) :
    ∃ gl cl gy cy, vl = .slice (some ⟨gl, 0, none⟩) i cl ∧ wr.cell? ⟨gl, t, none⟩ = some (.slice (some ⟨gy, 0, none⟩) (L t + 16) cy) ∧ (∀ k, k < L t → wr.cell? ⟨gy, k, none⟩ = some (.int .u8 ((mark1 t k : Nat) : Int))) ∧ (∀ k, k < 16 → wr.cell? ⟨gy, L t + k, none⟩ = some (.int .u8 ((mark2 t k : Nat) : Int))) ∧
      (∀ k, k < L t → ∃ g cap, X t = .slice (some ⟨g, 0, none⟩) (L t) cap ∧ wr.cell? ⟨g, k, none⟩ = some (.int .u8 ((mark1 t k : Nat) : Int))) := by
  obtain ⟨gy, cy, e1, e2, _⟩ := H.each t ht
  have hvl : ∃ gl cl, vl = .slice (some ⟨gl, 0, none⟩) i cl := by
    rcases H.own.2 with ⟨_, h0⟩ | ⟨g, cap, _, hv, _⟩
    · omega
    · exact ⟨g, cap, hv⟩
  obtain ⟨gl, cl, hvl⟩ := hvl
  refine ⟨gl, cl, gy, cy, hvl, ?_, fun k hk => ?_, fun k hk => ?_, fun k hk => ?_⟩
  · have := H.own.cells (g := gl) (by rw [hvl]; rfl) t (Y t) (by simp [ht])
    rw [add_here] at this
    rw [this, e1]
  · have := e2.cells (g := gy) (by rw [e1]; rfl) k (.int .u8 ((mark1 t k : Nat) : Int)) (by unfold cellsOf; rw [List.getElem?_map, Dm_low L t k hk]; rfl)
    rw [add_here] at this
    exact this
  · have := e2.cells (g := gy) (by rw [e1]; rfl) (L t + k) (.int .u8 ((mark2 t k : Nat) : Int)) (by unfold cellsOf; rw [List.getElem?_map, Dm_high L t k hk]; rfl)
    rw [add_here] at this
    exact this
  · obtain ⟨g, cap, hX, _, _, hc, _⟩ := H.rows.cell t k (by rw [Cm_length]; exact hk)
    rw [Cm_length] at hX
    refine ⟨g, cap, hX, ?_⟩
    rw [hc]
    simp [Cm]
end Go.Proofs.YtdlifcpdlbmijaaDoor.B2
namespace Go.Proofs.YtdlifcpdlbmijaaDoor.B2
open Go.RowKit
theorem info27 : (Tryd.prog.info? 71).map (fun i => (i.zero, i.size, i.bytes)) = some (some (.slice none 0 0), 1, 24) := by kernel_rfl
theorem one_any (W : World) (u : Value) (t : TypeId) : ∀ (j : Nat) (x : Value), [u][j]? = some x → (W.alloc (.cells #[u] t)).cell? ((⟨W.heap.size, 0, none⟩ : Addr).add j) = some x := by
  intro j x hx
  rw [add_here, cell_of_row _ _ _ _ _ _ (heap_alloc_new W _)]
  rw [show (#[u] : Array Value) = [u].toArray from rfl, List.getElem?_toArray]
  exact hx
set_option maxRecDepth 100000 in
set_option maxHeartbeats 2000000 in
theorem ownbytes_any (a : Option Addr) (h n cap N : Nat) (X : Nat → Value) (L : Nat → Nat) (w : World) (P : Places N w.heap.size h X) (hO : Outer w a h n X) (hR : ∃ C, Lots w N X C ∧ ∀ j, (C j).length = L j) (hn : n ≤ 1000) (hL : ∀ j, L j ≤ 1000000) (hz : ∀ j, n ≤ j → L j = 0) :
    Calls Tryd.prog 31 #[.slice a n cap] w fun e w' => e = .returned (.bool true) ∧ Below N w w' := by
  obtain ⟨i0, hi0, hz0, hz1, hz2⟩ := info_parts info5
  obtain ⟨i1, hi1, hy0, hy1, hy2⟩ := info_parts info27
  obtain ⟨C, hC, hlen⟩ := hR
  have M0 := Lib.hid (show Marked w N X L a h n 0 0 w from ⟨⟨C, hC, hlen, fun j k' hj => by omega⟩, hO, Below.refl _ _⟩)
  have HH := Lib.hid P.ne
  have HP := Lib.hid P
  have HL := Lib.hid hL
  have HZ := Lib.hid hz
  clear hO hC hlen hL P hz
  go_enter Tryd.func31, Tryd.ntmps31
  go_wp2
  go_loopw [3] (fun ii wr => ∃ i : Nat, i ≤ n ∧ ii = .int .i64 (i : Nat) ∧ Hid (Marked w N X L a h n i 0 wr)) (fun ii _ => n - (intOf ii).toNat)
  case atStart => exact ⟨0, Nat.zero_le _, rfl, M0⟩
  case round =>
    obtain ⟨i, hi, rfl, HM⟩ := hrel
    by_cases hlt : i < n
    · have hd : decide (i < n) = true := by simpa using hlt
      have hix : (i : Int) < (n : Int) := by omega
      go_wp2
      go_loopw [4] (fun kk wr2 => ∃ k : Nat, k ≤ L i ∧ kk = .int .i64 (k : Nat) ∧ Hid (Marked w N X L a h n i k wr2)) (fun kk _ => L i - (intOf kk).toNat)
      case atStart => exact ⟨0, Nat.zero_le _, rfl, HM⟩
      case round =>
        obtain ⟨k, hk, rfl, HM2⟩ := hrel
        have hLi := HL.out i
        obtain ⟨rfl, hhl, hcs⟩ := HM2.out.outer (by omega)
        have hci := hcs i hlt
        by_cases hlt2 : k < L i
        · obtain ⟨g, cp, u, hX, hc, hf, hst⟩ := HM2.out.cell hlt2 HH.out
          rw [hX] at hci
          have HST := Lib.hid hst
          obtain ⟨Li, hLe⟩ : ∃ Li, L i = Li := ⟨_, rfl⟩
          rw [hLe] at hci hlt2 hLi hk ⊢
          have hd2 : decide (k < Li) = true := by simpa using hlt2
          have hkx : (k : Int) < (Li : Int) := by omega
          have HMS := Lib.hid (mark1_spell i k)
          clear hst hX hLe hcs
          go_wp2
          rw [HMS.out]
          go_roundw
          case rel => exact ⟨k + 1, by omega, by go_num, HST⟩
          case measure => simp [intOf]; omega
        · obtain ⟨a', cp, hX⟩ := HM2.out.shape i
          rw [hX] at hci
          have HN := Lib.hid (HM2.out.next (by omega))
          obtain ⟨Li, hLe⟩ : ∃ Li, L i = Li := ⟨_, rfl⟩
          rw [hLe] at hci hlt2 hLi hk ⊢
          have hd2 : decide (k < Li) = false := by simpa using hlt2
          clear hX hLe hcs
          go_wp2
          go_roundw
          case rel => exact ⟨i + 1, by omega, by go_num, HN⟩
          case measure => simp [intOf]; omega
    · obtain rfl : i = n := by omega
      have hd : decide (i < i) = false := by simp
      have G0 := Lib.hid (show Long w N X L a h i w.heap.size 0 (.slice none 0 0) (fun _ => .slice none 0 0) wr from ⟨HM.out.all HZ.out, HM.out.outer, HM.out.below, World.ownsRow_nil _ _ _ _, fun j hj => by omega, fun g hg => (by cases hg), HM.out.below.size⟩)
      obtain ⟨M, hM⟩ : ∃ M, w.heap.size = M := ⟨_, rfl⟩
      rw [hM] at G0 HP
      clear hM hlt
      go_wp2
      go_loopw [5, 6] (fun vl ii wr => ∃ (j : Nat) (Y : Nat → Value), j ≤ i ∧ ii = .int .i64 (j : Nat) ∧ Hid (Long w N X L a h i M j vl Y wr)) (fun _ ii _ => i - (intOf ii).toNat)
      case atStart => exact ⟨0, _, Nat.zero_le _, rfl, G0⟩
      case round =>
        obtain ⟨j, Y, hj, rfl, HG⟩ := hrel
        by_cases hlt : j < i
        · have hd2 : decide (j < i) = true := by simpa using hlt
          have hjx : (j : Int) < (i : Int) := by omega
          obtain ⟨rfl, hhl, hcs⟩ := HG.out.outer (by omega)
          have hcj := hcs j hlt
          have hXs : ∃ a' cap', X j = .slice a' (L j) cap' := by
            rcases (HG.out.rows.own j).2 with ⟨hv, h0⟩ | ⟨g, cp, _, hv, _⟩
            · rw [Cm_length] at h0; rw [hv, h0]; exact ⟨_, _, rfl⟩
            · rw [Cm_length] at hv; exact ⟨_, _, hv⟩
          obtain ⟨aj, cj, hXj⟩ := hXs
          have hLj := HL.out j
          have E0 := Lib.hid (show Ext wr N X L j 0 (X j) wr from ⟨by
            have h1 := HG.out.rows.own j
            have h2 : wr.ownsRow 0 5 1 (X j) (L j) (cellsOf (Cm L j)) := by
              rw [Cm_length] at h1
              refine ⟨h1.1, ?_⟩
              rcases h1.2 with h3 | ⟨g, c2, cur, e1, _, r⟩
              · exact .inl h3
              · exact .inr ⟨g, c2, cur, e1, Nat.zero_le _, r⟩
            simpa [Dm] using h2, .inr (.inl ⟨rfl, rfl⟩), by have h1 := HG.out.rows.own j; rw [Cm_length] at h1; exact h1, Only.refl _ _⟩)
          rw [hXj] at hcj E0
          obtain ⟨av, cv, rfl⟩ := HG.out.shape
          clear hcs hXj
          obtain ⟨wo, hwo⟩ : ∃ wo, wo = wr := ⟨_, rfl⟩
          subst hwo
          go_wp2
          go_loopw [7, 8] (fun xv kk wr2 => ∃ k : Nat, k ≤ 16 ∧ kk = .int .i64 (k : Nat) ∧ Hid (Ext wo N X L j k xv wr2)) (fun _ kk _ => 16 - (intOf kk).toNat)
          case atStart => exact ⟨0, Nat.zero_le _, rfl, E0⟩
          case round =>
            obtain ⟨k, hk, rfl, HE⟩ := hrel
            by_cases hlt2 : k < 16
            · have hd3 : decide ((k : Int) < 16) = true := by simp; omega
              obtain ⟨ax, cx, rfl⟩ := HE.out.shape
              have HSP := Lib.hid (mark2_spell j k)
              have HXL := Lib.hid (show ∀ g, (X j).ownBlock = some g → g < wo.heap.size ∧ N ≤ g from fun g hg => ⟨by have h1 := (HP.out.lt j g hg).1; have h2 := HG.out.size; omega, (HP.out.lt j g hg).2⟩)
              go_wp2_with (at_builtin; refine wpList_append_goes _ rfl (.tmp 54) (.tmp 62) 71 rfl 5 i0 (.int .u8 0) 1 1 Tryd.underlying71 hi0 hz0 hz1 hz2 rfl (by decide) (.slice ax (L j + k) cx) (L j + k) (cellsOf (Dm L j k)) rfl (HE.out.own.alloc _) ⟨wr.heap.size, 0, none⟩ 1 1 [Value.int .u8 (((-1 - (j : Int)) * 97 + (k : Int) * 13) % 256)] rfl rfl (one_any wr _ 5) (by simp [Value.oneCell']) (by unfold maxLen; omega) (by omega) (by decide) ?_)
              intro v2 w2 hown2 hgo2
              rw [HSP.out] at hown2
              have HN := Lib.hid (HE.out.step hown2 hgo2 HXL.out)
              obtain ⟨a2, c2, rfl⟩ := HN.out.shape
              clear hown2 hgo2
              go_wp2
              go_roundw
              case rel => exact ⟨k + 1, by omega, by go_num, HN⟩
              case measure => simp [intOf]; omega
            · obtain rfl : k = 16 := by omega
              obtain ⟨ax, cx, rfl⟩ := HE.out.shape
              have HOW := Lib.hid (show wr.ownsRow 0 71 1 (.slice av j cv) j ((List.range j).map Y) from owns_only HG.out.own HE.out.only (fun g hg hm => by
                have h1 := (HG.out.pos g hg).1
                have h2 := (HP.out.lt j g (by simpa using hm)).1
                omega))
              go_wp2_with (at_builtin; refine wpList_append_goes _ rfl (.tmp 64) (.tmp 66) 30 rfl 71 i1 (.slice none 0 0) 1 24 Tryd.underlying30 hi1 hy0 hy1 hy2 rfl (by decide) (.slice av j cv) j ((List.range j).map Y) rfl (HOW.out.alloc _) ⟨wr.heap.size, 0, none⟩ 1 1 [Value.slice ax (L j + 16) cx] rfl rfl (one_any wr _ 71) (by simp [Value.oneCell']) (by unfold maxLen; omega) (by omega) (by decide) ?_)
              intro v2 w2 hown2 hgo2
              have HN := Lib.hid (HG.out.step HP.out HE.out hown2 hgo2)
              obtain ⟨a2, c2, rfl⟩ := HN.out.shape
              clear hown2 hgo2
              go_wp2
              go_roundw
              case rel => exact ⟨j + 1, _, by omega, by go_num, HN⟩
              case measure => simp [intOf]; omega
        · obtain rfl : j = i := by omega
          have hd2 : decide (j < j) = false := by simp
          obtain ⟨av, cv, rfl⟩ := HG.out.shape
          clear G0 hlt
          go_wp2
          go_loop [9] (fun ii => ∃ t : Nat, t ≤ j ∧ ii = .int .i64 (t : Nat)) (fun ii => j - (intOf ii).toNat)
          case atStart => exact ⟨0, Nat.zero_le _, rfl⟩
          case round =>
            obtain ⟨t, ht, rfl⟩ := hrel
            by_cases hlt3 : t < j
            · have hd4 : decide (t < j) = true := by simpa using hlt3
              have htx : (t : Int) < (j : Int) := by omega
              obtain ⟨rfl, hhl, hcs⟩ := HG.out.outer (by omega)
              have hct := hcs t hlt3
              obtain ⟨gl, cl, gy, cy, hvl, hlc, hy1, hy2, hx1⟩ := HG.out.look t hlt3
              have hXs : ∃ a' cap', X t = .slice a' (L t) cap' := by
                rcases (HG.out.rows.own t).2 with ⟨hv, h0⟩ | ⟨g, cp, _, hv, _⟩
                · rw [Cm_length] at h0; rw [hv, h0]; exact ⟨_, _, rfl⟩
                · rw [Cm_length] at hv; exact ⟨_, _, hv⟩
              obtain ⟨aj, cj, hXj⟩ := hXs
              have hLt := HL.out t
              rw [hXj] at hct hx1
              cases hvl
              have HY1 := Lib.hid hy1
              have HY2 := Lib.hid hy2
              have HX1 := Lib.hid hx1
              obtain ⟨Lt, hLe⟩ : ∃ Lt, L t = Lt := ⟨_, rfl⟩
              rw [hLe] at hct hlc HY1 HY2 HX1 hLt
              clear hXj hcs hy1 hy2 hx1 hLe
              go_wp2
              go_loop [11] (fun kk => ∃ k : Nat, k ≤ Lt ∧ kk = .int .i64 (k : Nat)) (fun kk => Lt - (intOf kk).toNat)
              case atStart => exact ⟨0, Nat.zero_le _, rfl⟩
              case round =>
                obtain ⟨k, hk, rfl⟩ := hrel
                by_cases hlt4 : k < Lt
                · have hd5 : decide (k < Lt) = true := by simpa using hlt4
                  have hkx : (k : Int) < (Lt : Int) := by omega
                  have hkx2 : (k : Int) < (Lt : Int) + 16 := by omega
                  obtain ⟨g, cp, hXe, hc1⟩ := HX1.out k hlt4
                  cases hXe
                  have hc2 := HY1.out k hlt4
                  have hms := mark1_spell t k
                  go_wp2
                  go_round
                  case rel => exact ⟨k + 1, by omega, by go_num⟩
                  case measure => simp [intOf]; omega
                · obtain rfl : k = Lt := by omega
                  have hd5 : decide (k < k) = false := by simp
                  go_wp2
                  go_loop [12] (fun kk => ∃ q : Nat, q ≤ 16 ∧ kk = .int .i64 (q : Nat)) (fun kk => 16 - (intOf kk).toNat)
                  case atStart => exact ⟨0, by omega, rfl⟩
                  case round =>
                    obtain ⟨q, hq, rfl⟩ := hrel
                    by_cases hlt5 : q < 16
                    · have hd6 : decide ((q : Int) < 16) = true := by simp; omega
                      have hqx : (k : Int) + (q : Int) < (k : Int) + 16 := by omega
                      have hqx0 : (0 : Int) ≤ (k : Int) + (q : Int) := by omega
                      have hqx2 : (q : Int) < 16 := by omega
                      have hc3 := HY2.out q hlt5
                      have hms2 := mark2_spell t q
                      go_wp2
                      go_round
                      case rel => exact ⟨q + 1, by omega, by go_num⟩
                      case measure => simp [intOf]; omega
                    · obtain rfl : q = 16 := by omega
                      go_wp2
                      go_round
                      case rel => exact ⟨t + 1, by omega, by go_num⟩
                      case measure => simp [intOf]; omega
            · obtain rfl : t = j := by omega
              have hd4 : decide (t < t) = false := by simp
              go_wp2
              go_ret
              exact ⟨rfl, HG.out.below⟩
end Go.Proofs.YtdlifcpdlbmijaaDoor.B2
