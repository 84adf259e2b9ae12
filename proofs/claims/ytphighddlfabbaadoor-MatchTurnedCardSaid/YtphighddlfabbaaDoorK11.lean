/-
  PACKED: WbK, WbL, WbM, WbN, RxJ, WbO, WbP
-/
import Derived.Test.YtphighddlfabbaaDoorK10
import Derived.Deep.AppendLies
import Derived.BigRegion
import Derived.Deep.OwnRows
import Derived.WalkMore
import Derived.Deep.LoopGhost
import Derived.Handy
import Derived.Deep.RegionLaw
namespace Go.Proofs.YtphighddlfabbaaDoor
set_option linter.unusedVariables false
set_option linter.unusedSimpArgs false
open Go.RowKit Go.PlainAid Go.Shelf
open Rx (Set4 RS Instr Rec MS)
theorem info78 : (Tryd.prog.info? 92).map (fun i => (i.zero, i.size, i.bytes)) = some (some (.agg #[.int .i64 0, .pointer none]), 2, 16) := by kernel_rfl
/-- how many marks are not set, read in memory -/
def markOf (w : World) (M a c : Nat) : Nat := match w.cell? ⟨M, 5 + a, none⟩ with
  | some (.slice (some ad) _ _) => (match w.cell? ⟨ad.block, c, none⟩ with
    | some (.int _ v) => v.toNat
    | _ => 0)
  | _ => 0
def unmOf (M n i : Nat) (w : World) : Nat := Rx.unm (markOf w M) (i + 1) n
theorem cnt_congr (f g : Nat → Nat) (v : Nat) : ∀ n, (∀ c, c < n → f c = g c) → Rx.cnt f v n = Rx.cnt g v n
  | 0, _ => rfl
  | n + 1, h => by
    unfold Rx.cnt
    rw [h n (by omega), cnt_congr f g v n fun c hc => h c (by omega)]
theorem unmOf_mc {W1 w : World} {M n : Nat} {pv : Value} {T : List Nat} {keeps : Bool} {i : Nat} {nv : Value} {nl : List (Nat × List Rec)} {st : MS} (h : Mc W1 w M n pv T keeps i nv nl st) : unmOf M n i w = Rx.unm st.seen (i + 1) n := by
  obtain ⟨g, xv, fv, h⟩ := h
  have e : ∀ a, a < 3 → ∀ c, c < n → markOf w M a c = st.seen a c := by
    intro a ha c hc
    unfold markOf
    rw [h.sc a ha]
    unfold sl
    simp only
    rw [h.mark_c a c ha hc]
    simp
  unfold unmOf Rx.unm
  rw [cnt_congr _ _ _ n (e 0 (by decide)), cnt_congr _ _ _ n (e 1 (by decide)), cnt_congr _ _ _ n (e 2 (by decide))]
/-- what a round of following owes the next -/
structure Fr (is : List Instr) (L : Nat) (keeps : Bool) (i a m N : Nat) (st : MS) (s : Nat) (p : List Rec) (RES : MS × Bool) : Prop where
  lt : s < is.length
  unm : Rx.unm st.seen (i + 1) is.length < m
  le : m ≤ N + 1
  len : st.next.length + Rx.unm st.seen (i + 1) is.length ≤ 300000
  res : Rx.follow is L keeps i m st s a p = RES
set_option maxHeartbeats 16000000 in
set_option maxRecDepth 100000 in
theorem follow_step {W1 : World} {M : Nat} {pv : Value} {is : List Instr} {T : List Nat} {keeps : Bool} {i : Nat} {nv : Value} {nl : List (Nat × List Rec)} {gp cap : Nat} (G : Pg W1 pv is gp cap) (hG : Rx.Good is) (hn : is.length ≤ 100000) (hi : i ≤ 100000000000) (N : Nat)
    (IH : ∀ m, m ≤ N → FolC W1 M pv is T keeps i nv nl m) : FolC W1 M pv is T keeps i nv nl (N + 1) := by
  intro st s a p q w hs ha hu hl H hp
  have CNo := Lib.hid (fun (st : MS) (s : Nat) (hs : s < is.length) (hm : st.seen a s = i + 1) (w : World) (H : Mc W1 w M is.length pv T keeps i nv nl st) => isNew_no s a hs ha hn hi hm w H)
  have CYes := Lib.hid (fun (st : MS) (s : Nat) (hs : s < is.length) (hm : st.seen a s ≠ i + 1) (w : World) (H : Mc W1 w M is.length pv T keeps i nv nl st) => isNew_yes s a hs ha hn hi hm w H)
  have HIH := Lib.hid IH
  have HGD := Lib.hid hG
  have HPG := Lib.hid G
  have HA3 := Lib.hid ha
  have hpv := G.val
  obtain ⟨i0, hi0, hz0, hz1, hz2⟩ := info_parts info78
  obtain ⟨RES, hRES⟩ : ∃ r, Rx.follow is T.length keeps i (N + 1) st s a p = r := ⟨_, rfl⟩
  have F0 := Lib.hid (show Fr is T.length keeps i a (N + 1) N st s p RES from ⟨hs, hu, Nat.le_refl _, hl, hRES⟩)
  rw [hRES]
  have M0 := Lib.hid H
  have P0 := Lib.hid hp
  obtain ⟨n, hn0⟩ : ∃ n, is.length = n := ⟨_, rfl⟩
  have HN := Lib.hid hn0
  have hn1 : n ≤ 100000 := by omega
  rw [hn0] at hpv
  unfold ptr
  clear hs hu hl H hp hRES IH hG G ha hn hn0
  go_enter Tryd.func34, Tryd.ntmps34
  go_wp2
  go_loopw [1, 3, 8] (fun r1 r3 r8 wr => r8 = .bool false ∧ ∃ (st' : MS) (s' : Nat) (p' : List Rec) (q' : Option Addr) (m' : Nat), r1 = .int .i64 ((s' : Nat) : Int) ∧ r3 = .pointer q' ∧ Hid (Fr is T.length keeps i a m' N st' s' p' RES) ∧ Hid (Mc W1 wr M is.length pv T keeps i nv nl st') ∧ Hid (RecAt wr p' (.pointer q')) ∧ Hid (K85 w wr)) (fun _ _ _ wr => unmOf M is.length i wr)
  case atStart => exact ⟨rfl, st, s, p, q, N + 1, rfl, rfl, F0, M0, P0, Lib.hid (K85.refl _)⟩
  case round =>
    obtain ⟨rfl, st', s', p', q', m', rfl, rfl, HF, HM, HP, HK⟩ := hrel
    have HU := Lib.hid (unmOf_mc HM.out)
    have hsl := HF.out.lt
    have hres := HF.out.res
    have hmu := HF.out.unm
    clear F0 M0 P0
    cases m' with
    | zero => omega
    | succ m =>
    by_cases hseen : st'.seen a s' = i + 1
    · rw [Rx.follow, if_pos hseen] at hres
      have CN1 := Lib.hid (CNo.out st' s' hsl hseen wr HM.out)
      have HR := Lib.hid hres
      unfold ptr at CN1
      clear hres hmu hsl hseen CNo CYes
      go_wp2_with fail
      refine CN1.out.mono ?_
      rintro e w1 ⟨rfl, h1, k1⟩
      have M1 := Lib.hid h1
      have K1 := Lib.hid (HK.out.trans k1)
      clear h1 k1
      go_wp2
      go_ret
      exact ⟨by rw [← HR.out] <;> rfl, by rw [← HR.out]; exact M1.out, K1.out⟩
    · obtain ⟨X, hX0⟩ : ∃ x, is[s']? = some x := ⟨_, List.getElem?_eq_getElem hsl⟩
      have hX : is[s'] = X := (List.getElem?_eq_some_iff.1 hX0).2
      rw [Rx.follow, if_neg hseen, hX0] at hres
      simp only at hres
      have CN1 := Lib.hid (CYes.out st' s' hsl hseen wr HM.out)
      have hum := Rx.unm_mark st' a s' (i + 1) is.length HA3.out hsl hseen
      have hln := HF.out.len
      have hle := HF.out.le
      have hnx0 : (st'.mark a s' (i + 1)).next = st'.next := rfl
      obtain ⟨S1, hS1⟩ : ∃ x, st'.mark a s' (i + 1) = x := ⟨_, rfl⟩
      rw [hS1] at hres CN1 hum hnx0
      have HS := Lib.hid (show Rx.unm S1.seen (i + 1) is.length < m ∧ Rx.unm S1.seen (i + 1) is.length < unmOf M is.length i wr ∧ S1.next.length + 1 + Rx.unm S1.seen (i + 1) is.length ≤ 300000 ∧ m ≤ N from ⟨by omega, by rw [HU.out]; exact hum, by rw [hnx0]; omega, by omega⟩)
      obtain ⟨ep, hat, hat2⟩ := HPG.out.here s' hsl
      have HAT := Lib.hid hat
      have HSL := Lib.hid hsl
      have hsn : ((s' : Nat) : Int) < ((n : Nat) : Int) := by have := HN.out; omega
      have HK8 := Lib.hid (HGD.out.kind s' X hX0)
      have HNX := Lib.hid (HGD.out.next s' X hX0)
      have HOT := Lib.hid (HGD.out.other s' X hX0)
      have HFI := Lib.hid (HPG.out.fit s' hsl)
      have CB := Lib.hid (fun h6 hn ho (p : List Rec) (q : Option Addr) (w : World) hl H hp => begin_any (m := m) (HIH.out m HS.out.2.2.2) HPG.out s' hsl h6 hn ho S1 a HA3.out p q w HS.out.1 hl H hp)
      have CR := Lib.hid (fun hn ho (p : List Rec) (q : Option Addr) (w : World) hl H hp => repeat_any (m := m) (HIH.out m HS.out.2.2.2) HPG.out s' hsl hn ho S1 a HA3.out p q w HS.out.1 hl H hp)
      have CF := Lib.hid (fun (st : MS) (s : Nat) (p : List Rec) (q : Option Addr) (w : World) hs hu hl H hp => HIH.out m HS.out.2.2.2 st s a p q w hs HA3.out hu hl H hp)
      rw [hX] at HAT HFI CB CR
      have HRS := Lib.hid hres
      unfold ptr at CN1 CB CR CF
      clear hres hmu hat2 hsl hseen CNo CYes hat hX hX0 hS1 hum hln hle hnx0 HF
      rcases (show X.kind = 0 ∨ X.kind = 1 ∨ X.kind = 2 ∨ X.kind = 3 ∨ X.kind = 4 ∨ X.kind = 5 ∨ X.kind = 6 ∨ X.kind = 7 ∨ X.kind = 8 from by have := HK8.out; omega) with hk | hk | hk | hk | hk | hk | hk | hk | hk
      · have hr := HRS.out
        simp only [Rx.act, hk, if_true] at hr
        have HR := Lib.hid hr
        clear hr CB CR CF
        go_wp2_with fail
        refine CN1.out.mono ?_
        rintro e w1 ⟨rfl, h1, k1⟩
        have M1 := Lib.hid h1
        have K1 := Lib.hid (HK.out.trans k1)
        have P1 := Lib.hid (HP.out.keep k1)
        have b0 := HAT.out w1 h1.below
        have kd := b0.kd
        rw [hk] at kd
        have m0 : w1.cell? ⟨M, 0, none⟩ = some pv := by obtain ⟨g, xv, fv, h⟩ := h1; exact h.c 0
        rw [hpv] at m0
        clear b0 k1
        obtain ⟨g, xv, fv, hv⟩ := h1
        obtain ⟨av, cv, hx⟩ := hv.next.shape
        subst hx
        have m4 : w1.cell? ⟨M, 4, none⟩ = some (.slice av S1.next.length cv) := hv.c 4
        have hb2 : Below w1.heap.size w1 (w1.alloc (.cells #[.int .i64 ((s' : Nat) : Int), .pointer q'] 92)) := (Below.refl _ _).alloc (Nat.le_refl _) _
        obtain ⟨xs, hsn2⟩ := hv.snoc s' p' (.pointer q') P1.out
        obtain ⟨hown, hfin⟩ := hsn2 _ hb2
        have HOW := Lib.hid hown
        have HFN := Lib.hid hfin
        have m4' : (w1.alloc (.cells #[.int .i64 ((s' : Nat) : Int), .pointer q'] 92)).cell? ⟨M, 4, none⟩ = some (.slice av S1.next.length cv) := (hb2.cell (p := ⟨M, 4, none⟩) hv.lt).trans m4
        have hlen : S1.next.length ≤ 300000 := by have := HS.out.2.2.1; omega
        have HMX := Lib.hid (show S1.next.length + 1 ≤ maxLen ∧ (S1.next.length + 1) * 16 ≤ 140737488355328 from ⟨by unfold maxLen; omega, by omega⟩)
        have HBS := Lib.hid (show W1.heap.size ≤ (w1.alloc (.cells #[.int .i64 ((s' : Nat) : Int), .pointer q'] 92)).heap.size from Nat.le_trans hv.below.size hb2.size)
        have HONE := Lib.hid (show ∀ u ∈ ([.int .i64 ((s' : Nat) : Int), .pointer q'] : List Value), u.oneCell' = true by simp [Value.oneCell'])
        have HSRC := Lib.hid (World.news_of_block (w := w1.alloc (.cells #[.int .i64 ((s' : Nat) : Int), .pointer q'] 92)) (heap_alloc_new w1 (.cells #[.int .i64 ((s' : Nat) : Int), .pointer q'] 92)))
        obtain ⟨LN, hLN⟩ : ∃ x, S1.next.length = x := ⟨_, rfl⟩
        rw [hLN] at m4 m4' HOW HFN HMX
        have HCF := Lib.hid (fun (w3 : World) (h : w3.heap[M]? = some (.cells (mcC is.length pv T keeps i nv g S1.fits (.slice av LN cv) fv) 89 (0, 0))) => show (∃ u, w3.cell? ⟨M, 4, none⟩ = some u) ∧ w3.frozen? ⟨M, 4, none⟩ = false from ⟨⟨_, cell_of_row _ _ 4 _ _ _ h⟩, frozen_of_row _ _ _ _ _ h⟩)
        clear hv hb2 hsn2 hown hfin hlen hLN HAT HSL HK8 HNX HOT HFI
        go_wp2_with (at_builtin; refine wpList_append_lies _ rfl (.tmp 46) (.tmp 50) 84 rfl W1.heap.size 92 i0 (.agg #[.int .i64 0, .pointer none]) 2 16 Tryd.underlying84 hi0 hz0 hz1 hz2 rfl (by decide) (.slice av LN cv) LN xs rfl HOW.out ⟨w1.heap.size, 0, none⟩ 1 1 [.int .i64 ((s' : Nat) : Int), .pointer q'] rfl rfl HSRC.out HONE.out (by decide) HMX.out.1 HMX.out.2 HBS.out _ rfl ?_; intro gq cq w3 h1 h2 h3 h4; obtain ⟨hM3, hMc, hKc⟩ := HFN.out gq cq w3 h1 h2 h3; obtain ⟨⟨u3, c3⟩, f3⟩ := HCF.out w3 hM3; have M3 := Lib.hid hMc; have K3 := Lib.hid hKc; clear h1 h2 h3 h4 hM3 hMc hKc)
        go_ret
        exact ⟨by rw [← HR.out] <;> rfl, by rw [← HR.out]; exact M3.out, K1.out.trans K3.out⟩
      · have hcc := HRS.out
        simp only [Rx.act, hk, if_true] at hcc
        simp only [show ¬ ((1 : Nat) = 0) from by decide, if_false] at hcc
        by_cases hL : i = T.length
        · rw [if_pos hL] at hcc
          have HR := Lib.hid hcc
          have hs1 := strOf_size T
          have hEq : (((i : Nat) : Int) == (((strOf T).size : Nat) : Int)) = true := by rw [hs1]; simp [hL]
          clear hcc CB CR CF hs1
          go_wp2_with fail
          refine CN1.out.mono ?_
          rintro e w1 ⟨rfl, h1, k1⟩
          have M1 := Lib.hid h1
          have K1 := Lib.hid (HK.out.trans k1)
          have P1 := Lib.hid (HP.out.keep k1)
          have b0 := HAT.out w1 h1.below
          have kd := b0.kd
          rw [hk] at kd
          have m0 : w1.cell? ⟨M, 0, none⟩ = some pv := by obtain ⟨g, xv, fv, h⟩ := h1; exact h.c 0
          rw [hpv] at m0
          clear b0 k1
          have m1 : w1.cell? ⟨M, 1, none⟩ = some (.string (strOf T)) := by obtain ⟨g, xv, fv, h⟩ := h1; exact h.c 1
          have m2 : w1.cell? ⟨M, 2, none⟩ = some (.int .i64 ((i : Nat) : Int)) := by obtain ⟨g, xv, fv, h⟩ := h1; exact h.c 2
          have m9 : w1.cell? ⟨M, 9, none⟩ = some (.bool S1.fits) := by obtain ⟨g, xv, fv, h⟩ := h1; exact h.c 9
          have HPT := Lib.hid (fun k => show Mc W1 (((w1.drewN k).setCell ⟨M, 9, none⟩ (.bool true)).setCell ⟨M, 10, none⟩ (.pointer q')) M is.length pv T keeps i nv nl { S1 with fits := true, path := p' } ∧ K85 w1 (((w1.drewN k).setCell ⟨M, 9, none⟩ (.bool true)).setCell ⟨M, 10, none⟩ (.pointer q')) from by
            obtain ⟨g, xv, fv, h⟩ := h1
            obtain ⟨r1, r2⟩ := (h.move (below_drewM w1 k)).path_to p' (.pointer q') (P1.out.drew k)
            exact ⟨⟨g, xv, _, r1⟩, (K85.drew w1 k).trans r2⟩)
          have HMM := Lib.hid (show (∃ u, w1.cell? ⟨M, 10, none⟩ = some u) ∧ (∀ j, w1.frozen? ⟨M, j, none⟩ = false) from by obtain ⟨g, xv, fv, h⟩ := h1; exact ⟨⟨_, h.c 10⟩, h.fz⟩)
          obtain ⟨u10, m10⟩ := HMM.out.1
          have f9 := HMM.out.2 9
          have f10 := HMM.out.2 10
          obtain ⟨D, hD⟩ : ∃ D, strOf T = D := ⟨_, rfl⟩
          rw [hD] at m1 hEq
          clear h1 hD HAT HSL HK8 HNX HOT HFI
          go_wp2
          go_quiet (fail)
          go_wp2
          go_ret
          exact ⟨by rw [← HR.out] <;> rfl, by rw [← HR.out]; exact (HPT.out _).1, K1.out.trans (HPT.out _).2⟩
        · rw [if_neg hL] at hcc
          have HR := Lib.hid hcc
          have hs1 := strOf_size T
          have hEq : (((i : Nat) : Int) == (((strOf T).size : Nat) : Int)) = false := by rw [hs1]; simp; omega
          clear hcc CB CR CF hs1
          go_wp2_with fail
          refine CN1.out.mono ?_
          rintro e w1 ⟨rfl, h1, k1⟩
          have M1 := Lib.hid h1
          have K1 := Lib.hid (HK.out.trans k1)
          have P1 := Lib.hid (HP.out.keep k1)
          have b0 := HAT.out w1 h1.below
          have kd := b0.kd
          rw [hk] at kd
          have m0 : w1.cell? ⟨M, 0, none⟩ = some pv := by obtain ⟨g, xv, fv, h⟩ := h1; exact h.c 0
          rw [hpv] at m0
          clear b0 k1
          have m1 : w1.cell? ⟨M, 1, none⟩ = some (.string (strOf T)) := by obtain ⟨g, xv, fv, h⟩ := h1; exact h.c 1
          have m2 : w1.cell? ⟨M, 2, none⟩ = some (.int .i64 ((i : Nat) : Int)) := by obtain ⟨g, xv, fv, h⟩ := h1; exact h.c 2
          obtain ⟨D, hD⟩ : ∃ D, strOf T = D := ⟨_, rfl⟩
          rw [hD] at m1 hEq
          clear h1 hD HAT HSL HK8 HNX HOT HFI
          go_wp2
          go_quiet (fail)
          go_wp2
          go_ret
          exact ⟨by rw [← HR.out] <;> rfl, by rw [← HR.out]; exact M1.out.drew _, K1.out.trans (K85.drew w1 _)⟩
      · have hcc := HRS.out
        simp only [Rx.act, hk, if_true] at hcc
        simp only [show ¬ ((2 : Nat) = 0) from by decide, show ¬ ((2 : Nat) = 1) from by decide, if_false] at hcc
        have CE := Lib.hid (fun (w1 : World) (H : Mc W1 w1 M is.length pv T keeps i nv nl S1) m => edges_any (w1.drewN m) (H.drew m))
        obtain ⟨E, hE0⟩ : ∃ E, Rx.edgesAt T.length i = E := ⟨_, rfl⟩
        have hE : E < 256 := by have := edges_lt T.length i; omega
        rw [hE0] at hcc CE
        have hand := u8_and_nat X.edge E HFI.out.2.1 hE
        by_cases hL : X.edge &&& E = 0
        · rw [if_pos hL] at hcc
          have HR := Lib.hid hcc
          rw [hL] at hand
          clear hcc CB CR CF hE0 hE hL
          go_wp2_with fail
          refine CN1.out.mono ?_
          rintro e w1 ⟨rfl, h1, k1⟩
          have M1 := Lib.hid h1
          have K1 := Lib.hid (HK.out.trans k1)
          have P1 := Lib.hid (HP.out.keep k1)
          have b0 := HAT.out w1 h1.below
          have kd := b0.kd
          rw [hk] at kd
          have m0 : w1.cell? ⟨M, 0, none⟩ = some pv := by obtain ⟨g, xv, fv, h⟩ := h1; exact h.c 0
          rw [hpv] at m0
          have ed := b0.ed
          have CE1 := Lib.hid (CE.out w1 h1)
          obtain ⟨XE, hXE⟩ : ∃ x, X.edge = x := ⟨_, rfl⟩
          rw [hXE] at ed hand
          unfold ptr at CE1
          clear h1 HAT HSL HK8 HNX HOT HFI b0 k1 CE hXE
          go_wp2
          go_quiet ((go_at_call 44; exact Calls.quiet_of (CE1.out _)))
          go_wp2
          go_ret
          exact ⟨by rw [← HR.out] <;> rfl, by rw [← HR.out]; exact M1.out.drew _, K1.out.trans (K85.drew w1 _)⟩
        · rw [if_neg hL] at hcc
          have FR := Lib.hid (show Fr is T.length keeps i a m N S1 X.next p' RES from ⟨HNX.out (by omega), HS.out.1, by have := HS.out.2.2.2; omega, by have := HS.out.2.2.1; omega, hcc⟩)
          obtain ⟨V, hV⟩ : ∃ v, X.edge &&& E = v := ⟨_, rfl⟩
          rw [hV] at hand hL
          have hV0 : (((V : Nat) : Int) == 0) = false := by simp; omega
          clear hcc CB CR CF hE0 hE hL hV
          go_wp2_with fail
          refine CN1.out.mono ?_
          rintro e w1 ⟨rfl, h1, k1⟩
          have M1 := Lib.hid h1
          have K1 := Lib.hid (HK.out.trans k1)
          have P1 := Lib.hid (HP.out.keep k1)
          have b0 := HAT.out w1 h1.below
          have kd := b0.kd
          rw [hk] at kd
          have m0 : w1.cell? ⟨M, 0, none⟩ = some pv := by obtain ⟨g, xv, fv, h⟩ := h1; exact h.c 0
          rw [hpv] at m0
          have ed := b0.ed
          have nx := b0.nx
          have CE1 := Lib.hid (CE.out w1 h1)
          have HD := Lib.hid (fun k => show RecAt (w1.drewN k) p' (.pointer q') ∧ Mc W1 (w1.drewN k) M is.length pv T keeps i nv nl S1 ∧ K85 w (w1.drewN k) ∧ unmOf M is.length i (w1.drewN k) < unmOf M is.length i wr from ⟨P1.out.drew k, h1.drew k, K1.out.trans (K85.drew w1 k), by rw [unmOf_mc (h1.drew k)]; exact HS.out.2.1⟩)
          obtain ⟨XE, hXE⟩ : ∃ x, X.edge = x := ⟨_, rfl⟩
          rw [hXE] at ed hand
          obtain ⟨NX, hNX⟩ : ∃ x, X.next = x := ⟨_, rfl⟩
          rw [hNX] at nx FR
          unfold ptr at CE1
          clear h1 HAT HSL HK8 HNX HOT HFI b0 k1 CE hXE hNX
          go_wp2
          go_quiet ((go_at_call 44; exact Calls.quiet_of (CE1.out _)))
          go_wp2
          go_roundw
          case rel => exact ⟨rfl, S1, NX, p', q', m, rfl, rfl, FR, Lib.hid (HD.out _).2.1, Lib.hid (HD.out _).1, Lib.hid (HD.out _).2.2.1⟩
          case measure => exact (HD.out _).2.2.2
      · have hcc := HRS.out
        simp only [Rx.act, hk, if_true] at hcc
        simp only [show ¬ ((3 : Nat) = 0) from by decide, show ¬ ((3 : Nat) = 1) from by decide, show ¬ ((3 : Nat) = 2) from by decide, if_false] at hcc
        have FR := Lib.hid (show Fr is T.length keeps i a m N S1 X.next (Rx.note keeps (.mark X.slot i) p') RES from ⟨HNX.out (by omega), HS.out.1, by have := HS.out.2.2.2; omega, by have := HS.out.2.2.1; omega, hcc⟩)
        have CM := Lib.hid (fun (w1 : World) (H : Mc W1 w1 M is.length pv T keeps i nv nl S1) (hp : RecAt w1 p' (.pointer q')) => note_mark X.slot p' q' w1 H hp)
        clear hcc CB CR CF
        go_wp2_with fail
        refine CN1.out.mono ?_
        rintro e w1 ⟨rfl, h1, k1⟩
        have M1 := Lib.hid h1
        have K1 := Lib.hid (HK.out.trans k1)
        have P1 := Lib.hid (HP.out.keep k1)
        have b0 := HAT.out w1 h1.below
        have kd := b0.kd
        rw [hk] at kd
        have m0 : w1.cell? ⟨M, 0, none⟩ = some pv := by obtain ⟨g, xv, fv, h⟩ := h1; exact h.c 0
        rw [hpv] at m0
        have nx := b0.nx
        have ss := b0.sl
        have HNX2 := Lib.hid (fun w2 (h : Mc W1 w2 M is.length pv T keeps i nv nl S1) => (HAT.out w2 h.below).nx)
        have m2 : w1.cell? ⟨M, 2, none⟩ = some (.int .i64 ((i : Nat) : Int)) := by obtain ⟨g, xv, fv, h⟩ := h1; exact h.c 2
        obtain ⟨NX, hNX⟩ : ∃ x, X.next = x := ⟨_, rfl⟩
        rw [hNX] at nx FR HNX2
        obtain ⟨SS, hSS⟩ : ∃ x, X.slot = x := ⟨_, rfl⟩
        rw [hSS] at ss FR CM
        unfold ptr recC at CM
        clear h1 HAT HSL HK8 HNX HOT HFI b0 k1 hNX hSS
        go_upto_region 24 with (fail)
        go_still_tail 11, (by kernel_rfl)
        change wpList _ _ _ _ _ (World.drew _)
        have MD := Lib.hid (M1.out.drew 1)
        have PD := Lib.hid (P1.out.drew 1)
        have KD := Lib.hid (K1.out.trans (K85.drew w1 1))
        change Hid (Mc W1 (World.drew w1) M is.length pv T keeps i nv nl S1) at MD
        change Hid (RecAt (World.drew w1) p' (.pointer q')) at PD
        change Hid (K85 w (World.drew w1)) at KD
        generalize World.drew w1 = wd at MD PD KD ⊢
        go_wp2_with fail
        refine (CM.out _ MD.out PD.out).mono ?_
        rintro e w3 ⟨q3, rfl, h3, k3, p3⟩
        have M3 := Lib.hid h3
        have P3 := Lib.hid p3
        have K3 := Lib.hid (KD.out.trans k3)
        have nx3 := HNX2.out w3 h3
        have HME := Lib.hid (show unmOf M is.length i w3 < unmOf M is.length i wr from by rw [unmOf_mc h3]; exact HS.out.2.1)
        clear h3 k3 p3 HNX2
        go_wp2
        go_roundw
        case rel => exact ⟨rfl, S1, NX, _, q3, m, rfl, rfl, FR, M3, P3, K3⟩
        case measure => exact HME.out
      · have hcc := HRS.out
        simp only [Rx.act, hk, if_true] at hcc
        simp only [show ¬ ((4 : Nat) = 0) from by decide, show ¬ ((4 : Nat) = 1) from by decide, show ¬ ((4 : Nat) = 2) from by decide, show ¬ ((4 : Nat) = 3) from by decide, if_false] at hcc
        have FR := Lib.hid (show Fr is T.length keeps i a m N S1 X.next p' RES from ⟨HNX.out (by omega), HS.out.1, by have := HS.out.2.2.2; omega, by have := HS.out.2.2.1; omega, hcc⟩)
        clear hcc CB CR CF
        go_wp2_with fail
        refine CN1.out.mono ?_
        rintro e w1 ⟨rfl, h1, k1⟩
        have M1 := Lib.hid h1
        have K1 := Lib.hid (HK.out.trans k1)
        have P1 := Lib.hid (HP.out.keep k1)
        have b0 := HAT.out w1 h1.below
        have kd := b0.kd
        rw [hk] at kd
        have m0 : w1.cell? ⟨M, 0, none⟩ = some pv := by obtain ⟨g, xv, fv, h⟩ := h1; exact h.c 0
        rw [hpv] at m0
        have nx := b0.nx
        have HME := Lib.hid (show unmOf M is.length i w1 < unmOf M is.length i wr from by rw [unmOf_mc h1]; exact HS.out.2.1)
        obtain ⟨NX, hNX⟩ : ∃ x, X.next = x := ⟨_, rfl⟩
        rw [hNX] at nx FR
        clear h1 HAT HSL HK8 HNX HOT HFI b0 k1 hNX
        go_wp2
        go_roundw
        case rel => exact ⟨rfl, S1, NX, p', q', m, rfl, rfl, FR, M1, P1, K1⟩
        case measure => exact HME.out
      · have hcc := HRS.out
        simp only [Rx.act, hk, if_true] at hcc
        simp only [show ¬ ((5 : Nat) = 0) from by decide, show ¬ ((5 : Nat) = 1) from by decide, show ¬ ((5 : Nat) = 2) from by decide, show ¬ ((5 : Nat) = 3) from by decide, show ¬ ((5 : Nat) = 4) from by decide, if_false] at hcc
        have dn := Rx.follow_dn is T.length keeps i m S1 X.next a p' HA3.out
        have C1 := Lib.hid (fun (w1 : World) H hp => CF.out S1 X.next p' q' w1 (HNX.out (by omega)) HS.out.1 (by have := HS.out.2.2.1; omega) H hp)
        obtain ⟨R1, hR1⟩ : ∃ r, Rx.follow is T.length keeps i m S1 X.next a p' = r := ⟨_, rfl⟩
        rw [hR1] at hcc dn C1
        obtain ⟨Q1, B1⟩ := R1
        cases B1
        · simp only [Bool.false_eq_true, if_false] at hcc
          have HDN := Lib.hid (show Rx.unm Q1.seen (i + 1) is.length < unmOf M is.length i wr from by have := dn.unm; have := HS.out.2.1; simp only at *; omega)
          have FR := Lib.hid (show Fr is T.length keeps i a m N Q1 X.other p' RES from ⟨HOT.out (by omega), by have := dn.unm; have := HS.out.1; simp only at *; omega, by have := HS.out.2.2.2; omega, by have := dn.len; have := HS.out.2.2.1; simp only at *; omega, hcc⟩)
          clear hcc CB CR CF dn hR1
          go_wp2_with fail
          refine CN1.out.mono ?_
          rintro e w1 ⟨rfl, h1, k1⟩
          have M1 := Lib.hid h1
          have K1 := Lib.hid (HK.out.trans k1)
          have P1 := Lib.hid (HP.out.keep k1)
          have b0 := HAT.out w1 h1.below
          have kd := b0.kd
          rw [hk] at kd
          have m0 : w1.cell? ⟨M, 0, none⟩ = some pv := by obtain ⟨g, xv, fv, h⟩ := h1; exact h.c 0
          rw [hpv] at m0
          have nx := b0.nx
          have C2 := Lib.hid (C1.out w1 h1 P1.out)
          have HO := Lib.hid (fun w2 (h : Mc W1 w2 M is.length pv T keeps i nv nl Q1) => (HAT.out w2 h.below).ot)
          obtain ⟨NX, hNX⟩ : ∃ x, X.next = x := ⟨_, rfl⟩
          rw [hNX] at nx C2
          obtain ⟨OT, hOT⟩ : ∃ x, X.other = x := ⟨_, rfl⟩
          rw [hOT] at HO FR
          clear h1 HAT HSL HK8 HNX HOT HFI b0 k1 hNX hOT C1
          go_wp2_with fail
          refine C2.out.mono ?_
          rintro e w3 ⟨rfl, h3, k3⟩
          have M3 := Lib.hid h3
          have P3 := Lib.hid (P1.out.keep k3)
          have K3 := Lib.hid (K1.out.trans k3)
          have ot := HO.out w3 h3
          have HME := Lib.hid (show unmOf M is.length i w3 < unmOf M is.length i wr from by rw [unmOf_mc h3]; exact HDN.out)
          clear h3 k3 HO
          go_wp2
          go_roundw
          case rel => exact ⟨rfl, Q1, OT, p', q', m, rfl, rfl, FR, M3, P3, K3⟩
          case measure => exact HME.out
        · simp only [if_true] at hcc
          have HR := Lib.hid hcc
          clear hcc CB CR CF dn hR1
          go_wp2_with fail
          refine CN1.out.mono ?_
          rintro e w1 ⟨rfl, h1, k1⟩
          have M1 := Lib.hid h1
          have K1 := Lib.hid (HK.out.trans k1)
          have P1 := Lib.hid (HP.out.keep k1)
          have b0 := HAT.out w1 h1.below
          have kd := b0.kd
          rw [hk] at kd
          have m0 : w1.cell? ⟨M, 0, none⟩ = some pv := by obtain ⟨g, xv, fv, h⟩ := h1; exact h.c 0
          rw [hpv] at m0
          have nx := b0.nx
          have C2 := Lib.hid (C1.out w1 h1 P1.out)
          obtain ⟨NX, hNX⟩ : ∃ x, X.next = x := ⟨_, rfl⟩
          rw [hNX] at nx C2
          clear h1 HAT HSL HK8 HNX HOT HFI b0 k1 hNX C1
          go_wp2_with fail
          refine C2.out.mono ?_
          rintro e w3 ⟨rfl, h3, k3⟩
          have M3 := Lib.hid h3
          have K3 := Lib.hid (K1.out.trans k3)
          clear h3 k3
          go_wp2
          go_ret
          exact ⟨by rw [← HR.out] <;> rfl, by rw [← HR.out]; exact M3.out, K3.out⟩
      · have hcc := HRS.out
        simp only [Rx.act, hk, if_true] at hcc
        simp only [show ¬ ((6 : Nat) = 0) from by decide, show ¬ ((6 : Nat) = 1) from by decide, show ¬ ((6 : Nat) = 2) from by decide, show ¬ ((6 : Nat) = 3) from by decide, show ¬ ((6 : Nat) = 4) from by decide, show ¬ ((6 : Nat) = 5) from by decide, if_false] at hcc
        have HR := Lib.hid hcc
        have C1 := Lib.hid (fun (w1 : World) H hp => CB.out hk (HNX.out (by omega)) (HOT.out (by omega)) p' q' w1 (by have := HS.out.2.2.1; omega) H hp)
        rw [hcc] at C1
        clear hcc CB CR CF 
        go_wp2_with fail
        refine CN1.out.mono ?_
        rintro e w1 ⟨rfl, h1, k1⟩
        have M1 := Lib.hid h1
        have K1 := Lib.hid (HK.out.trans k1)
        have P1 := Lib.hid (HP.out.keep k1)
        have b0 := HAT.out w1 h1.below
        have kd := b0.kd
        rw [hk] at kd
        have m0 : w1.cell? ⟨M, 0, none⟩ = some pv := by obtain ⟨g, xv, fv, h⟩ := h1; exact h.c 0
        rw [hpv] at m0
        have C2 := Lib.hid (C1.out w1 h1 P1.out)
        clear h1 HAT HSL HK8 HNX HOT HFI b0 k1 C1
        go_wp2_with fail
        refine C2.out.mono ?_
        rintro e w3 ⟨rfl, h3, k3⟩
        have M3 := Lib.hid h3
        have K3 := Lib.hid (K1.out.trans k3)
        clear h3 k3
        go_wp2
        go_ret
        exact ⟨rfl, M3.out, K3.out⟩
      · have hcc := HRS.out
        simp only [Rx.act, hk, if_true] at hcc
        simp only [show ¬ ((7 : Nat) = 0) from by decide, show ¬ ((7 : Nat) = 1) from by decide, show ¬ ((7 : Nat) = 2) from by decide, show ¬ ((7 : Nat) = 3) from by decide, show ¬ ((7 : Nat) = 4) from by decide, show ¬ ((7 : Nat) = 5) from by decide, show ¬ ((7 : Nat) = 6) from by decide, show ¬ ((7 : Nat) = 8 ∧ a ≠ 0) from fun h => absurd h.1 (by decide), if_false] at hcc
        have HR := Lib.hid hcc
        have C1 := Lib.hid (fun (w1 : World) H hp => CR.out (HNX.out (by omega)) (HOT.out (by omega)) p' q' w1 (by have := HS.out.2.2.1; omega) H hp)
        rw [hcc] at C1
        clear hcc CB CR CF 
        go_wp2_with fail
        refine CN1.out.mono ?_
        rintro e w1 ⟨rfl, h1, k1⟩
        have M1 := Lib.hid h1
        have K1 := Lib.hid (HK.out.trans k1)
        have P1 := Lib.hid (HP.out.keep k1)
        have b0 := HAT.out w1 h1.below
        have kd := b0.kd
        rw [hk] at kd
        have m0 : w1.cell? ⟨M, 0, none⟩ = some pv := by obtain ⟨g, xv, fv, h⟩ := h1; exact h.c 0
        rw [hpv] at m0
        have C2 := Lib.hid (C1.out w1 h1 P1.out)
        clear h1 HAT HSL HK8 HNX HOT HFI b0 k1 C1
        go_wp2_with fail
        refine C2.out.mono ?_
        rintro e w3 ⟨rfl, h3, k3⟩
        have M3 := Lib.hid h3
        have K3 := Lib.hid (K1.out.trans k3)
        clear h3 k3
        go_wp2
        go_ret
        exact ⟨rfl, M3.out, K3.out⟩
      · have hcc := HRS.out
        simp only [Rx.act, hk, if_true] at hcc
        simp only [show ¬ ((8 : Nat) = 0) from by decide, show ¬ ((8 : Nat) = 1) from by decide, show ¬ ((8 : Nat) = 2) from by decide, show ¬ ((8 : Nat) = 3) from by decide, show ¬ ((8 : Nat) = 4) from by decide, show ¬ ((8 : Nat) = 5) from by decide, show ¬ ((8 : Nat) = 6) from by decide, show ¬ ((8 : Nat) = 7) from by decide, if_false] at hcc
        by_cases ha0 : a = 0
        · rw [if_neg (fun h => h.2 ha0)] at hcc
          have hq : (((a : Nat) : Int) == 0) = true := by simp [ha0]
          clear ha0
          have HR := Lib.hid hcc
          have C1 := Lib.hid (fun (w1 : World) H hp => CR.out (HNX.out (by omega)) (HOT.out (by omega)) p' q' w1 (by have := HS.out.2.2.1; omega) H hp)
          rw [hcc] at C1
          clear hcc CB CR CF 
          go_wp2_with fail
          refine CN1.out.mono ?_
          rintro e w1 ⟨rfl, h1, k1⟩
          have M1 := Lib.hid h1
          have K1 := Lib.hid (HK.out.trans k1)
          have P1 := Lib.hid (HP.out.keep k1)
          have b0 := HAT.out w1 h1.below
          have kd := b0.kd
          rw [hk] at kd
          have m0 : w1.cell? ⟨M, 0, none⟩ = some pv := by obtain ⟨g, xv, fv, h⟩ := h1; exact h.c 0
          rw [hpv] at m0
          have C2 := Lib.hid (C1.out w1 h1 P1.out)
          clear h1 HAT HSL HK8 HNX HOT HFI b0 k1 C1
          go_wp2_with fail
          refine C2.out.mono ?_
          rintro e w3 ⟨rfl, h3, k3⟩
          have M3 := Lib.hid h3
          have K3 := Lib.hid (K1.out.trans k3)
          clear h3 k3
          go_wp2
          go_ret
          exact ⟨rfl, M3.out, K3.out⟩
        · rw [if_pos ⟨trivial, ha0⟩] at hcc
          have hq : (((a : Nat) : Int) == 0) = false := by simp [ha0]
          have HR := Lib.hid hcc
          have ha2 : (((a : Nat) : Int) == 2) = decide (a = 2) := by
            by_cases e : a = 2
            · simp [e]
            · simp [e]; omega
          obtain ⟨B2, hB2⟩ : ∃ b, decide (a = 2) = b := ⟨_, rfl⟩
          rw [hB2] at ha2 HR
          clear hcc CB CR CF ha0 hB2
          go_wp2_with fail
          refine CN1.out.mono ?_
          rintro e w1 ⟨rfl, h1, k1⟩
          have M1 := Lib.hid h1
          have K1 := Lib.hid (HK.out.trans k1)
          have P1 := Lib.hid (HP.out.keep k1)
          have b0 := HAT.out w1 h1.below
          have kd := b0.kd
          rw [hk] at kd
          have m0 : w1.cell? ⟨M, 0, none⟩ = some pv := by obtain ⟨g, xv, fv, h⟩ := h1; exact h.c 0
          rw [hpv] at m0
          clear h1 HAT HSL HK8 HNX HOT HFI b0 k1
          go_wp2
          go_ret
          exact ⟨by rw [← HR.out] <;> rfl, by rw [← HR.out]; exact M1.out, K1.out⟩
/-- following, with any fuel -/
theorem follow_any {W1 : World} {M : Nat} {pv : Value} {is : List Instr} {T : List Nat} {keeps : Bool} {i : Nat} {nv : Value} {nl : List (Nat × List Rec)} {gp cap : Nat} (G : Pg W1 pv is gp cap) (hG : Rx.Good is) (hn : is.length ≤ 100000) (hi : i ≤ 100000000000) : ∀ m, FolC W1 M pv is T keeps i nv nl m := by
  intro m
  induction m using Nat.strongRecOn with
  | ind m ih =>
    cases m with
    | zero => intro st s a p q w _ _ hu; omega
    | succ N => exact follow_step G hG hn hi N fun k hk => ih k (by omega)
end Go.Proofs.YtphighddlfabbaaDoor
namespace Go.Proofs.YtphighddlfabbaaDoor
set_option linter.unusedVariables false
set_option linter.unusedSimpArgs false
open Go.RowKit Go.PlainAid Go.Shelf
open Rx (Set4 RS Instr Rec MS)
/-- the rows of marks that are made so far -/
def sv (g : Nat → Nat) (n k j : Nat) : Value := if k < j then sl (g k) n else .slice none 0 0
structure Mk (W1 w : World) (M n : Nat) (pv : Value) (T : List Nat) (g : Nat → Nat) (j : Nat) : Prop where
  below : Below W1.heap.size W1 w
  ge : W1.heap.size ≤ M
  cell : w.heap[M]? = some (.cells #[pv, .string (strOf T), .int .i64 0, .slice none 0 0, .slice none 0 0, sv g n 0 j, sv g n 1 j, sv g n 2 j, .bool false, .bool false, .pointer none] 89 (0, 0))
  row : ∀ a, a < j → M < g a ∧ w.heap[g a]? = some (.cells (seenC (fun _ => 0) n) 3 (0, 0))
  apart : ∀ a b, a < j → b < j → a ≠ b → g a ≠ g b
theorem seenC_zero (n : Nat) : seenC (fun _ => 0) n = Array.replicate n (.int .i64 0) := by
  apply Array.ext'
  unfold seenC
  simp only [Array.toList_replicate]
  apply List.ext_getElem?
  intro i
  by_cases h : i < n
  · simp [List.getElem?_range h, List.getElem?_replicate, h]
  · have h0 : (List.range n)[i]? = none := List.getElem?_eq_none (by simp; omega)
    simp [h0, List.getElem?_replicate, h]
/-- one row more -/
theorem Mk.step {W1 w : World} {M n : Nat} {pv : Value} {T : List Nat} {g : Nat → Nat} {j : Nat} (h : Mk W1 w M n pv T g j) (hj : j < 3) : ∀ w2, Below w.heap.size w w2 → w2.heap[w2.heap.size - 1]? = some (.cells (seenC (fun _ => 0) n) 3 (0, 0)) → w.heap.size ≤ w2.heap.size - 1 →
    ∃ g', Mk W1 (w2.setCell ⟨M, 5 + j, none⟩ (sl (w2.heap.size - 1) n)) M n pv T g' (j + 1) := by
  intro w2 hb hnew hsz
  have hM := lt_of_row h.cell
  have hM2 : w2.heap[M]? = some _ := (hb.block M hM).trans h.cell
  obtain ⟨B, hB⟩ : ∃ B, w2.heap.size - 1 = B := ⟨_, rfl⟩
  rw [hB] at hnew hsz ⊢
  refine ⟨fun a => if a = j then B else g a, (h.below.trans (hb.mono h.below.size)).setCell h.ge _, h.ge, ?_, fun a ha => ?_, fun a b ha hb2 hab => ?_⟩
  · rw [heap_setCell_same _ _ _ _ _ _ hM2]
    rcases (by omega : j = 0 ∨ j = 1 ∨ j = 2) with rfl | rfl | rfl <;> simp [sv]
  · by_cases e : a = j
    · subst e
      simp only [if_true]
      exact ⟨by omega, by rw [heap_setCell_other _ _ _ _ (by show B ≠ M; omega)]; exact hnew⟩
    · rw [if_neg e]
      obtain ⟨r1, r2⟩ := h.row a (by omega)
      refine ⟨r1, ?_⟩
      rw [heap_setCell_other _ _ _ _ (by show g a ≠ M; omega)]
      exact (hb.block _ (lt_of_row r2)).trans r2
  · have hlt : ∀ c, c < j → g c < B := fun c hc => by have := lt_of_row (h.row c hc).2; omega
    by_cases e1 : a = j
    · by_cases e2 : b = j
      · omega
      · rw [if_pos e1, if_neg e2]; have := hlt b (by omega); omega
    · by_cases e2 : b = j
      · rw [if_neg e1, if_pos e2]; have := hlt a (by omega); omega
      · rw [if_neg e1, if_neg e2]; exact h.apart a b (by omega) (by omega) hab
theorem Mk.drew {W1 w : World} {M n : Nat} {pv : Value} {T : List Nat} {g : Nat → Nat} {j : Nat} (h : Mk W1 w M n pv T g j) : Mk W1 w.drew M n pv T g j := ⟨h.below.drew, h.ge, h.cell, h.row, h.apart⟩
theorem Mk.whole {W1 w : World} {M n : Nat} {pv : Value} {T : List Nat} {g : Nat → Nat} (h : Mk W1 w M n pv T g 3) : Mc W1 w M n pv T false 0 nilS [] Rx.start0 := by
  refine ⟨g, nilS, nilP, h.below, h.ge, ?_, rfl, fun a ha => ⟨?_, (h.row a ha).2⟩, h.apart, Thr.nil _ _, Thr.nil _ _, fun k hk => by cases hk⟩
  · rw [h.cell]; rfl
  · have := (h.row a ha).1
    have := h.ge
    omega
theorem made_seen (n : Nat) : madeCells #[Value.int .i64 0] n = seenC (fun _ => 0) n := by
  rw [seenC_zero]
  apply Array.ext'
  apply List.ext_getElem?
  intro i
  by_cases hi : i < n
  · simp [madeCells, hi, Nat.mod_one, List.getElem?_replicate]
  · have h1 : (madeCells #[Value.int .i64 0] n).toList.length = n := by simp [madeCells]
    have h2 : (Array.replicate n (Value.int .i64 0)).toList.length = n := by simp
    rw [List.getElem?_eq_none (by omega), List.getElem?_eq_none (by omega)]
theorem Mk.next {W1 w : World} {M n : Nat} {pv : Value} {T : List Nat} {g : Nat → Nat} {j : Nat} (h : Mk W1 w M n pv T g j) (hj : j < 3) (w1 : World) (hb : Below w.heap.size w w1) :
    ∃ g', Mk W1 ((w1.alloc (.cells (seenC (fun _ => 0) n) 3)).setCell ⟨M, 5 + j, none⟩ (.slice (some ⟨w1.heap.size, 0, none⟩) n n)) M n pv T g' (j + 1) := by
  have hs : (w1.alloc (.cells (seenC (fun _ => 0) n) 3)).heap.size - 1 = w1.heap.size := by simp
  have := h.step hj (w1.alloc (.cells (seenC (fun _ => 0) n) 3)) (hb.alloc hb.size _) (by rw [hs]; exact heap_alloc_new w1 _) (by rw [hs]; exact hb.size)
  rw [hs] at this
  exact this
set_option maxHeartbeats 4000000 in
set_option maxRecDepth 100000 in
theorem newMachine_any (gp n cap : Nat) (T : List Nat) (hn : n ≤ 100000) (w : World) :
    Calls Tryd.prog 28 #[.slice (some ⟨gp, 0, none⟩) n cap, .string (strOf T)] w fun e w' => ∃ M, e = .returned (ptr M) ∧ Mc w w' M n (.slice (some ⟨gp, 0, none⟩) n cap) T false 0 nilS [] Rx.start0 := by
  have hmk := fun W : World => run_make_row' (P := Tryd.prog) 85 3 (.int .i64 0) 8 Tryd.underlying85 infoI rfl .i64 .i64 n (by omega) (by omega) W
  rw [made_seen] at hmk
  have K0 := Lib.hid (show Mk w (w.alloc (.cells #[.slice (some ⟨gp, 0, none⟩) n cap, .string (strOf T), .int .i64 0, .slice none 0 0, .slice none 0 0, .slice none 0 0, .slice none 0 0, .slice none 0 0, .bool false, .bool false, .pointer none] 89)) w.heap.size n (.slice (some ⟨gp, 0, none⟩) n cap) T (fun _ => 0) 0 from
    ⟨(Below.refl _ _).alloc (Nat.le_refl _) _, Nat.le_refl _, heap_alloc_new w _, fun a ha => by omega, fun a b ha => by omega⟩)
  obtain ⟨D, hD⟩ : ∃ D, strOf T = D := ⟨_, rfl⟩
  obtain ⟨C0, hC0⟩ : ∃ C, seenC (fun _ => 0) n = C := ⟨_, rfl⟩
  rw [hC0] at hmk
  have HC := Lib.hid hC0
  have HD := Lib.hid hD
  rw [hD] at K0 ⊢
  clear hC0 hD
  go_enter Tryd.func28, Tryd.ntmps28
  go_wp2
  go_loopw [11] (fun r wr => ∃ (j : Nat) (g : Nat → Nat), j ≤ 3 ∧ r = .int .i64 ((j : Nat) : Int) ∧ Hid (Mk w wr w.heap.size n (.slice (some ⟨gp, 0, none⟩) n cap) T g j)) (fun r _ => 3 - (intOf r).toNat)
  case atStart => exact ⟨0, _, by omega, rfl, K0⟩
  case round =>
    obtain ⟨j, g, hj, rfl, HK⟩ := hrel
    by_cases h3 : j < 3
    · have hM : w.heap.size < wr.heap.size := lt_of_row HK.out.cell
      have c5 : wr.cell? ⟨w.heap.size, 5 + j, none⟩ = some (.slice none 0 0) := by
        rw [cell_of_row _ _ _ _ _ _ HK.out.cell]
        rcases (by omega : j = 0 ∨ j = 1 ∨ j = 2) with rfl | rfl | rfl <;> simp [sv]
      have f5 : wr.frozen? ⟨w.heap.size, 5 + j, none⟩ = false := frozen_of_row _ _ _ _ _ HK.out.cell
      have HX := HK.out.next h3 wr (Below.refl _ _)
      rw [HC.out, World.setCell_alloc_past _ _ _ _ hM] at HX
      have hb := Below.refl wr.heap.size wr
      have HX := Lib.hid HX
      have hj3 : ((j : Nat) : Int) < 3 := by omega
      have hj1 : RowKit.wrap64 (((j : Nat) : Int) + 1) = ((j : Nat) : Int) + 1 := IntWalk.wrap64_in _ ⟨by omega, by omega⟩
      clear hb K0
      go_wp2
      go_region
      go_wp2
      go_roundw
      case rel =>
        obtain ⟨g', hg⟩ := HX.out
        exact ⟨j + 1, g', by omega, by rw [Int.natCast_add]; rfl, Lib.hid hg.drew⟩
      case measure =>
        simp only [intOf]
        omega
    · have : j = 3 := by omega
      subst this
      have HW := Lib.hid HK.out.whole
      clear HK K0 hmk
      go_wp2
      go_ret
      exact ⟨_, rfl, HW.out⟩
end Go.Proofs.YtphighddlfabbaaDoor
namespace Go.Proofs.YtphighddlfabbaaDoor
set_option linter.unusedVariables false
set_option linter.unusedSimpArgs false
open Go.RowKit Go.PlainAid Go.Shelf
open Rx (Set4 RS Instr Rec MS)
theorem flat_get2 : ∀ (xs : List (List Value)) (k j : Nat), (∀ l ∈ xs, l.length = 2) → j < 2 → ∀ (hk : k < xs.length), xs.flatten[k * 2 + j]? = xs[k][j]?
  | [], _, _, _, _, hk => by simp at hk
  | x :: xs, 0, j, h, hj, _ => by
    have hx := h x (by simp)
    simp only [List.flatten_cons, Nat.zero_mul, Nat.zero_add, List.getElem_cons_zero]
    rw [List.getElem?_append_left (by omega)]
  | x :: xs, k + 1, j, h, hj, hk => by
    have hx := h x (by simp)
    simp only [List.flatten_cons, List.getElem_cons_succ]
    rw [List.getElem?_append_right (by omega), hx, show (k + 1) * 2 + j - 2 = k * 2 + j by omega]
    exact flat_get2 xs k j (fun l hl => h l (by simp [hl])) hj (by simpa using hk)
theorem Thr.at' {w : World} {base : Nat} {a : Option Addr} {N cap : Nat} {l : List (Nat × List Rec)} (h : Thr w base (.slice a N cap) l) (k : Nat) (hk : k < l.length) : N = l.length ∧ ∃ g q, a = some ⟨g, 0, none⟩ ∧
    w.cell? ⟨g, k * 2, none⟩ = some (.int .i64 ((l[k].1 : Nat) : Int)) ∧ w.cell? ⟨g, k * 2 + 1, none⟩ = some (.pointer q) ∧ RecAt w l[k].2 (.pointer q) := by
  obtain ⟨xs, h4, h5, h6⟩ := h
  have hlen : ∀ y ∈ xs, y.length = 2 := by
    intro y hy
    obtain ⟨j, hj, rfl⟩ := List.getElem_of_mem hy
    obtain ⟨u, e, _⟩ := h6 j (by omega)
    rw [List.getElem?_eq_getElem hj, Option.some.injEq] at e
    rw [e]; rfl
  have hN : N = l.length := by
    rcases h5.2 with ⟨e, h0⟩ | ⟨g, cp, cur, e, _⟩
    · omega
    · cases e; rfl
  subst hN
  obtain ⟨g, cp, hv, _, _⟩ := h5.form (by omega)
  cases hv
  obtain ⟨u, e, hr⟩ := h6 k hk
  obtain ⟨q, rfl⟩ := hr.ptr
  have hkx : k < xs.length := by omega
  have e' : xs[k] = [.int .i64 ((l[k].1 : Nat) : Int), .pointer q] := by rw [List.getElem?_eq_getElem hkx, Option.some.injEq] at e; exact e
  refine ⟨rfl, g, q, rfl, ?_, ?_, hr⟩
  · have := h5.cellAt (k * 2) (by omega)
    rw [this, ← Nat.add_zero (k * 2), flat_get2 xs k 0 hlen (by decide) hkx, e']
    rfl
  · rw [h5.cellAt (k * 2 + 1) (by omega), flat_get2 xs k 1 hlen (by decide) hkx, e']
    rfl
theorem Thr.cut {w : World} {base : Nat} {a : Option Addr} {N cap : Nat} {l : List (Nat × List Rec)} (h : Thr w base (.slice a N cap) l) : Thr w base (.slice a 0 cap) [] := by
  obtain ⟨xs, h4, h5, h6⟩ := h
  refine ⟨[], rfl, ⟨rfl, ?_⟩, fun k hk => by simp at hk⟩
  rcases h5.2 with ⟨e, h0⟩ | ⟨g, cp, cur, e, h7, h8, h9, h10, h11, h12⟩
  · cases e; exact .inl ⟨rfl, rfl⟩
  · cases e; exact .inr ⟨g, _, cur, rfl, h7, h8, Nat.zero_le _, h10, h11, by simp⟩
theorem Thr.cap {w : World} {base : Nat} {a : Option Addr} {N cap : Nat} {l : List (Nat × List Rec)} (h : Thr w base (.slice a N cap) l) : cap ≤ maxLen ∧ N ≤ cap ∧ N = l.length ∧ (a = none → cap = 0) := by
  obtain ⟨xs, h4, h5, h6⟩ := h
  rcases h5.2 with ⟨e, h0⟩ | ⟨g, cp, cur, e, h7, h8, h9, h10, h11, h12⟩
  · cases e; exact ⟨by decide, Nat.le_refl _, h0.symm, fun _ => rfl⟩
  · cases e; exact ⟨h10, h9, rfl, fun e => by cases e⟩
section
variable {W1 w : World} {M n : Nat} {pv : Value} {T : List Nat} {keeps : Bool} {i : Nat} {nl : List (Nat × List Rec)} {st : MS} {g : Nat → Nat} {xv fv : Value} {a : Option Addr} {N cap : Nat}
theorem McV.swap (h : McV W1 w M n pv T keeps i (.slice a N cap) nl st g xv fv) : McV W1 ((w.setCell ⟨M, 3, none⟩ xv).setCell ⟨M, 4, none⟩ (.slice a 0 cap)) M n pv T keeps i xv st.next { st with next := [] } g (.slice a 0 cap) fv := by
  have hM := lt_of_row h.cell
  have e1 : ∀ k, k ≠ M → ((w.setCell ⟨M, 3, none⟩ xv).setCell ⟨M, 4, none⟩ (.slice a 0 cap)).heap[k]? = w.heap[k]? := fun k hk => by rw [heap_setCell_other _ _ _ _ hk, heap_setCell_other _ _ _ _ hk]
  have c1 := heap_setCell_same w M 3 _ 89 xv h.cell
  have c2 := heap_setCell_same _ M 4 _ 89 (.slice a 0 cap) c1
  have k1 : K85 w ((w.setCell ⟨M, 3, none⟩ xv).setCell ⟨M, 4, none⟩ (.slice a 0 cap)) := (K85.set h.cell (by decide) 3 xv).trans (K85.set c1 (by decide) 4 _)
  have ne : ∀ {x : Nat} {cs : Array Value} {t : TypeId}, w.heap[x]? = some (.cells cs t (0, 0)) → t ≠ 89 → x ≠ M := by
    intro x cs t hx ht e
    subst e
    rw [h.cell] at hx
    cases hx
    exact ht rfl
  refine ⟨(h.below.setCell h.ge _).setCell h.ge _, h.ge, by rw [c2]; rfl, h.path.keep k1, fun b hb => ⟨(h.row b hb).1, (e1 _ (ne (h.row b hb).2 (by decide))).trans (h.row b hb).2⟩, h.apart, ?_, ?_, fun k hk hk2 => h.two k hk2 (by cases a <;> exact hk)⟩
  · exact h.now.cut.move k1 (fun x hx => by obtain ⟨_, cur, hc⟩ := h.now.cut.block x hx; exact e1 x (ne hc (by decide)))
  · exact h.next.move k1 (fun x hx => by obtain ⟨_, cur, hc⟩ := h.next.block x hx; exact e1 x (ne hc (by decide)))
theorem McV.tick {nv : Value} (h : McV W1 w M n pv T keeps i nv nl st g xv fv) : McV W1 (w.setCell ⟨M, 2, none⟩ (.int .i64 (((i + 1 : Nat)) : Int))) M n pv T keeps (i + 1) nv nl st g xv fv :=
  (h.put 2 (.int .i64 (((i + 1 : Nat)) : Int)) (i + 1) nv nl st xv fv rfl rfl h.path h.next h.now h.two).1
end
/-- how far the machine is, read in memory -/
def atOf (M : Nat) (w : World) : Nat := match w.cell? ⟨M, 2, none⟩ with
  | some (.int _ v) => v.toNat
  | _ => 0
theorem atOf_mc {W1 w : World} {M n : Nat} {pv : Value} {T : List Nat} {keeps : Bool} {i : Nat} {nv : Value} {nl : List (Nat × List Rec)} {st : MS} (h : Mc W1 w M n pv T keeps i nv nl st) : atOf M w = i := by
  obtain ⟨g, xv, fv, h⟩ := h
  unfold atOf
  have : w.cell? ⟨M, 2, none⟩ = some (.int .i64 ((i : Nat) : Int)) := h.c 2
  rw [this]
  simp
end Go.Proofs.YtphighddlfabbaaDoor
namespace Go.Proofs.YtphighddlfabbaaDoor
set_option linter.unusedVariables false
set_option linter.unusedSimpArgs false
open Go.RowKit Go.PlainAid Go.Shelf
open Rx (Set4 RS Instr Rec MS)
theorem wrap_k (k L : Nat) (h : k < L) (hL : L ≤ 9223372036854775807) : RowKit.wrap64 (((k : Nat) : Int) + 1) = ((k : Nat) : Int) + 1 := IntWalk.wrap64_in _ ⟨by omega, by omega⟩
theorem meas_k (L k : Nat) (h : k < L) : L - (((k : Nat) : Int) + 1).toNat < L - (((k : Nat) : Int)).toNat := by omega
/-- what is listed wants a byte -/
def Nx (is : List Instr) (st : MS) : Prop := ∀ x ∈ st.next, ∃ y, is[x.1]? = some y ∧ y.kind = 0
theorem follow_nx {is : List Instr} (hG : Rx.Good is) (T : List Nat) (keeps : Bool) (i m : Nat) (st : MS) (s a : Nat) (p : List Rec) (h : Nx is st) (hs : s < is.length) (ha : a < 3) (hu : Rx.unm st.seen (i + 1) is.length < m) : Nx is (Rx.follow is T.length keeps i m st s a p).1 := by
  obtain ⟨hE, _, _⟩ := Rx.follow_fine (T := T) (i := i) (Q := fun _ => True) hG (fun _ _ _ _ => trivial) keeps m st s a p hs ha hu trivial
  obtain ⟨l, e1, e2⟩ := hE.next
  intro x hx
  rw [e1] at hx
  rcases List.mem_append.1 hx with hx | hx
  · exact h x hx
  · exact (e2 x hx).2
set_option maxHeartbeats 16000000 in
set_option maxRecDepth 100000 in
theorem run_any {W1 : World} {M : Nat} {pv : Value} {is : List Instr} {T : List Nat} {keeps : Bool} {gp cap : Nat} (G : Pg W1 pv is gp cap) (hG : Rx.Good is) (h0 : 0 < is.length) (hn : is.length ≤ 100000) (hT : IsB T) (hL : T.length ≤ 10000000000) (w : World) (H : Mc W1 w M is.length pv T keeps 0 nilS [] Rx.start0) :
    Calls Tryd.prog 29 #[ptr M] w fun e w' => e = .returned (.bool (Rx.runM is T keeps).fits) ∧ ∃ i nv nl, Mc W1 w' M is.length pv T keeps i nv nl (Rx.runM is T keeps) := by
  have HF := Lib.hid (fun (i : Nat) (hi : i ≤ 100000000000) (nv : Value) (nl : List (Nat × List Rec)) (st : MS) (s : Nat) (p : List Rec) (q : Option Addr) (w : World) (hs : s < is.length) (hl : st.next.length + Rx.unm st.seen (i + 1) is.length ≤ 300000) (H : Mc W1 w M is.length pv T keeps i nv nl st) (hp : RecAt w p (.pointer q)) =>
    follow_any (T := T) (keeps := keeps) (nv := nv) (nl := nl) G hG hn hi (Rx.fuel is) st s 0 p q w hs (by decide) (by have := Rx.unm_le st.seen (i + 1) is.length; unfold Rx.fuel; omega) hl H hp)
  have HPG := Lib.hid G
  have HGD := Lib.hid hG
  have HTB := Lib.hid hT
  have HLN := Lib.hid hL
  have hpv := G.val
  have C0 := Lib.hid (HF.out 0 (by omega) nilS [] Rx.start0 0 [] none w h0 (by have := Rx.unm_le Rx.start0.seen (0 + 1) is.length; show 0 + _ ≤ _; omega) H rfl)
  obtain ⟨R0, hR0⟩ : ∃ r, Rx.follow is T.length keeps 0 (Rx.fuel is) Rx.start0 0 0 [] = r := ⟨_, rfl⟩
  obtain ⟨RES, hRES⟩ : ∃ r, Rx.runM is T keeps = r := ⟨_, rfl⟩
  have hloop : Rx.loopM is T.length keeps (T.drop 0) 0 R0.1 = RES := by rw [← hRES, ← hR0, List.drop_zero]; rfl
  have NX0 := Lib.hid (show Nx is R0.1 from by rw [← hR0]; exact follow_nx hG T keeps 0 _ _ 0 0 [] (fun x hx => by simp [Rx.start0] at hx) h0 (by decide) (by have := Rx.unm_le Rx.start0.seen (0 + 1) is.length; unfold Rx.fuel; omega))
  rw [hR0] at C0
  rw [show ((0 : Nat) : Int) = 0 from rfl] at C0
  rw [hRES]
  have HRS := Lib.hid hloop
  have HUN := Lib.hid (fun (f : Nat → Nat → Nat) (v : Nat) => Rx.unm_le f v is.length)
  obtain ⟨n, hn0⟩ : ∃ n, is.length = n := ⟨_, rfl⟩
  have HN := Lib.hid hn0
  have HN1 := Lib.hid hn
  rw [hn0] at hpv
  obtain ⟨D, hD⟩ : ∃ D, strOf T = D := ⟨_, rfl⟩
  have HD := Lib.hid hD
  have hds : D.size = T.length := by rw [← hD, strOf_size]
  obtain ⟨L, hLL⟩ : ∃ l, T.length = l := ⟨_, rfl⟩
  have HLL := Lib.hid hLL
  rw [hLL] at hds
  unfold ptr at C0 ⊢
  clear G hG h0 hn hT hL H hR0 hRES hloop hn0 hD hLL
  go_enter Tryd.func29, Tryd.ntmps29
  go_wp2
  go_step3
  go_wp2_with fail
  refine C0.out.mono ?_
  rintro e wa ⟨rfl, ha, _⟩
  have MA := Lib.hid ha
  clear ha C0
  go_wp2
  go_step3
  go_wp2
  go_loopw [] (fun wr => ∃ (i : Nat) (nv : Value) (nl : List (Nat × List Rec)) (st : MS), i ≤ L ∧ Hid (Mc W1 wr M is.length pv T keeps i nv nl st) ∧ Hid (Rx.loopM is T.length keeps (T.drop i) i st = RES) ∧ Hid (Nx is st)) (fun wr => L - atOf M wr)
  case atStart => exact ⟨0, _, _, R0.1, by omega, MA, HRS, NX0⟩
  case round =>
    obtain ⟨i, nv, nl, st, hiL, HM, HR, HNX⟩ := hrel
    clear MA HRS
    have HAT := Lib.hid (atOf_mc HM.out)
    have m1 : wr.cell? ⟨M, 1, none⟩ = some (.string D) := by obtain ⟨g, xv, fv, h⟩ := HM.out; rw [← HD.out]; exact h.c 1
    have m2 : wr.cell? ⟨M, 2, none⟩ = some (.int .i64 ((i : Nat) : Int)) := by obtain ⟨g, xv, fv, h⟩ := HM.out; exact h.c 2
    have m9 : wr.cell? ⟨M, 9, none⟩ = some (.bool st.fits) := by obtain ⟨g, xv, fv, h⟩ := HM.out; exact h.c 9
    by_cases hi : i < L
    · have hd : decide (((i : Nat) : Int) < ((D.size : Nat) : Int)) = true := by simp; omega
      have hd2 : decide (i < D.size) = true := by simp; omega
      have hi2 : i < D.size := by omega
      have hi3 : ((i : Nat) : Int) < ((D.size : Nat) : Int) := by omega
      have hiT : i < T.length := by have := HLL.out; omega
      -- the next byte
      obtain ⟨c, hc⟩ : ∃ c, T[i]? = some c := ⟨_, List.getElem?_eq_getElem hiT⟩
      have hcT := (List.getElem?_eq_some_iff.1 hc).2
      have hc256 : c < 256 := by rw [← hcT]; exact HTB.out.at i hiT
      have hbt : bt D i = ((c : Nat) : Int) := by rw [← HD.out, strOf_bt T HTB.out i hiT, hcT]
      have hdrop : T.drop i = c :: T.drop (i + 1) := by rw [List.drop_eq_getElem_cons hiT, hcT]
      have hr := HR.out
      rw [hdrop, Rx.loopM] at hr
      obtain ⟨S2, hS2⟩ : ∃ s, Rx.scan is T.length keeps (i + 1) c st.next { st with next := [] } = s := ⟨_, rfl⟩
      rw [hS2] at hr
      have HR2 := Lib.hid hr
      have HS2 := Lib.hid hS2
      obtain ⟨g, xv, fv, hv⟩ := HM.out
      obtain ⟨a4, c4v, hx⟩ := hv.next.shape
      obtain ⟨a3, c3v, hx3⟩ := hv.now.shape
      subst hx hx3
      have m4 : wr.cell? ⟨M, 4, none⟩ = some (.slice a4 st.next.length c4v) := hv.c 4
      have m3 : wr.cell? ⟨M, 3, none⟩ = some (.slice a3 nl.length c3v) := hv.c 3
      have f3 := hv.fz 3
      have f4 := hv.fz 4
      have f2 := hv.fz 2
      have hM := hv.lt
      have hcp := hv.now.cap
      have hsl : ∀ w : World, (Go.Instr.slice 84 (.slice a3 nl.length c3v) none (some (.int .i64 0)) none).run Tryd.prog w = .ok (.slice a3 0 c3v) w := by
        intro w
        rw [run_slice_h w 84 a3 nl.length c3v Tryd.underlying84 .i64 0 (by omega) (by omega)]
        cases a3 with
        | none => rw [hcp.2.2.2 rfl]; rfl
        | some ad =>
          rw [show (sizeOf (Tryd.prog.elem 84)).run Tryd.prog w = .ok 2 w by kernel_rfl]
          cases c3v <;> simp [sliced, Addr.add] <;> cases ad <;> simp_all
      have HSW := Lib.hid (fun k => (hv.move (below_drewM wr k)).swap)
      have HNL := Lib.hid (Eq.refl st.next.length)
      obtain ⟨LN, hLN⟩ : ∃ x, st.next.length = x := ⟨_, rfl⟩
      have HLN2 := Lib.hid hLN
      have hLNm : LN ≤ maxLen := by rw [← hLN]; exact Nat.le_trans hv.next.cap.2.1 hv.next.cap.1
      unfold maxLen at hLNm
      rw [hLN] at m4 HSW
      have h1c : ((i + 1 : Nat) : Int) = ((i : Nat) : Int) + 1 := by omega
      have HII := Lib.hid (show i + 1 ≤ 100000000000 from by have := HLN.out; have := HLL.out; omega)
      have HD0 := Lib.hid hdrop
      have H256 := Lib.hid hc256
      have hiB : (((i : Nat) : Int) + 1) ≤ 9223372036854775807 := by have := HII.out; omega
      have hiA : -9223372036854775808 ≤ (((i : Nat) : Int) + 1) := by omega
      have hi1 : RowKit.wrap64 (((i : Nat) : Int) + 1) = ((i : Nat) : Int) + 1 := IntWalk.wrap64_in _ ⟨hiA, hiB⟩
      clear HM HR hv hcp hcT hiT hc hr hS2 hdrop hc256 hLN hiA hiB
      go_wp2
      go_quiet (fail)
      go_wp2
      go_region
      have HW := Lib.hid (HSW.out (nq + 1))
      generalize (((wr.drewN (nq + 1)).setCell ⟨M, 3, none⟩ (.slice a4 LN c4v)).setCell ⟨M, 4, none⟩ (.slice a3 0 c3v)) = wS at HW ⊢
      have s1 : wS.cell? ⟨M, 1, none⟩ = some (.string D) := by rw [← HD.out]; exact HW.out.c 1
      have s2 : wS.cell? ⟨M, 2, none⟩ = some (.int .i64 ((i : Nat) : Int)) := HW.out.c 2
      have s3 : wS.cell? ⟨M, 3, none⟩ = some (.slice a4 LN c4v) := HW.out.c 3
      have g2 := HW.out.fz 2
      have HTK := Lib.hid (fun k => (HW.out.move (below_drewM wS k)).tick)
      rw [h1c] at HTK
      have hget := get_bt D
      clear m1 m2 m3 m4 m9 f2 f3 f4 HSW hM
      go_wp2
      go_quiet (fail)
      go_wp2
      have HW5 := Lib.hid (HTK.out nq)
      obtain ⟨LI, hLI⟩ : ∃ x, i + 1 = x := ⟨_, rfl⟩
      rw [hLI] at HW5
      have HLI := Lib.hid hLI
      rw [hLI] at h1c
      rw [← h1c] at *
      generalize ((wS.drewN nq).setCell ⟨M, 2, none⟩ (.int .i64 ((LI : Nat) : Int))) = w5 at HW5 ⊢
      have hv5 := HW5.out
      have HM5 := Lib.hid (show Mc W1 w5 M is.length pv T keeps LI (.slice a4 LN c4v) st.next { st with next := [] } from ⟨_, _, _, hv5⟩)
      have HFF := Lib.hid (fun (st2 : MS) (s : Nat) (p : List Rec) (q : Option Addr) (w : World) hs hl H hp => HF.out LI (by have := HII.out; have := HLI.out; omega) (.slice a4 LN c4v) st.next st2 s p q w hs hl H hp)
      clear hv5 s1 s2 s3 g2 HTK HW HW5 hLI h1c hi1 hget hbt hi2 hi3 hd hd2 HF
      have HLM := Lib.hid hLNm
      clear hLNm
      go_loopw [55] (fun r55 wq => ∃ (k : Nat) (st2 : MS), k ≤ LN ∧ r55 = .int .i64 ((k : Nat) : Int) ∧ Hid (Mc W1 wq M is.length pv T keeps LI (.slice a4 LN c4v) st.next st2) ∧ Hid (Rx.scan is T.length keeps LI c (st.next.drop k) st2 = S2) ∧ Hid (st2.next.length + Rx.unm st2.seen (LI + 1) is.length ≤ 300000) ∧ Hid ((k = 0 → st2 = { st with next := [] }) ∧ (k ≠ 0 → st2.fits = false)) ∧ Hid (Nx is st2)) (fun r55 _ => LN - (intOf r55).toNat)
      case atStart =>
        exact ⟨0, { st with next := [] }, Nat.zero_le _, rfl, HM5, Lib.hid (by rw [List.drop_zero, ← HLI.out]; exact HS2.out), Lib.hid (by have := HUN.out st.seen (LI + 1); have := HN1.out; show 0 + Rx.unm st.seen (LI + 1) is.length ≤ 300000; omega), Lib.hid ⟨fun _ => rfl, fun h => absurd rfl h⟩, Lib.hid (fun x hx => by cases hx)⟩
      case round =>
        obtain ⟨k, st2, hk, rfl, HM2, HSC, HLE, HFT, HNX2⟩ := hrel
        by_cases hkL : k < LN
        · have hkn : k < st.next.length := by rw [HLN2.out]; exact hkL
          obtain ⟨x, hx⟩ : ∃ x, st.next[k]? = some x := ⟨_, List.getElem?_eq_getElem hkn⟩
          have hxe := (List.getElem?_eq_some_iff.1 hx).2
          have hdx : st.next.drop k = x :: st.next.drop (k + 1) := by rw [List.drop_eq_getElem_cons hkn, hxe]
          obtain ⟨X, hX0, hXk⟩ := HNX.out x (by rw [← hxe]; exact List.getElem_mem hkn)
          have hsl2 := (List.getElem?_eq_some_iff.1 hX0).1
          have hXe : is[x.1] = X := (List.getElem?_eq_some_iff.1 hX0).2
          have hinst : Rx.inst is x.1 = X := Rx.inst_of hX0
          have hsc := HSC.out
          rw [hdx, Rx.scan] at hsc
          obtain ⟨g2, xv2, fv2, hv2⟩ := HM2.out
          obtain ⟨hNl, gn, qn, rfl, t0, t1, tr⟩ := hv2.now.at' k hkn
          clear hNl
          rw [hxe] at t0 tr
          have HTR := Lib.hid tr
          obtain ⟨ep, hat, hat2⟩ := HPG.out.here x.1 hsl2
          have HAT2 := Lib.hid hat
          have HFI := Lib.hid (HPG.out.fit x.1 hsl2)
          have HNXT := Lib.hid (show X.next < is.length from HGD.out.next x.1 X hX0 (by omega))
          rw [hXe] at HAT2 HFI
          have CH := Lib.hid (fun w => has_any X.bytes HFI.out.1 c H256.out w)
          have hsn : ((x.1 : Nat) : Int) < ((n : Nat) : Int) := by have := HN.out; omega
          have hkL2 : ((k : Nat) : Int) < ((LN : Nat) : Int) := by omega
          have HKK := Lib.hid (show k + 1 ≤ LN from hkL)
          have HK1 := Lib.hid (show RowKit.wrap64 (((k : Nat) : Int) + 1) = ((k : Nat) : Int) + 1 from wrap_k k LN hkL HLM.out)
          have HMS := Lib.hid (meas_k LN k hkL)
          have hb1 : Below wr.heap.size wr (wr.alloc (.cells #[.int .i64 ((x.1 : Nat) : Int), .pointer qn] 92)) := (Below.refl _ _).alloc (Nat.le_refl _) _
          have HMA := Lib.hid (hv2.move hb1)
          have HTA := Lib.hid (tr.keep (K85.below hb1))
          unfold Rx.scanOne at hsc
          rw [hinst] at hsc
          have HXL := Lib.hid hsl2
          obtain ⟨s, p0⟩ := x
          simp only at t0 hsn hsc HTR HTA HAT2 HFI CH HMA HXL hb1
          have A1 := HAT2.out _ HMA.out.below
          have y0 : (wr.alloc (.cells #[.int .i64 ((s : Nat) : Int), .pointer qn] 92)).cell? ⟨M, 0, none⟩ = some pv := HMA.out.c 0
          rw [hpv] at y0
          have hMl : M < wr.heap.size := hv2.lt
          have e1 := A1.c 1 (by decide)
          have e2 := A1.c 2 (by decide)
          have e3 := A1.c 3 (by decide)
          have e4 := A1.c 4 (by decide)
          have hgpl : gp < wr.heap.size := Nat.lt_of_lt_of_le HPG.out.lt hv2.below.size
          have z0 := heap_alloc_new wr (.cells #[.int .i64 ((s : Nat) : Int), .pointer qn] 92)
          have z1 := cell_of_row _ _ 0 _ _ _ z0
          have z2 := cell_of_row _ _ 1 _ _ _ z0
          simp only [icells, List.getElem?_toArray, List.getElem?_cons_zero, List.getElem?_cons_succ] at e1 e2 e3 e4 z1 z2
          have HMC := Lib.hid (show Mc W1 (wr.alloc (.cells #[.int .i64 ((s : Nat) : Int), .pointer qn] 92)) M is.length pv T keeps LI (.slice (some ⟨gn, 0, none⟩) LN c4v) st.next st2 from ⟨_, _, _, HMA.out⟩)
          obtain ⟨wA, hwA⟩ : ∃ wA, wr.alloc (.cells #[.int .i64 ((s : Nat) : Int), .pointer qn] 92) = wA := ⟨_, rfl⟩
          have hwAs : wr.heap.size < wA.heap.size := by rw [← hwA]; simp
          obtain ⟨Y, hY⟩ : ∃ Y, wr.heap.size = Y := ⟨_, rfl⟩
          rw [hwA] at y0 e1 e2 e3 e4 z0 z1 z2 HMC HTA
          rw [hY] at z0 z1 z2 hwAs
          clear hb1 HMA A1 hat hat2 hv2 tr HM2 HSC hdx hxe hXe hinst hX0 hsl2 hx hkn HM5
          cases hhas : X.bytes.has c
          · rw [hhas] at hsc CH
            simp only [Bool.false_eq_true, if_false] at hsc
            have HSC3 := Lib.hid hsc
            clear hsc
            have HLE3 := HLE
            have HNX3 := HNX2
            unfold setV at CH
            go_wp2
            rw [hwA] at *
            rw [hY] at *
            go_quiet (fail)
            go_wp2_with fail
            refine (CH.out _).mono ?_
            rintro e w3 ⟨rfl, hb3⟩
            have HM3 := Lib.hid ((HMC.out.drew nq).move hb3)
            clear hb3 y0 e1 e2 e3 e4 z0 z1 z2 hsn hkL2 hwAs hgpl hMl
            cases hfit : st2.fits
            · have m9 : w3.cell? ⟨M, 9, none⟩ = some (.bool false) := by
                obtain ⟨g, xv, fv, h⟩ := HM3.out
                have := h.c 9
                rw [show st2.fits = false from hfit] at *
                exact this
              have hk1 := HK1.out
              have HSC4 := Lib.hid (show Rx.scan is T.length keeps LI c (st.next.drop (k + 1)) st2 = S2 from by have := HSC3.out; rw [if_neg (by rw [hfit]; decide)] at this; exact this)
              have HFI2 := Lib.hid hfit
              clear HSC3 hfit
              go_wp2
              go_roundw
              case rel => exact ⟨k + 1, st2, HKK.out, by rw [HK1.out, Int.natCast_add] <;> rfl, HM3, HSC4, HLE3, Lib.hid ⟨fun h => absurd h (Nat.succ_ne_zero k), fun _ => HFI2.out⟩, HNX3⟩
              case measure =>
                rw [HK1.out]
                exact HMS.out
            · have HRE := Lib.hid (show RES = st2 from by
                have h2 : S2 = st2 := by have := HSC3.out; rw [if_pos hfit] at this; exact this.symm
                have := HR2.out
                rw [h2, if_pos hfit] at this
                exact this.symm)
              have m9 : w3.cell? ⟨M, 9, none⟩ = some (.bool true) := by
                obtain ⟨g, xv, fv, h⟩ := HM3.out
                have := h.c 9
                rw [show st2.fits = true from hfit] at *
                exact this
              clear HSC3
              go_wp2
              try rw [Exit.noGoto_ret]
              go_ret
              exact ⟨by rw [HRE.out, hfit] <;> rfl, by rw [HRE.out]; exact ⟨_, _, _, HM3.out⟩⟩
          · rw [hhas] at hsc CH
            simp only [if_true] at hsc
            have dn := Rx.follow_dn is T.length keeps LI (Rx.fuel is) st2 X.next 0 p0 (by decide)
            have nx3 := follow_nx HGD.out T keeps LI (Rx.fuel is) st2 X.next 0 p0 HNX2.out HNXT.out (by decide) (by have := Rx.unm_le st2.seen (LI + 1) is.length; unfold Rx.fuel; omega)
            have CF := Lib.hid (fun (w : World) H hp => HFF.out st2 X.next p0 qn w HNXT.out HLE.out H hp)
            obtain ⟨R, hR⟩ : ∃ r, Rx.follow is T.length keeps LI (Rx.fuel is) st2 X.next 0 p0 = r := ⟨_, rfl⟩
            rw [hR] at dn nx3 CF hsc
            rw [show ((0 : Nat) : Int) = 0 from rfl] at CF
            obtain ⟨R1, R2⟩ := R
            simp only at dn nx3 hsc
            have HLE3 := Lib.hid (show R1.next.length + Rx.unm R1.seen (LI + 1) is.length ≤ 300000 from Nat.le_trans dn.len HLE.out)
            have HNX3 := Lib.hid nx3
            have HSC3 := Lib.hid hsc
            have HBX := Lib.hid (fun (w : World) (h : Mc W1 w M is.length pv T keeps LI (.slice (some ⟨gn, 0, none⟩) LN c4v) st.next st2) => (HAT2.out w h.below).nx)
            obtain ⟨NX, hNXX⟩ : ∃ v, X.next = v := ⟨_, rfl⟩
            rw [hNXX] at CF HBX
            unfold ptr at CF
            unfold setV at CH
            clear hsc dn nx3 hR hNXX HFF
            go_wp2
            rw [hwA] at *
            rw [hY] at *
            go_quiet (fail)
            go_wp2_with fail
            refine (CH.out _).mono ?_
            rintro e w3 ⟨rfl, hb3⟩
            have HMB := Lib.hid ((HMC.out.drew nq).move hb3)
            have HTB3 := Lib.hid ((HTA.out.drew nq).keep (K85.below hb3))
            have hb4 : Below wA.heap.size wA w3 := (below_drewM wA nq).trans hb3
            have x1 : w3.cell? ⟨Y, 1, none⟩ = some (.pointer qn) := (hb4.cell (p := ⟨Y, 1, none⟩) hwAs).trans z2
            have x2 := HBX.out w3 HMB.out
            clear hb3 hb4 y0 e1 e2 e3 e4 z0 z1 z2 hsn hkL2 hwAs hgpl hMl HBX
            go_upto_region 11 with (fail)
            go_still_tail 7, (by kernel_rfl)
            change wpList _ _ _ _ _ (World.drew _)
            have MD := Lib.hid (HMB.out.drew 1)
            have PD := Lib.hid (HTB3.out.drew 1)
            change Hid (Mc W1 (World.drew w3) M is.length pv T keeps LI (.slice (some ⟨gn, 0, none⟩) LN c4v) st.next st2) at MD
            change Hid (RecAt (World.drew w3) p0 (.pointer qn)) at PD
            generalize World.drew w3 = wd at MD PD ⊢
            have CF2 := Lib.hid (CF.out wd MD.out PD.out)
            clear x1 x2 CF
            go_wp2_with fail
            refine CF2.out.mono ?_
            rintro e w3 ⟨rfl, h3, k3⟩
            have HM3 := Lib.hid h3
            clear h3 k3
            cases hfit : R1.fits
            · have m9 : w3.cell? ⟨M, 9, none⟩ = some (.bool false) := by
                obtain ⟨g, xv, fv, h⟩ := HM3.out
                have := h.c 9
                rw [show R1.fits = false from hfit] at *
                exact this
              have hk1 := HK1.out
              have HSC4 := Lib.hid (show Rx.scan is T.length keeps LI c (st.next.drop (k + 1)) R1 = S2 from by have := HSC3.out; rw [if_neg (by rw [hfit]; decide)] at this; exact this)
              have HFI2 := Lib.hid hfit
              clear HSC3 hfit
              go_wp2
              go_roundw
              case rel => exact ⟨k + 1, R1, HKK.out, by rw [HK1.out, Int.natCast_add] <;> rfl, HM3, HSC4, HLE3, Lib.hid ⟨fun h => absurd h (Nat.succ_ne_zero k), fun _ => HFI2.out⟩, HNX3⟩
              case measure =>
                rw [HK1.out]
                exact HMS.out
            · have HRE := Lib.hid (show RES = R1 from by
                have h2 : S2 = R1 := by have := HSC3.out; rw [if_pos hfit] at this; exact this.symm
                have := HR2.out
                rw [h2, if_pos hfit] at this
                exact this.symm)
              have m9 : w3.cell? ⟨M, 9, none⟩ = some (.bool true) := by
                obtain ⟨g, xv, fv, h⟩ := HM3.out
                have := h.c 9
                rw [show R1.fits = true from hfit] at *
                exact this
              clear HSC3
              go_wp2
              try rw [Exit.noGoto_ret]
              go_ret
              exact ⟨by rw [HRE.out, hfit] <;> rfl, by rw [HRE.out]; exact ⟨_, _, _, HM3.out⟩⟩
        · have hkE : k = LN := by omega
          have hsc := HSC.out
          rw [List.drop_eq_nil_of_le (by rw [HLN2.out]; omega), Rx.scan] at hsc
          subst hsc
          have hr := HR2.out
          obtain ⟨g2, xv2, fv2, hv2⟩ := HM2.out
          obtain ⟨a9, c9, hx9⟩ := hv2.next.shape
          subst hx9
          have m4 : wr.cell? ⟨M, 4, none⟩ = some (.slice a9 st2.next.length c9) := hv2.c 4
          have m9 : wr.cell? ⟨M, 9, none⟩ = some (.bool st2.fits) := hv2.c 9
          obtain ⟨LZ, hLZ⟩ : ∃ x, st2.next.length = x := ⟨_, rfl⟩
          have HOM := Lib.hid (show L - LI < L - i from by have := HLI.out; omega)
          have HLL2 := Lib.hid (show LI ≤ L from by have := HLI.out; omega)
          rw [hLZ] at m4 hr
          by_cases hz : LZ = 0
          · have hres : st2 = RES := by
              rw [if_pos hz] at hr
              split at hr <;> exact hr
            have HRE := Lib.hid hres
            subst hkE
            subst hz
            have hz0 : (((0 : Nat) : Int) == 0) = true := rfl
            obtain ⟨FB, hFB⟩ : ∃ b, st2.fits = b := ⟨_, rfl⟩
            rw [hFB] at m9
            have HFB := Lib.hid hFB
            clear hr hv2 hres hLZ hFB HFT HSC HS2 HR2
            go_wp2
            try rw [Exit.noGoto_ret]
            go_ret
            exact ⟨by rw [← HRE.out, HFB.out] <;> rfl, by rw [← HRE.out]; exact ⟨_, _, _, HM2.out⟩⟩
          · have hk0 : k ≠ 0 := by
              intro e
              have := HFT.out.1 e
              rw [this] at hLZ
              exact hz hLZ.symm
            have hff := HFT.out.2 hk0
            rw [if_neg (by rw [hff]; decide), if_neg hz, HLI.out] at hr
            have HR3 := Lib.hid hr
            have hz0 : (((LZ : Nat) : Int) == 0) = false := by simp [hz]
            subst hkE
            clear hr hv2 hLZ HFT HSC HS2 HR2 hk0 hff hz m9
            go_wp2
            go_roundw
            case rel => exact ⟨LI, _, _, st2, HLL2.out, HM2, HR3, HNX2⟩
            case measure =>
              rw [HAT.out, atOf_mc HM2.out]
              exact HOM.out
    · have hie : i = L := by omega
      have hr := HR.out
      rw [List.drop_eq_nil_of_le (by rw [HLL.out]; omega), Rx.loopM] at hr
      have HRE := Lib.hid hr
      have hd : decide (((i : Nat) : Int) < ((D.size : Nat) : Int)) = false := by simp; omega
      have hd2 : decide (i < D.size) = false := by simp; omega
      have hd3 : ¬ ((i : Nat) : Int) < ((L : Nat) : Int) := by omega
      obtain ⟨FB, hFB⟩ : ∃ b, st.fits = b := ⟨_, rfl⟩
      rw [hFB] at m9
      have HFB := Lib.hid hFB
      subst hie
      clear hr HR hFB HNX HAT
      go_wp2
      go_quiet (fail)
      go_wp2
      try rw [Exit.noGoto_ret]
      go_ret
      exact ⟨by rw [← HRE.out, HFB.out] <;> rfl, by rw [← HRE.out]; exact ⟨_, _, _, (HM.out).drew _⟩⟩
end Go.Proofs.YtphighddlfabbaaDoor
namespace Go.Proofs.YtphighddlfabbaaDoor
set_option linter.unusedVariables false
set_option linter.unusedSimpArgs false
open Rx (Set4 RS)
def NBF (bs : List Nat) (f : Rx.PatF) : Prop := ∀ st, Inv bs st → ∀ t, (f st).1 = some t → NumB t
theorem parenEnd_nb (bs : List Nat) (n : Nat) (hn : n ≤ 100000) (r : Option Rx.Node × RS) (h : ∀ t, r.1 = some t → NumB t) : ∀ t, (Rx.parenEnd bs n r).1 = some t → NumB t := by
  intro t ht
  obtain ⟨o, s⟩ := r
  cases o with
  | none => unfold Rx.parenEnd at ht; cases ht
  | some u =>
    unfold Rx.parenEnd at ht
    simp only at ht
    split at ht
    · simp only [Option.some.injEq] at ht
      subst ht
      split
      · unfold NumB; exact ⟨hn, h u rfl⟩
      · exact h u rfl
    · cases ht
theorem paren_nb {bs : List Nat} (hl : bs.length ≤ 500) {f : Rx.PatF} (hf : NBF bs f) (st : RS) (h : Inv bs st) (h40 : Rx.isNext bs st.at' [40] = true) : ∀ t, (Rx.paren f bs st).1 = some t → NumB t := by
  have hlt := next_lt h40
  obtain ⟨i1, i2, i3, i4⟩ := h
  intro t ht
  unfold Rx.paren at ht
  split at ht
  · rename_i k
    have k1 := isAt_lt k
    split at ht
    · rename_i k2
      have k3 := isAt_lt k2
      exact parenEnd_nb bs 0 (by omega) _ (hf _ ⟨by show st.at' + 3 ≤ _; omega, by show st.groups ≤ st.at' + 3; omega, by show st.nested + 1 ≤ st.at' + 3; omega, by show max st.deepest (st.nested + 1) ≤ st.at' + 3; omega⟩) t ht
    · cases ht
  · exact parenEnd_nb bs (st.groups + 1) (by omega) _ (hf _ ⟨by show st.at' + 1 ≤ _; omega, by show st.groups + 1 ≤ st.at' + 1; omega, by show st.nested + 1 ≤ st.at' + 1; omega, by show max st.deepest (st.nested + 1) ≤ st.at' + 1; omega⟩) t ht
theorem ofSet_nb (st : RS) (r : Option Set4 × Nat) : ∀ t, (Rx.ofSet st r).1 = some t → NumB t := by
  intro t ht
  unfold Rx.ofSet at ht
  obtain ⟨o, q⟩ := r
  cases o with
  | none => cases ht
  | some x => cases ht; unfold NumB; trivial
theorem atom_nb {bs : List Nat} (hl : bs.length ≤ 500) {f : Rx.PatF} (hf : NBF bs f) (st : RS) (h : Inv bs st) : ∀ t, (Rx.atom sg f bs st).1 = some t → NumB t := by
  intro t ht
  unfold Rx.atom at ht
  split at ht
  · cases ht
  split at ht
  · rename_i k; exact paren_nb hl hf st h k t ht
  split at ht
  · exact ofSet_nb _ _ t ht
  split at ht
  · cases ht; unfold NumB; trivial
  split at ht
  · cases ht; unfold NumB; trivial
  split at ht
  · cases ht; unfold NumB; trivial
  · exact ofSet_nb _ _ t ht
theorem lazyEnd_nb (bs : List Nat) (st : RS) (l : Nat) (m : Option Nat) (p : Bool) (t : Rx.Node) (h : NumB t) : ∀ u, (Rx.lazyEnd bs st l m p t).1 = some u → NumB u := by
  intro u hu
  unfold Rx.lazyEnd at hu
  split at hu <;> (cases hu; unfold NumB; exact h)
theorem countOf_nb (bs : List Nat) (t : Rx.Node) (st : RS) (h : NumB t) : ∀ u, (Rx.countOf bs t st).1 = some u → NumB u := by
  intro u hu
  unfold Rx.countOf at hu
  split at hu
  · exact lazyEnd_nb _ _ _ _ _ _ h u hu
  split at hu
  · exact lazyEnd_nb _ _ _ _ _ _ h u hu
  split at hu
  · exact lazyEnd_nb _ _ _ _ _ _ h u hu
  split at hu
  · split at hu
    · cases hu
    · exact lazyEnd_nb _ _ _ _ _ _ h u hu
  · cases hu; exact h
theorem numAll_snoc : ∀ (ks : List Rx.Node) (t : Rx.Node), NumBAll ks → NumB t → NumBAll (ks ++ [t])
  | [], t, _, h => by show NumBAll [t]; unfold NumBAll; exact ⟨h, by unfold NumBAll; trivial⟩
  | k :: ks, t, hk, h => by
    show NumBAll (k :: (ks ++ [t]))
    unfold NumBAll at hk ⊢
    exact ⟨hk.1, numAll_snoc ks t hk.2 h⟩
theorem branchLoop_nb {bs : List Nat} (hl : bs.length ≤ 500) {f : Rx.PatF} (hp : PFF bs f) (hf : NBF bs f) : ∀ n ks st, Inv bs st → NumBAll ks → ∀ us, (Rx.branchLoop sg f bs n ks st).1 = some us → NumBAll us
  | 0, ks, st, h, hk, us, e => by cases e
  | n + 1, ks, st, h, hk, us, e => by
    unfold Rx.branchLoop at e
    split at e
    · rename_i hgo
      obtain ⟨pf, _⟩ := piece_pf hl hp st h hgo
      split at e
      · cases e
      · rename_i t st1 hpc
        rw [hpc] at pf
        refine branchLoop_nb hl hp hf n _ st1 pf.inv (numAll_snoc ks t hk ?_) us e
        unfold Rx.piece at hpc
        split at hpc
        · cases hpc
        · rename_i t0 s0 hat
          exact countOf_nb bs t0 s0 (atom_nb hl hf st h t0 (by rw [hat])) t (by rw [hpc])
    · cases e; exact hk
theorem branch_nb {bs : List Nat} (hl : bs.length ≤ 500) {f : Rx.PatF} (hp : PFF bs f) (hf : NBF bs f) (st : RS) (h : Inv bs st) : ∀ t, (Rx.branch sg f bs st).1 = some t → NumB t := by
  intro t ht
  unfold Rx.branch at ht
  split at ht
  · cases ht
  · rename_i ks st1 hb
    cases ht
    unfold NumB
    exact branchLoop_nb hl hp hf (bs.length + 1) [] st h (by unfold NumBAll; trivial) ks (by rw [hb])
theorem patLoop_nb {bs : List Nat} (hl : bs.length ≤ 500) {f : Rx.PatF} (hp : PFF bs f) (hf : NBF bs f) : ∀ n ks st, Inv bs st → NumBAll ks → ∀ u, (Rx.patLoop sg f bs n ks st).1 = some u → NumB u
  | 0, ks, st, h, hk, us, e => by cases e
  | n + 1, ks, st, h, hk, u, e => by
    unfold Rx.patLoop at e
    split at e
    · cases e
    · rename_i t st1 hb
      have pf := branch_pf hl hp st h
      rw [hb] at pf
      have ht := branch_nb hl hp hf st h t (by rw [hb])
      split at e
      · rename_i k
        exact patLoop_nb hl hp hf n _ _ (pf.inv.to (Nat.le_succ _) (isAt_lt k)) (numAll_snoc ks t hk ht) u e
      · cases e
        unfold NumB
        exact numAll_snoc ks t hk ht
theorem pat_nb {bs : List Nat} (hl : bs.length ≤ 500) : ∀ n, NBF bs (Rx.pat sg bs n)
  | 0 => fun st h t ht => by cases ht
  | n + 1 => fun st h t ht => patLoop_nb hl (pat_pf hl n) (pat_nb hl n) (bs.length + 1) [] st h (by unfold NumBAll; trivial) t ht
theorem mul_le_two (a x s : Nat) (h : s ≤ 2 * x) : a * s ≤ 2 * (a * x) := by
  calc a * s ≤ a * (2 * x) := Nat.mul_le_mul_left a h
    _ = 2 * (a * x) := by rw [Nat.mul_left_comm]
theorem size_states : ∀ t, Rx.Wf t → Rx.states t ≤ 1000 → Rx.size t ≤ 2 * Rx.states t := by
  have all : ∀ (ks : List Rx.Node), (∀ t ∈ ks, Rx.Wf t → Rx.states t ≤ 1000 → Rx.size t ≤ 2 * Rx.states t) → Rx.WfAll ks → ∀ n, Rx.statesAll ks n ≤ 1000 → Rx.sizeAll ks + 2 * n ≤ 2 * Rx.statesAll ks n := by
    intro ks
    induction ks with
    | nil => intro _ _ n _; unfold Rx.statesAll Rx.sizeAll; omega
    | cons t ts ih =>
      intro h hw n hs
      unfold Rx.WfAll at hw
      unfold Rx.statesAll at hs ⊢
      unfold Rx.sizeAll
      have h1 := ih (fun u hu => h u (by simp [hu])) hw.2 (n + Rx.states t) hs
      have h2 := statesAll_ge ts (n + Rx.states t)
      have h3 := h t (by simp) hw.1 (by omega)
      omega
  intro t
  induction t using Rx.Node.ind with
  | h1 x => intro _ _; unfold Rx.size Rx.states; omega
  | h2 e => intro _ _; unfold Rx.size Rx.states; omega
  | h3 ks ih =>
    intro hw hs
    unfold Rx.Wf at hw
    unfold Rx.states at hs ⊢
    unfold Rx.size
    have := all ks ih hw 0 (by omega)
    omega
  | h4 ks ih =>
    intro hw hs
    unfold Rx.Wf at hw
    unfold Rx.states at hs ⊢
    unfold Rx.size
    have := all ks ih hw.2 (2 * (ks.length - 1)) (by omega)
    omega
  | h5 n t ih =>
    intro hw hs
    unfold Rx.Wf at hw
    rw [Rx.states] at hs ⊢
    rw [Rx.size]
    have := ih hw (by omega)
    omega
  | h6 l m p z t ih =>
    intro hw hs
    rw [Rx.Wf] at hw
    rw [Rx.states] at hs ⊢
    rw [Rx.size_count]
    have hle : Rx.statesOf l m p (Rx.states t) ≤ 1000 := by omega
    rw [Nat.min_eq_left (by omega)]
    unfold Rx.statesOf at hle ⊢
    cases p
    · simp only [Bool.false_eq_true, if_false] at hle ⊢
      cases m with
      | none =>
        simp only at hle ⊢
        have h1 := ih hw.1 (by omega)
        have h2 := mul_le_two l _ _ h1
        split <;> omega
      | some M =>
        simp only at hle ⊢
        by_cases hM : M - l = 0
        · rw [hM] at hle ⊢
          simp only [Nat.zero_mul, Nat.add_zero] at hle ⊢
          by_cases h0 : Rx.states t = 0
          · rw [if_pos h0]; omega
          · rw [if_neg h0]
            by_cases hl0 : l = 0
            · subst hl0; simp
            · have : Rx.states t ≤ l * Rx.states t := Nat.le_mul_of_pos_left _ (by omega)
              have h1 := ih hw.1 (by omega)
              have h2 := mul_le_two l _ _ h1
              omega
        · have hx : Rx.states t + 1 ≤ (M - l) * (Rx.states t + 1) := Nat.le_mul_of_pos_left _ (by omega)
          have h1 := ih hw.1 (by omega)
          have h2 := mul_le_two l _ _ h1
          have h3 := mul_le_two (M - l) (Rx.states t + 1) (Rx.size t + 1) (by omega)
          split <;> omega
    · simp only [if_true] at hle ⊢
      have h1 := ih hw.1 (by omega)
      omega
end Go.Proofs.YtphighddlfabbaaDoor
namespace Go.Proofs.YtphighddlfabbaaDoor
set_option linter.unusedVariables false
set_option linter.unusedSimpArgs false
open Go.RowKit Go.PlainAid Go.Shelf
open Rx (Set4 RS Instr Rec MS)
/-- a pattern's program, its groups, its states in memory -/
structure Rgx (w : World) (b : Nat) (t : Rx.Node) (g : Nat) : Prop where
  row : ∃ pv gp cap, w.heap[b]? = some (.cells #[pv, .int .i64 ((g : Nat) : Int), .int .i64 (((Rx.states t + 1 : Nat)) : Int)] 76 (0, 0)) ∧ Pg w pv (Rx.prog t) gp cap
  wf : Rx.Wf t
  few : (Rx.prog t).length ≤ 100000
theorem Pg.below {w w' : World} {pv : Value} {is : List Instr} {gp cap : Nat} (h : Pg w pv is gp cap) (hb : Below w.heap.size w w') : Pg w' pv is gp cap := by
  refine ⟨h.val, Nat.lt_of_lt_of_le h.lt hb.size, fun k hk => ?_, h.fit⟩
  obtain ⟨ep, h1, h2⟩ := h.at' k hk
  refine ⟨ep, fun j hj => (hb.cell (p := ⟨gp, k * 11 + j, none⟩) h.lt).trans (h1 j hj), fun h6 => ?_⟩
  obtain ⟨t, eb, ec, e1, e2, e3, e4, e5⟩ := h2 h6
  exact ⟨t, eb, ec, e1, e2, Nat.lt_of_lt_of_le e3 hb.size, fun q => (hb.cell (p := ⟨eb, q, none⟩) e3).trans (e4 q), e5⟩
theorem Rgx.below {w w' : World} {b : Nat} {t : Rx.Node} {g : Nat} (h : Rgx w b t g) (hb : Below w.heap.size w w') : Rgx w' b t g := by
  obtain ⟨⟨pv, gp, cap, h1, h2⟩, h3, h4⟩ := h
  exact ⟨⟨pv, gp, cap, (hb.block b (lt_of_row h1)).trans h1, h2.below hb⟩, h3, h4⟩
/-- what Compile gives -/
def Cmp (r : Except (Nat × Nat) (Rx.Node × Nat)) (e : Ending) (w' : World) : Prop := match r with
  | .error (n, p) => e = .returned (.tuple #[.pointer none, .int .u16 ((n : Nat) : Int), .int .i64 ((p : Nat) : Int)])
  | .ok (t, g) => ∃ b, e = .returned (.tuple #[ptr b, .int .u16 0, .int .i64 0]) ∧ Rgx w' b t g
set_option maxHeartbeats 4000000 in
set_option maxRecDepth 100000 in
theorem compile_any (bs : List Nat) (hB : IsB bs) (w : World) (hT : TabAt w) (hbl : bs.length ≤ 1000000000) :
    Calls Tryd.prog 24 #[.string (strOf bs)] w fun e w' => Below w.heap.size w w' ∧ Cmp (Rx.compile sg bs) e w' := by
  have hs := strOf_size bs
  by_cases hl : 500 < bs.length
  · have hr : Rx.compile sg bs = .error (81, 0) := by unfold Rx.compile; rw [if_pos hl]
    rw [hr]
    have hd : decide ((500 : Int) < ((bs.length : Nat) : Int)) = true := by simp; omega
    have hd2 : decide (500 < bs.length) = true := by simp; omega
    obtain ⟨D, hD⟩ : ∃ D, strOf bs = D := ⟨_, rfl⟩
    rw [hD] at hs ⊢
    obtain ⟨L, hL⟩ : ∃ L, bs.length = L := ⟨_, rfl⟩
    rw [hL] at hs hd hd2
    clear hD hr hl hbl hL hT hB
    go_enter Tryd.func24, Tryd.ntmps24
    go_wp2
    go_returns
    exact ⟨Below.refl _ _, rfl⟩
  · have hl5 : bs.length ≤ 500 := by omega
    have hd : decide ((500 : Int) < ((bs.length : Nat) : Int)) = false := by simp; omega
    have hd2 : decide (500 < bs.length) = false := by simp; omega
    have hb0 : Below w.heap.size w (w.alloc (.cells (rdCells bs Rx.st0) 59)) := (Below.refl _ _).alloc (Nat.le_refl _) _
    have CA := Lib.hid (all_any w.heap.size bs hB hl5 (w.alloc (.cells (rdCells bs Rx.st0) 59)) (heap_alloc_new w _) (hT.below hb0 hT.lt) (by have := hT.lt; omega))
    have pf := pat_pf hl5 (bs.length + 1) Rx.st0 (inv0 bs)
    have nb := pat_nb hl5 (bs.length + 1) Rx.st0 (inv0 bs)
    change PF bs Rx.st0 (Rx.parse sg bs) at pf
    change ∀ t, (Rx.parse sg bs).1 = some t → NumB t at nb
    have hr : Rx.compile sg bs = match Rx.parse sg bs with
      | (none, st) => .error (80, st.at')
      | (some t, st) => if st.at' ≠ bs.length then .error (80, st.at') else if 100 < st.deepest ∨ 999 < Rx.states t then .error (81, 0) else .ok (t, st.groups) := by unfold Rx.compile; rw [if_neg hl]; rfl
    rw [hr]
    unfold rdCells at CA hb0
    simp only [Rx.st0] at CA hb0
    rw [show ((0 : Nat) : Int) = 0 from rfl] at CA hb0
    have HB0 := Lib.hid hb0
    have HBS := Lib.hid hs
    obtain ⟨⟨o, st⟩, hrr⟩ : ∃ r, Rx.parse sg bs = r := ⟨_, rfl⟩
    rw [hrr] at CA pf nb ⊢
    obtain ⟨D, hD⟩ : ∃ D, strOf bs = D := ⟨_, rfl⟩
    rw [hD] at hs CA HB0 ⊢
    have HD := Lib.hid hD
    unfold ARes at CA
    clear hb0 hr hrr hD hT hB hbl
    have HNE := Lib.hid (fun (w1 : World) (hW : Only [w.heap.size] (w.alloc (.cells #[.string D, .int .i64 0, .int .i64 0, .int .i64 0, .int .i64 0] 59)) w1) => show Below w.heap.size w w1 from Only.lift HB0.out hW (by simp) (by simp))
    cases o with
    | none =>
      simp only [Option.isSome, Bool.false_and] at CA
      clear nb pf hd2
      go_enter Tryd.func24, Tryd.ntmps24
      go_wp2_with fail
      refine CA.out.mono ?_
      rintro e w1 ⟨h1, v, rfl, _⟩
      have HB1 := Lib.hid (HNE.out w1 h1.only)
      have c1 := h1.rd.c1
      clear h1
      go_wp2
      go_quiet (fail)
      go_wp2
      go_returns
      exact ⟨HB1.out.trans ((below_drewM w1 _).mono HB1.out.size), rfl⟩
    | some t =>
      by_cases hat : st.at' = bs.length
      · simp only [Option.isSome, Bool.true_and, decide_eq_true hat] at CA
        have hok := (pf.ok t rfl).2
        have hst := states_le t
        simp only [hat, ne_eq, not_true, if_false]
        by_cases hbig : 100 < st.deepest ∨ 999 < Rx.states t
        · rw [if_pos hbig]
          obtain ⟨SS, hSS⟩ : ∃ x, Rx.states t = x := ⟨_, rfl⟩
          rw [hSS] at hbig hst
          have HSS := Lib.hid hSS
          have hw1 : RowKit.wrap64 (((SS : Nat) : Int) + 1) = ((SS : Nat) : Int) + 1 := IntWalk.wrap64_in _ ⟨by omega, by omega⟩
          by_cases hdp : 100 < st.deepest
          · have e1 : decide ((100 : Int) < ((st.deepest : Nat) : Int)) = true := by simp; omega
            have e2 : decide (100 < st.deepest) = true := by simp; omega
            clear nb pf hd2 hok hbig hst hdp hat
            go_enter Tryd.func24, Tryd.ntmps24
            go_wp2_with fail
            refine CA.out.mono ?_
            rintro e w1 ⟨h1, v, rfl, hn⟩
            obtain ⟨b, rfl, hN⟩ := hn t rfl
            have HB1 := Lib.hid (HNE.out w1 h1.only)
            have c1 := h1.rd.c1
            have c2 := h1.rd.c2
            have c4 := h1.rd.c4
            have cs := hN.st
            rw [HSS.out] at cs
            unfold ptr
            clear h1 hn hN
            go_wp2
            go_returns
            exact ⟨HB1.out, rfl⟩
          · have hs9 : 999 < SS := by omega
            have e1 : decide ((100 : Int) < ((st.deepest : Nat) : Int)) = false := by simp; omega
            have e2 : decide (100 < st.deepest) = false := by simp; omega
            have e3 : decide ((1000 : Int) < ((SS : Nat) : Int) + 1) = true := by simp; omega
            have e4 : (1000 : Int) < ((SS : Nat) : Int) + 1 := by omega
            clear nb pf hd2 hok hbig hst hdp hat hs9
            go_enter Tryd.func24, Tryd.ntmps24
            go_wp2_with fail
            refine CA.out.mono ?_
            rintro e w1 ⟨h1, v, rfl, hn⟩
            obtain ⟨b, rfl, hN⟩ := hn t rfl
            have HB1 := Lib.hid (HNE.out w1 h1.only)
            have c1 := h1.rd.c1
            have c2 := h1.rd.c2
            have c4 := h1.rd.c4
            have cs := hN.st
            rw [HSS.out] at cs
            unfold ptr
            clear h1 hn hN
            go_wp2
            go_returns
            exact ⟨HB1.out, rfl⟩
        · rw [if_neg hbig]
          obtain ⟨SS, hSS⟩ : ∃ x, Rx.states t = x := ⟨_, rfl⟩
          have hsz := size_states t hok.wf (by omega)
          have hlen : Rx.size t ≤ 2000 := by omega
          have CBD := Lib.hid (fun (b : Nat) (w : World) (H : IsN w (Fresh (w.alloc (.cells #[.string D, .int .i64 0, .int .i64 0, .int .i64 0, .int .i64 0] 59)).heap.size) t b) => True.intro)
          have CB := Lib.hid (fun (S : Nat → Prop) (b : Nat) (w : World) (H : IsN w S t b) => build_any S t b w hok.wf hok.bd (nb t rfl) hok.size (by omega) H)
          have HPF := Lib.hid (fun (w : World) (S : Nat → Prop) (b : Nat) (H : IsN w S t b) => Rx.prog_fit t (fit_of t b H))
          have HWF := Lib.hid hok.wf
          have hpl := Rx.prog_length t hok.wf
          have HPL := Lib.hid (show 0 < (Rx.prog t).length ∧ (Rx.prog t).length ≤ 100000 from ⟨by omega, by omega⟩)
          rw [hSS] at hbig hst
          have HSS := Lib.hid hSS
          have hw1 : RowKit.wrap64 (((SS : Nat) : Int) + 1) = ((SS : Nat) : Int) + 1 := IntWalk.wrap64_in _ ⟨by omega, by omega⟩
          have e1 : decide ((100 : Int) < ((st.deepest : Nat) : Int)) = false := by simp; omega
          have e2 : decide (100 < st.deepest) = false := by simp; omega
          have e3 : decide ((1000 : Int) < ((SS : Nat) : Int) + 1) = false := by simp; omega
          have e4 : ¬ (1000 : Int) < ((SS : Nat) : Int) + 1 := by omega
          have HRL := Lib.hid (show w.heap.size ≤ w.heap.size from Nat.le_refl _)
          clear nb pf hd2 hok hbig hst hat hsz hlen hpl CBD
          go_enter Tryd.func24, Tryd.ntmps24
          go_wp2_with fail
          refine CA.out.mono ?_
          rintro e w1 ⟨h1, v, rfl, hn⟩
          obtain ⟨b, rfl, hN⟩ := hn t rfl
          have HB1 := Lib.hid (HNE.out w1 h1.only)
          have c1 := h1.rd.c1
          have c2 := h1.rd.c2
          have c4 := h1.rd.c4
          have cs := hN.st
          have hbd : Below w1.heap.size w1 w1.drew := ⟨rfl, rfl, rfl, Nat.le_refl _, fun _ _ => rfl⟩
          have hNd : IsN w1.drew (Fresh (w.alloc (.cells #[.string D, .int .i64 0, .int .i64 0, .int .i64 0, .int .i64 0] 59)).heap.size) t b := IsN.keep (fun k hs hl => ⟨hbd.block k hl, hs⟩) t b hN
          have CB1 := Lib.hid (CB.out _ b w1.drew hNd)
          have HF1 := Lib.hid (HPF.out _ _ _ hNd)
          have HRl := h1.rd.lt
          have HG := Lib.hid (fun (w3 : World) (v : Value) (P : Nat) (hv : PRv w1.drew w3 P v (Rx.prog t)) => hv)
          rw [HSS.out] at cs
          unfold ptr at CB1 ⊢
          clear h1 hn hN hNd CB HPF c1
          go_wp2
          have HC2 := Lib.hid (fun (w3 : World) (hb : Below w1.drew.heap.size w1.drew w3) => show w3.cell? ⟨w.heap.size, 2, none⟩ = some (.int .i64 ((st.groups : Nat) : Int)) from (hb.cell (p := ⟨w.heap.size, 2, none⟩) HRl).trans c2)
          go_region_law (go_simp; go_at_call 27; refine CB1.out.mono ?_; rintro e w3 ⟨v3, P3, rfl, hP⟩; obtain ⟨a3, k3, rfl⟩ := hP.shape; have g3 := HC2.out w3 hP.below; obtain ⟨gp3, cp3, hpg⟩ := hP.pg HPL.out.1 HF1.out; have HPQ := Lib.hid hpg; have HPB := Lib.hid hP.below; clear hP hpg; go_simp)
          all_goals
            go_wp2
            go_returns
            have hb3 : Below w3.heap.size w3 (w3.alloc (.cells #[.slice a3 (Rx.prog t).length k3, .int .i64 ((st.groups : Nat) : Int), .int .i64 (((SS : Nat) : Int) + 1)] 76)) := (Below.refl _ _).alloc (Nat.le_refl _) _
            have hb13 : Below w1.heap.size w1 w3 := hbd.trans (HPB.out.mono hbd.size)
            refine ⟨(HB1.out.trans (hb13.mono HB1.out.size)).trans (hb3.mono (Nat.le_trans HB1.out.size hb13.size)), w3.heap.size, rfl, ⟨⟨_, gp3, cp3, ?_, HPQ.out.below hb3⟩, HWF.out, HPL.out.2⟩⟩
            rw [HSS.out, show ((SS + 1 : Nat) : Int) = ((SS : Nat) : Int) + 1 by omega]
            exact heap_alloc_new w3 _
      · simp only [Option.isSome, Bool.true_and, decide_eq_false hat] at CA
        simp only [ne_eq, hat, not_false_eq_true, if_true]
        clear nb pf hd2
        go_enter Tryd.func24, Tryd.ntmps24
        go_wp2_with fail
        refine CA.out.mono ?_
        rintro e w1 ⟨h1, v, rfl, hn⟩
        obtain ⟨b, rfl, _⟩ := hn t rfl
        have HB1 := Lib.hid (HNE.out w1 h1.only)
        have c1 := h1.rd.c1
        unfold ptr
        clear h1 hn
        go_wp2
        go_quiet (fail)
        go_wp2
        go_returns
        exact ⟨HB1.out.trans ((below_drewM w1 _).mono HB1.out.size), rfl⟩
end Go.Proofs.YtphighddlfabbaaDoor
namespace Go.Proofs.YtphighddlfabbaaDoor
set_option linter.unusedVariables false
set_option linter.unusedSimpArgs false
open Go.RowKit Go.PlainAid Go.Shelf
open Rx (Set4 RS Instr Rec MS)
/-- does the pattern fit all of the text -/
def fitB (t : Rx.Node) (T : List Nat) : Bool := (Rx.runM (Rx.prog t) T false).fits
set_option maxHeartbeats 4000000 in
set_option maxRecDepth 100000 in
theorem match_any (b : Nat) (t : Rx.Node) (g : Nat) (T : List Nat) (hT : IsB T) (hL : T.length ≤ 10000000000) (w : World) (H : Rgx w b t g) :
    Calls Tryd.prog 25 #[ptr b, .string (strOf T)] w fun e w' => e = .returned (.bool (fitB t T)) ∧ Below w.heap.size w w' := by
  obtain ⟨⟨pv, gp, cap, hrow, hpg⟩, hwf, hfew⟩ := H
  have hG := Rx.prog_good t hwf
  have hpl := Rx.prog_length t hwf
  have hv := hpg.val
  subst hv
  have c0 : w.cell? ⟨b, 0, none⟩ = some (.slice (some ⟨gp, 0, none⟩) (Rx.prog t).length cap) := cell_of_row _ _ 0 _ _ _ hrow
  have CN := Lib.hid (newMachine_any gp (Rx.prog t).length cap T hfew w)
  have CR := Lib.hid (fun (M : Nat) (w1 : World) (H : Mc w w1 M (Rx.prog t).length (.slice (some ⟨gp, 0, none⟩) (Rx.prog t).length cap) T false 0 nilS [] Rx.start0) => run_any (T := T) (keeps := false) hpg hG (by omega) hfew hT hL w1 H)
  unfold fitB
  obtain ⟨D, hD⟩ : ∃ D, strOf T = D := ⟨_, rfl⟩
  rw [hD] at CN ⊢
  unfold ptr at CN CR ⊢
  clear hrow hpg hwf hG hpl hT hL hD hfew
  go_enter Tryd.func25, Tryd.ntmps25
  go_wp2_with fail
  refine CN.out.mono ?_
  rintro e w1 ⟨M, rfl, h1⟩
  have C1 := Lib.hid (CR.out M w1 h1)
  clear h1 CR
  go_wp2_with fail
  refine C1.out.mono ?_
  rintro e w2 ⟨rfl, i2, nv, nl, h2⟩
  have HB := Lib.hid h2.below
  clear h2
  go_wp2
  go_ret
  exact ⟨rfl, HB.out⟩
/-- what the laws ask: is it a pattern, and does it fit -/
def fitsV (bs T : List Nat) : Bool × Bool := match Rx.compile sg bs with
  | .error _ => (false, false)
  | .ok (t, _) => (true, fitB t T)
end Go.Proofs.YtphighddlfabbaaDoor
