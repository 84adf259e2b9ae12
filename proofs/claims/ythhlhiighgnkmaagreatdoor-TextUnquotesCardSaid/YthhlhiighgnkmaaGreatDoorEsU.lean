/-
  WALKS: the document's own Unquote.
-/
import Derived.Test.YthhlhiighgnkmaaGreatDoorEsS
import Derived.Test.YthhlhiighgnkmaaGreatDoorEsT
namespace Go.Proofs.YthhlhiighgnkmaaGreatDoor
set_option linter.unusedVariables false
set_option linter.unusedSimpArgs false
open Go.RowKit Go.PlainAid
theorem utf8L_pos (v : Nat) : 0 < (utf8L v).length := by
  unfold utf8L
  repeat' split
  all_goals simp
theorem byteR_pos {T : DigR} {q p' : Nat} {xs : List Nat} (h : byteR q T = .ok xs p') : 0 < xs.length := by
  cases T with
  | val v =>
    unfold byteR at h
    by_cases hv : v ≤ 255
    · simp only [if_pos hv] at h; cases h; simp
    · simp only [if_neg hv] at h; cases h
  | bad => cases h
  | ends => cases h
theorem runeR_pos {T : DigR} {q p' : Nat} {xs : List Nat} (h : runeR q T = .ok xs p') : 0 < xs.length := by
  cases T with
  | val v =>
    unfold runeR at h
    by_cases hv : v < 55296 ∨ (57343 < v ∧ v ≤ 1114111)
    · simp only [if_pos hv] at h; cases h; exact utf8L_pos v
    · simp only [if_neg hv] at h; cases h
  | bad => cases h
  | ends => cases h
theorem escF_pos {bs : List Nat} {p p' : Nat} {xs : List Nat} (h : escF bs p = .ok xs p') : 0 < xs.length := by
  cases hc : bs[p]? with
  | none => rw [escF_none hc] at h; cases h
  | some c =>
    cases hs : simpleV c with
    | some v => rw [escF_simple hc hs] at h; cases h; simp
    | none =>
      rw [escF_other hc hs] at h
      by_cases h1 : c = 120
      · rw [if_pos h1] at h; exact byteR_pos h
      rw [if_neg h1] at h
      by_cases h2 : c = 117
      · rw [if_pos h2] at h; exact runeR_pos h
      rw [if_neg h2] at h
      by_cases h3 : c = 85
      · rw [if_pos h3] at h; exact runeR_pos h
      rw [if_neg h3] at h
      by_cases h4 : 48 ≤ c ∧ c ≤ 55
      · rw [if_pos h4] at h; exact byteR_pos h
      rw [if_neg h4] at h; cases h
theorem own_src {w : World} {base : Nat} {v : Value} {ds : List Nat} (h : Own w base v ds) (hp : 0 < ds.length) : ∃ b cap, v = .slice (some ⟨b, 0, none⟩) ds.length cap ∧ ∀ j u, (cellsOf ds)[j]? = some u → w.cell? ((⟨b, 0, none⟩ : Addr).add j) = some u := by
  obtain ⟨a, cap, rfl, hc, hcell⟩ := h.cells
  obtain ⟨b, rfl, _⟩ := hcell 0 hp
  refine ⟨b, cap, rfl, fun j u hu => ?_⟩
  have hj : j < ds.length := by have := (List.getElem?_eq_some_iff.1 hu).1; rwa [cellsOf_length] at this
  obtain ⟨b2, hb2, hcj⟩ := hcell j hj
  cases hb2
  rw [add_here, hcj, ← cellsOf_get ds j hj, hu]
def uvalR (bs : List Nat) (r : QR) : Value := .tuple #[.string (strOf (uStr r)), .int .i64 ((uErr r : Nat) : Int), .int .i64 ((uPos bs r : Nat) : Int)]
set_option maxRecDepth 100000 in
set_option maxHeartbeats 4000000 in
theorem runquote_run (bs : List Nat) (q : Nat) (r : QR) (hB : IsB bs) (hl : bs.length ≤ 30000) (hq : q = 34 ∨ q = 39 ∨ q = 96) (h0 : bs[0]? = some q) (hr : Run q bs 1 [] r) (w : World) :
    Calls Tryz.prog 29 #[.string (strOf bs)] w (Gives w (uvalR bs r)) := by
  obtain ⟨i0, hi, hz0, hz1, hz2⟩ := info_parts info5
  have hsz := strOf_size bs
  have hbt := get_bt (strOf bs)
  obtain ⟨hlt, hce0⟩ := List.getElem?_eq_some_iff.1 h0
  have hb0 := strOf_bt bs hB 0 hlt
  rw [hce0] at hb0
  have CE := Lib.hid (fun (p : Nat) (hp : p ≤ 30001) (w : World) => resc_any bs p hB hl hp w)
  have HB := Lib.hid hB
  have HI := Lib.hid (hr.isB hB IsB.nil)
  have HS := Lib.hid (fun (k c : Nat) (hk : bs[k]? = some c) => show bt (strOf bs) k = (c : Int) ∧ k < bs.length ∧ c < 256 by
    obtain ⟨h1, h2⟩ := List.getElem?_eq_some_iff.1 hk
    have := strOf_bt bs hB k h1
    rw [h2] at this
    exact ⟨this, h1, at_isB hB hk⟩)
  have HT := Lib.hid hr
  have HN := Lib.hid (fun (k : Nat) (hk : bs[k]? = none) => List.getElem?_eq_none_iff.1 hk)
  obtain ⟨L, hL⟩ : ∃ L, bs.length = L := ⟨_, rfl⟩
  rw [hL] at hsz hl hlt HN HS
  have HLL := Lib.hid hL
  have hpi : (0 : Int) < (L : Int) := by omega
  have hl0 : ((L : Int) == 0) = false := by simp; omega
  have HP0 := Lib.hid (show 1 ≤ L by omega)
  have HL := Lib.hid hl
  have HI2 := Lib.hid (show ∀ xs p', r = .ok xs p' → IsB xs ∧ p' ≤ L by rw [← hL]; exact HI.out)
  clear h0 hr hB hl hL HI hce0
  rcases hq with hqe | hqe | hqe
  · have hqf : ((q : Int) == 96) = false := by subst hqe; rfl
    have hqg : ((q : Int) != 96) = true := by subst hqe; rfl
    have m34 : ((q : Int) != 34) = false := by subst hqe; rfl
    have m39 : ((q : Int) != 39) = true := by subst hqe; rfl
    have HQE := Lib.hid hqe
    clear hqe hlt
    go_enter Tryz.func29, Tryz.ntmps29
    go_wp2
    go_loopw [6, 7] (fun b i wr => ∃ (p : Nat) (es : List Nat), Hid (Run q bs p es r) ∧ p ≤ L ∧ i = .int .i64 ((p : Nat) : Int) ∧ Hid (es.length ≤ 4 * p) ∧ Hid (Own wr w.heap.size b es) ∧ Hid (Below w.heap.size w wr)) (fun _ i wr => (L + 1 - intOf i).toNat)
    case atStart => exact ⟨1, [], HT, HP0.out, rfl, Lib.hid (by simp), Lib.hid (Own.nil _ _), Lib.hid (Below.refl _ _)⟩
    case round =>
      obtain ⟨p, es, HTK, hp, rfl, HE, HO, HBL⟩ := hrel
      have HW := Lib.hid HBL.out.size
      obtain ⟨ao, co, rfl⟩ := own_shape HO.out
      have hes : es.length ≤ 200000 := by have h1 := HE.out; have h3 := HL.out; omega
      obtain ⟨m, hm⟩ : ∃ m, es.length = m := ⟨_, rfl⟩
      have HM := Lib.hid hm
      rw [hm] at HO hes ⊢
      clear hm
      cases HTK.out with
      | stop _ _ hce =>
        have hge := HN.out p hce
        have d1 : decide ((p : Int) < (L : Int)) = false := decide_eq_false (by omega)
        have d2 : decide (p < L) = false := decide_eq_false (by omega)
        have d3 : decide ((p : Int) ≥ (L : Int)) = true := decide_eq_true (by omega)
        have d4 : decide ((L : Int) ≤ (p : Int)) = true := decide_eq_true (by omega)
        have d5 : decide (L ≤ p) = true := decide_eq_true (by omega)
        clear hge hce hp
        go_wp2
        go_returns
        exact ⟨by unfold uvalR uPos; rw [HLL.out]; rfl, HBL.out⟩
      | close _ _ hce =>
        obtain ⟨hbp, hpl, hc256⟩ := HS.out p q hce
        have hpi2 : (p : Int) < (L : Int) := by omega
        have d1 : decide ((p : Int) < (L : Int)) = true := decide_eq_true (by omega)
        have d2 : decide (p < L) = true := decide_eq_true (by omega)
        have d3 : decide ((p : Int) ≥ (L : Int)) = false := decide_eq_false (by omega)
        have d4 : decide ((L : Int) ≤ (p : Int)) = false := decide_eq_false (by omega)
        have d5 : decide (L ≤ p) = false := decide_eq_false (by omega)
        have n1 : ((q : Int) != (q : Int)) = false := by simp
        have e1 : IntKind.i64.wrap ((p : Int) + 1) = ((p + 1 : Nat) : Int) := by have := HL.out; rw [IntKind.wrap_i64]; omega
        obtain ⟨P1, hP1⟩ : ∃ P1, p + 1 = P1 := ⟨_, rfl⟩
        rw [hP1] at e1
        have HP1 := Lib.hid hP1
        have hcv := conv_own HO.out (HI2.out es (p + 1) rfl).1
        clear hce hpl hc256 hP1 hp
        go_wp2
        go_returns
        exact ⟨by unfold uvalR uPos; rw [← HP1.out]; rfl, HBL.out⟩
      | raw _ c _ _ hq96 hce hcq hrun =>
        exact absurd HQE.out (by omega)
      | plain _ c _ _ hq96 hce hcq hc10 hc92 hrun =>
        obtain ⟨hbp, hpl, hc256⟩ := HS.out p c hce
        have hpi2 : (p : Int) < (L : Int) := by omega
        have d1 : decide ((p : Int) < (L : Int)) = true := decide_eq_true (by omega)
        have d2 : decide (p < L) = true := decide_eq_true (by omega)
        have e1 : IntKind.i64.wrap ((p : Int) + 1) = ((p + 1 : Nat) : Int) := by have := HL.out; rw [IntKind.wrap_i64]; omega
        have n1 : ((c : Int) != (q : Int)) = true := by simp; omega
        have n2 : ((c : Int) == 10) = false := by simp; omega
        have n3 : ((c : Int) != 92) = true := by simp; omega
        clear hc10 hc92
        obtain ⟨P1, hP1⟩ : ∃ P1, p + 1 = P1 := ⟨_, rfl⟩
        rw [hP1] at e1
        have HP1 := Lib.hid hP1
        have HRN := Lib.hid hrun
        have HPL := Lib.hid hpl
        clear hce hcq hrun hP1 hpl hp
        go_wp2_with (at_builtin; refine wpList_append_own _ rfl (.tmp 59) (.tmp 63) 87 rfl w.heap.size 5 i0 (.int .u8 0) 1 1 Tryz.underlying87 hi hz0 hz1 hz2 rfl (by decide) (.slice ao m co) m (cellsOf es) rfl (own_with HO.out HM.out _) ⟨wr.heap.size, 0, none⟩ 1 1 (cellsOf [c]) rfl rfl (alloc_row _ [c]) (cellsOf_one _) (by unfold maxLen; omega) (by omega) (by have := HW.out; simp; omega) ?_; intro v2 w2 hown2 hgr2 hne2)
        obtain ⟨g1, g2⟩ := put_one (c := c) hown2 HM.out HO.out hgr2 HW.out
        have G1 := Lib.hid g1
        have G2 := Lib.hid (HBL.out.trans g2)
        clear hown2 hgr2 hne2 g1 g2
        go_wp2
        go_roundw
        case rel => exact ⟨p + 1, es ++ [c], HRN, HPL.out, by rw [HP1.out], Lib.hid (by have := HE.out; rw [List.length_append, List.length_singleton]; omega), G1, G2⟩
        case measure => have h1 := HP1.out; have h2 := HPL.out; simp [intOf]; omega
      | line _ _ hq96 hq10 hce =>
        obtain ⟨c, hc⟩ : ∃ c, c = 10 := ⟨_, rfl⟩
        rw [← hc] at hce
        obtain ⟨hbp, hpl, hc256⟩ := HS.out p c hce
        have hpi2 : (p : Int) < (L : Int) := by omega
        have d1 : decide ((p : Int) < (L : Int)) = true := decide_eq_true (by omega)
        have d2 : decide (p < L) = true := decide_eq_true (by omega)
        have e1 : IntKind.i64.wrap ((p : Int) + 1) = ((p + 1 : Nat) : Int) := by have := HL.out; rw [IntKind.wrap_i64]; omega
        have n1 : ((c : Int) != (q : Int)) = true := by simp; omega
        have n2 : ((c : Int) == 10) = true := by simp; omega
        have n3 : ((c : Int) != 92) = true := by simp; omega
        clear hce hc hq10 hpl hp
        go_wp2
        go_returns
        exact ⟨rfl, HBL.out⟩
      | esc _ p' _ xs _ hq96 hq92 hce hesc hrun =>
        have HRN := Lib.hid hrun
        have hfar := escF_far hesc
        have HPX := Lib.hid (escF_pos hesc)
        have HF1 := Lib.hid (show p < p' ∧ p' ≤ L by rw [← HLL.out]; omega)
        have HF2 := Lib.hid (show m + xs.length ≤ 4 * p' by have h1 := HE.out; have h2 := HM.out; omega)
        have HXL := Lib.hid hfar.2.2.1
        clear hrun hfar
        obtain ⟨c, hc⟩ : ∃ c, c = 92 := ⟨_, rfl⟩
        rw [← hc] at hce
        obtain ⟨hbp, hpl, hc256⟩ := HS.out p c hce
        have hpi2 : (p : Int) < (L : Int) := by omega
        have d1 : decide ((p : Int) < (L : Int)) = true := decide_eq_true (by omega)
        have d2 : decide (p < L) = true := decide_eq_true (by omega)
        have e1 : IntKind.i64.wrap ((p : Int) + 1) = ((p + 1 : Nat) : Int) := by have := HL.out; rw [IntKind.wrap_i64]; omega
        have n1 : ((c : Int) != (q : Int)) = true := by simp; omega
        have n2 : ((c : Int) == 10) = false := by simp; omega
        have n3 : ((c : Int) != 92) = false := by simp; omega
        have CE1 := CE.out (p + 1) (by have := HL.out; omega) wr
        rw [hesc] at CE1
        obtain ⟨P1, hP1⟩ : ∃ P1, p + 1 = P1 := ⟨_, rfl⟩
        rw [hP1] at e1 CE1
        have HP1 := Lib.hid hP1
        have CEE := Lib.hid CE1
        have HPL := Lib.hid hpl
        clear hce hc hq92 CE1 hP1 hpl hp
        go_wp2_with fail
        refine CEE.out.mono ?_
        rintro e w1 ⟨v, d, rfl, hd, g1, g2⟩
        have O1 := Lib.hid (HO.out.below g2)
        obtain ⟨b1, cap1, rfl, hsrc⟩ := own_src g1 HPX.out
        have HSR := Lib.hid hsrc
        have B1 := Lib.hid (HBL.out.trans (g2.mono HW.out))
        have S1 := Lib.hid (Nat.le_trans HW.out g2.size)
        obtain ⟨xl, hxl⟩ : ∃ n, xs.length = n := ⟨_, rfl⟩
        have HXE := Lib.hid hxl
        have hxb : xl ≤ 4 := by have := HXL.out; omega
        rw [hxl]
        have e2 : IntKind.i64.wrap ((P1 : Int) + (d : Int)) = ((p' : Nat) : Int) := by have h1 := HL.out; have h2 := HF1.out; rw [IntKind.wrap_i64]; omega
        clear g1 g2 hsrc hxl hd
        go_wp2_with (at_builtin; refine wpList_append_own _ rfl (.tmp 82) (.tmp 83) 87 rfl w.heap.size 5 i0 (.int .u8 0) 1 1 Tryz.underlying87 hi hz0 hz1 hz2 rfl (by decide) (.slice ao m co) m (cellsOf es) rfl (by have h := O1.out; unfold Own at h; rw [HM.out] at h; exact h) ⟨b1, 0, none⟩ xl cap1 (cellsOf xs) rfl (by rw [cellsOf_length, HXE.out, Nat.mul_one]) HSR.out (cellsOf_one _) (by unfold maxLen; omega) (by omega) S1.out ?_; intro v2 w2 hown2 hgr2 hne2)
        obtain ⟨g1, g2⟩ := own_grow (ds := es) (es := xs) hown2 (by rw [HM.out, HXE.out]) (own_block O1.out) hgr2 B1.out S1.out
        have G1 := Lib.hid g1
        have G2 := Lib.hid g2
        clear hown2 hgr2 hne2 g1 g2
        go_wp2
        go_roundw
        case rel => exact ⟨p', es ++ xs, HRN, HF1.out.2, rfl, Lib.hid (by rw [List.length_append, HM.out]; exact HF2.out), G1, G2⟩
        case measure => have := HF1.out; simp [intOf]; omega
      | escbad _ _ hq96 hq92 hce hesc =>
        obtain ⟨c, hc⟩ : ∃ c, c = 92 := ⟨_, rfl⟩
        rw [← hc] at hce
        obtain ⟨hbp, hpl, hc256⟩ := HS.out p c hce
        have hpi2 : (p : Int) < (L : Int) := by omega
        have d1 : decide ((p : Int) < (L : Int)) = true := decide_eq_true (by omega)
        have d2 : decide (p < L) = true := decide_eq_true (by omega)
        have e1 : IntKind.i64.wrap ((p : Int) + 1) = ((p + 1 : Nat) : Int) := by have := HL.out; rw [IntKind.wrap_i64]; omega
        have n1 : ((c : Int) != (q : Int)) = true := by simp; omega
        have n2 : ((c : Int) == 10) = false := by simp; omega
        have n3 : ((c : Int) != 92) = false := by simp; omega
        have CE1 := CE.out (p + 1) (by have := HL.out; omega) wr
        rw [hesc] at CE1
        obtain ⟨P1, hP1⟩ : ∃ P1, p + 1 = P1 := ⟨_, rfl⟩
        rw [hP1] at e1 CE1
        have HP1 := Lib.hid hP1
        have CEE := Lib.hid CE1
        have HPL := Lib.hid hpl
        clear hce hc hq92 CE1 hP1 hpl hp
        go_wp2_with fail
        refine CEE.out.mono ?_
        rintro e w1 ⟨rfl, g2⟩
        have B1 := Lib.hid (HBL.out.trans (g2.mono HW.out))
        clear g2
        go_wp2
        go_returns
        exact ⟨rfl, B1.out⟩
      | escend _ _ hq96 hq92 hce hesc =>
        obtain ⟨c, hc⟩ : ∃ c, c = 92 := ⟨_, rfl⟩
        rw [← hc] at hce
        obtain ⟨hbp, hpl, hc256⟩ := HS.out p c hce
        have hpi2 : (p : Int) < (L : Int) := by omega
        have d1 : decide ((p : Int) < (L : Int)) = true := decide_eq_true (by omega)
        have d2 : decide (p < L) = true := decide_eq_true (by omega)
        have e1 : IntKind.i64.wrap ((p : Int) + 1) = ((p + 1 : Nat) : Int) := by have := HL.out; rw [IntKind.wrap_i64]; omega
        have n1 : ((c : Int) != (q : Int)) = true := by simp; omega
        have n2 : ((c : Int) == 10) = false := by simp; omega
        have n3 : ((c : Int) != 92) = false := by simp; omega
        have CE1 := CE.out (p + 1) (by have := HL.out; omega) wr
        rw [hesc] at CE1
        obtain ⟨P1, hP1⟩ : ∃ P1, p + 1 = P1 := ⟨_, rfl⟩
        rw [hP1] at e1 CE1
        have HP1 := Lib.hid hP1
        have CEE := Lib.hid CE1
        have HPL := Lib.hid hpl
        clear hce hc hq92 CE1 hP1 hpl hp
        go_wp2_with fail
        refine CEE.out.mono ?_
        rintro e w1 ⟨rfl, g2⟩
        have B1 := Lib.hid (HBL.out.trans (g2.mono HW.out))
        clear g2
        go_wp2
        go_returns
        exact ⟨by unfold uvalR uPos; rw [HLL.out]; rfl, B1.out⟩
  · have hqf : ((q : Int) == 96) = false := by subst hqe; rfl
    have hqg : ((q : Int) != 96) = true := by subst hqe; rfl
    have m34 : ((q : Int) != 34) = true := by subst hqe; rfl
    have m39 : ((q : Int) != 39) = false := by subst hqe; rfl
    have HQE := Lib.hid hqe
    clear hqe hlt
    go_enter Tryz.func29, Tryz.ntmps29
    go_wp2
    go_loopw [6, 7] (fun b i wr => ∃ (p : Nat) (es : List Nat), Hid (Run q bs p es r) ∧ p ≤ L ∧ i = .int .i64 ((p : Nat) : Int) ∧ Hid (es.length ≤ 4 * p) ∧ Hid (Own wr w.heap.size b es) ∧ Hid (Below w.heap.size w wr)) (fun _ i wr => (L + 1 - intOf i).toNat)
    case atStart => exact ⟨1, [], HT, HP0.out, rfl, Lib.hid (by simp), Lib.hid (Own.nil _ _), Lib.hid (Below.refl _ _)⟩
    case round =>
      obtain ⟨p, es, HTK, hp, rfl, HE, HO, HBL⟩ := hrel
      have HW := Lib.hid HBL.out.size
      obtain ⟨ao, co, rfl⟩ := own_shape HO.out
      have hes : es.length ≤ 200000 := by have h1 := HE.out; have h3 := HL.out; omega
      obtain ⟨m, hm⟩ : ∃ m, es.length = m := ⟨_, rfl⟩
      have HM := Lib.hid hm
      rw [hm] at HO hes ⊢
      clear hm
      cases HTK.out with
      | stop _ _ hce =>
        have hge := HN.out p hce
        have d1 : decide ((p : Int) < (L : Int)) = false := decide_eq_false (by omega)
        have d2 : decide (p < L) = false := decide_eq_false (by omega)
        have d3 : decide ((p : Int) ≥ (L : Int)) = true := decide_eq_true (by omega)
        have d4 : decide ((L : Int) ≤ (p : Int)) = true := decide_eq_true (by omega)
        have d5 : decide (L ≤ p) = true := decide_eq_true (by omega)
        clear hge hce hp
        go_wp2
        go_returns
        exact ⟨by unfold uvalR uPos; rw [HLL.out]; rfl, HBL.out⟩
      | close _ _ hce =>
        obtain ⟨hbp, hpl, hc256⟩ := HS.out p q hce
        have hpi2 : (p : Int) < (L : Int) := by omega
        have d1 : decide ((p : Int) < (L : Int)) = true := decide_eq_true (by omega)
        have d2 : decide (p < L) = true := decide_eq_true (by omega)
        have d3 : decide ((p : Int) ≥ (L : Int)) = false := decide_eq_false (by omega)
        have d4 : decide ((L : Int) ≤ (p : Int)) = false := decide_eq_false (by omega)
        have d5 : decide (L ≤ p) = false := decide_eq_false (by omega)
        have n1 : ((q : Int) != (q : Int)) = false := by simp
        have e1 : IntKind.i64.wrap ((p : Int) + 1) = ((p + 1 : Nat) : Int) := by have := HL.out; rw [IntKind.wrap_i64]; omega
        obtain ⟨P1, hP1⟩ : ∃ P1, p + 1 = P1 := ⟨_, rfl⟩
        rw [hP1] at e1
        have HP1 := Lib.hid hP1
        have hcv := conv_own HO.out (HI2.out es (p + 1) rfl).1
        clear hce hpl hc256 hP1 hp
        go_wp2
        go_returns
        exact ⟨by unfold uvalR uPos; rw [← HP1.out]; rfl, HBL.out⟩
      | raw _ c _ _ hq96 hce hcq hrun =>
        exact absurd HQE.out (by omega)
      | plain _ c _ _ hq96 hce hcq hc10 hc92 hrun =>
        obtain ⟨hbp, hpl, hc256⟩ := HS.out p c hce
        have hpi2 : (p : Int) < (L : Int) := by omega
        have d1 : decide ((p : Int) < (L : Int)) = true := decide_eq_true (by omega)
        have d2 : decide (p < L) = true := decide_eq_true (by omega)
        have e1 : IntKind.i64.wrap ((p : Int) + 1) = ((p + 1 : Nat) : Int) := by have := HL.out; rw [IntKind.wrap_i64]; omega
        have n1 : ((c : Int) != (q : Int)) = true := by simp; omega
        have n2 : ((c : Int) == 10) = false := by simp; omega
        have n3 : ((c : Int) != 92) = true := by simp; omega
        clear hc10 hc92
        obtain ⟨P1, hP1⟩ : ∃ P1, p + 1 = P1 := ⟨_, rfl⟩
        rw [hP1] at e1
        have HP1 := Lib.hid hP1
        have HRN := Lib.hid hrun
        have HPL := Lib.hid hpl
        clear hce hcq hrun hP1 hpl hp
        go_wp2_with (at_builtin; refine wpList_append_own _ rfl (.tmp 59) (.tmp 63) 87 rfl w.heap.size 5 i0 (.int .u8 0) 1 1 Tryz.underlying87 hi hz0 hz1 hz2 rfl (by decide) (.slice ao m co) m (cellsOf es) rfl (own_with HO.out HM.out _) ⟨wr.heap.size, 0, none⟩ 1 1 (cellsOf [c]) rfl rfl (alloc_row _ [c]) (cellsOf_one _) (by unfold maxLen; omega) (by omega) (by have := HW.out; simp; omega) ?_; intro v2 w2 hown2 hgr2 hne2)
        obtain ⟨g1, g2⟩ := put_one (c := c) hown2 HM.out HO.out hgr2 HW.out
        have G1 := Lib.hid g1
        have G2 := Lib.hid (HBL.out.trans g2)
        clear hown2 hgr2 hne2 g1 g2
        go_wp2
        go_roundw
        case rel => exact ⟨p + 1, es ++ [c], HRN, HPL.out, by rw [HP1.out], Lib.hid (by have := HE.out; rw [List.length_append, List.length_singleton]; omega), G1, G2⟩
        case measure => have h1 := HP1.out; have h2 := HPL.out; simp [intOf]; omega
      | line _ _ hq96 hq10 hce =>
        obtain ⟨c, hc⟩ : ∃ c, c = 10 := ⟨_, rfl⟩
        rw [← hc] at hce
        obtain ⟨hbp, hpl, hc256⟩ := HS.out p c hce
        have hpi2 : (p : Int) < (L : Int) := by omega
        have d1 : decide ((p : Int) < (L : Int)) = true := decide_eq_true (by omega)
        have d2 : decide (p < L) = true := decide_eq_true (by omega)
        have e1 : IntKind.i64.wrap ((p : Int) + 1) = ((p + 1 : Nat) : Int) := by have := HL.out; rw [IntKind.wrap_i64]; omega
        have n1 : ((c : Int) != (q : Int)) = true := by simp; omega
        have n2 : ((c : Int) == 10) = true := by simp; omega
        have n3 : ((c : Int) != 92) = true := by simp; omega
        clear hce hc hq10 hpl hp
        go_wp2
        go_returns
        exact ⟨rfl, HBL.out⟩
      | esc _ p' _ xs _ hq96 hq92 hce hesc hrun =>
        have HRN := Lib.hid hrun
        have hfar := escF_far hesc
        have HPX := Lib.hid (escF_pos hesc)
        have HF1 := Lib.hid (show p < p' ∧ p' ≤ L by rw [← HLL.out]; omega)
        have HF2 := Lib.hid (show m + xs.length ≤ 4 * p' by have h1 := HE.out; have h2 := HM.out; omega)
        have HXL := Lib.hid hfar.2.2.1
        clear hrun hfar
        obtain ⟨c, hc⟩ : ∃ c, c = 92 := ⟨_, rfl⟩
        rw [← hc] at hce
        obtain ⟨hbp, hpl, hc256⟩ := HS.out p c hce
        have hpi2 : (p : Int) < (L : Int) := by omega
        have d1 : decide ((p : Int) < (L : Int)) = true := decide_eq_true (by omega)
        have d2 : decide (p < L) = true := decide_eq_true (by omega)
        have e1 : IntKind.i64.wrap ((p : Int) + 1) = ((p + 1 : Nat) : Int) := by have := HL.out; rw [IntKind.wrap_i64]; omega
        have n1 : ((c : Int) != (q : Int)) = true := by simp; omega
        have n2 : ((c : Int) == 10) = false := by simp; omega
        have n3 : ((c : Int) != 92) = false := by simp; omega
        have CE1 := CE.out (p + 1) (by have := HL.out; omega) wr
        rw [hesc] at CE1
        obtain ⟨P1, hP1⟩ : ∃ P1, p + 1 = P1 := ⟨_, rfl⟩
        rw [hP1] at e1 CE1
        have HP1 := Lib.hid hP1
        have CEE := Lib.hid CE1
        have HPL := Lib.hid hpl
        clear hce hc hq92 CE1 hP1 hpl hp
        go_wp2_with fail
        refine CEE.out.mono ?_
        rintro e w1 ⟨v, d, rfl, hd, g1, g2⟩
        have O1 := Lib.hid (HO.out.below g2)
        obtain ⟨b1, cap1, rfl, hsrc⟩ := own_src g1 HPX.out
        have HSR := Lib.hid hsrc
        have B1 := Lib.hid (HBL.out.trans (g2.mono HW.out))
        have S1 := Lib.hid (Nat.le_trans HW.out g2.size)
        obtain ⟨xl, hxl⟩ : ∃ n, xs.length = n := ⟨_, rfl⟩
        have HXE := Lib.hid hxl
        have hxb : xl ≤ 4 := by have := HXL.out; omega
        rw [hxl]
        have e2 : IntKind.i64.wrap ((P1 : Int) + (d : Int)) = ((p' : Nat) : Int) := by have h1 := HL.out; have h2 := HF1.out; rw [IntKind.wrap_i64]; omega
        clear g1 g2 hsrc hxl hd
        go_wp2_with (at_builtin; refine wpList_append_own _ rfl (.tmp 82) (.tmp 83) 87 rfl w.heap.size 5 i0 (.int .u8 0) 1 1 Tryz.underlying87 hi hz0 hz1 hz2 rfl (by decide) (.slice ao m co) m (cellsOf es) rfl (by have h := O1.out; unfold Own at h; rw [HM.out] at h; exact h) ⟨b1, 0, none⟩ xl cap1 (cellsOf xs) rfl (by rw [cellsOf_length, HXE.out, Nat.mul_one]) HSR.out (cellsOf_one _) (by unfold maxLen; omega) (by omega) S1.out ?_; intro v2 w2 hown2 hgr2 hne2)
        obtain ⟨g1, g2⟩ := own_grow (ds := es) (es := xs) hown2 (by rw [HM.out, HXE.out]) (own_block O1.out) hgr2 B1.out S1.out
        have G1 := Lib.hid g1
        have G2 := Lib.hid g2
        clear hown2 hgr2 hne2 g1 g2
        go_wp2
        go_roundw
        case rel => exact ⟨p', es ++ xs, HRN, HF1.out.2, rfl, Lib.hid (by rw [List.length_append, HM.out]; exact HF2.out), G1, G2⟩
        case measure => have := HF1.out; simp [intOf]; omega
      | escbad _ _ hq96 hq92 hce hesc =>
        obtain ⟨c, hc⟩ : ∃ c, c = 92 := ⟨_, rfl⟩
        rw [← hc] at hce
        obtain ⟨hbp, hpl, hc256⟩ := HS.out p c hce
        have hpi2 : (p : Int) < (L : Int) := by omega
        have d1 : decide ((p : Int) < (L : Int)) = true := decide_eq_true (by omega)
        have d2 : decide (p < L) = true := decide_eq_true (by omega)
        have e1 : IntKind.i64.wrap ((p : Int) + 1) = ((p + 1 : Nat) : Int) := by have := HL.out; rw [IntKind.wrap_i64]; omega
        have n1 : ((c : Int) != (q : Int)) = true := by simp; omega
        have n2 : ((c : Int) == 10) = false := by simp; omega
        have n3 : ((c : Int) != 92) = false := by simp; omega
        have CE1 := CE.out (p + 1) (by have := HL.out; omega) wr
        rw [hesc] at CE1
        obtain ⟨P1, hP1⟩ : ∃ P1, p + 1 = P1 := ⟨_, rfl⟩
        rw [hP1] at e1 CE1
        have HP1 := Lib.hid hP1
        have CEE := Lib.hid CE1
        have HPL := Lib.hid hpl
        clear hce hc hq92 CE1 hP1 hpl hp
        go_wp2_with fail
        refine CEE.out.mono ?_
        rintro e w1 ⟨rfl, g2⟩
        have B1 := Lib.hid (HBL.out.trans (g2.mono HW.out))
        clear g2
        go_wp2
        go_returns
        exact ⟨rfl, B1.out⟩
      | escend _ _ hq96 hq92 hce hesc =>
        obtain ⟨c, hc⟩ : ∃ c, c = 92 := ⟨_, rfl⟩
        rw [← hc] at hce
        obtain ⟨hbp, hpl, hc256⟩ := HS.out p c hce
        have hpi2 : (p : Int) < (L : Int) := by omega
        have d1 : decide ((p : Int) < (L : Int)) = true := decide_eq_true (by omega)
        have d2 : decide (p < L) = true := decide_eq_true (by omega)
        have e1 : IntKind.i64.wrap ((p : Int) + 1) = ((p + 1 : Nat) : Int) := by have := HL.out; rw [IntKind.wrap_i64]; omega
        have n1 : ((c : Int) != (q : Int)) = true := by simp; omega
        have n2 : ((c : Int) == 10) = false := by simp; omega
        have n3 : ((c : Int) != 92) = false := by simp; omega
        have CE1 := CE.out (p + 1) (by have := HL.out; omega) wr
        rw [hesc] at CE1
        obtain ⟨P1, hP1⟩ : ∃ P1, p + 1 = P1 := ⟨_, rfl⟩
        rw [hP1] at e1 CE1
        have HP1 := Lib.hid hP1
        have CEE := Lib.hid CE1
        have HPL := Lib.hid hpl
        clear hce hc hq92 CE1 hP1 hpl hp
        go_wp2_with fail
        refine CEE.out.mono ?_
        rintro e w1 ⟨rfl, g2⟩
        have B1 := Lib.hid (HBL.out.trans (g2.mono HW.out))
        clear g2
        go_wp2
        go_returns
        exact ⟨by unfold uvalR uPos; rw [HLL.out]; rfl, B1.out⟩
  · subst hqe
    clear hlt
    go_enter Tryz.func29, Tryz.ntmps29
    go_wp2
    go_loopw [6, 7] (fun b i wr => ∃ (p : Nat) (es : List Nat), Hid (Run 96 bs p es r) ∧ p ≤ L ∧ i = .int .i64 ((p : Nat) : Int) ∧ Hid (es.length ≤ 4 * p) ∧ Hid (Own wr w.heap.size b es) ∧ Hid (Below w.heap.size w wr)) (fun _ i wr => (L + 1 - intOf i).toNat)
    case atStart => exact ⟨1, [], HT, HP0.out, rfl, Lib.hid (by simp), Lib.hid (Own.nil _ _), Lib.hid (Below.refl _ _)⟩
    case round =>
      obtain ⟨p, es, HTK, hp, rfl, HE, HO, HBL⟩ := hrel
      have HW := Lib.hid HBL.out.size
      obtain ⟨ao, co, rfl⟩ := own_shape HO.out
      have hes : es.length ≤ 200000 := by have h1 := HE.out; have h3 := HL.out; omega
      obtain ⟨m, hm⟩ : ∃ m, es.length = m := ⟨_, rfl⟩
      have HM := Lib.hid hm
      rw [hm] at HO hes ⊢
      clear hm
      cases HTK.out with
      | stop _ _ hce =>
        have hge := HN.out p hce
        have d1 : decide ((p : Int) < (L : Int)) = false := decide_eq_false (by omega)
        have d2 : decide (p < L) = false := decide_eq_false (by omega)
        have d3 : decide ((p : Int) ≥ (L : Int)) = true := decide_eq_true (by omega)
        have d4 : decide ((L : Int) ≤ (p : Int)) = true := decide_eq_true (by omega)
        have d5 : decide (L ≤ p) = true := decide_eq_true (by omega)
        clear hge hce hp
        go_wp2
        go_returns
        exact ⟨by unfold uvalR uPos; rw [HLL.out]; rfl, HBL.out⟩
      | close _ _ hce =>
        obtain ⟨hbp, hpl, hc256⟩ := HS.out p 96 hce
        have hpi2 : (p : Int) < (L : Int) := by omega
        have d1 : decide ((p : Int) < (L : Int)) = true := decide_eq_true (by omega)
        have d2 : decide (p < L) = true := decide_eq_true (by omega)
        have d3 : decide ((p : Int) ≥ (L : Int)) = false := decide_eq_false (by omega)
        have d4 : decide ((L : Int) ≤ (p : Int)) = false := decide_eq_false (by omega)
        have d5 : decide (L ≤ p) = false := decide_eq_false (by omega)
        have n1 : ((96 : Int) != 96) = false := by simp
        have e1 : IntKind.i64.wrap ((p : Int) + 1) = ((p + 1 : Nat) : Int) := by have := HL.out; rw [IntKind.wrap_i64]; omega
        obtain ⟨P1, hP1⟩ : ∃ P1, p + 1 = P1 := ⟨_, rfl⟩
        rw [hP1] at e1
        have HP1 := Lib.hid hP1
        have hcv := conv_own HO.out (HI2.out es (p + 1) rfl).1
        clear hce hpl hc256 hP1 hp
        go_wp2
        go_returns
        exact ⟨by unfold uvalR uPos; rw [← HP1.out]; rfl, HBL.out⟩
      | raw _ c _ _ hq96 hce hcq hrun =>
        obtain ⟨hbp, hpl, hc256⟩ := HS.out p c hce
        have hpi2 : (p : Int) < (L : Int) := by omega
        have d1 : decide ((p : Int) < (L : Int)) = true := decide_eq_true (by omega)
        have d2 : decide (p < L) = true := decide_eq_true (by omega)
        have e1 : IntKind.i64.wrap ((p : Int) + 1) = ((p + 1 : Nat) : Int) := by have := HL.out; rw [IntKind.wrap_i64]; omega
        have n1 : ((c : Int) != 96) = true := by simp; omega
        obtain ⟨P1, hP1⟩ : ∃ P1, p + 1 = P1 := ⟨_, rfl⟩
        rw [hP1] at e1
        have HP1 := Lib.hid hP1
        have HRN := Lib.hid hrun
        have HPL := Lib.hid hpl
        clear hce hcq hrun hP1 hpl hp
        go_wp2_with (at_builtin; refine wpList_append_own _ rfl (.tmp 59) (.tmp 63) 87 rfl w.heap.size 5 i0 (.int .u8 0) 1 1 Tryz.underlying87 hi hz0 hz1 hz2 rfl (by decide) (.slice ao m co) m (cellsOf es) rfl (own_with HO.out HM.out _) ⟨wr.heap.size, 0, none⟩ 1 1 (cellsOf [c]) rfl rfl (alloc_row _ [c]) (cellsOf_one _) (by unfold maxLen; omega) (by omega) (by have := HW.out; simp; omega) ?_; intro v2 w2 hown2 hgr2 hne2)
        obtain ⟨g1, g2⟩ := put_one (c := c) hown2 HM.out HO.out hgr2 HW.out
        have G1 := Lib.hid g1
        have G2 := Lib.hid (HBL.out.trans g2)
        clear hown2 hgr2 hne2 g1 g2
        go_wp2
        go_roundw
        case rel => exact ⟨p + 1, es ++ [c], HRN, HPL.out, by rw [HP1.out], Lib.hid (by have := HE.out; rw [List.length_append, List.length_singleton]; omega), G1, G2⟩
        case measure => have h1 := HP1.out; have h2 := HPL.out; simp [intOf]; omega
      | plain _ c _ _ hq96 hce hcq hc10 hc92 hrun =>
        exact absurd rfl hq96
      | line _ _ hq96 hq10 hce =>
        exact absurd rfl hq96
      | esc _ p' _ xs _ hq96 hq92 hce hesc hrun =>
        exact absurd rfl hq96
      | escbad _ _ hq96 hq92 hce hesc =>
        exact absurd rfl hq96
      | escend _ _ hq96 hq92 hce hesc =>
        exact absurd rfl hq96
set_option maxHeartbeats 1000000 in
theorem runquote_any (bs : List Nat) (r : QR) (hB : IsB bs) (hl : bs.length ≤ 30000) (hr : IsQ bs r) (w : World) :
    Calls Tryz.prog 29 #[.string (strOf bs)] w (Gives w (uvalR bs r)) := by
  unfold IsQ at hr
  have hsz := strOf_size bs
  have hbt := get_bt (strOf bs)
  cases hc : bs[0]? with
  | none =>
    rw [hc] at hr
    have hr2 : r = .ended := hr
    have h0 : bs.length = 0 := by have := List.getElem?_eq_none_iff.1 hc; omega
    subst hr2
    rw [h0] at hsz
    have HV := Lib.hid (show uvalR bs .ended = .tuple #[.string { data := #[] }, .int .i64 42, .int .i64 0] by unfold uvalR uPos; rw [h0]; rfl)
    clear hr hc h0 hB hl hbt
    rw [HV.out]
    go_enter Tryz.func29, Tryz.ntmps29
    go_wp2
    go_returns
    exact ⟨rfl, Below.refl _ _⟩
  | some q =>
    rw [hc] at hr
    by_cases hq : q = 34 ∨ q = 39 ∨ q = 96
    · simp only [if_pos hq] at hr
      exact runquote_run bs q r hB hl hq hc hr w
    · simp only [if_neg hq] at hr
      subst hr
      obtain ⟨hlt, hce0⟩ := List.getElem?_eq_some_iff.1 hc
      have hb0 := strOf_bt bs hB 0 hlt
      rw [hce0] at hb0
      have HV := Lib.hid (show uvalR bs (.fault 0) = .tuple #[.string { data := #[] }, .int .i64 42, .int .i64 0] by rfl)
      have m34 : ((q : Int) != 34) = true := by simp; omega
      have m39 : ((q : Int) != 39) = true := by simp; omega
      have m96 : ((q : Int) != 96) = true := by simp; omega
      obtain ⟨L, hL⟩ : ∃ L, bs.length = L := ⟨_, rfl⟩
      rw [hL] at hsz hlt
      have hpi : (0 : Int) < (L : Int) := by omega
      have hl0 : ((L : Int) == 0) = false := by simp; omega
      clear hc hq hB hl hL hce0 hlt
      rw [HV.out]
      go_enter Tryz.func29, Tryz.ntmps29
      go_wp2
      go_returns
      exact ⟨rfl, Below.refl _ _⟩
end Go.Proofs.YthhlhiighgnkmaaGreatDoor
