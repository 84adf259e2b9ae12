/-
  WALKS: what stands between quotes, of any text.
-/
import Derived.Test.YtiolghcjndoigaaGreatDoorEsP
namespace Go.Proofs.YtiolghcjndoigaaGreatDoor
set_option linter.unusedVariables false
set_option linter.unusedSimpArgs false
open Go.RowKit Go.PlainAid
/-- what a text between quotes comes to -/
inductive QR where
  | ok (xs : List Nat) (p : Nat)
  | fault (a : Nat)
  | ended
/-- between the quotes q, from p on, behind es -/
inductive RunQ (q : Nat) (bs : List Nat) : Nat → List Nat → QR → Prop
  | stop (p : Nat) (es : List Nat) : bs[p]? = none → RunQ q bs p es .ended
  | close (p : Nat) (es : List Nat) : bs[p]? = some q → RunQ q bs p es (.ok es (p + 1))
  | raw (p c : Nat) (es : List Nat) (r : QR) : q = 96 → bs[p]? = some c → c ≠ q → RunQ q bs (p + 1) (es ++ [c]) r → RunQ q bs p es r
  | line (p : Nat) (es : List Nat) : q ≠ 96 → q ≠ 10 → bs[p]? = some 10 → RunQ q bs p es (.fault p)
  | plain (p c : Nat) (es : List Nat) (r : QR) : q ≠ 96 → bs[p]? = some c → c ≠ q → c ≠ 10 → c ≠ 92 → RunQ q bs (p + 1) (es ++ [c]) r → RunQ q bs p es r
  | esc (p p' : Nat) (es xs : List Nat) (r : QR) : q ≠ 96 → q ≠ 92 → bs[p]? = some 92 → escF bs (p + 1) = .ok xs p' → RunQ q bs p' (es ++ xs) r → RunQ q bs p es r
  | escbad (p : Nat) (es : List Nat) : q ≠ 96 → q ≠ 92 → bs[p]? = some 92 → escF bs (p + 1) = .bad → RunQ q bs p es (.fault p)
  | escend (p : Nat) (es : List Nat) : q ≠ 96 → q ≠ 92 → bs[p]? = some 92 → escF bs (p + 1) = .ends → RunQ q bs p es .ended
theorem digsN_far {bs : List Nat} {base : Nat} : ∀ (n p v u : Nat), digsN bs base n p v = .val u → n = 0 ∨ p + n ≤ bs.length := by
  intro n
  induction n with
  | zero => intro p v u _; exact .inl rfl
  | succ n ih =>
    intro p v u h
    unfold digsN at h
    cases hc : bs[p]? with
    | none => rw [hc] at h; cases h
    | some c =>
      have hlt := (List.getElem?_eq_some_iff.1 hc).1
      rw [hc] at h
      by_cases hv : hexV c < base
      · simp only [if_pos hv] at h
        rcases ih _ _ _ h with rfl | h1
        · exact .inr (by omega)
        · exact .inr (by omega)
      · simp only [if_neg hv] at h
        cases h
theorem byteR_far {bs : List Nat} {base n p q p' : Nat} {xs : List Nat} (hn : 0 < n) (h : byteR q (digsN bs base n p 0) = .ok xs p') : p' = q ∧ p + n ≤ bs.length ∧ xs.length ≤ 4 ∧ IsB xs := by
  cases hd : digsN bs base n p 0 with
  | val v =>
    rw [hd] at h
    have h1 := digsN_far _ _ _ _ hd
    unfold byteR at h
    by_cases hv : v ≤ 255
    · simp only [if_pos hv] at h
      cases h
      exact ⟨rfl, by omega, by simp, IsB.cons (by omega) IsB.nil⟩
    · simp only [if_neg hv] at h
      cases h
  | bad => rw [hd] at h; cases h
  | ends => rw [hd] at h; cases h
theorem runeR_far {bs : List Nat} {n p q p' : Nat} {xs : List Nat} (hn : 0 < n) (h : runeR q (digsN bs 16 n p 0) = .ok xs p') : p' = q ∧ p + n ≤ bs.length ∧ xs.length ≤ 4 ∧ IsB xs := by
  cases hd : digsN bs 16 n p 0 with
  | val v =>
    rw [hd] at h
    have h1 := digsN_far _ _ _ _ hd
    unfold runeR at h
    by_cases hv : v < 55296 ∨ (57343 < v ∧ v ≤ 1114111)
    · simp only [if_pos hv] at h
      cases h
      exact ⟨rfl, by omega, utf8L_len v, utf8L_isB (by omega)⟩
    · simp only [if_neg hv] at h
      cases h
  | bad => rw [hd] at h; cases h
  | ends => rw [hd] at h; cases h
theorem simpleV_lt {c v : Nat} (h : simpleV c = some v) : v < 256 := by
  have := simple_cases h
  omega
theorem escF_far {bs : List Nat} {p p' : Nat} {xs : List Nat} (h : escF bs p = .ok xs p') : p < p' ∧ p' ≤ bs.length ∧ xs.length ≤ 4 ∧ IsB xs := by
  cases hc : bs[p]? with
  | none => rw [escF_none hc] at h; cases h
  | some c =>
    have hlt := (List.getElem?_eq_some_iff.1 hc).1
    cases hs : simpleV c with
    | some v =>
      rw [escF_simple hc hs] at h
      cases h
      exact ⟨by omega, by omega, by simp, IsB.cons (simpleV_lt hs) IsB.nil⟩
    | none =>
      rw [escF_other hc hs] at h
      by_cases h1 : c = 120
      · rw [if_pos h1] at h
        have := byteR_far (by decide) h
        exact ⟨by omega, by omega, this.2.2⟩
      rw [if_neg h1] at h
      by_cases h2 : c = 117
      · rw [if_pos h2] at h
        have := runeR_far (by decide) h
        exact ⟨by omega, by omega, this.2.2⟩
      rw [if_neg h2] at h
      by_cases h3 : c = 85
      · rw [if_pos h3] at h
        have := runeR_far (by decide) h
        exact ⟨by omega, by omega, this.2.2⟩
      rw [if_neg h3] at h
      by_cases h4 : 48 ≤ c ∧ c ≤ 55
      · rw [if_pos h4] at h
        have := byteR_far (by decide) h
        exact ⟨by omega, by omega, this.2.2⟩
      rw [if_neg h4] at h
      cases h
theorem run_all {q : Nat} (hq : q ≠ 10 ∧ q ≠ 92) (bs : List Nat) : ∀ (n p : Nat) (es : List Nat), bs.length - p ≤ n → ∃ r, RunQ q bs p es r := by
  intro n
  induction n with
  | zero => intro p es h; exact ⟨_, RunQ.stop p es (List.getElem?_eq_none_iff.2 (by omega))⟩
  | succ n ih =>
    intro p es h
    cases hc : bs[p]? with
    | none => exact ⟨_, RunQ.stop p es hc⟩
    | some c =>
      have hlt := (List.getElem?_eq_some_iff.1 hc).1
      by_cases h1 : c = q
      · subst h1; exact ⟨_, RunQ.close p es hc⟩
      by_cases h2 : q = 96
      · obtain ⟨r, hr⟩ := ih (p + 1) (es ++ [c]) (by omega)
        exact ⟨r, RunQ.raw p c es r h2 hc h1 hr⟩
      by_cases h3 : c = 10
      · subst h3; exact ⟨_, RunQ.line p es h2 hq.1 hc⟩
      by_cases h4 : c = 92
      · subst h4
        cases he : escF bs (p + 1) with
        | ok xs p' =>
          have := escF_far he
          obtain ⟨r, hr⟩ := ih p' (es ++ xs) (by omega)
          exact ⟨r, RunQ.esc p p' es xs r h2 hq.2 hc he hr⟩
        | bad => exact ⟨_, RunQ.escbad p es h2 hq.2 hc he⟩
        | ends => exact ⟨_, RunQ.escend p es h2 hq.2 hc he⟩
      obtain ⟨r, hr⟩ := ih (p + 1) (es ++ [c]) (by omega)
      exact ⟨r, RunQ.plain p c es r h2 hc h1 h3 h4 hr⟩
/-- an error of a text between quotes: what is wrong at a -/
def FaultErr (N : Nat) (w : World) (x : Value) (a : Nat) : Prop := ∃ (q : Nat) (y : Value), x = .iface 294 (.pointer (some ⟨q, 0, none⟩)) ∧ w.heap[q]? = some (.cells #[.int .u16 42, .int .i64 ((a : Nat) : Int), y] 297 (0, 0)) ∧ N ≤ q ∧ (y = .nilIface ∨ BadErr N w y)
/-- .. that it ends at n -/
def StopErr (N : Nat) (w : World) (x : Value) (n : Nat) : Prop := EndErr N w x n ∨ ∃ (q : Nat) (y : Value) (a : Int), x = .iface 294 (.pointer (some ⟨q, 0, none⟩)) ∧ w.heap[q]? = some (.cells #[.int .u16 42, .int .i64 a, y] 297 (0, 0)) ∧ N ≤ q ∧ EndErr N w y n
def QPost (R B : Nat) (bs : List Nat) (w : World) : QR → Ending → World → Prop
  | .ok xs p, e, w' => ∃ v, e = .returned (.tuple #[v, .nilIface]) ∧ Own w' B v xs ∧ Kept B R w w' ∧ Rd w' R bs p
  | .fault a, e, w' => ∃ v x, e = .returned (.tuple #[v, x]) ∧ Kept B R w w' ∧ FaultErr B w' x a
  | .ended, e, w' => ∃ v x, e = .returned (.tuple #[v, x]) ∧ Kept B R w w' ∧ StopErr B w' x bs.length
/-- what Unquote's reader comes to -/
def IsQ (bs : List Nat) (r : QR) : Prop := match bs[0]? with
  | none => r = .ended
  | some q => if q = 34 ∨ q = 39 ∨ q = 96 then RunQ q bs 1 [] r else r = .fault 0
/-- where a reader stands -/
def posOf (R : Nat) (w : World) : Nat := match w.cell? ⟨R, 1, none⟩ with | some v => (intOf v).toNat | none => 0
theorem Rd.posOf {w : World} {R : Nat} {bs : List Nat} {p : Nat} (h : Rd w R bs p) : posOf R w = p := by
  unfold YtiolghcjndoigaaGreatDoor.posOf
  rw [h.c1]
  simp [intOf]
set_option maxRecDepth 100000 in
set_option maxHeartbeats 4000000 in
theorem quoted_run (R B : Nat) (bs : List Nat) (q : Nat) (r : QR) (hB : IsB bs) (hl : bs.length ≤ 30000) (hq : q = 34 ∨ q = 39 ∨ q = 96) (h0 : bs[0]? = some q) (hr : RunQ q bs 1 [] r) (w : World) (hBs : w.heap.size = B) (H : Rd w R bs 0) :
    Calls Tryz.prog 167 #[.pointer (some ⟨R, 0, none⟩)] w (QPost R B bs w r) := by
  obtain ⟨i0, hi, hz0, hz1, hz2⟩ := info_parts info5
  have hRB : R < B := by rw [← hBs]; exact H.lt
  have CN := Lib.hid (next_at R bs 0 q hB h0 (by omega) w H)
  have CX := Lib.hid (fun (q c : Nat) (hc : bs[q]? = some c) w H => next_at R bs q c hB hc (by omega) w H)
  have CZ := Lib.hid (fun (w : World) (H : Rd w R bs bs.length) => next_end R bs w H)
  have CE := Lib.hid (fun (p : Nat) (b : Value) (es : List Nat) (hp : p ≤ bs.length) (hes : es.length ≤ 200000) (w1 : World) (hBw : B ≤ w1.heap.size) (H1 : Rd w1 R bs p) (HO : Own w1 B b es) => escape_any R B bs p b es hB (by omega) hp hes hRB w1 hBw H1 HO)
  have HRB := Lib.hid hRB
  have HB := Lib.hid hB
  have HL := Lib.hid hl
  have HT := Lib.hid hr
  have HP0 := Lib.hid (show 1 ≤ bs.length by have := (List.getElem?_eq_some_iff.1 h0).1; omega)
  have hq1 : (((q : Int) != 34 && (q : Int) != 39) && (q : Int) != 96) = false := by rcases hq with rfl | rfl | rfl <;> rfl
  have HQ := Lib.hid hq
  have HBS := Lib.hid hBs
  clear h0 hr H hB hl hBs hRB
  rcases HQ.out with hqe | hqe | hqe
  · have hqf : ((q : Int) == 96) = false := by subst hqe; rfl
    have m34 : ((q : Int) != 34) = false := by subst hqe; rfl
    have m39 : ((q : Int) != 39) = true := by subst hqe; rfl
    have m96 : ((q : Int) != 96) = true := by subst hqe; rfl
    have HQE := Lib.hid hqe
    clear hq hqe
    go_enter Tryz.func167, Tryz.ntmps167
    go_wp2_with fail
    refine CN.out.mono ?_
    rintro e w0 ⟨rfl, ho, hr⟩
    have K0 := Lib.hid (Kept.of_only (B := B) ho (Nat.le_of_eq HBS.out.symm))
    have R0 := Lib.hid hr
    clear ho hr
    go_wp2
    go_loopw [6] (fun b wr => ∃ (p : Nat) (es : List Nat), Hid (RunQ q bs p es r) ∧ Hid (p ≤ bs.length) ∧ Hid (es.length ≤ 4 * p) ∧ Hid (Own wr B b es) ∧ Hid (Kept B R w wr) ∧ Hid (Rd wr R bs p)) (fun _ wr => bs.length + 1 - posOf R wr)
    case atStart => exact ⟨1, [], HT, HP0, Lib.hid (by simp), Lib.hid (Own.nil _ _), K0, R0⟩
    case round =>
      obtain ⟨p, es, HTK, HP, HE, HO, HK, HR⟩ := hrel
      have HW := Lib.hid (show B ≤ wr.heap.size by have h1 := HK.out.size; have h2 := HBS.out; omega)
      obtain ⟨ao, co, rfl⟩ := own_shape HO.out
      have hms : posOf R wr = p := HR.out.posOf
      have hcl := HR.out.c1
      have hes : es.length ≤ 200000 := by have h1 := HE.out; have h2 := HP.out; have h3 := HL.out; omega
      obtain ⟨m, hm⟩ : ∃ m, es.length = m := ⟨_, rfl⟩
      have HM := Lib.hid hm
      rw [hm] at HO hes ⊢
      clear hm
      cases HTK.out with
      | stop _ _ hce =>
        have hpe : p = bs.length := by have h1 := List.getElem?_eq_none_iff.1 hce; have h2 := HP.out; omega
        have R1 := HR.out
        rw [hpe] at R1
        have CP := Lib.hid (CZ.out wr R1)
        clear hce R1 hpe
        go_wp2_with fail
        refine CP.out.mono ?_
        rintro e w1 ⟨x, rfl, hb, he⟩
        obtain ⟨y, rfl⟩ := endErr_ne he
        have HEE := Lib.hid he
        have HBB := Lib.hid hb
        clear he hb
        go_wp2
        go_ret2
        exact ⟨_, _, rfl, HK.out.trans (Kept.of_below (HBB.out.mono HW.out)), .inl (HEE.out.mono HW.out)⟩
      | close _ _ hce =>
        have CP := Lib.hid (CX.out p q hce wr HR.out)
        clear hce
        go_wp2_with fail
        refine CP.out.mono ?_
        rintro e w1 ⟨rfl, ho, hr⟩
        have K1 := Lib.hid (HK.out.trans (Kept.of_only (B := B) ho HW.out))
        have O1 := Lib.hid (HO.out.only ho (fun k hk hb => by have h1 := own_block HO.out k hb; have h2 := HRB.out; simp at hk; omega))
        have R1 := Lib.hid hr
        clear ho hr
        go_wp2
        go_ret2
        exact ⟨_, rfl, O1.out, K1.out, R1.out⟩
      | raw _ c _ _ hq96 hce hcq hrun =>
        exact absurd HQE.out (by omega)
      | plain _ c _ _ hq96 hce hcq hc10 hc92 hrun =>
        have CP := Lib.hid (CX.out p c hce wr HR.out)
        have hc256 := at_isB HB.out hce
        have n1 : ((c : Int) == (q : Int)) = false := by simp; omega
        have n2 : ((c : Int) == 10) = false := by simp; omega
        have n3 : ((c : Int) == 92) = false := by simp; omega
        clear hc10 hc92
        have HPP := Lib.hid (show p + 1 ≤ bs.length by have := (List.getElem?_eq_some_iff.1 hce).1; omega)
        have HRN := Lib.hid hrun
        clear hce hcq hrun
        go_wp2_with fail
        refine CP.out.mono ?_
        rintro e w1 ⟨rfl, ho, hr⟩
        have K1 := Lib.hid (HK.out.trans (Kept.of_only (B := B) ho HW.out))
        have O1 := Lib.hid (HO.out.only ho (fun k hk hb => by have h1 := own_block HO.out k hb; have h2 := HRB.out; simp at hk; omega))
        have R1 := Lib.hid hr
        have S1 := Lib.hid (Nat.le_trans HW.out ho.size)
        clear ho hr
        go_wp2_with (at_builtin; refine wpList_append_own _ rfl (.tmp 40) (.tmp 42) 83 rfl B 5 i0 (.int .u8 0) 1 1 Tryz.underlying83 hi hz0 hz1 hz2 rfl (by decide) (.slice ao m co) m (cellsOf es) rfl (own_with O1.out HM.out _) ⟨w1.heap.size, 0, none⟩ 1 1 (cellsOf [c]) rfl rfl (alloc_row _ [c]) (cellsOf_one _) (by unfold maxLen; omega) (by omega) (by have := S1.out; simp; omega) ?_; intro v2 w2 hown2 hgr2 hne2)
        obtain ⟨g1, g2⟩ := put_one (c := c) hown2 HM.out O1.out hgr2 S1.out
        have G1 := Lib.hid g1
        have G2 := Lib.hid (K1.out.trans (Kept.of_below g2))
        have G3 := Lib.hid (R1.out.below g2 HRB.out)
        have hms2 : posOf R w2 = p + 1 := G3.out.posOf
        clear hown2 hgr2 hne2 g1 g2
        go_wp2
        go_roundw
        case rel => exact ⟨p + 1, es ++ [c], HRN, HPP, Lib.hid (by have := HE.out; rw [List.length_append, List.length_singleton]; omega), G1, G2, G3⟩
        case measure => have := HPP.out; rw [hms, hms2]; omega
      | line _ _ hq96 hq10 hce =>
        obtain ⟨c, hc⟩ : ∃ c, c = 10 := ⟨_, rfl⟩
        rw [← hc] at hce
        have CP := Lib.hid (CX.out p c hce wr HR.out)
        have n1 : ((c : Int) == (q : Int)) = false := by simp; omega
        have n2 : ((c : Int) == 10) = true := by simp; omega
        clear hce hc hq10
        go_wp2_with fail
        refine CP.out.mono ?_
        rintro e w1 ⟨rfl, ho, hr⟩
        have K1 := Lib.hid (HK.out.trans (Kept.of_only (B := B) ho HW.out))
        have S1 := Lib.hid (Nat.le_trans HW.out ho.size)
        clear ho hr
        go_wp2
        go_ret2
        exact ⟨_, _, rfl, K1.out.trans (Kept.of_below ((Below.refl B w1).alloc S1.out _)), _, _, rfl, heap_alloc_new _ _, S1.out, .inl rfl⟩
      | esc _ p' _ xs _ hq96 hq92 hce hesc hrun =>
        have HRN := Lib.hid hrun
        have hfar := escF_far hesc
        have HF1 := Lib.hid (show p < p' ∧ p' ≤ bs.length by omega)
        have HF2 := Lib.hid (show m + xs.length ≤ 4 * p' by have h1 := HE.out; have h2 := HM.out; omega)
        clear hrun hfar
        obtain ⟨c, hc⟩ : ∃ c, c = 92 := ⟨_, rfl⟩
        rw [← hc] at hce
        have CP := Lib.hid (CX.out p c hce wr HR.out)
        have n1 : ((c : Int) == (q : Int)) = false := by simp; omega
        have n2 : ((c : Int) == 10) = false := by simp; omega
        have n3 : ((c : Int) == 92) = true := by simp; omega
        have HPP := Lib.hid (show p + 1 ≤ bs.length by have := (List.getElem?_eq_some_iff.1 hce).1; omega)
        have CEE := Lib.hid (fun (w1 : World) (hBw : B ≤ w1.heap.size) (H1 : Rd w1 R bs (p + 1)) (HO1 : Own w1 B (.slice ao es.length co) es) => CE.out (p + 1) (.slice ao es.length co) es HPP.out (by rw [HM.out]; omega) w1 hBw H1 HO1)
        rw [HM.out, hesc] at CEE
        clear hce hc hq92
        go_wp2_with fail
        refine CP.out.mono ?_
        rintro e w1 ⟨rfl, ho, hr⟩
        have K1 := Lib.hid (HK.out.trans (Kept.of_only (B := B) ho HW.out))
        have O1 := HO.out.only ho (fun k hk hb => by have h1 := own_block HO.out k hb; have h2 := HRB.out; simp at hk; omega)
        have S1 := Lib.hid (Nat.le_trans HW.out ho.size)
        have CE2 := Lib.hid (CEE.out w1 (Nat.le_trans HW.out ho.size) hr O1)
        clear ho hr O1
        go_wp2_with fail
        refine CE2.out.mono ?_
        rintro e w2 ⟨v2, rfl, g1, g2, g3⟩
        have G1 := Lib.hid g1
        have G2 := Lib.hid (K1.out.trans g2)
        have G3 := Lib.hid g3
        have hms2 : posOf R w2 = p' := G3.out.posOf
        clear g1 g2 g3
        go_wp2
        go_roundw
        case rel => exact ⟨p', es ++ xs, HRN, Lib.hid HF1.out.2, Lib.hid (by rw [List.length_append, HM.out]; exact HF2.out), G1, G2, G3⟩
        case measure => have := HF1.out; rw [hms, hms2]; omega
      | escbad _ _ hq96 hq92 hce hesc =>
        obtain ⟨c, hc⟩ : ∃ c, c = 92 := ⟨_, rfl⟩
        rw [← hc] at hce
        have CP := Lib.hid (CX.out p c hce wr HR.out)
        have n1 : ((c : Int) == (q : Int)) = false := by simp; omega
        have n2 : ((c : Int) == 10) = false := by simp; omega
        have n3 : ((c : Int) == 92) = true := by simp; omega
        have HPP := Lib.hid (show p + 1 ≤ bs.length by have := (List.getElem?_eq_some_iff.1 hce).1; omega)
        have CEE := Lib.hid (fun (w1 : World) (hBw : B ≤ w1.heap.size) (H1 : Rd w1 R bs (p + 1)) (HO1 : Own w1 B (.slice ao es.length co) es) => CE.out (p + 1) (.slice ao es.length co) es HPP.out (by rw [HM.out]; omega) w1 hBw H1 HO1)
        rw [HM.out, hesc] at CEE
        clear hce hc hq92
        go_wp2_with fail
        refine CP.out.mono ?_
        rintro e w1 ⟨rfl, ho, hr⟩
        have K1 := Lib.hid (HK.out.trans (Kept.of_only (B := B) ho HW.out))
        have O1 := HO.out.only ho (fun k hk hb => by have h1 := own_block HO.out k hb; have h2 := HRB.out; simp at hk; omega)
        have S1 := Lib.hid (Nat.le_trans HW.out ho.size)
        have CE2 := Lib.hid (CEE.out w1 (Nat.le_trans HW.out ho.size) hr O1)
        clear ho hr O1
        go_wp2_with fail
        refine CE2.out.mono ?_
        rintro e w2 ⟨v2, x, rfl, g2, g3⟩
        have G2 := Lib.hid (K1.out.trans g2)
        have G3 := Lib.hid (g3.mono S1.out)
        have S2 := Lib.hid (Nat.le_trans S1.out g2.size)
        clear g2
        rcases g3 with rfl | ⟨q2, a, rfl, _, _⟩
        · go_wp2
          go_ret2
          exact ⟨_, _, rfl, G2.out.trans (Kept.of_below ((Below.refl B w2).alloc S2.out _)), _, _, rfl, heap_alloc_new _ _, S2.out, .inr (G3.out.stay ((Below.refl _ w2).alloc (Nat.le_refl _) _))⟩
        · go_wp2
          go_ret2
          exact ⟨_, _, rfl, G2.out.trans (Kept.of_below ((Below.refl B w2).alloc S2.out _)), _, _, rfl, heap_alloc_new _ _, S2.out, .inr (G3.out.stay ((Below.refl _ w2).alloc (Nat.le_refl _) _))⟩
      | escend _ _ hq96 hq92 hce hesc =>
        obtain ⟨c, hc⟩ : ∃ c, c = 92 := ⟨_, rfl⟩
        rw [← hc] at hce
        have CP := Lib.hid (CX.out p c hce wr HR.out)
        have n1 : ((c : Int) == (q : Int)) = false := by simp; omega
        have n2 : ((c : Int) == 10) = false := by simp; omega
        have n3 : ((c : Int) == 92) = true := by simp; omega
        have HPP := Lib.hid (show p + 1 ≤ bs.length by have := (List.getElem?_eq_some_iff.1 hce).1; omega)
        have CEE := Lib.hid (fun (w1 : World) (hBw : B ≤ w1.heap.size) (H1 : Rd w1 R bs (p + 1)) (HO1 : Own w1 B (.slice ao es.length co) es) => CE.out (p + 1) (.slice ao es.length co) es HPP.out (by rw [HM.out]; omega) w1 hBw H1 HO1)
        rw [HM.out, hesc] at CEE
        clear hce hc hq92
        go_wp2_with fail
        refine CP.out.mono ?_
        rintro e w1 ⟨rfl, ho, hr⟩
        have K1 := Lib.hid (HK.out.trans (Kept.of_only (B := B) ho HW.out))
        have O1 := HO.out.only ho (fun k hk hb => by have h1 := own_block HO.out k hb; have h2 := HRB.out; simp at hk; omega)
        have S1 := Lib.hid (Nat.le_trans HW.out ho.size)
        have CE2 := Lib.hid (CEE.out w1 (Nat.le_trans HW.out ho.size) hr O1)
        clear ho hr O1
        go_wp2_with fail
        refine CE2.out.mono ?_
        rintro e w2 ⟨v2, x, rfl, g2, g3⟩
        have G2 := Lib.hid (K1.out.trans g2)
        have G3 := Lib.hid (g3.mono S1.out)
        have S2 := Lib.hid (Nat.le_trans S1.out g2.size)
        clear g2
        obtain ⟨q2, rfl⟩ := endErr_ne g3
        clear g3
        go_wp2
        go_ret2
        exact ⟨_, _, rfl, G2.out.trans (Kept.of_below ((Below.refl B w2).alloc S2.out _)), .inr ⟨_, _, _, rfl, heap_alloc_new _ _, S2.out, G3.out.stay ((Below.refl _ w2).alloc (Nat.le_refl _) _)⟩⟩
  · have hqf : ((q : Int) == 96) = false := by subst hqe; rfl
    have m34 : ((q : Int) != 34) = true := by subst hqe; rfl
    have m39 : ((q : Int) != 39) = false := by subst hqe; rfl
    have m96 : ((q : Int) != 96) = true := by subst hqe; rfl
    have HQE := Lib.hid hqe
    clear hq hqe
    go_enter Tryz.func167, Tryz.ntmps167
    go_wp2_with fail
    refine CN.out.mono ?_
    rintro e w0 ⟨rfl, ho, hr⟩
    have K0 := Lib.hid (Kept.of_only (B := B) ho (Nat.le_of_eq HBS.out.symm))
    have R0 := Lib.hid hr
    clear ho hr
    go_wp2
    go_loopw [6] (fun b wr => ∃ (p : Nat) (es : List Nat), Hid (RunQ q bs p es r) ∧ Hid (p ≤ bs.length) ∧ Hid (es.length ≤ 4 * p) ∧ Hid (Own wr B b es) ∧ Hid (Kept B R w wr) ∧ Hid (Rd wr R bs p)) (fun _ wr => bs.length + 1 - posOf R wr)
    case atStart => exact ⟨1, [], HT, HP0, Lib.hid (by simp), Lib.hid (Own.nil _ _), K0, R0⟩
    case round =>
      obtain ⟨p, es, HTK, HP, HE, HO, HK, HR⟩ := hrel
      have HW := Lib.hid (show B ≤ wr.heap.size by have h1 := HK.out.size; have h2 := HBS.out; omega)
      obtain ⟨ao, co, rfl⟩ := own_shape HO.out
      have hms : posOf R wr = p := HR.out.posOf
      have hcl := HR.out.c1
      have hes : es.length ≤ 200000 := by have h1 := HE.out; have h2 := HP.out; have h3 := HL.out; omega
      obtain ⟨m, hm⟩ : ∃ m, es.length = m := ⟨_, rfl⟩
      have HM := Lib.hid hm
      rw [hm] at HO hes ⊢
      clear hm
      cases HTK.out with
      | stop _ _ hce =>
        have hpe : p = bs.length := by have h1 := List.getElem?_eq_none_iff.1 hce; have h2 := HP.out; omega
        have R1 := HR.out
        rw [hpe] at R1
        have CP := Lib.hid (CZ.out wr R1)
        clear hce R1 hpe
        go_wp2_with fail
        refine CP.out.mono ?_
        rintro e w1 ⟨x, rfl, hb, he⟩
        obtain ⟨y, rfl⟩ := endErr_ne he
        have HEE := Lib.hid he
        have HBB := Lib.hid hb
        clear he hb
        go_wp2
        go_ret2
        exact ⟨_, _, rfl, HK.out.trans (Kept.of_below (HBB.out.mono HW.out)), .inl (HEE.out.mono HW.out)⟩
      | close _ _ hce =>
        have CP := Lib.hid (CX.out p q hce wr HR.out)
        clear hce
        go_wp2_with fail
        refine CP.out.mono ?_
        rintro e w1 ⟨rfl, ho, hr⟩
        have K1 := Lib.hid (HK.out.trans (Kept.of_only (B := B) ho HW.out))
        have O1 := Lib.hid (HO.out.only ho (fun k hk hb => by have h1 := own_block HO.out k hb; have h2 := HRB.out; simp at hk; omega))
        have R1 := Lib.hid hr
        clear ho hr
        go_wp2
        go_ret2
        exact ⟨_, rfl, O1.out, K1.out, R1.out⟩
      | raw _ c _ _ hq96 hce hcq hrun =>
        exact absurd HQE.out (by omega)
      | plain _ c _ _ hq96 hce hcq hc10 hc92 hrun =>
        have CP := Lib.hid (CX.out p c hce wr HR.out)
        have hc256 := at_isB HB.out hce
        have n1 : ((c : Int) == (q : Int)) = false := by simp; omega
        have n2 : ((c : Int) == 10) = false := by simp; omega
        have n3 : ((c : Int) == 92) = false := by simp; omega
        clear hc10 hc92
        have HPP := Lib.hid (show p + 1 ≤ bs.length by have := (List.getElem?_eq_some_iff.1 hce).1; omega)
        have HRN := Lib.hid hrun
        clear hce hcq hrun
        go_wp2_with fail
        refine CP.out.mono ?_
        rintro e w1 ⟨rfl, ho, hr⟩
        have K1 := Lib.hid (HK.out.trans (Kept.of_only (B := B) ho HW.out))
        have O1 := Lib.hid (HO.out.only ho (fun k hk hb => by have h1 := own_block HO.out k hb; have h2 := HRB.out; simp at hk; omega))
        have R1 := Lib.hid hr
        have S1 := Lib.hid (Nat.le_trans HW.out ho.size)
        clear ho hr
        go_wp2_with (at_builtin; refine wpList_append_own _ rfl (.tmp 40) (.tmp 42) 83 rfl B 5 i0 (.int .u8 0) 1 1 Tryz.underlying83 hi hz0 hz1 hz2 rfl (by decide) (.slice ao m co) m (cellsOf es) rfl (own_with O1.out HM.out _) ⟨w1.heap.size, 0, none⟩ 1 1 (cellsOf [c]) rfl rfl (alloc_row _ [c]) (cellsOf_one _) (by unfold maxLen; omega) (by omega) (by have := S1.out; simp; omega) ?_; intro v2 w2 hown2 hgr2 hne2)
        obtain ⟨g1, g2⟩ := put_one (c := c) hown2 HM.out O1.out hgr2 S1.out
        have G1 := Lib.hid g1
        have G2 := Lib.hid (K1.out.trans (Kept.of_below g2))
        have G3 := Lib.hid (R1.out.below g2 HRB.out)
        have hms2 : posOf R w2 = p + 1 := G3.out.posOf
        clear hown2 hgr2 hne2 g1 g2
        go_wp2
        go_roundw
        case rel => exact ⟨p + 1, es ++ [c], HRN, HPP, Lib.hid (by have := HE.out; rw [List.length_append, List.length_singleton]; omega), G1, G2, G3⟩
        case measure => have := HPP.out; rw [hms, hms2]; omega
      | line _ _ hq96 hq10 hce =>
        obtain ⟨c, hc⟩ : ∃ c, c = 10 := ⟨_, rfl⟩
        rw [← hc] at hce
        have CP := Lib.hid (CX.out p c hce wr HR.out)
        have n1 : ((c : Int) == (q : Int)) = false := by simp; omega
        have n2 : ((c : Int) == 10) = true := by simp; omega
        clear hce hc hq10
        go_wp2_with fail
        refine CP.out.mono ?_
        rintro e w1 ⟨rfl, ho, hr⟩
        have K1 := Lib.hid (HK.out.trans (Kept.of_only (B := B) ho HW.out))
        have S1 := Lib.hid (Nat.le_trans HW.out ho.size)
        clear ho hr
        go_wp2
        go_ret2
        exact ⟨_, _, rfl, K1.out.trans (Kept.of_below ((Below.refl B w1).alloc S1.out _)), _, _, rfl, heap_alloc_new _ _, S1.out, .inl rfl⟩
      | esc _ p' _ xs _ hq96 hq92 hce hesc hrun =>
        have HRN := Lib.hid hrun
        have hfar := escF_far hesc
        have HF1 := Lib.hid (show p < p' ∧ p' ≤ bs.length by omega)
        have HF2 := Lib.hid (show m + xs.length ≤ 4 * p' by have h1 := HE.out; have h2 := HM.out; omega)
        clear hrun hfar
        obtain ⟨c, hc⟩ : ∃ c, c = 92 := ⟨_, rfl⟩
        rw [← hc] at hce
        have CP := Lib.hid (CX.out p c hce wr HR.out)
        have n1 : ((c : Int) == (q : Int)) = false := by simp; omega
        have n2 : ((c : Int) == 10) = false := by simp; omega
        have n3 : ((c : Int) == 92) = true := by simp; omega
        have HPP := Lib.hid (show p + 1 ≤ bs.length by have := (List.getElem?_eq_some_iff.1 hce).1; omega)
        have CEE := Lib.hid (fun (w1 : World) (hBw : B ≤ w1.heap.size) (H1 : Rd w1 R bs (p + 1)) (HO1 : Own w1 B (.slice ao es.length co) es) => CE.out (p + 1) (.slice ao es.length co) es HPP.out (by rw [HM.out]; omega) w1 hBw H1 HO1)
        rw [HM.out, hesc] at CEE
        clear hce hc hq92
        go_wp2_with fail
        refine CP.out.mono ?_
        rintro e w1 ⟨rfl, ho, hr⟩
        have K1 := Lib.hid (HK.out.trans (Kept.of_only (B := B) ho HW.out))
        have O1 := HO.out.only ho (fun k hk hb => by have h1 := own_block HO.out k hb; have h2 := HRB.out; simp at hk; omega)
        have S1 := Lib.hid (Nat.le_trans HW.out ho.size)
        have CE2 := Lib.hid (CEE.out w1 (Nat.le_trans HW.out ho.size) hr O1)
        clear ho hr O1
        go_wp2_with fail
        refine CE2.out.mono ?_
        rintro e w2 ⟨v2, rfl, g1, g2, g3⟩
        have G1 := Lib.hid g1
        have G2 := Lib.hid (K1.out.trans g2)
        have G3 := Lib.hid g3
        have hms2 : posOf R w2 = p' := G3.out.posOf
        clear g1 g2 g3
        go_wp2
        go_roundw
        case rel => exact ⟨p', es ++ xs, HRN, Lib.hid HF1.out.2, Lib.hid (by rw [List.length_append, HM.out]; exact HF2.out), G1, G2, G3⟩
        case measure => have := HF1.out; rw [hms, hms2]; omega
      | escbad _ _ hq96 hq92 hce hesc =>
        obtain ⟨c, hc⟩ : ∃ c, c = 92 := ⟨_, rfl⟩
        rw [← hc] at hce
        have CP := Lib.hid (CX.out p c hce wr HR.out)
        have n1 : ((c : Int) == (q : Int)) = false := by simp; omega
        have n2 : ((c : Int) == 10) = false := by simp; omega
        have n3 : ((c : Int) == 92) = true := by simp; omega
        have HPP := Lib.hid (show p + 1 ≤ bs.length by have := (List.getElem?_eq_some_iff.1 hce).1; omega)
        have CEE := Lib.hid (fun (w1 : World) (hBw : B ≤ w1.heap.size) (H1 : Rd w1 R bs (p + 1)) (HO1 : Own w1 B (.slice ao es.length co) es) => CE.out (p + 1) (.slice ao es.length co) es HPP.out (by rw [HM.out]; omega) w1 hBw H1 HO1)
        rw [HM.out, hesc] at CEE
        clear hce hc hq92
        go_wp2_with fail
        refine CP.out.mono ?_
        rintro e w1 ⟨rfl, ho, hr⟩
        have K1 := Lib.hid (HK.out.trans (Kept.of_only (B := B) ho HW.out))
        have O1 := HO.out.only ho (fun k hk hb => by have h1 := own_block HO.out k hb; have h2 := HRB.out; simp at hk; omega)
        have S1 := Lib.hid (Nat.le_trans HW.out ho.size)
        have CE2 := Lib.hid (CEE.out w1 (Nat.le_trans HW.out ho.size) hr O1)
        clear ho hr O1
        go_wp2_with fail
        refine CE2.out.mono ?_
        rintro e w2 ⟨v2, x, rfl, g2, g3⟩
        have G2 := Lib.hid (K1.out.trans g2)
        have G3 := Lib.hid (g3.mono S1.out)
        have S2 := Lib.hid (Nat.le_trans S1.out g2.size)
        clear g2
        rcases g3 with rfl | ⟨q2, a, rfl, _, _⟩
        · go_wp2
          go_ret2
          exact ⟨_, _, rfl, G2.out.trans (Kept.of_below ((Below.refl B w2).alloc S2.out _)), _, _, rfl, heap_alloc_new _ _, S2.out, .inr (G3.out.stay ((Below.refl _ w2).alloc (Nat.le_refl _) _))⟩
        · go_wp2
          go_ret2
          exact ⟨_, _, rfl, G2.out.trans (Kept.of_below ((Below.refl B w2).alloc S2.out _)), _, _, rfl, heap_alloc_new _ _, S2.out, .inr (G3.out.stay ((Below.refl _ w2).alloc (Nat.le_refl _) _))⟩
      | escend _ _ hq96 hq92 hce hesc =>
        obtain ⟨c, hc⟩ : ∃ c, c = 92 := ⟨_, rfl⟩
        rw [← hc] at hce
        have CP := Lib.hid (CX.out p c hce wr HR.out)
        have n1 : ((c : Int) == (q : Int)) = false := by simp; omega
        have n2 : ((c : Int) == 10) = false := by simp; omega
        have n3 : ((c : Int) == 92) = true := by simp; omega
        have HPP := Lib.hid (show p + 1 ≤ bs.length by have := (List.getElem?_eq_some_iff.1 hce).1; omega)
        have CEE := Lib.hid (fun (w1 : World) (hBw : B ≤ w1.heap.size) (H1 : Rd w1 R bs (p + 1)) (HO1 : Own w1 B (.slice ao es.length co) es) => CE.out (p + 1) (.slice ao es.length co) es HPP.out (by rw [HM.out]; omega) w1 hBw H1 HO1)
        rw [HM.out, hesc] at CEE
        clear hce hc hq92
        go_wp2_with fail
        refine CP.out.mono ?_
        rintro e w1 ⟨rfl, ho, hr⟩
        have K1 := Lib.hid (HK.out.trans (Kept.of_only (B := B) ho HW.out))
        have O1 := HO.out.only ho (fun k hk hb => by have h1 := own_block HO.out k hb; have h2 := HRB.out; simp at hk; omega)
        have S1 := Lib.hid (Nat.le_trans HW.out ho.size)
        have CE2 := Lib.hid (CEE.out w1 (Nat.le_trans HW.out ho.size) hr O1)
        clear ho hr O1
        go_wp2_with fail
        refine CE2.out.mono ?_
        rintro e w2 ⟨v2, x, rfl, g2, g3⟩
        have G2 := Lib.hid (K1.out.trans g2)
        have G3 := Lib.hid (g3.mono S1.out)
        have S2 := Lib.hid (Nat.le_trans S1.out g2.size)
        clear g2
        obtain ⟨q2, rfl⟩ := endErr_ne g3
        clear g3
        go_wp2
        go_ret2
        exact ⟨_, _, rfl, G2.out.trans (Kept.of_below ((Below.refl B w2).alloc S2.out _)), .inr ⟨_, _, _, rfl, heap_alloc_new _ _, S2.out, G3.out.stay ((Below.refl _ w2).alloc (Nat.le_refl _) _)⟩⟩
  · subst hqe
    clear hq
    go_enter Tryz.func167, Tryz.ntmps167
    go_wp2_with fail
    refine CN.out.mono ?_
    rintro e w0 ⟨rfl, ho, hr⟩
    have K0 := Lib.hid (Kept.of_only (B := B) ho (Nat.le_of_eq HBS.out.symm))
    have R0 := Lib.hid hr
    clear ho hr
    go_wp2
    go_loopw [6] (fun b wr => ∃ (p : Nat) (es : List Nat), Hid (RunQ 96 bs p es r) ∧ Hid (p ≤ bs.length) ∧ Hid (es.length ≤ 4 * p) ∧ Hid (Own wr B b es) ∧ Hid (Kept B R w wr) ∧ Hid (Rd wr R bs p)) (fun _ wr => bs.length + 1 - posOf R wr)
    case atStart => exact ⟨1, [], HT, HP0, Lib.hid (by simp), Lib.hid (Own.nil _ _), K0, R0⟩
    case round =>
      obtain ⟨p, es, HTK, HP, HE, HO, HK, HR⟩ := hrel
      have HW := Lib.hid (show B ≤ wr.heap.size by have h1 := HK.out.size; have h2 := HBS.out; omega)
      obtain ⟨ao, co, rfl⟩ := own_shape HO.out
      have hms : posOf R wr = p := HR.out.posOf
      have hcl := HR.out.c1
      have hes : es.length ≤ 200000 := by have h1 := HE.out; have h2 := HP.out; have h3 := HL.out; omega
      obtain ⟨m, hm⟩ : ∃ m, es.length = m := ⟨_, rfl⟩
      have HM := Lib.hid hm
      rw [hm] at HO hes ⊢
      clear hm
      cases HTK.out with
      | stop _ _ hce =>
        have hpe : p = bs.length := by have h1 := List.getElem?_eq_none_iff.1 hce; have h2 := HP.out; omega
        have R1 := HR.out
        rw [hpe] at R1
        have CP := Lib.hid (CZ.out wr R1)
        clear hce R1 hpe
        go_wp2_with fail
        refine CP.out.mono ?_
        rintro e w1 ⟨x, rfl, hb, he⟩
        obtain ⟨y, rfl⟩ := endErr_ne he
        have HEE := Lib.hid he
        have HBB := Lib.hid hb
        clear he hb
        go_wp2
        go_ret2
        exact ⟨_, _, rfl, HK.out.trans (Kept.of_below (HBB.out.mono HW.out)), .inl (HEE.out.mono HW.out)⟩
      | close _ _ hce =>
        have CP := Lib.hid (CX.out p 96 hce wr HR.out)
        clear hce
        go_wp2_with fail
        refine CP.out.mono ?_
        rintro e w1 ⟨rfl, ho, hr⟩
        have K1 := Lib.hid (HK.out.trans (Kept.of_only (B := B) ho HW.out))
        have O1 := Lib.hid (HO.out.only ho (fun k hk hb => by have h1 := own_block HO.out k hb; have h2 := HRB.out; simp at hk; omega))
        have R1 := Lib.hid hr
        clear ho hr
        go_wp2
        go_ret2
        exact ⟨_, rfl, O1.out, K1.out, R1.out⟩
      | raw _ c _ _ hq96 hce hcq hrun =>
        have CP := Lib.hid (CX.out p c hce wr HR.out)
        have hc256 := at_isB HB.out hce
        have n1 : ((c : Int) == 96) = false := by simp; omega
        have HPP := Lib.hid (show p + 1 ≤ bs.length by have := (List.getElem?_eq_some_iff.1 hce).1; omega)
        have HRN := Lib.hid hrun
        clear hce hcq hrun
        go_wp2_with fail
        refine CP.out.mono ?_
        rintro e w1 ⟨rfl, ho, hr⟩
        have K1 := Lib.hid (HK.out.trans (Kept.of_only (B := B) ho HW.out))
        have O1 := Lib.hid (HO.out.only ho (fun k hk hb => by have h1 := own_block HO.out k hb; have h2 := HRB.out; simp at hk; omega))
        have R1 := Lib.hid hr
        have S1 := Lib.hid (Nat.le_trans HW.out ho.size)
        clear ho hr
        go_wp2_with (at_builtin; refine wpList_append_own _ rfl (.tmp 56) (.tmp 58) 83 rfl B 5 i0 (.int .u8 0) 1 1 Tryz.underlying83 hi hz0 hz1 hz2 rfl (by decide) (.slice ao m co) m (cellsOf es) rfl (own_with O1.out HM.out _) ⟨w1.heap.size, 0, none⟩ 1 1 (cellsOf [c]) rfl rfl (alloc_row _ [c]) (cellsOf_one _) (by unfold maxLen; omega) (by omega) (by have := S1.out; simp; omega) ?_; intro v2 w2 hown2 hgr2 hne2)
        obtain ⟨g1, g2⟩ := put_one (c := c) hown2 HM.out O1.out hgr2 S1.out
        have G1 := Lib.hid g1
        have G2 := Lib.hid (K1.out.trans (Kept.of_below g2))
        have G3 := Lib.hid (R1.out.below g2 HRB.out)
        have hms2 : posOf R w2 = p + 1 := G3.out.posOf
        clear hown2 hgr2 hne2 g1 g2
        go_wp2
        go_roundw
        case rel => exact ⟨p + 1, es ++ [c], HRN, HPP, Lib.hid (by have := HE.out; rw [List.length_append, List.length_singleton]; omega), G1, G2, G3⟩
        case measure => have := HPP.out; rw [hms, hms2]; omega
      | plain _ c _ _ hq96 hce hcq hc10 hc92 hrun =>
        exact absurd rfl hq96
      | line _ _ hq96 hq10 hce =>
        exact absurd rfl hq96
      | esc _ p' _ xs _ hq96 hq92 hce hesc hrun =>
        exact absurd rfl hq96
      | escbad _ _ hq96 hq92 hce hesc =>
        exact absurd rfl hq96
      | escend _ _ hq96 hq92 hce hesc =>
        exact absurd rfl hq96
end Go.Proofs.YtiolghcjndoigaaGreatDoor
