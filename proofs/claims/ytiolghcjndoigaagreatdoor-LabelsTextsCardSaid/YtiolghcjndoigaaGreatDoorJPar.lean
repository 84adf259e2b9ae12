/-
  WALKS: Parse of any text.
-/
import Derived.Test.YtiolghcjndoigaaGreatDoorRdo
import Derived.Test.YtiolghcjndoigaaGreatDoorJEs
import Derived.Test.YtiolghcjndoigaaGreatDoorRda
import Derived.Test.YtiolghcjndoigaaGreatDoorStt
import Derived.Test.YtiolghcjndoigaaGreatDoorJKno
namespace Go.Proofs.YtiolghcjndoigaaGreatDoor
set_option linter.unusedVariables false
set_option linter.unusedSimpArgs false
open Go.RowKit Go.PlainAid Go.Shelf
/-- what is read at a place, and where one stands; or where it can't go on -/
inductive VR where
  | ok (ds : List Nat) (e : Nat)
  | bad (q : Nat)
/-- a value at p -/
inductive ValR (bs : List Nat) (p : Nat) : VR → Prop
  | noquote (h : bs[p]? ≠ some 34) : ValR bs p (.bad p)
  | ends (h : bs[p]? = some 34) (hc : cls (bs.drop p) 1 = 0) : ValR bs p (.bad bs.length)
  | wrong (n : Nat) (r : QR) (h : bs[p]? = some 34) (hc : cls (bs.drop p) 1 = n) (h0 : 0 < n) (hr : IsQ ((bs.drop p).take n) r) (he : uErr r ≠ 0) : ValR bs p (.bad p)
  | good (n : Nat) (xs : List Nat) (m : Nat) (h : bs[p]? = some 34) (hc : cls (bs.drop p) 1 = n) (h0 : 0 < n) (hr : IsQ ((bs.drop p).take n) (.ok xs m)) : ValR bs p (.ok xs (skipB bs (p + n)))
theorem valR_all (bs : List Nat) (p : Nat) : ∃ r, ValR bs p r := by
  by_cases h : bs[p]? = some 34
  · obtain ⟨n, hn⟩ : ∃ n, cls (bs.drop p) 1 = n := ⟨_, rfl⟩
    by_cases h0 : n = 0
    · exact ⟨_, .ends h (by rw [hn, h0])⟩
    · obtain ⟨r, hr⟩ := isQ_all ((bs.drop p).take n)
      cases r with
      | ok xs m => exact ⟨_, .good n xs m h hn (by omega) hr⟩
      | fault a => exact ⟨_, .wrong n _ h hn (by omega) hr (by simp [uErr])⟩
      | ended => exact ⟨_, .wrong n _ h hn (by omega) hr (by simp [uErr])⟩
  · exact ⟨_, .noquote h⟩
/-- a label at p -/
inductive LabR (bs : List Nat) (p : Nat) : (Lm.Lb × Nat) ⊕ Nat → Prop
  | noname (h : nmL (bs.drop p) = 0) : LabR bs p (.inr p)
  | nosign (m p1 : Nat) (hm : nmL (bs.drop p) = m) (h0 : 0 < m) (h1 : skipB bs (p + m) = p1) (h : bs[p1]? ≠ some 61) : LabR bs p (.inr p1)
  | bad (m p1 q : Nat) (hm : nmL (bs.drop p) = m) (h0 : 0 < m) (h1 : skipB bs (p + m) = p1) (h : bs[p1]? = some 61) (hv : ValR bs (skipB bs (p1 + 1)) (.bad q)) : LabR bs p (.inr q)
  | good (m p1 e : Nat) (ds : List Nat) (hm : nmL (bs.drop p) = m) (h0 : 0 < m) (h1 : skipB bs (p + m) = p1) (h : bs[p1]? = some 61) (hv : ValR bs (skipB bs (p1 + 1)) (.ok ds e)) : LabR bs p (.inl ((strOf ((bs.drop p).take m), strOf ds), e))
theorem labR_all (bs : List Nat) (p : Nat) : ∃ r, LabR bs p r := by
  obtain ⟨m, hm⟩ : ∃ m, nmL (bs.drop p) = m := ⟨_, rfl⟩
  by_cases h0 : m = 0
  · exact ⟨_, .noname (by rw [hm, h0])⟩
  · obtain ⟨p1, h1⟩ : ∃ p1, skipB bs (p + m) = p1 := ⟨_, rfl⟩
    by_cases h : bs[p1]? = some 61
    · obtain ⟨r, hr⟩ := valR_all bs (skipB bs (p1 + 1))
      cases r with
      | ok ds e => exact ⟨_, .good m p1 e ds hm (by omega) h1 h hr⟩
      | bad q => exact ⟨_, .bad m p1 q hm (by omega) h1 h hr⟩
    · exact ⟨_, .nosign m p1 hm (by omega) h1 h⟩
theorem valR_ok {bs : List Nat} {p e : Nat} {ds : List Nat} (h : ValR bs p (.ok ds e)) : p < e ∧ e ≤ bs.length := by
  cases h with
  | good n xs m h hc h0 hr =>
    have h1 := (List.getElem?_eq_some_iff.1 h).1
    have h2 := (cls_le (bs.drop p) _ 1 (Nat.le_refl _)).1
    rw [hc, List.length_drop] at h2
    have h3 := skipB_ge bs (p + n) (by omega)
    exact ⟨by omega, skipB_le _ _⟩
theorem valR_bad {bs : List Nat} {p q : Nat} (hp : p ≤ bs.length) (h : ValR bs p (.bad q)) : q ≤ bs.length := by
  cases h with
  | noquote h => exact hp
  | ends h hc => exact Nat.le_refl _
  | wrong n r h hc h0 hr he => exact hp
theorem labR_ok {bs : List Nat} {p e : Nat} {x : Lm.Lb} (hp : p ≤ bs.length) (h : LabR bs p (.inl (x, e))) : p < e ∧ e ≤ bs.length := by
  cases h with
  | good m p1 e ds hm h0 h1 h hv =>
    have hle := nmL_le (bs.drop p)
    rw [hm, List.length_drop] at hle
    have h2 := skipB_ge bs (p + m) (by omega)
    have h3 := (List.getElem?_eq_some_iff.1 h).1
    have h4 := skipB_ge bs (p1 + 1) (by omega)
    have h5 := valR_ok hv
    exact ⟨by omega, h5.2⟩
/-- what all of it comes to -/
inductive PR where
  | good (l : List Lm.Lb)
  | bad (q : Nat)
def PR.cons (x : Lm.Lb) : PR → PR
  | .good l => .good (x :: l)
  | .bad q => .bad q
/-- labels from p on; go: may a label come -/
inductive RunR (bs : List Nat) : Nat → Bool → PR → Prop
  | close (p : Nat) (go : Bool) (h : bs[p]? = some 125) (he : skipB bs (p + 1) = bs.length) : RunR bs p go (.good [])
  | behind (p q : Nat) (go : Bool) (h : bs[p]? = some 125) (he : skipB bs (p + 1) = q) (hq : q ≠ bs.length) : RunR bs p go (.bad q)
  | stop (p : Nat) (hp : p ≤ bs.length) (h : bs[p]? ≠ some 125) : RunR bs p false (.bad p)
  | wrong (p q : Nat) (hp : p ≤ bs.length) (h : bs[p]? ≠ some 125) (hx : LabR bs p (.inr q)) : RunR bs p true (.bad q)
  | more (p e : Nat) (x : Lm.Lb) (r : PR) (hp : p ≤ bs.length) (h : bs[p]? ≠ some 125) (hx : LabR bs p (.inl (x, e))) (hc : bs[e]? = some 44) (hl : RunR bs (skipB bs (e + 1)) true r) : RunR bs p true (r.cons x)
  | last (p e : Nat) (x : Lm.Lb) (r : PR) (hp : p ≤ bs.length) (h : bs[p]? ≠ some 125) (hx : LabR bs p (.inl (x, e))) (hc : bs[e]? ≠ some 44) (hl : RunR bs e false r) : RunR bs p true (r.cons x)
theorem runR_false (bs : List Nat) (p : Nat) (hp : p ≤ bs.length) : ∃ r, RunR bs p false r := by
  by_cases h : bs[p]? = some 125
  · by_cases hq : skipB bs (p + 1) = bs.length
    · exact ⟨_, .close p _ h hq⟩
    · exact ⟨_, .behind p _ _ h rfl hq⟩
  · exact ⟨_, .stop p hp h⟩
theorem runR_all (bs : List Nat) : ∀ (n p : Nat), p ≤ bs.length → bs.length - p < n → ∃ r, RunR bs p true r
  | 0, p, hp, hn => by omega
  | n + 1, p, hp, hn => by
    by_cases h : bs[p]? = some 125
    · by_cases hq : skipB bs (p + 1) = bs.length
      · exact ⟨_, .close p _ h hq⟩
      · exact ⟨_, .behind p _ _ h rfl hq⟩
    · obtain ⟨r, hr⟩ := labR_all bs p
      match r, hr with
      | .inr q, hr => exact ⟨_, .wrong p q hp h hr⟩
      | .inl (x, e), hr =>
        have hlt := labR_ok hp hr
        by_cases hc : bs[e]? = some 44
        · have h1 := (List.getElem?_eq_some_iff.1 hc).1
          have h2 := skipB_ge bs (e + 1) (by omega)
          have h3 := skipB_le bs (e + 1)
          obtain ⟨r, hr2⟩ := runR_all bs n (skipB bs (e + 1)) h3 (by omega)
          exact ⟨_, .more p e x r hp h hr hc hr2⟩
        · obtain ⟨r, hr2⟩ := runR_false bs e hlt.2
          exact ⟨_, .last p e x r hp h hr hc hr2⟩
/-- what the whole text comes to -/
def AllR (bs : List Nat) (r : PR) : Prop := (bs[skipB bs 0]? = some 123 ∧ RunR bs (skipB bs (skipB bs 0 + 1)) true r) ∨ (bs[skipB bs 0]? ≠ some 123 ∧ r = .bad (skipB bs 0))
theorem allR_all (bs : List Nat) : ∃ r, AllR bs r := by
  by_cases h : bs[skipB bs 0]? = some 123
  · obtain ⟨r, hr⟩ := runR_all bs _ (skipB bs (skipB bs 0 + 1)) (skipB_le _ _) (Nat.lt_succ_self _)
    exact ⟨r, .inl ⟨h, hr⟩⟩
  · exact ⟨_, .inr ⟨h, rfl⟩⟩
theorem runR_len {bs : List Nat} {p : Nat} {go : Bool} {l : List Lm.Lb} (h : RunR bs p go (.good l)) : l.length + p ≤ bs.length := by
  generalize hr : PR.good l = r at h
  induction h generalizing l with
  | close p go h he =>
    cases hr
    have := (List.getElem?_eq_some_iff.1 h).1
    simp only [List.length_nil]
    omega
  | behind p q go h he hq => cases hr
  | stop p hp h => cases hr
  | wrong p q hp h hx => cases hr
  | more p e x r hp h hx hc hl ih =>
    cases r with
    | bad q => cases hr
    | good l2 =>
      cases hr
      have h1 := labR_ok hp hx
      have h2 := skipB_ge bs (e + 1) (by have := (List.getElem?_eq_some_iff.1 hc).1; omega)
      have := ih rfl
      simp only [List.length_cons]
      omega
  | last p e x r hp h hx hc hl ih =>
    cases r with
    | bad q => cases hr
    | good l2 =>
      cases hr
      have h1 := labR_ok hp hx
      have := ih rfl
      simp only [List.length_cons]
      omega
theorem runR_bad {bs : List Nat} {p q : Nat} {go : Bool} (h : RunR bs p go (.bad q)) : q ≤ bs.length := by
  generalize hr : PR.bad q = r at h
  induction h generalizing q with
  | close p go h he => cases hr
  | behind p q go h he hq => cases hr; rw [← he]; exact skipB_le _ _
  | stop p hp h => cases hr; exact hp
  | wrong p q hp h hx =>
    cases hr
    cases hx with
    | noname h => exact hp
    | nosign m p1 hm h0 h1 h => rw [← h1]; exact skipB_le _ _
    | bad m p1 q hm h0 h1 h hv => exact valR_bad (skipB_le _ _) hv
  | more p e x r hp h hx hc hl ih =>
    cases r with
    | good l2 => cases hr
    | bad q2 => cases hr; exact ih rfl
  | last p e x r hp h hx hc hl ih =>
    cases r with
    | good l2 => cases hr
    | bad q2 => cases hr; exact ih rfl
end Go.Proofs.YtiolghcjndoigaaGreatDoor
namespace Go.Proofs.YtiolghcjndoigaaGreatDoor
set_option linter.unusedVariables false
set_option linter.unusedSimpArgs false
open Go.RowKit Go.PlainAid Go.Shelf
/-- the type that errors.As asks is laid -/
def Ty (w : World) : Prop := w.cell? ⟨1, 0, none⟩ = some (rt 244)
theorem Ty.lt {w : World} (h : Ty w) : 1 < w.heap.size := by
  rcases Nat.lt_or_ge 1 w.heap.size with h1 | h1
  · exact h1
  · unfold Ty at h
    simp [World.cell?, Array.getElem?_eq_none h1] at h
theorem Ty.below {w w' : World} (h : Ty w) (hb : Below w.heap.size w w') : Ty w' := (hb.cell (p := ⟨1, 0, none⟩) h.lt).trans h
theorem Ty.only {w w' : World} {R : Nat} (h : Ty w) (ho : Only [R] w w') (hR : 1 < R) : Ty w' := (ho.cell (p := ⟨1, 0, none⟩) h.lt (by simp; omega)).trans h
def ValPost (R : Nat) (bs : List Nat) (w : World) (r : VR) (e : Ending) (w' : World) : Prop := Only [R] w w' ∧ (match r with
  | .ok ds en => e = .returned (.tuple #[.string (strOf ds), .bool true]) ∧ Rr w' R bs en
  | .bad q => e = .returned (.tuple #[.string ⟨#[]⟩, .bool false]) ∧ Rr w' R bs q)
set_option maxHeartbeats 2000000 in
theorem value_any (R : Nat) (bs : List Nat) (p : Nat) (r : VR) (hB : IsB bs) (hl : bs.length ≤ 20000) (hp : p ≤ bs.length) (hR : 1 < R) (hv : ValR bs p r) (w : World) (H : Rr w R bs p) (hT : Ty w) :
    Calls Tryz.prog 134 #[.pointer (some ⟨R, 0, none⟩)] w (ValPost R bs w r) := by
  have CR := Lib.hid (fun w H => rest_any R bs p (by omega) (by omega) w H)
  have CP := Lib.hid (fun w => prefix_any (bs.drop p) (isB_drop hB p) 34 (by decide) w)
  have CC := Lib.hid (fun w => closed_any (bs.drop p) (isB_drop hB p) (by rw [List.length_drop]; omega) w)
  have h34 : strOf [34] = ⟨#[34]⟩ := rfl
  rw [h34, drop_head] at CP
  have HR := Lib.hid H
  have HT := Lib.hid hT
  clear H hT
  cases hv with
  | noquote h =>
    rw [decide_eq_false h] at CP
    obtain ⟨D, hD⟩ : ∃ D, strOf (bs.drop p) = D := ⟨_, rfl⟩
    rw [hD] at CR CP
    clear CC hD h
    go_enter Tryz.func134, Tryz.ntmps134
    go_wp2_with fail
    refine (CR.out _ HR.out).mono ?_
    rintro e w1 ⟨rfl, hb⟩
    have R1 := Lib.hid (HR.out.stay hb)
    have B1 := Lib.hid hb
    clear hb
    go_wp2_with fail
    refine (CP.out _).mono ?_
    rintro e w2 ⟨rfl, rfl⟩
    go_wp2
    go_ret2
    exact ⟨Only.of_below B1.out [R], rfl, R1.out⟩
  | ends h hc =>
    rw [decide_eq_true h] at CP
    rw [hc] at CC
    obtain ⟨D, hD⟩ : ∃ D, strOf (bs.drop p) = D := ⟨_, rfl⟩
    rw [hD] at CR CP CC
    have hsz := strOf_size bs
    obtain ⟨S, hS⟩ : ∃ S, strOf bs = S := ⟨_, rfl⟩
    rw [hS] at hsz
    have HS := Lib.hid hS
    obtain ⟨N, hN⟩ : ∃ N, bs.length = N := ⟨_, rfl⟩
    rw [hN] at hsz
    have HN := Lib.hid hN
    clear hD h hc hS hN
    go_enter Tryz.func134, Tryz.ntmps134
    go_wp2_with fail
    refine (CR.out _ HR.out).mono ?_
    rintro e w1 ⟨rfl, hb⟩
    have R1 := Lib.hid (HR.out.stay hb)
    have B1 := Lib.hid hb
    clear hb
    go_wp2_with fail
    refine (CP.out _).mono ?_
    rintro e w2 ⟨rfl, rfl⟩
    go_wp2_with fail
    refine (CR.out _ R1.out).mono ?_
    rintro e w2 ⟨rfl, hb⟩
    have R2 := Lib.hid (R1.out.stay hb)
    have B2 := Lib.hid (B1.out.trans (hb.mono B1.out.size))
    clear hb
    go_wp2_with fail
    refine (CC.out _).mono ?_
    rintro e w3 ⟨rfl, rfl⟩
    have c0 := R2.out.c0
    rw [HS.out] at c0
    have c1 := R2.out.c1
    have f1 := R2.out.fz 1
    go_wp2
    go_ret2
    refine ⟨(Only.of_below B2.out [R]).trans (only_set 1 _) (fun x hx => .inl hx), rfl, ?_⟩
    rw [HN.out]
    exact Rr.set R2.out _
  | wrong n r h hc h0 hr he =>
    rw [decide_eq_true h] at CP
    rw [hc] at CC
    have hnl := (cls_le (bs.drop p) _ 1 (Nat.le_refl _)).1
    rw [hc, List.length_drop] at hnl
    have CU := Lib.hid (fun w hg => unquote_any ((bs.drop p).take n) r (isB_take (isB_drop hB p) n) (by rw [List.length_take, List.length_drop]; omega) hr w hg)
    unfold uval at CU
    have he42 : uErr r = 42 := by cases r with
      | ok xs m => exact absurd rfl he
      | fault a => rfl
      | ended => rfl
    rw [he42] at CU
    obtain ⟨U1, hU1⟩ : ∃ x, strOf (uStr r) = x := ⟨_, rfl⟩
    obtain ⟨U2, hU2⟩ : ∃ x, uPos ((bs.drop p).take n) r = x := ⟨_, rfl⟩
    rw [hU1, hU2] at CU
    have hx := strOf_extract (bs.drop p) 0 n (Nat.zero_le _) (by rw [List.length_drop]; omega)
    rw [List.drop_zero, Nat.sub_zero] at hx
    have hsz := strOf_size (bs.drop p)
    rw [List.length_drop] at hsz
    obtain ⟨D, hD⟩ : ∃ D, strOf (bs.drop p) = D := ⟨_, rfl⟩
    obtain ⟨T, hTT⟩ : ∃ D, strOf ((bs.drop p).take n) = D := ⟨_, rfl⟩
    rw [hD] at CR CP CC hx hsz
    rw [hTT] at CU hx
    have hm0 : ((n : Int) == 0) = false := by simp; omega
    have hml : n ≤ D.size := by rw [hsz]; omega
    clear hD h hc hr he he42 hU1 hU2 hTT h34
    go_enter Tryz.func134, Tryz.ntmps134
    go_wp2_with fail
    refine (CR.out _ HR.out).mono ?_
    rintro e w1 ⟨rfl, hb⟩
    have R1 := Lib.hid (HR.out.stay hb)
    have B1 := Lib.hid hb
    clear hb
    go_wp2_with fail
    refine (CP.out _).mono ?_
    rintro e w2 ⟨rfl, rfl⟩
    go_wp2_with fail
    refine (CR.out _ R1.out).mono ?_
    rintro e w2 ⟨rfl, hb⟩
    have R2 := Lib.hid (R1.out.stay hb)
    have B2 := Lib.hid (B1.out.trans (hb.mono B1.out.size))
    clear hb
    go_wp2_with fail
    refine (CC.out _).mono ?_
    rintro e w3 ⟨rfl, rfl⟩
    go_wp2_with fail
    refine (CR.out _ R2.out).mono ?_
    rintro e w4 ⟨rfl, hb⟩
    have R4 := Lib.hid (R2.out.stay hb)
    have B4 := Lib.hid (B2.out.trans (hb.mono B2.out.size))
    clear hb
    go_wp2_with fail
    refine (CU.out _ (HT.out.below B4.out)).mono ?_
    rintro e w5 ⟨rfl, hb⟩
    have R5 := Lib.hid (R4.out.stay hb)
    have B5 := Lib.hid (B4.out.trans (hb.mono B4.out.size))
    clear hb
    go_wp2
    go_ret2
    exact ⟨Only.of_below B5.out [R], rfl, R5.out⟩
  | good n xs m h hc h0 hr =>
    rw [decide_eq_true h] at CP
    rw [hc] at CC
    have hnl := (cls_le (bs.drop p) _ 1 (Nat.le_refl _)).1
    rw [hc, List.length_drop] at hnl
    have CU := Lib.hid (fun w hg => unquote_any ((bs.drop p).take n) (.ok xs m) (isB_take (isB_drop hB p) n) (by rw [List.length_take, List.length_drop]; omega) hr w hg)
    unfold uval at CU
    rw [show uErr (.ok xs m) = 0 from rfl, show uStr (.ok xs m) = xs from rfl, show uPos ((bs.drop p).take n) (.ok xs m) = m from rfl] at CU
    have CS := Lib.hid (fun w (H : Rr w R bs p) => pass_any R bs p n hB (by omega) (by omega) w H)
    have hx := strOf_extract (bs.drop p) 0 n (Nat.zero_le _) (by rw [List.length_drop]; omega)
    rw [List.drop_zero, Nat.sub_zero] at hx
    have hsz := strOf_size (bs.drop p)
    rw [List.length_drop] at hsz
    have HV := Lib.hid (show ValPost R bs w (.ok xs (skipB bs (p + n))) = fun e w' => Only [R] w w' ∧ e = .returned (.tuple #[.string (strOf xs), .bool true]) ∧ Rr w' R bs (skipB bs (p + n)) from rfl)
    rw [HV.out]
    obtain ⟨D, hD⟩ : ∃ D, strOf (bs.drop p) = D := ⟨_, rfl⟩
    obtain ⟨T, hTT⟩ : ∃ D, strOf ((bs.drop p).take n) = D := ⟨_, rfl⟩
    obtain ⟨V, hV⟩ : ∃ D, strOf xs = D := ⟨_, rfl⟩
    rw [hD] at CR CP CC hx hsz
    rw [hTT] at CU hx
    rw [hV] at CU ⊢
    have hm0 : ((n : Int) == 0) = false := by simp; omega
    have hml : n ≤ D.size := by rw [hsz]; omega
    clear hD h hc hr hV hTT h34 HV
    go_enter Tryz.func134, Tryz.ntmps134
    go_wp2_with fail
    refine (CR.out _ HR.out).mono ?_
    rintro e w1 ⟨rfl, hb⟩
    have R1 := Lib.hid (HR.out.stay hb)
    have B1 := Lib.hid hb
    clear hb
    go_wp2_with fail
    refine (CP.out _).mono ?_
    rintro e w2 ⟨rfl, rfl⟩
    go_wp2_with fail
    refine (CR.out _ R1.out).mono ?_
    rintro e w2 ⟨rfl, hb⟩
    have R2 := Lib.hid (R1.out.stay hb)
    have B2 := Lib.hid (B1.out.trans (hb.mono B1.out.size))
    clear hb
    go_wp2_with fail
    refine (CC.out _).mono ?_
    rintro e w3 ⟨rfl, rfl⟩
    go_wp2_with fail
    refine (CR.out _ R2.out).mono ?_
    rintro e w4 ⟨rfl, hb⟩
    have R4 := Lib.hid (R2.out.stay hb)
    have B4 := Lib.hid (B2.out.trans (hb.mono B2.out.size))
    clear hb
    go_wp2_with fail
    refine (CU.out _ (HT.out.below B4.out)).mono ?_
    rintro e w5 ⟨rfl, hb⟩
    have R5 := Lib.hid (R4.out.stay hb)
    have B5 := Lib.hid (B4.out.trans (hb.mono B4.out.size))
    clear hb
    go_wp2_with fail
    refine (CS.out _ R5.out).mono ?_
    rintro e w6 ⟨rfl, ho, hr⟩
    have O6 := Lib.hid ((Only.of_below B5.out [R]).trans ho (fun x hx => .inl hx))
    have R6 := Lib.hid hr
    clear ho hr
    go_wp2
    go_ret2
    exact ⟨O6.out, rfl, R6.out⟩
def LabPost (R : Nat) (bs : List Nat) (w : World) (r : (Lm.Lb × Nat) ⊕ Nat) (e : Ending) (w' : World) : Prop := Only [R] w w' ∧ (match r with
  | .inl (x, en) => e = .returned (.tuple #[.agg #[.string x.1, .string x.2], .bool true]) ∧ Rr w' R bs en
  | .inr q => (∃ a b : ByteArray, e = .returned (.tuple #[.agg #[.string a, .string b], .bool false])) ∧ Rr w' R bs q)
set_option maxHeartbeats 4000000 in
theorem label_any (R : Nat) (bs : List Nat) (p : Nat) (r : (Lm.Lb × Nat) ⊕ Nat) (hB : IsB bs) (hl : bs.length ≤ 20000) (hp : p ≤ bs.length) (hR : 1 < R) (hv : LabR bs p r) (w : World) (H : Rr w R bs p) (hT : Ty w) :
    Calls Tryz.prog 118 #[.pointer (some ⟨R, 0, none⟩)] w (LabPost R bs w r) := by
  have hle := nmL_le (bs.drop p)
  rw [List.length_drop] at hle
  have CR := Lib.hid (fun w H => rest_any R bs p hp (by omega) w H)
  have CN := Lib.hid (fun w => nameahead_any (bs.drop p) (isB_drop hB p) w)
  have HR := Lib.hid H
  have HTY := Lib.hid hT
  have HRR := Lib.hid hR
  have HBX := Lib.hid ((Below.refl _ w).alloc (Nat.le_refl _) (.cells #[.string ⟨#[]⟩, .string ⟨#[]⟩] 94))
  have HRA := Lib.hid (HR.out.stay HBX.out)
  have HX0 := Lib.hid (heap_alloc_new w (.cells #[.string ⟨#[]⟩, .string ⟨#[]⟩] 94))
  have HLT := Lib.hid HR.out.lt
  have HF := Lib.hid (show ∀ (w4 : World) (a b : ByteArray) (q : Nat), w4.heap[w.heap.size]? = some (.cells #[.string ⟨#[]⟩, .string ⟨#[]⟩] 94 (0, 0)) → Only [R] w w4 → Rr w4 R bs q → Only [R] w ((w4.setCell ⟨w.heap.size, 0, none⟩ (.string a)).setCell ⟨w.heap.size, 1, none⟩ (.string b)) ∧ Rr ((w4.setCell ⟨w.heap.size, 0, none⟩ (.string a)).setCell ⟨w.heap.size, 1, none⟩ (.string b)) R bs q from fun w4 a b q hx ho hr => by
    have hne2 : R ≠ w.heap.size := by have := HLT.out; omega
    refine ⟨?_, ?_⟩
    · exact (ho.setCell (p := ⟨w.heap.size, 0, none⟩) (.inr (Nat.le_refl _)) _).setCell (p := ⟨w.heap.size, 1, none⟩) (.inr (Nat.le_refl _)) _
    · exact ((Below.heap_setCell _ _ _ _ (by intro e; exact hne2 e)).trans (Below.heap_setCell _ _ _ _ (by intro e; exact hne2 e))).trans hr)
  have HOX := Lib.hid (show ∀ (w4 w5 : World), w4.heap[w.heap.size]? = some (.cells #[.string ⟨#[]⟩, .string ⟨#[]⟩] 94 (0, 0)) → Only [R] w4 w5 → w5.heap[w.heap.size]? = some (.cells #[.string ⟨#[]⟩, .string ⟨#[]⟩] 94 (0, 0)) from fun w4 w5 hx ho => (ho.block w.heap.size (Array.getElem?_eq_some_iff.1 hx).1 (by have := HLT.out; simp; omega)).trans hx)
  clear H hT hR
  cases hv with
  | noname h =>
    rw [h, List.take_zero, show strOf [] = ⟨#[]⟩ from rfl] at CN
    obtain ⟨D, hD⟩ : ∃ D, strOf (bs.drop p) = D := ⟨_, rfl⟩
    rw [hD] at CR CN
    clear hD h hle
    go_enter Tryz.func118, Tryz.ntmps118
    go_wp2_with fail
    refine (CR.out _ HRA.out).mono ?_
    rintro e w1 ⟨rfl, hb⟩
    have R1 := Lib.hid (HRA.out.stay hb)
    have B1 := Lib.hid (HBX.out.trans (hb.mono HBX.out.size))
    have X1 := Lib.hid ((hb.block w.heap.size (by simp)).trans HX0.out)
    have O1 := Lib.hid (Only.of_below B1.out [R])
    clear hb
    go_wp2_with fail
    refine (CN.out _).mono ?_
    rintro e w2 ⟨rfl, hww⟩
    have hww2 := hww.symm
    subst hww2
    have y0 : w1.cell? ⟨w.heap.size, 0, none⟩ = some (.string ⟨#[]⟩) := by rw [cell_of_row _ _ _ _ _ _ X1.out]; rfl
    have y1 : w1.cell? ⟨w.heap.size, 1, none⟩ = some (.string ⟨#[]⟩) := by rw [cell_of_row _ _ _ _ _ _ X1.out]; rfl
    have f0 : w1.frozen? ⟨w.heap.size, 0, none⟩ = false := frozen_of_row _ _ _ _ _ X1.out
    have f1 : w1.frozen? ⟨w.heap.size, 1, none⟩ = false := frozen_of_row _ _ _ _ _ X1.out
    have HFN := Lib.hid (HF.out _ ⟨#[]⟩ ⟨#[]⟩ _ X1.out O1.out R1.out)
    go_wp2
    refine bodyPost_ret (read118 (N := w.heap.size) (a := ⟨#[]⟩) (b := ⟨#[]⟩) rfl rfl (by rw [cell_other _ _ _ _ _ (by omega)]; exact World.cell?_setCell_same' _ _ _ (by rw [y0]; rfl)) (World.cell?_setCell_same' _ _ _ (by rw [cell_other _ _ _ _ _ (by omega), y1]; rfl))) rfl ?_
    exact ⟨HFN.out.1, ⟨_, _, rfl⟩, HFN.out.2⟩
  | nosign m p1 hm h0 h1 h =>
    rw [hm] at CN hle
    have hpm := skipB_le bs (p + m)
    rw [h1] at hpm
    have CS := Lib.hid (fun w (H : Rr w R bs p) => pass_any R bs p m hB (by omega) (by omega) w H)
    rw [h1] at CS
    have CE := Lib.hid (fun w H => sign_no R bs p1 61 hB (by decide) h hpm (by omega) w H)
    rw [show strOf [61] = ⟨#[61]⟩ from rfl] at CE
    have hns := strOf_size ((bs.drop p).take m)
    rw [List.length_take, List.length_drop] at hns
    have hns2 : (strOf ((bs.drop p).take m)).size = m := by rw [hns]; omega
    obtain ⟨N, hN⟩ : ∃ N, strOf ((bs.drop p).take m) = N := ⟨_, rfl⟩
    have hne : ¬ N.toList = [] := by
      intro e
      have : N = ⟨#[]⟩ := (toList_iff _ _).1 (by rw [e, ByteArray.toList_eq])
      rw [hN, this] at hns2
      have : m = 0 := hns2.symm
      omega
    have hie : N.toList.isEmpty = false := by cases h : N.toList with
      | nil => exact absurd h hne
      | cons => rfl
    obtain ⟨D, hD⟩ : ∃ D, strOf (bs.drop p) = D := ⟨_, rfl⟩
    rw [hD] at CR CN
    rw [hN] at CN hns2
    clear hD hN hns hm h h1 hle hpm
    go_enter Tryz.func118, Tryz.ntmps118
    go_wp2_with fail
    refine (CR.out _ HRA.out).mono ?_
    rintro e w1 ⟨rfl, hb⟩
    have R1 := Lib.hid (HRA.out.stay hb)
    have B1 := Lib.hid (HBX.out.trans (hb.mono HBX.out.size))
    have X1 := Lib.hid ((hb.block w.heap.size (by simp)).trans HX0.out)
    have O1 := Lib.hid (Only.of_below B1.out [R])
    clear hb
    go_wp2_with fail
    refine (CN.out _).mono ?_
    rintro e w2 ⟨rfl, hww⟩
    have hww2 := hww.symm
    subst hww2
    go_wp2_with fail
    refine (CS.out _ R1.out).mono ?_
    rintro e w2 ⟨rfl, ho, hr⟩
    have R2 := Lib.hid hr
    have O2 := Lib.hid (O1.out.trans ho (fun x hx => .inl hx))
    have X2 := Lib.hid (HOX.out _ _ X1.out ho)
    clear ho hr
    go_wp2_with fail
    refine (CE.out _ R2.out).mono ?_
    rintro e w3 ⟨rfl, hb⟩
    have R3 := Lib.hid (R2.out.stay hb)
    have O3 := Lib.hid (O2.out.trans (Only.of_below hb [R]) (fun x hx => .inl hx))
    have X3 := Lib.hid (HOX.out _ _ X2.out (Only.of_below hb [R]))
    clear hb
    have y0 : w3.cell? ⟨w.heap.size, 0, none⟩ = some (.string ⟨#[]⟩) := by rw [cell_of_row _ _ _ _ _ _ X3.out]; rfl
    have y1 : w3.cell? ⟨w.heap.size, 1, none⟩ = some (.string ⟨#[]⟩) := by rw [cell_of_row _ _ _ _ _ _ X3.out]; rfl
    have f0 : w3.frozen? ⟨w.heap.size, 0, none⟩ = false := frozen_of_row _ _ _ _ _ X3.out
    have f1 : w3.frozen? ⟨w.heap.size, 1, none⟩ = false := frozen_of_row _ _ _ _ _ X3.out
    have HFN := Lib.hid (HF.out _ ⟨#[]⟩ ⟨#[]⟩ _ X3.out O3.out R3.out)
    go_wp2
    refine bodyPost_ret (read118 (N := w.heap.size) (a := ⟨#[]⟩) (b := ⟨#[]⟩) rfl rfl (by rw [cell_other _ _ _ _ _ (by omega)]; exact World.cell?_setCell_same' _ _ _ (by rw [y0]; rfl)) (World.cell?_setCell_same' _ _ _ (by rw [cell_other _ _ _ _ _ (by omega), y1]; rfl))) rfl ?_
    exact ⟨HFN.out.1, ⟨_, _, rfl⟩, HFN.out.2⟩
  | bad m p1 q hm h0 h1 h hv =>
    rw [hm] at CN hle
    have CS := Lib.hid (fun w (H : Rr w R bs p) => pass_any R bs p m hB (by omega) (by omega) w H)
    rw [h1] at CS
    have CE := Lib.hid (fun w H => sign_yes R bs p1 61 hB (by decide) h (by omega) w H)
    rw [show strOf [61] = ⟨#[61]⟩ from rfl] at CE
    have CV := Lib.hid (fun w H hT => value_any R bs _ (.bad q) hB hl (skipB_le _ _) HRR.out hv w H hT)
    unfold ValPost at CV
    simp only at CV
    have hns := strOf_size ((bs.drop p).take m)
    rw [List.length_take, List.length_drop] at hns
    have hns2 : (strOf ((bs.drop p).take m)).size = m := by rw [hns]; omega
    obtain ⟨N, hN⟩ : ∃ N, strOf ((bs.drop p).take m) = N := ⟨_, rfl⟩
    have hne : ¬ N.toList = [] := by
      intro e
      have : N = ⟨#[]⟩ := (toList_iff _ _).1 (by rw [e, ByteArray.toList_eq])
      rw [hN, this] at hns2
      have : m = 0 := hns2.symm
      omega
    have hie : N.toList.isEmpty = false := by cases h : N.toList with
      | nil => exact absurd h hne
      | cons => rfl
    obtain ⟨D, hD⟩ : ∃ D, strOf (bs.drop p) = D := ⟨_, rfl⟩
    rw [hD] at CR CN
    rw [hN] at CN hns2
    clear hD hN hns hm h h1 hle hv
    go_enter Tryz.func118, Tryz.ntmps118
    go_wp2_with fail
    refine (CR.out _ HRA.out).mono ?_
    rintro e w1 ⟨rfl, hb⟩
    have R1 := Lib.hid (HRA.out.stay hb)
    have B1 := Lib.hid (HBX.out.trans (hb.mono HBX.out.size))
    have X1 := Lib.hid ((hb.block w.heap.size (by simp)).trans HX0.out)
    have O1 := Lib.hid (Only.of_below B1.out [R])
    clear hb
    go_wp2_with fail
    refine (CN.out _).mono ?_
    rintro e w2 ⟨rfl, hww⟩
    have hww2 := hww.symm
    subst hww2
    go_wp2_with fail
    refine (CS.out _ R1.out).mono ?_
    rintro e w2 ⟨rfl, ho, hr⟩
    have R2 := Lib.hid hr
    have O2 := Lib.hid (O1.out.trans ho (fun x hx => .inl hx))
    have X2 := Lib.hid (HOX.out _ _ X1.out ho)
    clear ho hr
    go_wp2_with fail
    refine (CE.out _ R2.out).mono ?_
    rintro e w3 ⟨rfl, ho, hr⟩
    have R3 := Lib.hid hr
    have O3 := Lib.hid (O2.out.trans ho (fun x hx => .inl hx))
    have X3 := Lib.hid (HOX.out _ _ X2.out ho)
    clear ho hr
    go_wp2_with fail
    refine (CV.out _ R3.out (HTY.out.only O3.out HRR.out)).mono ?_
    rintro e w4 ⟨ho, rfl, hr⟩
    have R4 := Lib.hid hr
    have O4 := Lib.hid (O3.out.trans ho (fun x hx => .inl hx))
    have X4 := Lib.hid (HOX.out _ _ X3.out ho)
    clear ho hr
    have y0 : w4.cell? ⟨w.heap.size, 0, none⟩ = some (.string ⟨#[]⟩) := by rw [cell_of_row _ _ _ _ _ _ X4.out]; rfl
    have y1 : w4.cell? ⟨w.heap.size, 1, none⟩ = some (.string ⟨#[]⟩) := by rw [cell_of_row _ _ _ _ _ _ X4.out]; rfl
    have f0 : w4.frozen? ⟨w.heap.size, 0, none⟩ = false := frozen_of_row _ _ _ _ _ X4.out
    have f1 : w4.frozen? ⟨w.heap.size, 1, none⟩ = false := frozen_of_row _ _ _ _ _ X4.out
    have HFN := Lib.hid (HF.out _ N ⟨#[]⟩ _ X4.out O4.out R4.out)
    go_wp2
    refine bodyPost_ret (read118 (N := w.heap.size) (a := N) (b := ⟨#[]⟩) rfl rfl (by rw [cell_other _ _ _ _ _ (by omega)]; exact World.cell?_setCell_same' _ _ _ (by rw [y0]; rfl)) (World.cell?_setCell_same' _ _ _ (by rw [cell_other _ _ _ _ _ (by omega), y1]; rfl))) rfl ?_
    exact ⟨HFN.out.1, ⟨_, _, rfl⟩, HFN.out.2⟩
  | good m p1 en ds hm h0 h1 h hv =>
    rw [hm] at CN hle
    have CS := Lib.hid (fun w (H : Rr w R bs p) => pass_any R bs p m hB (by omega) (by omega) w H)
    rw [h1] at CS
    have CE := Lib.hid (fun w H => sign_yes R bs p1 61 hB (by decide) h (by omega) w H)
    rw [show strOf [61] = ⟨#[61]⟩ from rfl] at CE
    have CV := Lib.hid (fun w H hT => value_any R bs _ (.ok ds en) hB hl (skipB_le _ _) HRR.out hv w H hT)
    have HV := Lib.hid (show LabPost R bs w (.inl ((strOf ((bs.drop p).take m), strOf ds), en)) = fun e w' => Only [R] w w' ∧ e = .returned (.tuple #[.agg #[.string (strOf ((bs.drop p).take m)), .string (strOf ds)], .bool true]) ∧ Rr w' R bs en from rfl)
    rw [HV.out]
    unfold ValPost at CV
    simp only at CV
    have hns := strOf_size ((bs.drop p).take m)
    rw [List.length_take, List.length_drop] at hns
    have hns2 : (strOf ((bs.drop p).take m)).size = m := by rw [hns]; omega
    obtain ⟨N, hN⟩ : ∃ N, strOf ((bs.drop p).take m) = N := ⟨_, rfl⟩
    have hne : ¬ N.toList = [] := by
      intro e
      have : N = ⟨#[]⟩ := (toList_iff _ _).1 (by rw [e, ByteArray.toList_eq])
      rw [hN, this] at hns2
      have : m = 0 := hns2.symm
      omega
    have hie : N.toList.isEmpty = false := by cases h : N.toList with
      | nil => exact absurd h hne
      | cons => rfl
    obtain ⟨D, hD⟩ : ∃ D, strOf (bs.drop p) = D := ⟨_, rfl⟩
    rw [hD] at CR CN
    rw [hN] at CN hns2 ⊢
    obtain ⟨V, hV⟩ : ∃ D, strOf ds = D := ⟨_, rfl⟩
    rw [hV] at CV ⊢
    clear hD hN hns hm h h1 hle hv hV HV
    go_enter Tryz.func118, Tryz.ntmps118
    go_wp2_with fail
    refine (CR.out _ HRA.out).mono ?_
    rintro e w1 ⟨rfl, hb⟩
    have R1 := Lib.hid (HRA.out.stay hb)
    have B1 := Lib.hid (HBX.out.trans (hb.mono HBX.out.size))
    have X1 := Lib.hid ((hb.block w.heap.size (by simp)).trans HX0.out)
    have O1 := Lib.hid (Only.of_below B1.out [R])
    clear hb
    go_wp2_with fail
    refine (CN.out _).mono ?_
    rintro e w2 ⟨rfl, hww⟩
    have hww2 := hww.symm
    subst hww2
    go_wp2_with fail
    refine (CS.out _ R1.out).mono ?_
    rintro e w2 ⟨rfl, ho, hr⟩
    have R2 := Lib.hid hr
    have O2 := Lib.hid (O1.out.trans ho (fun x hx => .inl hx))
    have X2 := Lib.hid (HOX.out _ _ X1.out ho)
    clear ho hr
    go_wp2_with fail
    refine (CE.out _ R2.out).mono ?_
    rintro e w3 ⟨rfl, ho, hr⟩
    have R3 := Lib.hid hr
    have O3 := Lib.hid (O2.out.trans ho (fun x hx => .inl hx))
    have X3 := Lib.hid (HOX.out _ _ X2.out ho)
    clear ho hr
    go_wp2_with fail
    refine (CV.out _ R3.out (HTY.out.only O3.out HRR.out)).mono ?_
    rintro e w4 ⟨ho, rfl, hr⟩
    have R4 := Lib.hid hr
    have O4 := Lib.hid (O3.out.trans ho (fun x hx => .inl hx))
    have X4 := Lib.hid (HOX.out _ _ X3.out ho)
    clear ho hr
    have y0 : w4.cell? ⟨w.heap.size, 0, none⟩ = some (.string ⟨#[]⟩) := by rw [cell_of_row _ _ _ _ _ _ X4.out]; rfl
    have y1 : w4.cell? ⟨w.heap.size, 1, none⟩ = some (.string ⟨#[]⟩) := by rw [cell_of_row _ _ _ _ _ _ X4.out]; rfl
    have f0 : w4.frozen? ⟨w.heap.size, 0, none⟩ = false := frozen_of_row _ _ _ _ _ X4.out
    have f1 : w4.frozen? ⟨w.heap.size, 1, none⟩ = false := frozen_of_row _ _ _ _ _ X4.out
    have HFN := Lib.hid (HF.out _ N V _ X4.out O4.out R4.out)
    go_wp2
    refine bodyPost_ret (read118 (N := w.heap.size) (a := N) (b := V) rfl rfl (by rw [cell_other _ _ _ _ _ (by omega)]; exact World.cell?_setCell_same' _ _ _ (by rw [y0]; rfl)) (World.cell?_setCell_same' _ _ _ (by rw [cell_other _ _ _ _ _ (by omega), y1]; rfl))) rfl ?_
    exact ⟨HFN.out.1, rfl, HFN.out.2⟩
end Go.Proofs.YtiolghcjndoigaaGreatDoor
namespace Go.Proofs.YtiolghcjndoigaaGreatDoor
set_option linter.unusedVariables false
set_option linter.unusedSimpArgs false
open Go.RowKit Go.PlainAid Go.Shelf
def glue (s : List Lm.Lb) : PR → PR
  | .good l => .good (s ++ l)
  | .bad q => .bad q
theorem glue_cons (s : List Lm.Lb) (x : Lm.Lb) (r : PR) : glue (s ++ [x]) r = glue s (r.cons x) := by
  cases r with
  | good l => simp [glue, PR.cons]
  | bad q => rfl
theorem glue_nil (r : PR) : glue [] r = r := by cases r <;> rfl
def AllPost (R : Nat) (bs : List Nat) (w : World) (r : PR) (e : Ending) (w' : World) : Prop := Only [R] w w' ∧ (match r with
  | .good l => ∃ v, e = .returned (.tuple #[v, .bool true]) ∧ OwnL w' w.heap.size v l
  | .bad q => (∃ v, e = .returned (.tuple #[v, .bool false])) ∧ Rr w' R bs q)
set_option maxRecDepth 100000 in
set_option maxHeartbeats 8000000 in
theorem all_any (R : Nat) (bs : List Nat) (r : PR) (hB : IsB bs) (hl : bs.length ≤ 20000) (hR : 1 < R) (hv : AllR bs r) (w : World) (H : Rr w R bs 0) (hT : Ty w) :
    Calls Tryz.prog 98 #[.pointer (some ⟨R, 0, none⟩)] w (AllPost R bs w r) := by
  obtain ⟨i0, hi, hz0, hz1, hz2⟩ := info_parts info94'
  have CP := Lib.hid (fun w (H : Rr w R bs 0) => pass_any R bs 0 0 hB (by omega) (by omega) w H)
  have HR := Lib.hid H
  have HTY := Lib.hid hT
  have HRR1 := Lib.hid hR
  rcases hv with ⟨h0, hrun⟩ | ⟨h0, rfl⟩
  case inr =>
    have CO := Lib.hid (fun w H => sign_no R bs (skipB bs 0) 123 hB (by decide) h0 (skipB_le _ _) (by omega) w H)
    rw [show strOf [123] = ⟨#[123]⟩ from rfl] at CO
    clear h0 H hT hB
    go_enter Tryz.func98, Tryz.ntmps98
    go_wp2_with fail
    refine (CP.out _ HR.out).mono ?_
    rintro e w1 ⟨rfl, ho, hr⟩
    have R1 := Lib.hid hr
    have O1 := Lib.hid ho
    clear ho hr
    go_wp2_with fail
    refine (CO.out _ R1.out).mono ?_
    rintro e w2 ⟨rfl, hb⟩
    have R2 := Lib.hid (R1.out.stay hb)
    have O2 := Lib.hid (O1.out.trans (Only.of_below hb [R]) (fun x hx => .inl hx))
    clear hb
    go_wp2
    go_ret2
    exact ⟨O2.out, ⟨_, rfl⟩, R2.out⟩
  have CO := Lib.hid (fun w H => sign_yes R bs (skipB bs 0) 123 hB (by decide) h0 (by omega) w H)
  rw [show strOf [123] = ⟨#[123]⟩ from rfl] at CO
  have CY := Lib.hid (fun p (h : bs[p]? = some 125) w H => sign_yes R bs p 125 hB (by decide) h (by omega) w H)
  have CN := Lib.hid (fun p (h : bs[p]? ≠ some 125) hp w H => sign_no R bs p 125 hB (by decide) h hp (by omega) w H)
  rw [show strOf [125] = ⟨#[125]⟩ from rfl] at CY CN
  have CCY := Lib.hid (fun p (h : bs[p]? = some 44) w H => sign_yes R bs p 44 hB (by decide) h (by omega) w H)
  have CCN := Lib.hid (fun p (h : bs[p]? ≠ some 44) hp w H => sign_no R bs p 44 hB (by decide) h hp (by omega) w H)
  rw [show strOf [44] = ⟨#[44]⟩ from rfl] at CCY CCN
  have CL := Lib.hid (fun p r h hp w H hT => label_any R bs p r hB hl hp hR h w H hT)
  have CR := Lib.hid (fun q (hq : q ≤ bs.length) w (H : Rr w R bs q) => rest_any R bs q hq (by omega) w H)
  have HLT := Lib.hid H.lt
  have HRUN := Lib.hid hrun
  have HLEN := Lib.hid hl
  have HBB := Lib.hid hB
  clear hB hl h0 hrun H hT hR
  go_enter Tryz.func98, Tryz.ntmps98
  go_wp2_with fail
  refine (CP.out _ HR.out).mono ?_
  rintro e w1 ⟨rfl, ho, hr⟩
  have R1 := Lib.hid hr
  have O1 := Lib.hid ho
  clear ho hr
  go_wp2_with fail
  refine (CO.out _ R1.out).mono ?_
  rintro e w2 ⟨rfl, ho, hr⟩
  have R2 := Lib.hid hr
  have O2 := Lib.hid (O1.out.trans ho (fun x hx => .inl hx))
  clear ho hr
  go_wp2_with fail
  go_loopw [4, 5] (fun v g wr => ∃ (p : Nat) (may : Bool) (sofar : List Lm.Lb) (rest : PR), g = .bool may ∧ Hid (OwnL wr w.heap.size v sofar) ∧ Hid (Rr wr R bs p) ∧ Hid (RunR bs p may rest) ∧ Hid (glue sofar rest = r) ∧ Hid (Only [R] w wr) ∧ Hid (sofar.length ≤ p)) (fun _ _ wr => bs.length - posR R wr)
  case atStart => exact ⟨_, true, [], r, rfl, Lib.hid (World.ownsRow_nil _ _ _ _), R2, HRUN, Lib.hid (glue_nil r), O2, Lib.hid (Nat.zero_le _)⟩
  case round =>
    obtain ⟨p, may, sofar, rest, rfl, HO, HRR, HRU, HE, HON, HLE⟩ := hrel
    have hru := HRU.out
    clear HRU
    cases hru with
    | close p go h he =>
      have CY1 := Lib.hid (fun w H => CY.out p h w H)
      have HE1 := Lib.hid he
      have HS := Lib.hid (show PR.good sofar = r by rw [← HE.out]; show PR.good sofar = PR.good (sofar ++ []); rw [List.append_nil])
      have hd : strOf (bs.drop bs.length) = ⟨#[]⟩ := by rw [List.drop_length]; rfl
      have CR2 := Lib.hid (CR.out bs.length (Nat.le_refl _))
      rw [hd] at CR2
      clear h he hd
      go_wp2_with fail
      refine (CY1.out _ HRR.out).mono ?_
      rintro e w3 ⟨rfl, ho, hr⟩
      rw [HE1.out] at hr
      have R3 := Lib.hid hr
      have N3 := Lib.hid (HON.out.trans ho (fun x hx => .inl hx))
      have O3 := Lib.hid (HO.out.only ho (fun k hk => by have := HLT.out; simp at hk; omega))
      clear ho hr
      go_wp2_with fail
      refine (CR2.out _ R3.out).mono ?_
      rintro e w4 ⟨rfl, hb⟩
      have N4 := Lib.hid (N3.out.trans (Only.of_below hb [R]) (fun x hx => .inl hx))
      have O4 := Lib.hid (O3.out.below hb)
      clear hb
      go_wp2
      go_ret2
      rw [← HS.out]
      exact ⟨N4.out, _, rfl, O4.out⟩
    | behind p q go h he hq =>
      have hqle := skipB_le bs (p + 1)
      rw [he] at hqle
      have CY1 := Lib.hid (fun w H => CY.out p h w H)
      have HE1 := Lib.hid he
      have HS := Lib.hid (show PR.bad q = r by rw [← HE.out]; rfl)
      have CR2 := Lib.hid (CR.out q hqle)
      have hsz := strOf_size (bs.drop q)
      rw [List.length_drop] at hsz
      obtain ⟨D, hD⟩ : ∃ D, strOf (bs.drop q) = D := ⟨_, rfl⟩
      rw [hD] at CR2 hsz
      have hne : ¬ D.toList = [] := by
        intro e
        have : D = ⟨#[]⟩ := (toList_iff _ _).1 (by rw [e, ByteArray.toList_eq])
        rw [this] at hsz
        have : bs.length - q = 0 := hsz.symm
        omega
      have hie : D.toList.isEmpty = false := by cases h : D.toList with
        | nil => exact absurd h hne
        | cons => rfl
      clear h he hD hsz hq hqle
      go_wp2_with fail
      refine (CY1.out _ HRR.out).mono ?_
      rintro e w3 ⟨rfl, ho, hr⟩
      rw [HE1.out] at hr
      have R3 := Lib.hid hr
      have N3 := Lib.hid (HON.out.trans ho (fun x hx => .inl hx))
      clear ho hr
      go_wp2_with fail
      refine (CR2.out _ R3.out).mono ?_
      rintro e w4 ⟨rfl, hb⟩
      have N4 := Lib.hid (N3.out.trans (Only.of_below hb [R]) (fun x hx => .inl hx))
      have R4 := Lib.hid (R3.out.stay hb)
      clear hb
      go_wp2
      go_ret2
      rw [← HS.out]
      exact ⟨N4.out, ⟨_, rfl⟩, R4.out⟩
    | stop p hp h =>
      have CN1 := Lib.hid (fun w H => CN.out p h hp w H)
      have HS := Lib.hid (show PR.bad p = r by rw [← HE.out]; rfl)
      clear h
      go_wp2_with fail
      refine (CN1.out _ HRR.out).mono ?_
      rintro e1 w3 ⟨rfl, hb⟩
      have R3 := Lib.hid (HRR.out.stay hb)
      have N3 := Lib.hid (HON.out.trans (Only.of_below hb [R]) (fun x hx => .inl hx))
      clear hb
      go_wp2
      go_ret2
      rw [← HS.out]
      exact ⟨N3.out, ⟨_, rfl⟩, R3.out⟩
    | wrong p q hp h hx =>
      have CN1 := Lib.hid (fun w H => CN.out p h hp w H)
      have CL1 := Lib.hid (fun w H hT => CL.out p (.inr q) hx hp w H hT)
      unfold LabPost at CL1
      simp only at CL1
      have HS := Lib.hid (show PR.bad q = r by rw [← HE.out]; rfl)
      clear h hx
      go_wp2_with fail
      refine (CN1.out _ HRR.out).mono ?_
      rintro e1 w3 ⟨rfl, hb⟩
      have R3 := Lib.hid (HRR.out.stay hb)
      have N3 := Lib.hid (HON.out.trans (Only.of_below hb [R]) (fun x hx => .inl hx))
      clear hb
      go_wp2_with fail
      refine (CL1.out _ R3.out (HTY.out.only N3.out HRR1.out)).mono ?_
      rintro e1 w4 ⟨ho, ⟨la, lb, rfl⟩, hr⟩
      have R4 := Lib.hid hr
      have N4 := Lib.hid (N3.out.trans ho (fun x hx => .inl hx))
      have NF := Lib.hid (show ∀ (o : Obj) (u v : Value), Only [R] w (((w4.alloc o).setCell ⟨w4.heap.size, 0, none⟩ u).setCell ⟨w4.heap.size, 1, none⟩ v) from fun o u v => ((N4.out.alloc o).setCell (p := ⟨w4.heap.size, 0, none⟩) (.inr N4.out.size) _).setCell (p := ⟨w4.heap.size, 1, none⟩) (.inr N4.out.size) _)
      clear ho hr
      go_wp2
      go_ret2
      rw [← HS.out]
      exact ⟨N4.out.alloc _, ⟨_, rfl⟩, R4.out.stay ((Below.refl _ w4).alloc (Nat.le_refl _) _)⟩
    | more p e x rr hp h hx hc hrl =>
      have hlt := labR_ok hp hx
      have CN1 := Lib.hid (fun w H => CN.out p h hp w H)
      have CL1 := Lib.hid (fun w H hT => CL.out p (.inl (x, e)) hx hp w H hT)
      unfold LabPost at CL1
      simp only at CL1
      have CC1 := Lib.hid (fun w H => CCY.out e hc w H)
      have HRL := Lib.hid hrl
      have HE2 := Lib.hid (show glue (sofar ++ [x]) rr = r by rw [glue_cons]; exact HE.out)
      obtain ⟨av, cv, rfl⟩ := ownL_shape HO.out
      obtain ⟨n, hn⟩ : ∃ n, sofar.length = n := ⟨_, rfl⟩
      have HNN := Lib.hid hn
      have hnp : n ≤ p := by rw [← hn]; exact HLE.out
      have hlen := HLEN.out
      have hnl : n ≤ 200000 := by omega
      rw [hn] at HO ⊢
      have HLT2 := Lib.hid hlt
      clear hn hx hrl h
      go_wp2_with fail
      refine (CN1.out _ HRR.out).mono ?_
      rintro e1 w3 ⟨rfl, hb⟩
      have R3 := Lib.hid (HRR.out.stay hb)
      have O3 := Lib.hid (HO.out.below hb)
      have N3 := Lib.hid (HON.out.trans (Only.of_below hb [R]) (fun x hx => .inl hx))
      clear hb
      go_wp2_with fail
      refine (CL1.out _ R3.out (HTY.out.only N3.out HRR1.out)).mono ?_
      rintro e1 w4 ⟨ho, rfl, hr⟩
      have R4 := Lib.hid hr
      have O4 := Lib.hid (O3.out.only ho (fun k hk => by have := HLT.out; simp at hk; omega))
      have N4 := Lib.hid (N3.out.trans ho (fun x hx => .inl hx))
      clear ho hr
      have hsz4 := N4.out.size
      have HA1 := Lib.hid (fun o1 o2 : Obj => ((O4.out.below ((Below.refl w4.heap.size w4).alloc (Nat.le_refl _) o1)).below ((Below.refl (w4.alloc o1).heap.size (w4.alloc o1)).alloc (Nat.le_refl _) o2)))
      have HON5 : Hid (∀ o1 o2 : Obj, ((w4.alloc o1).alloc o2).ownsRow w.heap.size 94 2 (.slice av n cv) n (sofar.flatMap enc2)) := Lib.hid (fun o1 o2 => by have h := HA1.out o1 o2; unfold OwnL at h; rw [HNN.out] at h; exact h)
      have HOB := Lib.hid (ownL_block O4.out)
      go_wp2_with (first
        | (at_builtin; refine wpList_append_own _ rfl (.tmp 27) (.tmp 29) 22 rfl w.heap.size 94 i0 (.agg #[.string ⟨#[]⟩, .string ⟨#[]⟩]) 2 32 Tryz.underlying22 hi hz0 hz1 hz2 rfl (by decide) (.slice av n cv) n (sofar.flatMap enc2) rfl (HON5.out _ _) ⟨w4.heap.size + 1, 0, none⟩ 1 1 (enc2 x) rfl rfl (by have h := two_new (w4.alloc (.cells #[.string x.1, .string x.2] 94)) x; rw [World.size_alloc] at h; exact h) (by simp [Value.oneCell', enc2]) (by unfold maxLen; omega) (by omega) (by simp; omega) ?_; intro v5 w5 hown5 hgr5 hne5
           have g1 : OwnL w5 w.heap.size v5 (sofar ++ [x]) := (by unfold OwnL; rw [List.length_append, List.flatMap_append, HNN.out]; simpa using hown5)
           have N5 := Lib.hid (((N4.out.alloc (.cells #[.string x.1, .string x.2] 94)).alloc (.cells #[.string x.1, .string x.2] 94)).grown hgr5 (fun k hk => .inr (HOB.out k hk)))
           have R5 := Lib.hid (show Rr w5 R bs e from (hgr5.block R (by have := R4.out.lt; simp; omega) (fun e2 => by have h1 := HOB.out R e2.symm; have h2 := HLT.out; omega)).trans (((Below.refl _ w4).alloc (Nat.le_refl _) _).alloc (by simp) _ |>.block R R4.out.lt |>.trans R4.out))
           have O5 := Lib.hid g1
           obtain ⟨a5, c5, rfl⟩ := ownL_shape g1
           obtain ⟨n5, hn5⟩ : ∃ n, (sofar ++ [x]).length = n := ⟨_, rfl⟩
           have HN5 := Lib.hid hn5
           rw [hn5] at O5 ⊢
           clear hown5 hgr5 hne5 g1 hn5)
        | fail)
      refine (CC1.out _ R5.out).mono ?_
      rintro e1 w6 ⟨rfl, ho, hr⟩
      have R6 := Lib.hid hr
      have O6 := Lib.hid (O5.out.only ho (fun k hk => by have := HLT.out; simp at hk; omega))
      have N6 := Lib.hid (N5.out.trans ho (fun x hx => .inl hx))
      clear ho hr
      go_wp2
      go_roundw
      case rel => exact ⟨_, true, sofar ++ [x], rr, rfl, O6, R6, HRL, HE2, N6, Lib.hid (by have h1 := HLT2.out; have h2 := skipB_ge bs (e + 1) (by have := (List.getElem?_eq_some_iff.1 hc).1; omega); rw [List.length_append, HNN.out]; simp; omega)⟩
      case measure => rw [R6.out.posR, HRR.out.posR]; have h1 := HLT2.out; have h2 := skipB_ge bs (e + 1) (by have := (List.getElem?_eq_some_iff.1 hc).1; omega); have h3 := skipB_le bs (e + 1); omega
    | last p e x rr hp h hx hc hrl =>
      have hlt := labR_ok hp hx
      have CN1 := Lib.hid (fun w H => CN.out p h hp w H)
      have CL1 := Lib.hid (fun w H hT => CL.out p (.inl (x, e)) hx hp w H hT)
      unfold LabPost at CL1
      simp only at CL1
      have CC1 := Lib.hid (fun w H => CCN.out e hc (by omega) w H)
      have HRL := Lib.hid hrl
      have HE2 := Lib.hid (show glue (sofar ++ [x]) rr = r by rw [glue_cons]; exact HE.out)
      obtain ⟨av, cv, rfl⟩ := ownL_shape HO.out
      obtain ⟨n, hn⟩ : ∃ n, sofar.length = n := ⟨_, rfl⟩
      have HNN := Lib.hid hn
      have hnp : n ≤ p := by rw [← hn]; exact HLE.out
      have hlen := HLEN.out
      have hnl : n ≤ 200000 := by omega
      rw [hn] at HO ⊢
      have HLT2 := Lib.hid hlt
      clear hn hx hc hrl h
      go_wp2_with fail
      refine (CN1.out _ HRR.out).mono ?_
      rintro e1 w3 ⟨rfl, hb⟩
      have R3 := Lib.hid (HRR.out.stay hb)
      have O3 := Lib.hid (HO.out.below hb)
      have N3 := Lib.hid (HON.out.trans (Only.of_below hb [R]) (fun x hx => .inl hx))
      clear hb
      go_wp2_with fail
      refine (CL1.out _ R3.out (HTY.out.only N3.out HRR1.out)).mono ?_
      rintro e1 w4 ⟨ho, rfl, hr⟩
      have R4 := Lib.hid hr
      have O4 := Lib.hid (O3.out.only ho (fun k hk => by have := HLT.out; simp at hk; omega))
      have N4 := Lib.hid (N3.out.trans ho (fun x hx => .inl hx))
      clear ho hr
      have hsz4 := N4.out.size
      have HA1 := Lib.hid (fun o1 o2 : Obj => ((O4.out.below ((Below.refl w4.heap.size w4).alloc (Nat.le_refl _) o1)).below ((Below.refl (w4.alloc o1).heap.size (w4.alloc o1)).alloc (Nat.le_refl _) o2)))
      have HON5 : Hid (∀ o1 o2 : Obj, ((w4.alloc o1).alloc o2).ownsRow w.heap.size 94 2 (.slice av n cv) n (sofar.flatMap enc2)) := Lib.hid (fun o1 o2 => by have h := HA1.out o1 o2; unfold OwnL at h; rw [HNN.out] at h; exact h)
      have HOB := Lib.hid (ownL_block O4.out)
      go_wp2_with (first
        | (at_builtin; refine wpList_append_own _ rfl (.tmp 27) (.tmp 29) 22 rfl w.heap.size 94 i0 (.agg #[.string ⟨#[]⟩, .string ⟨#[]⟩]) 2 32 Tryz.underlying22 hi hz0 hz1 hz2 rfl (by decide) (.slice av n cv) n (sofar.flatMap enc2) rfl (HON5.out _ _) ⟨w4.heap.size + 1, 0, none⟩ 1 1 (enc2 x) rfl rfl (by have h := two_new (w4.alloc (.cells #[.string x.1, .string x.2] 94)) x; rw [World.size_alloc] at h; exact h) (by simp [Value.oneCell', enc2]) (by unfold maxLen; omega) (by omega) (by simp; omega) ?_; intro v5 w5 hown5 hgr5 hne5
           have g1 : OwnL w5 w.heap.size v5 (sofar ++ [x]) := (by unfold OwnL; rw [List.length_append, List.flatMap_append, HNN.out]; simpa using hown5)
           have N5 := Lib.hid (((N4.out.alloc (.cells #[.string x.1, .string x.2] 94)).alloc (.cells #[.string x.1, .string x.2] 94)).grown hgr5 (fun k hk => .inr (HOB.out k hk)))
           have R5 := Lib.hid (show Rr w5 R bs e from (hgr5.block R (by have := R4.out.lt; simp; omega) (fun e2 => by have h1 := HOB.out R e2.symm; have h2 := HLT.out; omega)).trans (((Below.refl _ w4).alloc (Nat.le_refl _) _).alloc (by simp) _ |>.block R R4.out.lt |>.trans R4.out))
           have O5 := Lib.hid g1
           obtain ⟨a5, c5, rfl⟩ := ownL_shape g1
           obtain ⟨n5, hn5⟩ : ∃ n, (sofar ++ [x]).length = n := ⟨_, rfl⟩
           have HN5 := Lib.hid hn5
           rw [hn5] at O5 ⊢
           clear hown5 hgr5 hne5 g1 hn5)
        | fail)
      refine (CC1.out _ R5.out).mono ?_
      rintro e1 w6 ⟨rfl, hb⟩
      have R6 := Lib.hid (R5.out.stay hb)
      have O6 := Lib.hid (O5.out.below hb)
      have N6 := Lib.hid (N5.out.trans (Only.of_below hb [R]) (fun x hx => .inl hx))
      clear hb
      go_wp2
      go_roundw
      case rel => exact ⟨_, false, sofar ++ [x], rr, rfl, O6, R6, HRL, HE2, N6, Lib.hid (by have h1 := HLT2.out; rw [List.length_append, HNN.out]; simp; omega)⟩
      case measure => rw [R6.out.posR, HRR.out.posR]; have h1 := HLT2.out; omega
theorem allR_good {bs : List Nat} {l : List Lm.Lb} (h : AllR bs (.good l)) : l.length ≤ bs.length := by
  rcases h with ⟨_, h⟩ | ⟨_, h⟩
  · have := runR_len h; omega
  · cases h
theorem allR_bad {bs : List Nat} {q : Nat} (h : AllR bs (.bad q)) : q ≤ bs.length := by
  rcases h with ⟨_, h⟩ | ⟨_, h⟩
  · exact runR_bad h
  · cases h; exact skipB_le _ _
end Go.Proofs.YtiolghcjndoigaaGreatDoor
namespace Go.Proofs.YtiolghcjndoigaaGreatDoor
set_option linter.unusedVariables false
set_option linter.unusedSimpArgs false
open Go.RowKit Go.PlainAid Go.Shelf
def PPost (w : World) (bs : List Nat) (r : PR) (e : Ending) (w' : World) : Prop := Below w.heap.size w w' ∧ (match r with
  | .good L => ∃ v c out, e = .returned (.tuple #[v, .int .u16 ((c : Nat) : Int), .int .i64 (((if c = 0 then 0 else bs.length) : Nat) : Int)]) ∧ SetIs L c out ∧ OwnL w' w.heap.size v out
  | .bad q => e = .returned (.tuple #[.slice none 0 0, .int .u16 70, .int .i64 ((q : Nat) : Int)]))
set_option maxHeartbeats 2000000 in
theorem parse_any (bs : List Nat) (r : PR) (hB : IsB bs) (hl : bs.length ≤ 20000) (hv : AllR bs r) (w : World) (hT : Ty w) : Calls Tryz.prog 34 #[.string (strOf bs)] w (PPost w bs r) := by
  have hwl := hT.lt
  have CA := Lib.hid (fun w1 H hT1 => all_any w.heap.size bs r hB hl hwl hv w1 H hT1)
  have hA : Below w.heap.size w (w.alloc (.cells #[.string (strOf bs), .int .i64 0] 139)) := (Below.refl _ w).alloc (Nat.le_refl _) _
  have HTA := Lib.hid (hT.below hA)
  have HR := Lib.hid (show Rr (w.alloc (.cells #[.string (strOf bs), .int .i64 0] 139)) w.heap.size bs 0 from heap_alloc_new w _)
  have HA := Lib.hid hA
  have hsz := strOf_size bs
  cases r with
  | bad q =>
    have hq := allR_bad hv
    have CA1 := Lib.hid (CA.out _ HR.out HTA.out)
    unfold AllPost at CA1
    simp only at CA1
    obtain ⟨S, hS⟩ : ∃ S, strOf bs = S := ⟨_, rfl⟩
    rw [hS] at HR HA hsz HTA CA1 ⊢
    obtain ⟨N, hN⟩ : ∃ N, bs.length = N := ⟨_, rfl⟩
    rw [hN] at hsz
    clear hB hl hv hA hS hN CA hwl hT hq
    go_enter Tryz.func34, Tryz.ntmps34
    go_wp2_with fail
    refine CA1.out.mono ?_
    rintro e w1 ⟨ho, ⟨v, rfl⟩, hr⟩
    have B1 := Lib.hid (show Below w.heap.size w w1 from HA.out.trans (ho.below (B := w.heap.size) (by simp) (by simp)))
    have c1 := hr.c1
    have g0 := hr.fz 1
    clear ho hr
    go_wp2_with (go_quiet (fail))
    go_returns
    exact ⟨below_drewN B1.out nq, rfl⟩
  | good L =>
    have hln := allR_good hv
    have CS := Lib.hid (fun a c w H => set_any a c L w H (by omega))
    have CA1 := Lib.hid (CA.out _ HR.out HTA.out)
    unfold AllPost at CA1
    simp only at CA1
    obtain ⟨S, hS⟩ : ∃ S, strOf bs = S := ⟨_, rfl⟩
    rw [hS] at HR HA hsz HTA CA1 ⊢
    obtain ⟨N, hN⟩ : ∃ N, bs.length = N := ⟨_, rfl⟩
    have HNN := Lib.hid hN
    rw [hN] at hsz
    clear hB hl hv hln hA hS hN CA hwl hT
    go_enter Tryz.func34, Tryz.ntmps34
    go_wp2_with fail
    refine CA1.out.mono ?_
    rintro e w1 ⟨hb, v, rfl, ho⟩
    have B1 := Lib.hid (show Below w.heap.size w w1 from HA.out.trans (hb.below (B := w.heap.size) (by simp) (by simp)))
    obtain ⟨a, c, rfl, hla, _⟩ := ho.labs
    have C2 := Lib.hid (CS.out a c w1 hla)
    obtain ⟨n, hn⟩ : ∃ n, L.length = n := ⟨_, rfl⟩
    rw [hn] at C2 ⊢
    clear ho hb hla hn CA1
    go_wp2_with fail
    refine C2.out.mono ?_
    rintro e w2 ⟨v2, c2, out, rfl, hs, ho, hb⟩
    have S2 := Lib.hid hs
    have O2 := Lib.hid (ho.lower B1.out.size)
    have B2 := Lib.hid (B1.out.trans (hb.mono B1.out.size))
    clear hs ho hb
    by_cases h0 : c2 = 0
    · subst h0
      go_wp2
      go_returns
      exact ⟨B2.out, _, 0, out, rfl, S2.out, O2.out⟩
    · have d1 : ((c2 : Int) == 0) = false := by simp; omega
      have d2 : ¬ ((c2 : Int) = 0) := by omega
      have HE := Lib.hid (setis_none S2.out h0)
      have HI := Lib.hid (show ((if c2 = 0 then 0 else bs.length : Nat) : Int) = (N : Int) by rw [if_neg h0, HNN.out])
      go_wp2
      go_returns
      refine ⟨B2.out, .slice none 0 0, c2, out, ?_, S2.out, ?_⟩
      · rw [HI.out]; rfl
      · rw [HE.out]; exact OwnL.nil _ _
end Go.Proofs.YtiolghcjndoigaaGreatDoor
