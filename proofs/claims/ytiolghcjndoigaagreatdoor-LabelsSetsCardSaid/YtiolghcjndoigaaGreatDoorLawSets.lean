/-
  WALKS: the law of sets, walked.
-/
import Derived.Test.YtiolghcjndoigaaGreatDoorBokD
import Derived.Test.YtiolghcjndoigaaGreatDoorOpn
import Derived.Test.YtiolghcjndoigaaGreatDoorRsf
namespace Go.Proofs.YtiolghcjndoigaaGreatDoor
set_option linter.unusedVariables false
set_option linter.unusedSimpArgs false
open Go.RowKit Go.PlainAid Go.Shelf
theorem capL_of_trod {H : Type} {enc : TypeId × Value → H} {w : World} {base fuel : Nat} {spare : Nat → Bool} {held : Bool} {a : Option Addr} {len cap : Nat} {x : DataW H × List MemPlace}
    (h : DataW.trod enc Tryz.prog w base spare held fuel 22 [.slice a len cap] = some x) : a = none → cap = 0 := by
  rcases Go.Deep.open_slice Tryz.underlying22 h with ⟨hcs, _⟩ | ⟨ad, l, c, m, n, D, Pl, hcs, _, hl, hm, hmm, _, hi⟩
  · simp at hcs
    obtain ⟨rfl, rfl, rfl⟩ := hcs
    exact fun _ => rfl
  · simp at hcs
    obtain ⟨rfl, rfl, rfl⟩ := hcs
    exact fun h => by cases h
theorem OwnL.onlyG {w w' : World} {base g : Nat} {v : Value} {l : List Lm.Lb} (h : OwnL w base v l) (ho : Only [g] w w') (hg : g < base) : OwnL w' base v l := h.only ho (fun k hk => by simp at hk; omega)
theorem OwnL.onlyS {w w' : World} {base : Nat} {v : Value} {l : List Lm.Lb} (h : OwnL w base v l) {S : List Nat} (ho : Only S w w') (hS : ∀ k, v.ownBlock = some k → k ∉ S) : OwnL w' base v l := Bk.owns_only h ho hS
theorem OwnL.len {w : World} {base : Nat} {v : Value} {l : List Lm.Lb} (h : OwnL w base v l) : ∀ k, v.ownBlock = some k → base ≤ k ∧ k < w.heap.size := World.ownsRow.lt h
theorem Labs.off {w w' : World} {a : Option Addr} {l : List Lm.Lb} (h : Labs w a l) {S : List Nat} (ho : Only S w w') (hS : ∀ k ∈ S, w.heap.size ≤ k) : Labs w' a l := h.mono (Nat.le_refl _) (ho.below (Nat.le_refl _) hS)
/-- the book behind its making -/
theorem book_new {w : World} (o : Obj) (ho : o = .cells (Bk.bkf 9 (.slice none 0 0)) 67 (0, 0)) (X : Nat → Value) : Bk.BookAt 67 22 9 (w.alloc o) w.heap.size w.heap.size 0 X :=
  ⟨.slice none 0 0, by rw [ho]; exact heap_alloc_new w _, World.ownsRow_nil _ _ _ _, rfl, by simp [Value.ownBlock]⟩
/-- two rows -/
def two (x y : Value) (n : Nat) : Value := if n = 0 then x else if n = 1 then y else .slice none 0 0
def twoL (l m : Nat) (n : Nat) : Nat := if n = 0 then l else if n = 1 then m else 0
theorem two_lots {w : World} {N : Nat} {x y : Value} {l m : List Lm.Lb} (h1 : OwnL w N x l) (h2 : OwnL w N y m) (hap : x.ownBlock = none ∨ y.ownBlock = none ∨ x.ownBlock ≠ y.ownBlock) : ∃ C, Bk.Lots 94 2 w N (two x y) (twoL l.length m.length) C := by
  refine ⟨fun n => if n = 0 then l.flatMap enc2 else if n = 1 then m.flatMap enc2 else [], fun i => ?_, fun i j hij => ?_⟩
  · match i with
    | 0 => exact h1
    | 1 => exact h2
    | n + 2 => exact World.ownsRow_nil _ _ _ _
  · match i, j, hij with
    | 0, 0, h => exact absurd rfl h
    | 0, 1, _ =>
      show x.ownBlock = none ∨ x.ownBlock ≠ y.ownBlock
      rcases hap with h | h | h
      · exact .inl h
      · by_cases hx : x.ownBlock = none
        · exact .inl hx
        · exact .inr (by rw [h]; exact hx)
      · exact .inr h
    | 0, n + 2, _ =>
      show x.ownBlock = none ∨ x.ownBlock ≠ none
      by_cases hx : x.ownBlock = none
      · exact .inl hx
      · exact .inr hx
    | 1, 0, _ =>
      show y.ownBlock = none ∨ y.ownBlock ≠ x.ownBlock
      rcases hap with h | h | h
      · by_cases hy : y.ownBlock = none
        · exact .inl hy
        · exact .inr (by rw [h]; exact hy)
      · exact .inl h
      · exact .inr (fun e => h e.symm)
    | 1, 1, h => exact absurd rfl h
    | 1, n + 2, _ =>
      show y.ownBlock = none ∨ y.ownBlock ≠ none
      by_cases hy : y.ownBlock = none
      · exact .inl hy
      · exact .inr hy
    | n + 2, j, _ => exact .inl rfl
theorem two_places {N M h : Nat} {x y : Value} (h1 : ∀ g, x.ownBlock = some g → g < M ∧ N ≤ g) (h2 : ∀ g, y.ownBlock = some g → g < M ∧ N ≤ g) (n1 : x.ownBlock ≠ some h) (n2 : y.ownBlock ≠ some h) (hM : h < M) (hN : N ≤ M)
    (hap : ∀ i j, i ≠ j → (two x y i).ownBlock = none ∨ (two x y i).ownBlock ≠ (two x y j).ownBlock) : Bk.Places N M h (two x y) := by
  refine ⟨fun j g hg => ?_, fun j g hg => ?_, hM, hap, hN⟩
  · match j with
    | 0 => exact h1 g hg
    | 1 => exact h2 g hg
    | n + 2 => cases hg
  · match j with
    | 0 => intro e; subst e; exact n1 hg
    | 1 => intro e; subst e; exact n2 hg
    | n + 2 => cases hg
theorem setn_len {l out : List Lm.Lb} {c : Nat} (h : SetN l c out) : out.length ≤ 64 ∧ c ≤ 72 := by
  unfold SetN at h
  split at h
  · rw [h.1, h.2]; simp
  · split at h
    · rw [h.1, h.2]; simp
    · split at h
      · rw [h.1, h.2]; simp
      · rw [h.1, h.2]; exact ⟨by omega, by omega⟩
end Go.Proofs.YtiolghcjndoigaaGreatDoor
namespace Go.Proofs.YtiolghcjndoigaaGreatDoor
set_option linter.unusedVariables false
set_option linter.unusedSimpArgs false
open Go.RowKit Go.PlainAid Go.Shelf
set_option maxRecDepth 100000 in
set_option maxHeartbeats 8000000 in
theorem law_sets (a1 a2 : Option Addr) (c1 c2 : Nat) (l m : List Lm.Lb) (w : World) (H1 : Labs w a1 l) (H2 : Labs w a2 m) (l1 : l.length ≤ maxLen) (l2 : m.length ≤ maxLen) (hc0 : a1 = none → c1 = 0) :
    Calls Tryz.prog 3 #[.slice a1 l.length c1, .slice a2 m.length c2] w (Gives w (.bool true)) := by
  have hmx : maxLen = 9223372036854775807 := rfl
  have M1 := Lib.hid (fun w H => much_any a1 c1 l w H l1)
  have M2 := Lib.hid (fun w H => much_any a2 c2 m w H l2)
  have CK := Lib.hid known_any
  have K1 := Lib.hid H1
  have K2 := Lib.hid H2
  have HC0 := Lib.hid hc0
  have HMX := Lib.hid hmx
  obtain ⟨n1, hn1⟩ : ∃ n, l.length = n := ⟨_, rfl⟩
  obtain ⟨n2, hn2⟩ : ∃ n, m.length = n := ⟨_, rfl⟩
  have HN1 := Lib.hid hn1
  have HN2 := Lib.hid hn2
  rw [hn1] at M1 ⊢
  rw [hn2] at M2 ⊢
  clear H1 H2 l1 l2 hn1 hn2 hmx hc0
  go_enter Tryz.func3, Tryz.ntmps3
  go_wp2_with fail
  refine (M1.out _ K1.out).mono ?_
  rintro e w1 ⟨b1, rfl, hbl, hfew⟩
  have B1 := Lib.hid hbl
  have HF1 := Lib.hid hfew
  clear hbl hfew
  cases b1 with
  | true =>
    go_wp2
    go_ret
    exact ⟨rfl, B1.out⟩
  | false =>
    have HS1 := Lib.hid (show l.length ≤ 300 from (HF1.out rfl).1)
    go_wp2_with fail
    refine (M2.out _ (K2.out.below B1.out)).mono ?_
    rintro e w2 ⟨b2, rfl, hbl, hfew⟩
    have B2 := Lib.hid (B1.out.trans (hbl.mono B1.out.size))
    have HF2 := Lib.hid hfew
    clear hbl hfew
    cases b2 with
    | true =>
      go_wp2
      go_ret
      exact ⟨rfl, B2.out⟩
    | false =>
      have HS2 := Lib.hid (show m.length ≤ 300 from (HF2.out rfl).1)
      have CL := Lib.hid (fun w H => lentl_any a1 l c1 w H HC0.out (by have := HS1.out; omega))
      have CS := Lib.hid (fun a c w H => set_any a c l w H (by have := HS1.out; omega))
      have CC := Lib.hid (fun a c w H => check_any a c l w H (by have := HS1.out; omega))
      have CM := Lib.hid (fun a c w H H' => cmp_any a a2 c c2 l m w H H' (by have := HS1.out; have := HMX.out; omega))
      have CM2 := Lib.hid (fun w H H' => cmp_any a2 a1 c2 c1 m l w H H' (by have := HS2.out; have := HMX.out; omega))
      have CW := Lib.hid (fun g w L H => wholel_any g a1 l c1 w L H (by have := HS1.out; omega))
      have CR := Lib.hid (fun w H => rset_any a1 c1 l w H (by have := HS1.out; omega))
      have CRK := Lib.hid (fun w H => rcheck_any a1 c1 l w H (by have := HS1.out; have := HMX.out; omega))
      have CRC := Lib.hid (fun w H H' => rcmp_any a1 a2 c1 c2 l m w H H' (by have := HS1.out; have := HMX.out; omega))
      have HANTI := Lib.hid (show Lm.labsC m l = - Lm.labsC l m from Lm.labsC_lin.anti l m)
      have HLO := Lib.hid (And.intro (Lm.labsC_lin.lo l m) (Lm.labsC_lin.hi l m))
      rw [HN1.out] at CL CS CC CM CW CR CRK CRC
      rw [HN2.out] at CM CRC
      rw [HN1.out, HN2.out] at CM2
      rw [HANTI.out] at CM2
      obtain ⟨r, hr⟩ : ∃ r, Lm.labsC l m = r := ⟨_, rfl⟩
      rw [hr] at CM CRC CM2 HLO
      have hneg : wrap64 (-r) = -r := by have := HLO.out; exact wrap64_small (by omega) (by omega)
      have hneg2 : IntKind.i64.wrap (-r) = -r := by have := HLO.out; rw [IntKind.wrap_i64]; omega
      have hnn : (-r == -r) = true := by simp
      have hrr : (r == r) = true := by simp
      have HCH := Lib.hid (fun c (h : CheckIs l c) => chk_same h)
      obtain ⟨K, hK⟩ : ∃ K, chkN l = K := ⟨_, rfl⟩
      rw [hK] at CRK
      have hkk : ((K : Int) == (K : Int)) = true := by simp
      have HKK := Lib.hid hK
      clear hr hK
      go_wp2_with fail
      refine (CL.out _ (K1.out.below B2.out)).mono ?_
      rintro e w3 ⟨g, hg, rfl, hL, hbl⟩
      rw [HN1.out]
      have L3 := Lib.hid hL
      have HG := Lib.hid (show w.heap.size ≤ g ∧ g < w3.heap.size by have := B2.out.size; exact ⟨by omega, (Array.getElem?_eq_some_iff.1 hL).1⟩)
      have B3 := Lib.hid (B2.out.trans (hbl.mono B2.out.size))
      have HSZ3 := Lib.hid (show w2.heap.size ≤ w3.heap.size from hbl.size)
      clear hL hbl hg
      go_wp2_with fail
      refine (CS.out _ _ _ L3.out.labs).mono ?_
      rintro e w4 ⟨x, c4, out4, rfl, hs, ho, hbl⟩
      have HX := Lib.hid (setn_of hs)
      have X4 := Lib.hid ho
      have L4 := Lib.hid (L3.out.below hbl)
      have T4 := Lib.hid hbl
      clear hs ho hbl
      go_wp2_with fail
      refine (CS.out _ _ _ L4.out.labs).mono ?_
      rintro e w5 ⟨y, c5, out5, rfl, hs, ho, hbl⟩
      obtain ⟨e1, e2⟩ := setn_one (setn_of hs) HX.out
      subst e1 e2
      have X5 := Lib.hid (X4.out.below hbl)
      have Y5 := Lib.hid ho
      have HXY := Lib.hid (show x.ownBlock = none ∨ y.ownBlock = none ∨ x.ownBlock ≠ y.ownBlock by
        cases hx : x.ownBlock with
        | none => exact .inl rfl
        | some k =>
          refine .inr (.inr fun e => ?_)
          have h1 := (X4.out.len k hx).2
          have h2 := (ho.len k e.symm).1
          omega)
      have Y5b := Lib.hid (ho.lower T4.out.size)
      have L5 := Lib.hid (L4.out.below hbl)
      have T5 := Lib.hid (T4.out.trans (hbl.mono T4.out.size))
      clear hs ho hbl Y5
      go_wp2_with fail
      refine (CC.out _ _ _ L5.out.labs).mono ?_
      rintro e w6 ⟨ck, rfl, hck, hbl⟩
      have e6 := HCH.out _ hck
      rw [HKK.out] at e6
      subst e6
      have X6 := Lib.hid (X5.out.below hbl)
      have Y6 := Lib.hid (Y5b.out.below hbl)
      have L6 := Lib.hid (L5.out.below hbl)
      have T6 := Lib.hid (T5.out.trans (hbl.mono T5.out.size))
      clear hck hbl
      have A6 := Lib.hid (K2.out.below (B3.out.trans (T6.out.mono B3.out.size)))
      go_wp2_with fail
      refine (CM.out _ _ _ L6.out.labs A6.out).mono ?_
      rintro e w7 ⟨rfl, hbl⟩
      have X7 := Lib.hid (X6.out.below hbl)
      have Y7 := Lib.hid (Y6.out.below hbl)
      have L7 := Lib.hid (L6.out.below hbl)
      have T7 := Lib.hid (T6.out.trans (hbl.mono T6.out.size))
      clear hbl
      have A7 := Lib.hid (K1.out.below (B3.out.trans (T7.out.mono B3.out.size)))
      go_wp2_with fail
      refine (CW.out g _ L7.out A7.out).mono ?_
      rintro e w8 ⟨rfl, hbl⟩
      have X8 := Lib.hid (X7.out.below hbl)
      have Y8 := Lib.hid (Y7.out.below hbl)
      have L8 := Lib.hid (L7.out.below hbl)
      have T8 := Lib.hid (T7.out.trans (hbl.mono T7.out.size))
      clear hbl
      have CP := Lib.hid (spoill_any g n1 (n1 + 2) w8 (by omega) (by have := HS1.out; have := HN1.out; omega) _ L8.out (by rw [List.size_toArray, flat2_len, List.length_append, HN1.out]; simp; omega))
      go_wp2_with fail
      refine CP.out.mono ?_
      rintro e w9 ⟨rfl, hon⟩
      have X9 := Lib.hid (X8.out.onlyG hon HG.out.2)
      have Y9 := Lib.hid (Y8.out.onlyG hon HG.out.2)
      have B9 := Lib.hid (show Below w.heap.size w w9 from (B3.out.trans (T8.out.mono B3.out.size)).trans (hon.below (Nat.le_trans B3.out.size T8.out.size) (fun k hk => by simp at hk; have := HG.out.1; omega)))
      have HSZ9 := Lib.hid (show w3.heap.size ≤ w9.heap.size from Nat.le_trans T8.out.size hon.size)
      clear hon CP
      go_wp2_with fail
      refine (CR.out _ (K1.out.below B9.out)).mono ?_
      rintro e w10 ⟨v10, c10, out10, rfl, hs, ho, hbl⟩
      obtain ⟨e1, e2⟩ := setn_one hs HX.out
      subst e1
      rw [e2] at ho
      obtain ⟨a10, cc10, rfl, hla10, _⟩ := ho.labs
      have HLN := Lib.hid (setn_len HX.out)
      have V10 := Lib.hid hla10
      have X10 := Lib.hid (X9.out.below hbl)
      have Y10 := Lib.hid (Y9.out.below hbl)
      have B10 := Lib.hid (B9.out.trans (hbl.mono B9.out.size))
      have HSZ10 := Lib.hid (Nat.le_trans HSZ9.out hbl.size)
      clear hs ho hla10 hbl e2
      obtain ⟨ax, cx, rfl⟩ := ownL_shape X10.out
      obtain ⟨ay, cy, rfl⟩ := ownL_shape Y10.out
      have HXL := Lib.hid (fun k hk => X10.out.len k hk)
      have HYL := Lib.hid (fun k hk => Y10.out.len k hk)
      obtain ⟨N3, hN3⟩ : ∃ n, w3.heap.size = n := ⟨_, rfl⟩
      rw [hN3] at HSZ10 X10 Y10 HXL HYL
      have HN3 := Lib.hid (show w.heap.size ≤ N3 by rw [← hN3]; exact B3.out.size)
      obtain ⟨PB, hPB⟩ : ∃ n, w10.heap.size = n := ⟨_, rfl⟩
      have HPB := Lib.hid hPB
      have CB1 := Lib.hid (fun w1 H => booklabels_any PB PB 0 out5.length cx ax (two (.slice ax out5.length cx) (.slice ay out5.length cy)) rfl w1 H (by decide))
      have CB2 := Lib.hid (fun h w1 H => booklabels_any PB h 1 out5.length cy ay (two (.slice ax out5.length cx) (.slice ay out5.length cy)) rfl w1 H (by decide))
      have CSM := Lib.hid (fun a b c d w1 H H' => show Calls Tryz.prog 18 #[.slice a out5.length c, .slice b out5.length d] w1 (Gives w1 (.bool true)) by
        have h := same_any a b c d out5 out5 w1 H H' (by have := HLN.out.1; have := HMX.out; omega)
        rw [decide_eq_true rfl] at h
        exact h)
      obtain ⟨k4, hk4⟩ : ∃ k, out5.length = k := ⟨_, rfl⟩
      have HK4 := Lib.hid hk4
      rw [hk4] at HXL HYL CB1 CB2 HXY CSM ⊢
      have hcc : ((c10 : Int) == (c10 : Int)) = true := by simp
      have HBN := Lib.hid (show Bk.BookAt 67 22 9 (w10.alloc (.cells (Bk.bkf 9 (.slice none 0 0)) 67)) PB PB 0 (two (.slice ax k4 cx) (.slice ay k4 cy)) by
        rw [← hPB]
        exact book_new _ rfl _)
      have HAL := Lib.hid ((Below.refl w10.heap.size w10).alloc (Nat.le_refl _) (.cells (Bk.bkf 9 (.slice none 0 0)) 67))
      have hbkf : Bk.bkf 9 (.slice none 0 0) = #[.slice none 0 0, .slice none 0 0, .slice none 0 0, .slice none 0 0, .slice none 0 0, .slice none 0 0, .slice none 0 0, .slice none 0 0, .slice none 0 0, .slice none 0 0, .slice none 0 0, .slice none 0 0, .slice none 0 0, .slice none 0 0, .slice none 0 0, .slice none 0 0, .slice none 0 0, .slice none 0 0, .slice none 0 0, .slice none 0 0, .slice none 0 0, .slice none 0 0, .slice none 0 0, .slice none 0 0, .slice none 0 0, .slice none 0 0, .slice none 0 0, .slice none 0 0, .slice none 0 0, .slice none 0 0, .slice none 0 0, .slice none 0 0] := rfl
      rw [hbkf] at HBN HAL
      rw [hPB] at HAL HSZ10 HXL HYL
      clear hN3 hk4 hbkf
      go_wp2_with fail
      refine (CB1.out _ HBN.out).mono ?_
      rintro e w11 ⟨rfl, h1, hbk, hh1, ho⟩
      have HH1 := Lib.hid (show PB ≤ h1 by
        rcases hh1 with h | h
        · omega
        · rw [World.size_alloc, hPB] at h; omega)
      have BK11 := Lib.hid hbk
      have T11 := Lib.hid (show Below PB w10 w11 from HAL.out.trans (ho.below (by simp; omega) (fun x hx => by simp at hx; omega)))
      clear hbk hh1 ho
      go_wp2_with fail
      refine (CB2.out _ _ BK11.out).mono ?_
      rintro e w12 ⟨rfl, h2, hbk, hh2, ho⟩
      have HH2 := Lib.hid (show PB ≤ h2 by
        rcases hh2 with h | h
        · have := HH1.out; omega
        · have := T11.out.size; omega)
      have BK12 := Lib.hid hbk
      have T12 := Lib.hid (show Below PB w10 w12 from T11.out.trans (ho.below (by have := T11.out.size; omega) (fun x hx => by simp at hx; have := HH1.out; omega)))
      clear hbk hh2 ho
      rw [← hPB] at T12
      have X12 := Lib.hid (X10.out.below T12.out)
      have Y12 := Lib.hid (Y10.out.below T12.out)
      have V12 := Lib.hid (V10.out.below T12.out)
      have B12 := Lib.hid (B10.out.trans (T12.out.mono B10.out.size))
      clear T11 BK11 HBN HAL
      have XL := Lib.hid (show Labs w12 ax out5 by
        obtain ⟨a', c', he, hl, _⟩ := X12.out.labs
        cases he
        exact hl)
      have YL := Lib.hid (show Labs w12 ay out5 by
        obtain ⟨a', c', he, hl, _⟩ := Y12.out.labs
        cases he
        exact hl)
      go_wp2_with fail
      refine (CSM.out _ _ _ _ _ XL.out V12.out).mono ?_
      rintro e w13 ⟨rfl, hbl⟩
      have T13 := Lib.hid hbl
      clear hbl
      go_wp2_with fail
      refine (CSM.out _ _ _ _ _ (YL.out.below T13.out) (V12.out.below T13.out)).mono ?_
      rintro e w14 ⟨rfl, hbl⟩
      have T14 := Lib.hid (T13.out.trans (hbl.mono T13.out.size))
      clear hbl
      go_wp2_with fail
      refine (CK.out _).mono ?_
      rintro e w15 ⟨rfl, hbl⟩
      have T15 := Lib.hid (T14.out.trans (hbl.mono T14.out.size))
      clear hbl
      have A15 := Lib.hid (K1.out.below (B12.out.trans (T15.out.mono B12.out.size)))
      go_wp2_with fail
      refine (CRK.out _ A15.out).mono ?_
      rintro e w16 ⟨rfl, hbl⟩
      have T16 := Lib.hid (T15.out.trans (hbl.mono T15.out.size))
      clear hbl
      have A16 := Lib.hid (K1.out.below (B12.out.trans (T16.out.mono B12.out.size)))
      have D16 := Lib.hid (K2.out.below (B12.out.trans (T16.out.mono B12.out.size)))
      go_wp2_with fail
      refine (CRC.out _ A16.out D16.out).mono ?_
      rintro e w17 ⟨rfl, hbl⟩
      have T17 := Lib.hid (T16.out.trans (hbl.mono T16.out.size))
      clear hbl
      have A17 := Lib.hid (K1.out.below (B12.out.trans (T17.out.mono B12.out.size)))
      have D17 := Lib.hid (K2.out.below (B12.out.trans (T17.out.mono B12.out.size)))
      go_wp2_with fail
      refine (CM2.out _ D17.out A17.out).mono ?_
      rintro e w18 ⟨rfl, hbl⟩
      have T18 := Lib.hid (T17.out.trans (hbl.mono T17.out.size))
      clear hbl
      have X18 := Lib.hid (X12.out.below T18.out)
      have Y18 := Lib.hid (Y12.out.below T18.out)
      have BK18 := Lib.hid (BK12.out.below T18.out)
      have B18 := Lib.hid (B12.out.trans (T18.out.mono B12.out.size))
      have HS18 := Lib.hid (show PB ≤ w18.heap.size by have h1 := T12.out.size; have h2 := T18.out.size; omega)
      obtain ⟨C, hC⟩ := two_lots X18.out Y18.out (by rw [HK4.out]; exact HXY.out)
      rw [HK4.out] at hC
      have HC := Lib.hid hC
      have CO := Lib.hid (bown_any ((Value.slice ax k4 cx).ownBlock.toList ++ (Value.slice ay k4 cy).ownBlock.toList) PB h2 2 N3 (two (.slice ax k4 cx) (.slice ay k4 cy)) (twoL k4 k4) w18 BK18.out
        (fun hm => by
          rcases List.mem_append.1 hm with h | h
          · have := (HXL.out PB (by simpa using h)).2; omega
          · have := (HYL.out PB (by simpa using h)).2; omega)
        (two_places (fun g hg => ⟨by have := (HXL.out g hg).2; have := HS18.out; omega, (HXL.out g hg).1⟩) (fun g hg => ⟨by have := (HYL.out g hg).2; have := HS18.out; omega, (HYL.out g hg).1⟩)
          (fun e => by have := (HXL.out h2 e).2; have := HH2.out; omega) (fun e => by have := (HYL.out h2 e).2; have := HH2.out; omega) BK18.out.lt.2 (by have := HSZ10.out; have := HS18.out; omega) hC.apart)
        ⟨_, hC⟩ (by decide) (fun j => by
          have h1 := HLN.out.1
          have h2 := HK4.out
          unfold twoL
          split
          · omega
          · split <;> omega) (fun j hj => by unfold twoL; rw [if_neg (by omega), if_neg (by omega)])
        (fun j g hg => by
          match j, hg with
          | 0, hg => exact List.mem_append.2 (.inl (by have h2 : (Value.slice ax k4 cx).ownBlock = some g := hg; rw [h2]; simp))
          | 1, hg => exact List.mem_append.2 (.inr (by have h2 : (Value.slice ay k4 cy).ownBlock = some g := hg; rw [h2]; simp))
          | n + 2, hg => cases hg))
      clear hC
      go_wp2_with fail
      refine CO.out.mono ?_
      rintro e w19 ⟨rfl, hon⟩
      have B19 := Lib.hid (show Below w.heap.size w w19 from B18.out.trans (hon.below B18.out.size (fun k hk => by
        have h3 := HN3.out
        rcases List.mem_append.1 hk with h | h
        · have := (HXL.out k (by simpa using h)).1; omega
        · have := (HYL.out k (by simpa using h)).1; omega)))
      clear hon
      go_wp2
      go_ret
      exact ⟨rfl, B19.out⟩
end Go.Proofs.YtiolghcjndoigaaGreatDoor
