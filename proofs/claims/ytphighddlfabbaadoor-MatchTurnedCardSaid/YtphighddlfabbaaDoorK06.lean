/-
  PACKED: WaJ, WaK, WaL
-/
import Derived.Test.YtphighddlfabbaaDoorK05
import Derived.Deep.Cut
namespace Go.Proofs.YtphighddlfabbaaDoor
set_option linter.unusedVariables false
set_option linter.unusedSimpArgs false
open Go.RowKit Go.PlainAid Go.Shelf
open Rx (Set4 RS)
/-- a call that reads has given a node, or none -/
def NRes (w : World) (R : Nat) (bs : List Nat) (r : Option Rx.Node × RS) (e : Ending) (w' : World) : Prop :=
  Went w w' R bs r.2 ∧ ∃ v, e = .returned (.tuple #[v, .bool r.1.isSome]) ∧ ∀ t, r.1 = some t → ∃ b, v = ptr b ∧ IsN w' (Fresh w.heap.size) t b
theorem pe_adv (bs : List Nat) (e : Bool) (p : Nat) : ∀ x, (Rx.peEnd bs e p).1 = some x → (Rx.peEnd bs e p).2 = p + 1 := by
  intro x h
  unfold Rx.peEnd at h ⊢
  split at h
  · cases h
  · rename_i c hc
    by_cases k : (if e = true then Rx.meaning c else Set4.only c).isNone = true
    · simp only [k, if_true] at h; cases h
    · simp only [k, if_false]; rfl
theorem poe_adv (bs : List Nat) (p : Nat) : ∀ x, (Rx.plainOrEscape bs p).1 = some x → p < (Rx.plainOrEscape bs p).2 := by
  intro x h
  unfold Rx.plainOrEscape at h ⊢
  split at h
  · rename_i k; rw [if_pos k, pe_adv _ _ _ x h]; omega
  · rename_i k; rw [if_neg k, pe_adv _ _ _ x h]; omega
theorem item_adv (bs : List Nat) (p : Nat) : ∀ x, (Rx.item bs p).1 = some x → p < (Rx.item bs p).2 := by
  intro x h
  unfold Rx.item at h ⊢
  split at h
  · cases h
  · rename_i k; rw [if_neg k]; exact poe_adv _ _ x h
theorem items_facts (bs : List Nat) (first p : Nat) (hp : p ≤ bs.length) : (Rx.items sg bs first p).2 ≤ bs.length ∧ ∀ x, (Rx.items sg bs first p).1 = some x → x.Ok ∧ p < (Rx.items sg bs first p).2 := by
  have h1 := item_le bs p hp
  have h2 := item_ok bs p
  have h3 := item_adv bs p
  unfold Rx.items
  split
  · refine ⟨?_, fun x h => by cases h⟩
    unfold Rx.stray
    split
    · rename_i k; show p + 1 ≤ bs.length; omega
    · exact hp
  · split
    · rename_i hi
      rw [hi] at h1
      exact ⟨h1, fun x h => by cases h⟩
    · rename_i x q hi
      rw [hi] at h1 h2 h3
      split
      · exact ⟨h1, fun y h => by cases h; exact ⟨h2 x rfl, h3 x rfl⟩⟩
      · rename_i f hf
        split
        · rename_i hd
          have hq1 : q + 1 ≤ bs.length := by
            unfold Rx.dashBetween Rx.isNext at hd
            rcases hc : bs[q]? with _ | b
            · rw [hc] at hd; cases hd
            · exact (List.getElem?_eq_some_iff.1 hc).1
          have g1 := item_le bs (q + 1) hq1
          have g3 := item_adv bs (q + 1)
          have hpq := h3 x rfl
          unfold Rx.range2
          split
          · rename_i hi2; rw [hi2] at g1; exact ⟨g1, fun x h => by cases h⟩
          · rename_i y q2 hi2
            rw [hi2] at g1 g3
            split
            · exact ⟨hq1, fun x h => by cases h⟩
            · split
              · exact ⟨hq1, fun x h => by cases h⟩
              · have hg := g3 y rfl
                simp only at hpq hg
                exact ⟨g1, fun z h => by cases h; exact ⟨span_ok _ _, by show p < q2; omega⟩⟩
        · exact ⟨h1, fun y h => by cases h; exact ⟨h2 x rfl, h3 x rfl⟩⟩
theorem classLoop_le (bs : List Nat) (first : Nat) : ∀ n x p, p ≤ bs.length → (Rx.classLoop sg bs first n x p).2 ≤ bs.length
  | 0, x, p, h => h
  | n + 1, x, p, h => by
    unfold Rx.classLoop
    split
    · rename_i k; exact isAt_lt k.2
    · have hf := items_facts bs first p h
      split
      · rename_i hi; rw [hi] at hf; exact hf.1
      · rename_i y q hi
        rw [hi] at hf
        exact classLoop_le bs first n _ q hf.1
theorem classLoop_ok (bs : List Nat) (first : Nat) : ∀ n x p, p ≤ bs.length → x.Ok → ∀ y, (Rx.classLoop sg bs first n x p).1 = some y → y.Ok
  | 0, x, p, h, hx => fun y e => by cases e
  | n + 1, x, p, h, hx => fun y e => by
    unfold Rx.classLoop at e
    split at e
    · cases e; exact hx
    · have hf := items_facts bs first p h
      split at e
      · cases e
      · rename_i z q hi
        rw [hi] at hf
        exact classLoop_ok bs first n _ q hf.1 (join_ok hx (hf.2 z rfl).1) y e
theorem Went.lt {w w' : World} {R : Nat} {bs : List Nat} {st : RS} (h : Went w w' R bs st) : R < w'.heap.size := h.rd.lt
-- GEN
set_option maxHeartbeats 4000000 in
set_option maxRecDepth 100000 in
theorem classy (R : Nat) (bs : List Nat) (st : RS) (p : Nat) (hB : IsB bs) (hp : p < bs.length) (hl : bs.length ≤ 500) (w : World) (H : Rd w R bs (st.to p)) (hT : TabAt w) (hR : 1 ≠ R) (h94 : Rx.isAt bs (p + 1) 94 = true) :
    Calls Tryd.prog 57 #[.pointer (some ⟨R, 0, none⟩)] w (NRes w R bs (Rx.ofSet (st.to p) ((Rx.classLoop sg bs (p + 2) (bs.length + 1) Set4.none (p + 2)).1.map Set4.others, (Rx.classLoop sg bs (p + 2) (bs.length + 1) Set4.none (p + 2)).2))) := by
  have HK0 := Ks.start H hT hR
  have HO := Lib.hid setC_one
  have c0 : w.cell? ⟨R, 1, none⟩ = some (.int .i64 ((p : Nat) : Int)) := HK0.c1
  have f0 := HK0.f1
  have K1 := HK0.to (p + 1)
  rw [show (st.to p).to (p + 1) = st.to (p + 1) from rfl, show ((p + 1 : Nat) : Int) = (p : Int) + 1 by omega] at K1
  have CS := Lib.hid (fun w H => sign_yes R bs (st.to (p + 1)) 94 hB (by decide) h94 hl w H)
  have CIT := Lib.hid (fun w q (hq : q ≤ bs.length) H hT first => items_any R bs st q hB hq hl w H hT hR first)
  have CY := Lib.hid (fun w q h H => sign_yes R bs (st.to q) 93 hB (by decide) h hl w H)
  have CNo := Lib.hid (fun w q h hq H => sign_no R bs (st.to q) 93 hB (by decide) h hq hl w H)
  have CJ := Lib.hid (fun x y hx hy w1 => join_any x y hx hy w1)
  have hfl : p + 2 ≤ bs.length := by have := isAt_lt h94; omega
  obtain ⟨F, hF⟩ : ∃ F, p + 2 = F := ⟨_, rfl⟩
  have HFI := Lib.hid hF
  obtain ⟨RES, hRES⟩ : ∃ r, Rx.classLoop sg bs F (bs.length + 1) Set4.none F = r := ⟨_, rfl⟩
  rw [hF] at hfl ⊢
  rw [hRES]
  have HR0 := Lib.hid hRES
  have HFL := Lib.hid hfl
  have K1 := Lib.hid K1
  have hp5 : p ≤ 500 := by omega
  have HLB := Lib.hid hp
  clear h94 H hT hF hRES hp HK0
  go_enter Tryd.func57, Tryd.ntmps57
  go_wp2_with fail
  refine (CS.out _ K1.out.rd).mono ?_
  rintro e w2 ⟨rfl, hb⟩
  have K2 : Ks w w2 R bs (st.to F) [] := by
    have := K1.out.step hb
    rw [← HFI.out]; exact this
  have c2 : w2.cell? ⟨R, 1, none⟩ = some (.int .i64 ((F : Nat) : Int)) := K2.c1
  have HK3 := Lib.hid (K2.lay Set4.none w2.heap.size rfl)
  rw [none_lit] at HK3
  have HAW := Lib.hid K2.went.only.size
  have hz2 : w2.heap.size < (w2.alloc (.cells #[Value.int .u64 0, .int .u64 0, .int .u64 0, .int .u64 0] 65)).heap.size := by simp
  clear hb c0 f0
  have HPZ := Lib.hid (show posOf R (w2.alloc (.cells #[Value.int .u64 0, .int .u64 0, .int .u64 0, .int .u64 0] 65)) = F from HK3.out.rd.posOf)
  obtain ⟨A, hA⟩ : ∃ A, w2.heap.size = A := ⟨_, rfl⟩
  have HAA := Lib.hid hA
  go_wp2
  rw [HAA.out] at HK3 HAW
  clear hA
  go_loopw [2, 3] (fun r2 r3 wr => r2 = .pointer none ∧ r3 = .bool false ∧ ∃ q x n, Hid (q ≤ bs.length ∧ x.Ok ∧ bs.length < q + n ∧ Rx.classLoop sg bs F n x q = RES) ∧ Hid (Ks w wr R bs (st.to q) [(A, x)])) (fun _ _ wr => bs.length + 1 - posOf R wr)
  case atStart => exact ⟨rfl, rfl, F, Set4.none, bs.length + 1, Lib.hid ⟨HFL.out, none_ok, by omega, HR0.out⟩, HK3⟩
  case round =>
    obtain ⟨rfl, rfl, q, x, n, HI, HK⟩ := hrel
    have cq : wr.cell? ⟨R, 1, none⟩ = some (.int .i64 ((q : Nat) : Int)) := HK.out.c1
    have HPQ := Lib.hid (show posOf R wr = q from HK.out.rd.posOf)
    have HXO := Lib.hid HI.out.2.1
    have HQL := Lib.hid HI.out.1
    cases n with
    | zero => have := HI.out; omega
    | succ n =>
      by_cases hend : q ≠ F ∧ Rx.isAt bs q 93 = true
      · have hqe : ((q : Int) == (F : Int)) = false := by simp; omega
        have HRES := Lib.hid (show RES = (some x, q + 1) by rw [← HI.out.2.2.2, Rx.classLoop, if_pos hend])
        have CY1 := Lib.hid (CY.out wr q hend.2 HK.out.rd)
        clear hend HI CY CNo CIT CS HR0
        go_wp2_with fail
        refine CY1.out.mono ?_
        rintro e w4 ⟨rfl, hb⟩
        have K4 : Ks w w4 R bs (st.to (q + 1)) [(A, x)] := HK.out.step hb
        have K4 := Lib.hid K4
        clear hb cq
        have hA := K4.out.at A x (by simp)
        have CO := Lib.hid (fun w => others_any x HXO.out w)
        obtain ⟨Y, hY⟩ : ∃ Y, x.others = Y := ⟨_, rfl⟩
        have HYO : Y.Ok := by rw [← hY]; exact others_ok x
        rw [hY] at CO
        have CN := Lib.hid (fun w => oneOf_any Y HYO w)
        have HYY := Lib.hid hY
        have HYO := Lib.hid HYO
        clear hY
        unfold setV at CO CN
        go_wp2_with (refine wpList_load_row rfl 65 (.tmp 6) rfl A rfl 65 (setC x) (0, 0) _ hA Tryd.underlying65 rfl (by kernel_rfl) ?_)
        refine (CO.out _).mono ?_
        rintro e y1 ⟨rfl, hb⟩
        have KY1 := Lib.hid (K4.out.below hb)
        have hA1 := KY1.out.at A x (by simp)
        have KY2 := Lib.hid (KY1.out.row A HAW.out x Y (by simp))
        have hA2 := KY2.out.at A Y (by simp)
        clear hb hA
        go_wp2_with (first | (refine wpList_store_row rfl 65 (.tmp 6) (.tmp 46) rfl A (setC Y) rfl rfl 65 (setC x) hA1 (by kernel_rfl) rfl (HO.out Y) ?_) | (refine wpList_load_row rfl 65 (.tmp 6) rfl A rfl 65 (setC Y) (0, 0) _ hA2 Tryd.underlying65 rfl (by kernel_rfl) ?_))
        refine (CN.out _).mono ?_
        rintro e y3 ⟨b, rfl, hb, hn⟩
        have KY3 := Lib.hid (KY2.out.below hb)
        have HN := Lib.hid (IsN.keep (S' := Fresh w.heap.size) (w' := y3) (fun k hk _ => ⟨rfl, by have := KY2.out.went.only.size; unfold Fresh at hk ⊢; omega⟩) _ _ hn)
        clear hb hn
        unfold ptr
        go_wp2
        go_ret2
        exact ⟨by rw [HRES.out]; exact KY3.out.went, _, by rw [HRES.out]; rfl, fun t ht => ⟨b, rfl, by rw [HRES.out] at ht; cases ht; rw [HYY.out]; exact HN.out⟩⟩
      · have HST := HI.out.2.2.2.symm.trans (by rw [Rx.classLoop, if_neg hend])
        have hfa := items_facts bs F q HI.out.1
        have HQN := Lib.hid HI.out.2.2.1
        rcases hi : Rx.items sg bs F q with ⟨r, q2⟩
        rw [hi] at HST hfa
        have hq2 := hfa.1
        by_cases hqf : q = F
        · have hqe : ((q : Int) == (F : Int)) = true := by simp; omega
          have CI := Lib.hid (CIT.out wr q HQL.out HK.out.rd HK.out.tabAt F)
          rw [hi] at CI
          have K5 := HK
          clear CY CNo CIT CS HR0 hqf hend HI
          cases r with
          | none =>
            have HST := Lib.hid HST
            rw [setRes_none] at CI
            rw [none_lit] at CI
            clear hfa hi
            go_wp2_with fail
            refine CI.out.mono ?_
            rintro e w6 ⟨rfl, hb⟩
            have K6 : Ks w w6 R bs (st.to q2) [(A, x)] := K5.out.step hb
            have K7 := Lib.hid (K6.alloc (.cells #[Value.int .u64 0, .int .u64 0, .int .u64 0, .int .u64 0] 65))
            clear hb K6
            go_wp2
            go_ret2
            exact ⟨by rw [HST.out]; exact K7.out.went, _, by rw [HST.out]; rfl, fun t ht => by rw [HST.out] at ht; cases ht⟩
          | some y =>
            have hyok := (hfa.2 y rfl).1
            have hq2b := (hfa.2 y rfl).2
            have HST := Lib.hid HST
            have CJ2 := Lib.hid (fun w => CJ.out x y HXO.out hyok w)
            have HNX := Lib.hid (show q2 ≤ bs.length ∧ (x.join y).Ok ∧ bs.length < q2 + n ∧ Rx.classLoop sg bs F n (x.join y) q2 = RES from ⟨hq2, join_ok HXO.out hyok, by have := HQN.out; have h2 : q < q2 := hq2b; omega, HST.out.symm⟩)
            have HME := Lib.hid (show q < q2 ∧ q2 ≤ bs.length from ⟨hq2b, hq2⟩)
            obtain ⟨Z, hZ⟩ : ∃ Z, x.join y = Z := ⟨_, rfl⟩
            rw [hZ] at CJ2 HNX
            rw [setRes_some] at CI
            unfold setC at CI
            unfold setV at CJ2
            have CJ3 := Lib.hid (show ∀ w, Calls Tryd.prog 67 #[.agg (setC x), .agg #[.int .u64 ((y.a : Nat) : Int), .int .u64 ((y.b : Nat) : Int), .int .u64 ((y.c : Nat) : Int), .int .u64 ((y.d : Nat) : Int)]] w fun e w' => e = .returned (.agg (setC Z)) ∧ Below w.heap.size w w' from CJ2.out)
            clear hfa hi hyok hq2b hZ HST CJ2 hq2
            go_wp2_with fail
            refine CI.out.mono ?_
            rintro e w6 ⟨rfl, hb⟩
            have K6 : Ks w w6 R bs (st.to q2) [(A, x)] := K5.out.step hb
            have HK7 := Lib.hid (K6.alloc (.cells #[.int .u64 ((y.a : Nat) : Int), .int .u64 ((y.b : Nat) : Int), .int .u64 ((y.c : Nat) : Int), .int .u64 ((y.d : Nat) : Int)] 65))
            have hA7 := HK7.out.at A x (by simp)
            clear hb K6
            go_wp2_with (refine wpList_load_row rfl 65 (.tmp 6) rfl A rfl 65 (setC x) (0, 0) _ hA7 Tryd.underlying65 rfl (by kernel_rfl) ?_)
            refine (CJ3.out _).mono ?_
            rintro e w8 ⟨rfl, hb⟩
            have K8 := Lib.hid (HK7.out.below hb)
            have hA8 := K8.out.at A x (by simp)
            have K9 := Lib.hid (show Ks w (w8.setRow A (setC Z)) R bs (st.to q2) [(A, Z)] from by have := K8.out.row A HAW.out x Z (by simp); simpa using this)
            have HPO9 := Lib.hid (show posOf R (w8.setRow A (setC Z)) = q2 from K9.out.rd.posOf)
            clear hb hA7
            go_wp2_with (refine wpList_store_row rfl 65 (.tmp 6) (.tmp 43) rfl A (setC Z) rfl rfl 65 (setC x) hA8 (by kernel_rfl) rfl (HO.out Z) ?_)
            go_roundw
            case rel =>
              repeat apply Exists.intro
              exact ⟨⟨rfl, rfl, q2, Z, n, HNX, K9⟩, rfl⟩
            case measure =>
              rw [HPO9.out, HPQ.out]
              have := HME.out
              omega
        · have hqe : ((q : Int) == (F : Int)) = false := by simp; omega
          have hno : Rx.isAt bs q 93 = false := by
            cases h : Rx.isAt bs q 93 with
            | false => rfl
            | true => exact absurd ⟨hqf, h⟩ hend
          have CN1 := Lib.hid (CNo.out wr q hno HQL.out HK.out.rd)
          have CIT2 := Lib.hid (fun w H hT => CIT.out w q HQL.out H hT F)
          rw [hi] at CIT2
          clear CY CNo CIT CS HR0 hqf hend HI hno
          go_wp2_with fail
          refine CN1.out.mono ?_
          rintro e w4 ⟨rfl, hb⟩
          have K5 : Ks w w4 R bs (st.to q) [(A, x)] := HK.out.step hb
          have K5 := Lib.hid K5
          have CI := Lib.hid (CIT2.out w4 K5.out.rd K5.out.tabAt)
          clear hb CIT2 cq
          cases r with
          | none =>
            have HST := Lib.hid HST
            rw [setRes_none] at CI
            rw [none_lit] at CI
            clear hfa hi
            go_wp2_with fail
            refine CI.out.mono ?_
            rintro e w6 ⟨rfl, hb⟩
            have K6 : Ks w w6 R bs (st.to q2) [(A, x)] := K5.out.step hb
            have K7 := Lib.hid (K6.alloc (.cells #[Value.int .u64 0, .int .u64 0, .int .u64 0, .int .u64 0] 65))
            clear hb K6
            go_wp2
            go_ret2
            exact ⟨by rw [HST.out]; exact K7.out.went, _, by rw [HST.out]; rfl, fun t ht => by rw [HST.out] at ht; cases ht⟩
          | some y =>
            have hyok := (hfa.2 y rfl).1
            have hq2b := (hfa.2 y rfl).2
            have HST := Lib.hid HST
            have CJ2 := Lib.hid (fun w => CJ.out x y HXO.out hyok w)
            have HNX := Lib.hid (show q2 ≤ bs.length ∧ (x.join y).Ok ∧ bs.length < q2 + n ∧ Rx.classLoop sg bs F n (x.join y) q2 = RES from ⟨hq2, join_ok HXO.out hyok, by have := HQN.out; have h2 : q < q2 := hq2b; omega, HST.out.symm⟩)
            have HME := Lib.hid (show q < q2 ∧ q2 ≤ bs.length from ⟨hq2b, hq2⟩)
            obtain ⟨Z, hZ⟩ : ∃ Z, x.join y = Z := ⟨_, rfl⟩
            rw [hZ] at CJ2 HNX
            rw [setRes_some] at CI
            unfold setC at CI
            unfold setV at CJ2
            have CJ3 := Lib.hid (show ∀ w, Calls Tryd.prog 67 #[.agg (setC x), .agg #[.int .u64 ((y.a : Nat) : Int), .int .u64 ((y.b : Nat) : Int), .int .u64 ((y.c : Nat) : Int), .int .u64 ((y.d : Nat) : Int)]] w fun e w' => e = .returned (.agg (setC Z)) ∧ Below w.heap.size w w' from CJ2.out)
            clear hfa hi hyok hq2b hZ HST CJ2 hq2
            go_wp2_with fail
            refine CI.out.mono ?_
            rintro e w6 ⟨rfl, hb⟩
            have K6 : Ks w w6 R bs (st.to q2) [(A, x)] := K5.out.step hb
            have HK7 := Lib.hid (K6.alloc (.cells #[.int .u64 ((y.a : Nat) : Int), .int .u64 ((y.b : Nat) : Int), .int .u64 ((y.c : Nat) : Int), .int .u64 ((y.d : Nat) : Int)] 65))
            have hA7 := HK7.out.at A x (by simp)
            clear hb K6
            go_wp2_with (refine wpList_load_row rfl 65 (.tmp 6) rfl A rfl 65 (setC x) (0, 0) _ hA7 Tryd.underlying65 rfl (by kernel_rfl) ?_)
            refine (CJ3.out _).mono ?_
            rintro e w8 ⟨rfl, hb⟩
            have K8 := Lib.hid (HK7.out.below hb)
            have hA8 := K8.out.at A x (by simp)
            have K9 := Lib.hid (show Ks w (w8.setRow A (setC Z)) R bs (st.to q2) [(A, Z)] from by have := K8.out.row A HAW.out x Z (by simp); simpa using this)
            have HPO9 := Lib.hid (show posOf R (w8.setRow A (setC Z)) = q2 from K9.out.rd.posOf)
            clear hb hA7
            go_wp2_with (refine wpList_store_row rfl 65 (.tmp 6) (.tmp 43) rfl A (setC Z) rfl rfl 65 (setC x) hA8 (by kernel_rfl) rfl (HO.out Z) ?_)
            go_roundw
            case rel =>
              repeat apply Exists.intro
              exact ⟨⟨rfl, rfl, q2, Z, n, HNX, K9⟩, rfl⟩
            case measure =>
              rw [HPO9.out, HPQ.out]
              have := HME.out
              omega
set_option maxHeartbeats 4000000 in
set_option maxRecDepth 100000 in
theorem classn (R : Nat) (bs : List Nat) (st : RS) (p : Nat) (hB : IsB bs) (hp : p < bs.length) (hl : bs.length ≤ 500) (w : World) (H : Rd w R bs (st.to p)) (hT : TabAt w) (hR : 1 ≠ R) (h94 : Rx.isAt bs (p + 1) 94 = false) :
    Calls Tryd.prog 57 #[.pointer (some ⟨R, 0, none⟩)] w (NRes w R bs (Rx.ofSet (st.to p) ((Rx.classLoop sg bs (p + 1) (bs.length + 1) Set4.none (p + 1)).1, (Rx.classLoop sg bs (p + 1) (bs.length + 1) Set4.none (p + 1)).2))) := by
  have HK0 := Ks.start H hT hR
  have HO := Lib.hid setC_one
  have c0 : w.cell? ⟨R, 1, none⟩ = some (.int .i64 ((p : Nat) : Int)) := HK0.c1
  have f0 := HK0.f1
  have K1 := HK0.to (p + 1)
  rw [show (st.to p).to (p + 1) = st.to (p + 1) from rfl, show ((p + 1 : Nat) : Int) = (p : Int) + 1 by omega] at K1
  have CS := Lib.hid (fun w H => sign_no R bs (st.to (p + 1)) 94 hB (by decide) h94 hp hl w H)
  have CIT := Lib.hid (fun w q (hq : q ≤ bs.length) H hT first => items_any R bs st q hB hq hl w H hT hR first)
  have CY := Lib.hid (fun w q h H => sign_yes R bs (st.to q) 93 hB (by decide) h hl w H)
  have CNo := Lib.hid (fun w q h hq H => sign_no R bs (st.to q) 93 hB (by decide) h hq hl w H)
  have CJ := Lib.hid (fun x y hx hy w1 => join_any x y hx hy w1)
  have hfl : p + 1 ≤ bs.length := by omega
  obtain ⟨F, hF⟩ : ∃ F, p + 1 = F := ⟨_, rfl⟩
  have HFI := Lib.hid hF
  obtain ⟨RES, hRES⟩ : ∃ r, Rx.classLoop sg bs F (bs.length + 1) Set4.none F = r := ⟨_, rfl⟩
  rw [hF] at hfl ⊢
  rw [hRES]
  have HR0 := Lib.hid hRES
  have HFL := Lib.hid hfl
  have K1 := Lib.hid K1
  have hp5 : p ≤ 500 := by omega
  have HLB := Lib.hid hp
  clear h94 H hT hF hRES hp HK0
  go_enter Tryd.func57, Tryd.ntmps57
  go_wp2_with fail
  refine (CS.out _ K1.out.rd).mono ?_
  rintro e w2 ⟨rfl, hb⟩
  have K2 : Ks w w2 R bs (st.to F) [] := by
    have := K1.out.step hb
    rw [← HFI.out]; exact this
  have c2 : w2.cell? ⟨R, 1, none⟩ = some (.int .i64 ((F : Nat) : Int)) := K2.c1
  have HK3 := Lib.hid (K2.lay Set4.none w2.heap.size rfl)
  rw [none_lit] at HK3
  have HAW := Lib.hid K2.went.only.size
  have hz2 : w2.heap.size < (w2.alloc (.cells #[Value.int .u64 0, .int .u64 0, .int .u64 0, .int .u64 0] 65)).heap.size := by simp
  clear hb c0 f0
  have HPZ := Lib.hid (show posOf R (w2.alloc (.cells #[Value.int .u64 0, .int .u64 0, .int .u64 0, .int .u64 0] 65)) = F from HK3.out.rd.posOf)
  obtain ⟨A, hA⟩ : ∃ A, w2.heap.size = A := ⟨_, rfl⟩
  have HAA := Lib.hid hA
  go_wp2
  rw [HAA.out] at HK3 HAW
  clear hA
  go_loopw [2, 3] (fun r2 r3 wr => r2 = .pointer none ∧ r3 = .bool false ∧ ∃ q x n, Hid (q ≤ bs.length ∧ x.Ok ∧ bs.length < q + n ∧ Rx.classLoop sg bs F n x q = RES) ∧ Hid (Ks w wr R bs (st.to q) [(A, x)])) (fun _ _ wr => bs.length + 1 - posOf R wr)
  case atStart => exact ⟨rfl, rfl, F, Set4.none, bs.length + 1, Lib.hid ⟨HFL.out, none_ok, by omega, HR0.out⟩, HK3⟩
  case round =>
    obtain ⟨rfl, rfl, q, x, n, HI, HK⟩ := hrel
    have cq : wr.cell? ⟨R, 1, none⟩ = some (.int .i64 ((q : Nat) : Int)) := HK.out.c1
    have HPQ := Lib.hid (show posOf R wr = q from HK.out.rd.posOf)
    have HXO := Lib.hid HI.out.2.1
    have HQL := Lib.hid HI.out.1
    cases n with
    | zero => have := HI.out; omega
    | succ n =>
      by_cases hend : q ≠ F ∧ Rx.isAt bs q 93 = true
      · have hqe : ((q : Int) == (F : Int)) = false := by simp; omega
        have HRES := Lib.hid (show RES = (some x, q + 1) by rw [← HI.out.2.2.2, Rx.classLoop, if_pos hend])
        have CY1 := Lib.hid (CY.out wr q hend.2 HK.out.rd)
        clear hend HI CY CNo CIT CS HR0
        go_wp2_with fail
        refine CY1.out.mono ?_
        rintro e w4 ⟨rfl, hb⟩
        have K4 : Ks w w4 R bs (st.to (q + 1)) [(A, x)] := HK.out.step hb
        have K4 := Lib.hid K4
        clear hb cq
        have hA := K4.out.at A x (by simp)
        have CN := Lib.hid (fun w => oneOf_any x HXO.out w)
        unfold setV at CN
        go_wp2_with (refine wpList_load_row rfl 65 (.tmp 6) rfl A rfl 65 (setC x) (0, 0) _ hA Tryd.underlying65 rfl (by kernel_rfl) ?_)
        refine (CN.out _).mono ?_
        rintro e y3 ⟨b, rfl, hb, hn⟩
        have KY3 := Lib.hid (K4.out.below hb)
        have HN := Lib.hid (IsN.keep (S' := Fresh w.heap.size) (w' := y3) (fun k hk _ => ⟨rfl, by have := K4.out.went.only.size; unfold Fresh at hk ⊢; omega⟩) _ _ hn)
        clear hb hn
        unfold ptr
        go_wp2
        go_ret2
        exact ⟨by rw [HRES.out]; exact KY3.out.went, _, by rw [HRES.out]; rfl, fun t ht => ⟨b, rfl, by rw [HRES.out] at ht; cases ht; exact HN.out⟩⟩
      · have HST := HI.out.2.2.2.symm.trans (by rw [Rx.classLoop, if_neg hend])
        have hfa := items_facts bs F q HI.out.1
        have HQN := Lib.hid HI.out.2.2.1
        rcases hi : Rx.items sg bs F q with ⟨r, q2⟩
        rw [hi] at HST hfa
        have hq2 := hfa.1
        by_cases hqf : q = F
        · have hqe : ((q : Int) == (F : Int)) = true := by simp; omega
          have CI := Lib.hid (CIT.out wr q HQL.out HK.out.rd HK.out.tabAt F)
          rw [hi] at CI
          have K5 := HK
          clear CY CNo CIT CS HR0 hqf hend HI
          cases r with
          | none =>
            have HST := Lib.hid HST
            rw [setRes_none] at CI
            rw [none_lit] at CI
            clear hfa hi
            go_wp2_with fail
            refine CI.out.mono ?_
            rintro e w6 ⟨rfl, hb⟩
            have K6 : Ks w w6 R bs (st.to q2) [(A, x)] := K5.out.step hb
            have K7 := Lib.hid (K6.alloc (.cells #[Value.int .u64 0, .int .u64 0, .int .u64 0, .int .u64 0] 65))
            clear hb K6
            go_wp2
            go_ret2
            exact ⟨by rw [HST.out]; exact K7.out.went, _, by rw [HST.out]; rfl, fun t ht => by rw [HST.out] at ht; cases ht⟩
          | some y =>
            have hyok := (hfa.2 y rfl).1
            have hq2b := (hfa.2 y rfl).2
            have HST := Lib.hid HST
            have CJ2 := Lib.hid (fun w => CJ.out x y HXO.out hyok w)
            have HNX := Lib.hid (show q2 ≤ bs.length ∧ (x.join y).Ok ∧ bs.length < q2 + n ∧ Rx.classLoop sg bs F n (x.join y) q2 = RES from ⟨hq2, join_ok HXO.out hyok, by have := HQN.out; have h2 : q < q2 := hq2b; omega, HST.out.symm⟩)
            have HME := Lib.hid (show q < q2 ∧ q2 ≤ bs.length from ⟨hq2b, hq2⟩)
            obtain ⟨Z, hZ⟩ : ∃ Z, x.join y = Z := ⟨_, rfl⟩
            rw [hZ] at CJ2 HNX
            rw [setRes_some] at CI
            unfold setC at CI
            unfold setV at CJ2
            have CJ3 := Lib.hid (show ∀ w, Calls Tryd.prog 67 #[.agg (setC x), .agg #[.int .u64 ((y.a : Nat) : Int), .int .u64 ((y.b : Nat) : Int), .int .u64 ((y.c : Nat) : Int), .int .u64 ((y.d : Nat) : Int)]] w fun e w' => e = .returned (.agg (setC Z)) ∧ Below w.heap.size w w' from CJ2.out)
            clear hfa hi hyok hq2b hZ HST CJ2 hq2
            go_wp2_with fail
            refine CI.out.mono ?_
            rintro e w6 ⟨rfl, hb⟩
            have K6 : Ks w w6 R bs (st.to q2) [(A, x)] := K5.out.step hb
            have HK7 := Lib.hid (K6.alloc (.cells #[.int .u64 ((y.a : Nat) : Int), .int .u64 ((y.b : Nat) : Int), .int .u64 ((y.c : Nat) : Int), .int .u64 ((y.d : Nat) : Int)] 65))
            have hA7 := HK7.out.at A x (by simp)
            clear hb K6
            go_wp2_with (refine wpList_load_row rfl 65 (.tmp 6) rfl A rfl 65 (setC x) (0, 0) _ hA7 Tryd.underlying65 rfl (by kernel_rfl) ?_)
            refine (CJ3.out _).mono ?_
            rintro e w8 ⟨rfl, hb⟩
            have K8 := Lib.hid (HK7.out.below hb)
            have hA8 := K8.out.at A x (by simp)
            have K9 := Lib.hid (show Ks w (w8.setRow A (setC Z)) R bs (st.to q2) [(A, Z)] from by have := K8.out.row A HAW.out x Z (by simp); simpa using this)
            have HPO9 := Lib.hid (show posOf R (w8.setRow A (setC Z)) = q2 from K9.out.rd.posOf)
            clear hb hA7
            go_wp2_with (refine wpList_store_row rfl 65 (.tmp 6) (.tmp 43) rfl A (setC Z) rfl rfl 65 (setC x) hA8 (by kernel_rfl) rfl (HO.out Z) ?_)
            go_roundw
            case rel =>
              repeat apply Exists.intro
              exact ⟨⟨rfl, rfl, q2, Z, n, HNX, K9⟩, rfl⟩
            case measure =>
              rw [HPO9.out, HPQ.out]
              have := HME.out
              omega
        · have hqe : ((q : Int) == (F : Int)) = false := by simp; omega
          have hno : Rx.isAt bs q 93 = false := by
            cases h : Rx.isAt bs q 93 with
            | false => rfl
            | true => exact absurd ⟨hqf, h⟩ hend
          have CN1 := Lib.hid (CNo.out wr q hno HQL.out HK.out.rd)
          have CIT2 := Lib.hid (fun w H hT => CIT.out w q HQL.out H hT F)
          rw [hi] at CIT2
          clear CY CNo CIT CS HR0 hqf hend HI hno
          go_wp2_with fail
          refine CN1.out.mono ?_
          rintro e w4 ⟨rfl, hb⟩
          have K5 : Ks w w4 R bs (st.to q) [(A, x)] := HK.out.step hb
          have K5 := Lib.hid K5
          have CI := Lib.hid (CIT2.out w4 K5.out.rd K5.out.tabAt)
          clear hb CIT2 cq
          cases r with
          | none =>
            have HST := Lib.hid HST
            rw [setRes_none] at CI
            rw [none_lit] at CI
            clear hfa hi
            go_wp2_with fail
            refine CI.out.mono ?_
            rintro e w6 ⟨rfl, hb⟩
            have K6 : Ks w w6 R bs (st.to q2) [(A, x)] := K5.out.step hb
            have K7 := Lib.hid (K6.alloc (.cells #[Value.int .u64 0, .int .u64 0, .int .u64 0, .int .u64 0] 65))
            clear hb K6
            go_wp2
            go_ret2
            exact ⟨by rw [HST.out]; exact K7.out.went, _, by rw [HST.out]; rfl, fun t ht => by rw [HST.out] at ht; cases ht⟩
          | some y =>
            have hyok := (hfa.2 y rfl).1
            have hq2b := (hfa.2 y rfl).2
            have HST := Lib.hid HST
            have CJ2 := Lib.hid (fun w => CJ.out x y HXO.out hyok w)
            have HNX := Lib.hid (show q2 ≤ bs.length ∧ (x.join y).Ok ∧ bs.length < q2 + n ∧ Rx.classLoop sg bs F n (x.join y) q2 = RES from ⟨hq2, join_ok HXO.out hyok, by have := HQN.out; have h2 : q < q2 := hq2b; omega, HST.out.symm⟩)
            have HME := Lib.hid (show q < q2 ∧ q2 ≤ bs.length from ⟨hq2b, hq2⟩)
            obtain ⟨Z, hZ⟩ : ∃ Z, x.join y = Z := ⟨_, rfl⟩
            rw [hZ] at CJ2 HNX
            rw [setRes_some] at CI
            unfold setC at CI
            unfold setV at CJ2
            have CJ3 := Lib.hid (show ∀ w, Calls Tryd.prog 67 #[.agg (setC x), .agg #[.int .u64 ((y.a : Nat) : Int), .int .u64 ((y.b : Nat) : Int), .int .u64 ((y.c : Nat) : Int), .int .u64 ((y.d : Nat) : Int)]] w fun e w' => e = .returned (.agg (setC Z)) ∧ Below w.heap.size w w' from CJ2.out)
            clear hfa hi hyok hq2b hZ HST CJ2 hq2
            go_wp2_with fail
            refine CI.out.mono ?_
            rintro e w6 ⟨rfl, hb⟩
            have K6 : Ks w w6 R bs (st.to q2) [(A, x)] := K5.out.step hb
            have HK7 := Lib.hid (K6.alloc (.cells #[.int .u64 ((y.a : Nat) : Int), .int .u64 ((y.b : Nat) : Int), .int .u64 ((y.c : Nat) : Int), .int .u64 ((y.d : Nat) : Int)] 65))
            have hA7 := HK7.out.at A x (by simp)
            clear hb K6
            go_wp2_with (refine wpList_load_row rfl 65 (.tmp 6) rfl A rfl 65 (setC x) (0, 0) _ hA7 Tryd.underlying65 rfl (by kernel_rfl) ?_)
            refine (CJ3.out _).mono ?_
            rintro e w8 ⟨rfl, hb⟩
            have K8 := Lib.hid (HK7.out.below hb)
            have hA8 := K8.out.at A x (by simp)
            have K9 := Lib.hid (show Ks w (w8.setRow A (setC Z)) R bs (st.to q2) [(A, Z)] from by have := K8.out.row A HAW.out x Z (by simp); simpa using this)
            have HPO9 := Lib.hid (show posOf R (w8.setRow A (setC Z)) = q2 from K9.out.rd.posOf)
            clear hb hA7
            go_wp2_with (refine wpList_store_row rfl 65 (.tmp 6) (.tmp 43) rfl A (setC Z) rfl rfl 65 (setC x) hA8 (by kernel_rfl) rfl (HO.out Z) ?_)
            go_roundw
            case rel =>
              repeat apply Exists.intro
              exact ⟨⟨rfl, rfl, q2, Z, n, HNX, K9⟩, rfl⟩
            case measure =>
              rw [HPO9.out, HPQ.out]
              have := HME.out
              omega
theorem class_any (R : Nat) (bs : List Nat) (st : RS) (p : Nat) (hB : IsB bs) (hp : p < bs.length) (hl : bs.length ≤ 500) (w : World) (H : Rd w R bs (st.to p)) (hT : TabAt w) (hR : 1 ≠ R) :
    Calls Tryd.prog 57 #[.pointer (some ⟨R, 0, none⟩)] w (NRes w R bs (Rx.ofSet (st.to p) (Rx.classSet sg bs p))) := by
  unfold Rx.classSet
  cases h94 : Rx.isAt bs (p + 1) 94 with
  | true => simp only [if_true]; exact classy R bs st p hB hp hl w H hT hR h94
  | false => simp only [Bool.false_eq_true, if_false]; exact classn R bs st p hB hp hl w H hT hR h94
end Go.Proofs.YtphighddlfabbaaDoor
namespace Go.Proofs.YtphighddlfabbaaDoor
set_option linter.unusedVariables false
set_option linter.unusedSimpArgs false
open Go.RowKit Go.PlainAid Go.Shelf
open Rx (Set4 RS)
/-- numbers as cells; a row of them of the call's own -/
def cellsI (gs : List Nat) : List Value := gs.map fun c => Value.int .i64 ((c : Nat) : Int)
theorem cellsI_length (gs : List Nat) : (cellsI gs).length = gs.length := by simp [cellsI]
theorem cellsI_append (a b : List Nat) : cellsI (a ++ b) = cellsI a ++ cellsI b := by simp [cellsI]
theorem cellsI_one (gs : List Nat) : ∀ u ∈ cellsI gs, u.oneCell' = true := by
  intro u hu
  obtain ⟨c, _, rfl⟩ := List.mem_map.1 hu
  rfl
def OwnI (w : World) (base : Nat) (v : Value) (gs : List Nat) : Prop := w.ownsRow base 3 1 v gs.length (cellsI gs)
theorem OwnI.nil (w : World) (base : Nat) : OwnI w base (.slice none 0 0) [] := World.ownsRow_nil w base 3 1
theorem OwnI.shape {w : World} {base : Nat} {v : Value} {gs : List Nat} (h : OwnI w base v gs) : ∃ a c, v = .slice a gs.length c := by
  rcases h.2 with ⟨rfl, h0⟩ | ⟨g, cap, cur, rfl, _⟩
  · exact ⟨none, 0, by rw [h0]⟩
  · exact ⟨_, _, rfl⟩
theorem OwnI.one {w : World} {base : Nat} {v : Value} {gs : List Nat} (h : OwnI w base v gs) : v.oneCell' = true := by
  obtain ⟨a, c, rfl⟩ := h.shape
  rfl
theorem OwnI.block {w : World} {base : Nat} {v : Value} {gs : List Nat} (h : OwnI w base v gs) : ∀ k, v.ownBlock = some k → base ≤ k ∧ k < w.heap.size := by
  intro k hk
  rcases h.2 with ⟨rfl, _⟩ | ⟨g, cap, cur, rfl, hg, hc, _⟩
  · cases hk
  · simp only [Value.ownBlock, Option.some.injEq] at hk
    subst hk
    exact ⟨hg, (Array.getElem?_eq_some_iff.1 hc).1⟩
theorem OwnI.move {w w' : World} {base : Nat} {v : Value} {gs : List Nat} (h : OwnI w base v gs) (hm : ∀ k, v.ownBlock = some k → w'.heap[k]? = w.heap[k]?) : OwnI w' base v gs := by
  obtain ⟨h1, h2⟩ := h
  refine ⟨h1, ?_⟩
  rcases h2 with h2 | ⟨g, cap, cur, hv, hg, hc, h3⟩
  · exact .inl h2
  · exact .inr ⟨g, cap, cur, hv, hg, (hm g (by rw [hv]; rfl)).trans hc, h3⟩
theorem OwnI.below {w w' : World} {base : Nat} {v : Value} {gs : List Nat} (h : OwnI w base v gs) (hb : Below w.heap.size w w') : OwnI w' base v gs := h.move fun k hk => hb.block k (h.block k hk).2
theorem OwnI.lower {w : World} {base b2 : Nat} {v : Value} {gs : List Nat} (h : OwnI w base v gs) (hb : b2 ≤ base) : OwnI w b2 v gs := by
  obtain ⟨h1, h2⟩ := h
  refine ⟨h1, ?_⟩
  rcases h2 with h2 | ⟨g, cap, cur, hv, hg, hc⟩
  · exact .inl h2
  · exact .inr ⟨g, cap, cur, hv, Nat.le_trans hb hg, hc⟩
/-- a source's cells -/
theorem OwnI.src {w : World} {base : Nat} {v : Value} {gs : List Nat} (h : OwnI w base v gs) (hne : gs ≠ []) : ∃ g c, v = .slice (some ⟨g, 0, none⟩) gs.length c ∧ ∀ j u, (cellsI gs)[j]? = some u → w.cell? ((⟨g, 0, none⟩ : Addr).add j) = some u := by
  obtain ⟨h1, h2⟩ := h
  rcases h2 with ⟨_, h0⟩ | ⟨g, cap, cur, rfl, hg, hc, h3, h4, h5, h6⟩
  · exact absurd (List.eq_nil_of_length_eq_zero h0) hne
  · refine ⟨g, cap, rfl, fun j u hj => ?_⟩
    rw [add_here, cell_of_row _ _ _ _ _ _ hc, ← Array.getElem?_toList]
    have hjl : j < gs.length := by have := (List.getElem?_eq_some_iff.1 hj).1; rw [cellsI_length] at this; exact this
    have := congrArg (fun l => l[j]?) h6
    simp only [Nat.mul_one, List.getElem?_take, if_pos hjl, hj] at this
    exact this
theorem OwnI.none_of {w : World} {base : Nat} {v : Value} (h : OwnI w base v []) (hv : v = .slice none 0 0 ∨ True) : True := trivial
/-- rows of this call's own that are kept -/
structure Es (w wk : World) (L : List (Nat × Array Value)) : Prop where
  below : Below w.heap.size w wk
  rows : ∀ p ∈ L, wk.heap[p.1]? = some (.cells p.2 112 (0, 0)) ∧ w.heap.size ≤ p.1
theorem Es.start (w : World) : Es w w [] := ⟨Below.refl _ _, fun p hp => by cases hp⟩
section
variable {w wk : World} {L : List (Nat × Array Value)}
theorem Es.next (h : Es w wk L) {w' : World} (hb : Below wk.heap.size wk w') : Es w w' L :=
  ⟨h.below.trans (hb.mono h.below.size), fun p hp => ⟨(hb.block _ (Array.getElem?_eq_some_iff.1 (h.rows p hp).1).1).trans (h.rows p hp).1, (h.rows p hp).2⟩⟩
theorem Es.lay (h : Es w wk L) (cs : Array Value) : Es w (wk.alloc (.cells cs 112)) ((wk.heap.size, cs) :: L) :=
  ⟨h.below.alloc h.below.size _, fun p hp => by
    rcases List.mem_cons.1 hp with rfl | hp
    · exact ⟨heap_alloc_new wk _, h.below.size⟩
    · exact (h.next ((Below.refl _ _).alloc (Nat.le_refl _) (.cells cs 112))).rows p hp⟩
theorem Es.at (h : Es w wk L) (b : Nat) (cs : Array Value) (hm : (b, cs) ∈ L) : wk.heap[b]? = some (.cells cs 112 (0, 0)) := (h.rows _ hm).1
theorem Es.ge (h : Es w wk L) (b : Nat) (cs : Array Value) (hm : (b, cs) ∈ L) : w.heap.size ≤ b := (h.rows _ hm).2
theorem Es.row (h : Es w wk L) (b : Nat) (cs ds : Array Value) (hm : (b, cs) ∈ L) : Es w (wk.setRow b ds) ((b, ds) :: L.filter (fun p => p.1 != b)) :=
  ⟨below_setRow h.below (h.ge b cs hm) ds, fun p hp => by
    rcases List.mem_cons.1 hp with rfl | hp
    · exact ⟨setRow_heap wk b cs ds 112 (0, 0) (h.at b cs hm), h.ge b cs hm⟩
    · obtain ⟨h1, h2⟩ := List.mem_filter.1 hp
      have hne : p.1 ≠ b := by simpa using h2
      have h3 := (h.rows p h1).1
      refine ⟨?_, (h.rows p h1).2⟩
      unfold World.setRow
      simp only
      rw [Array.getElem?_modify, if_neg (fun k => hne k.symm)]
      exact h3⟩
end
/-- a result: how the empty text fits -/
def EmP (w : World) (r : Bool × List Nat) (e : Ending) (w' : World) : Prop := ∃ v, e = .returned (.agg #[.bool r.1, v]) ∧ Below w.heap.size w w' ∧ OwnI w' w.heap.size v r.2
def emC (b : Bool) (v : Value) : Array Value := #[.bool b, v]
theorem emC_one {b : Bool} {a : Option Addr} {n c : Nat} : (emC b (.slice a n c)).all (·.oneCell') = true := by
  unfold emC
  simp [Value.oneCell']
theorem em_none (w : World) : (w.alloc (.cells #[Value.bool false, .slice none 0 0] 112)).heap[w.heap.size]? = some (.cells (emC false (.slice none 0 0)) 112 (0, 0)) := heap_alloc_new w _
theorem IsN.below {w w' : World} {S : Nat → Prop} {t : Rx.Node} {b : Nat} (h : IsN w S t b) (hb : Below w.heap.size w w') : IsN w' S t b := IsN.keep (fun k hs hl => ⟨hb.block k hl, hs⟩) t b h
mutual
/-- how many groups there are -/
def ng : Rx.Node → Nat
  | .byte _ => 0
  | .edge _ => 0
  | .seq ks => ngAll ks
  | .alt ks => ngAll ks
  | .group _ t => ng t + 1
  | .count _ _ _ _ t => ng t
def ngAll : List Rx.Node → Nat
  | [] => 0
  | t :: ts => ng t + ngAll ts
end
theorem ng_seq (ks : List Rx.Node) : ng (.seq ks) = ngAll ks := by unfold ng; rfl
theorem ng_alt (ks : List Rx.Node) : ng (.alt ks) = ngAll ks := by unfold ng; rfl
theorem ng_group (n : Nat) (t : Rx.Node) : ng (.group n t) = ng t + 1 := by rw [ng]
theorem ng_count (l : Nat) (m : Option Nat) (p z : Bool) (t : Rx.Node) : ng (.count l m p z t) = ng t := by rw [ng]
theorem empty_ng (k : Nat) : ∀ t, (Rx.emptyAt t k).2.length ≤ ng t := by
  intro t
  induction t using Rx.Node.ind with
  | h1 x => unfold Rx.emptyAt; exact Nat.zero_le _
  | h2 e => unfold Rx.emptyAt; exact Nat.zero_le _
  | h3 ks ih =>
    unfold Rx.emptyAt
    rw [ng_seq]
    have : ∀ g : List Nat, (Rx.emptySeq ks k g).2.length ≤ g.length + ngAll ks := by
      induction ks with
      | nil => intro g; unfold Rx.emptySeq ngAll; exact Nat.le_refl _
      | cons t ts h =>
        intro g
        unfold Rx.emptySeq ngAll
        have h1 := ih t (by simp)
        split
        · have h2 := h (fun u hu => ih u (by simp [hu])) (g ++ (Rx.emptyAt t k).2)
          rw [List.length_append] at h2
          omega
        · exact Nat.zero_le _
    simpa using this []
  | h4 ks ih =>
    unfold Rx.emptyAt
    rw [ng_alt]
    induction ks with
    | nil => unfold Rx.emptyAlt; exact Nat.zero_le _
    | cons t ts h =>
      unfold Rx.emptyAlt ngAll
      split
      · have := ih t (by simp); omega
      · have := h (fun u hu => ih u (by simp [hu])); omega
  | h5 n t ih =>
    unfold Rx.emptyAt
    rw [ng_group]
    split
    · rw [List.length_append]; simp only [List.length_cons, List.length_nil]; omega
    · exact Nat.zero_le _
  | h6 l m p z t ih =>
    unfold Rx.emptyAt
    rw [ng_count]
    split
    · exact ih
    · exact Nat.zero_le _
theorem ngAll_drop (ks : List Rx.Node) (k : Nat) (hk : k < ks.length) : ngAll (ks.drop k) = ng ks[k] + ngAll (ks.drop (k + 1)) := by
  rw [List.drop_eq_getElem_cons hk, ngAll]
theorem emptyAlt_drop (ks : List Rx.Node) (k : Nat) (hk : k < ks.length) (j : Nat) : Rx.emptyAlt (ks.drop k) j = if (Rx.emptyAt ks[k] j).1 then Rx.emptyAt ks[k] j else Rx.emptyAlt (ks.drop (k + 1)) j := by
  rw [List.drop_eq_getElem_cons hk]
  conv => lhs; unfold Rx.emptyAlt
theorem emptySeq_drop (ks : List Rx.Node) (k : Nat) (hk : k < ks.length) (j : Nat) (g : List Nat) : Rx.emptySeq (ks.drop k) j g = if (Rx.emptyAt ks[k] j).1 then Rx.emptySeq (ks.drop (k + 1)) j (g ++ (Rx.emptyAt ks[k] j).2) else (false, []) := by
  rw [List.drop_eq_getElem_cons hk]
  conv => lhs; unfold Rx.emptySeq
theorem Es.grown {w wk w' : World} {L : List (Nat × Array Value)} {v : Value} {gs : List Nat} (h : Es w wk L) (ho : OwnI wk w.heap.size v gs) (hg : wk.grownBy w' v.ownBlock) : Es w w' L :=
  ⟨h.below.grown hg h.below.size (fun k hk => (ho.block k hk).1), fun p hp => by
    refine ⟨(hg.block p.1 (Array.getElem?_eq_some_iff.1 (h.rows p hp).1).1 ?_).trans (h.rows p hp).1, (h.rows p hp).2⟩
    intro e
    obtain ⟨_, h2⟩ := ho
    rcases h2 with ⟨rfl, _⟩ | ⟨g, cap, cur, rfl, _, hc, _⟩
    · cases e
    · simp only [Value.ownBlock, Option.some.injEq] at e
      have := (h.rows p hp).1
      rw [e, hc] at this
      cases this⟩
theorem Es.set {w wk : World} {L : List (Nat × Array Value)} (h : Es w wk L) (b : Nat) (c : Bool) (u v : Value) (hm : (b, emC c u) ∈ L) : Es w (wk.setCell ⟨b, 1, none⟩ v) ((b, emC c v) :: L.filter (fun p => p.1 != b)) :=
  ⟨h.below.setCell (h.ge b _ hm) v, fun p hp => by
    rcases List.mem_cons.1 hp with rfl | hp
    · exact ⟨heap_setCell_same _ _ _ _ _ _ (h.at b _ hm), h.ge b _ hm⟩
    · obtain ⟨h1, h2⟩ := List.mem_filter.1 hp
      have hne : p.1 ≠ b := by simpa using h2
      exact ⟨(heap_setCell_other _ _ _ _ (by first | exact hne | exact fun k => hne k.symm)).trans (h.rows p h1).1, (h.rows p h1).2⟩⟩
theorem OwnI.ne {wk : World} {base : Nat} {v : Value} {gs : List Nat} (ho : OwnI wk base v gs) {b : Nat} {cs : Array Value} (hb : wk.heap[b]? = some (.cells cs 112 (0, 0))) : v.ownBlock ≠ some b := by
  intro e
  obtain ⟨_, h2⟩ := ho
  rcases h2 with ⟨rfl, _⟩ | ⟨g, cap, cur, rfl, _, hc, _⟩
  · cases e
  · simp only [Value.ownBlock, Option.some.injEq] at e
    rw [e, hb] at hc
    cases hc
-- GEN
theorem moveSet {w0 w : World} {base g : Nat} {v : Value} {gs : List Nat} (h : OwnI w base v gs) (hg : g < base) (cs : Array Value) : OwnI (w.setRow g cs) base v gs := h.move fun k hk => by
  unfold World.setRow
  simp only
  rw [Array.getElem?_modify, if_neg (by have := (h.block k hk).1; omega)]
set_option maxHeartbeats 1000000 in
set_option maxRecDepth 100000 in
theorem em_byte (S : Nat → Prop) (x : Set4) (k b : Nat) (hk : k < 4) (w : World) (H : IsN w S (.byte x) b) : Calls Tryd.prog 70 #[ptr b, .int .u8 ((k : Nat) : Int)] w (EmP w (Rx.emptyAt (.byte x) k)) := by
  unfold IsN at H
  have hN : NodeAt w b 0 x 0 0 0 0 false false nilP nilS 1 := ⟨H.2.2⟩
  have hlt := (Array.getElem?_eq_some_iff.1 H.2.2).1
  have E0 := Lib.hid (((Es.start w).lay (emC false (.slice none 0 0))).lay (emC true (.slice none 0 0)))
  unfold emC at E0
  have c0 : ((w.alloc (.cells #[.bool false, .slice none 0 0] 112)).alloc (.cells #[.bool true, .slice none 0 0] 112)).cell? ⟨b, 0, none⟩ = some (.int .u8 0) := (E0.out.below.cell (p := ⟨b, 0, none⟩) hlt).trans (hN.c 0)
  have h1 := E0.out.at w.heap.size #[.bool false, .slice none 0 0] (by simp)
  have h1' : ((w.alloc (.cells #[.bool false, .slice none 0 0] 112)).alloc (.cells #[.bool true, .slice none 0 0] 112)).heap[w.heap.size]? = some (.cells (emC false (.slice none 0 0)) 112 (0, 0)) := h1
  have E1 := Lib.hid (E0.out.row w.heap.size #[.bool false, .slice none 0 0] (emC false (.slice none 0 0)) (by simp))
  have hr : Rx.emptyAt (.byte x) k = (false, []) := by unfold Rx.emptyAt; rfl
  rw [hr]
  unfold ptr
  clear hN H h1 hr
  go_enter Tryd.func70, Tryd.ntmps70
  go_wp2_with (refine wpList_store_row rfl 112 (.tmp 4) (.tmp 26) rfl w.heap.size (emC false (.slice none 0 0)) rfl rfl 112 (emC false (.slice none 0 0)) h1' (by kernel_rfl) rfl emC_one ?_)
  refine bodyPost_ret (v := .agg (emC false (.slice none 0 0))) ?_ ?_ ?_
  · exact results_cell_row rfl _ _ w.heap.size 112 (emC false (.slice none 0 0)) (0, 0) _ rfl (E1.out.at _ _ (by simp)) Tryd.underlying112 rfl (by kernel_rfl)
  · rfl
  · exact ⟨_, rfl, E1.out.below, OwnI.nil _ _⟩
set_option maxHeartbeats 1000000 in
set_option maxRecDepth 100000 in
theorem em_edge (S : Nat → Prop) (x : Nat) (k b : Nat) (hk : k < 4) (w : World) (H : IsN w S (.edge x) b) : Calls Tryd.prog 70 #[ptr b, .int .u8 ((k : Nat) : Int)] w (EmP w (Rx.emptyAt (.edge x) k)) := by
  unfold IsN at H
  have hN : NodeAt w b 1 Set4.none x 0 0 0 false false nilP nilS 1 := ⟨H.2.2⟩
  have hlt := (Array.getElem?_eq_some_iff.1 H.2.2).1
  have E0 := Lib.hid (((Es.start w).lay (emC false (.slice none 0 0))).lay (emC true (.slice none 0 0)))
  unfold emC at E0
  have c0 : ((w.alloc (.cells #[.bool false, .slice none 0 0] 112)).alloc (.cells #[.bool true, .slice none 0 0] 112)).cell? ⟨b, 0, none⟩ = some (.int .u8 1) := (E0.out.below.cell (p := ⟨b, 0, none⟩) hlt).trans (hN.c 0)
  have c5 : ((w.alloc (.cells #[.bool false, .slice none 0 0] 112)).alloc (.cells #[.bool true, .slice none 0 0] 112)).cell? ⟨b, 5, none⟩ = some (.int .u8 ((x : Nat) : Int)) := (E0.out.below.cell (p := ⟨b, 5, none⟩) hlt).trans (hN.c 5)
  have h1' : ((w.alloc (.cells #[.bool false, .slice none 0 0] 112)).alloc (.cells #[.bool true, .slice none 0 0] 112)).heap[w.heap.size]? = some (.cells (emC false (.slice none 0 0)) 112 (0, 0)) := E0.out.at w.heap.size #[.bool false, .slice none 0 0] (by simp)
  obtain ⟨q, hq⟩ : ∃ q, decide (x &&& k ≠ 0) = q := ⟨_, rfl⟩
  have E1 := Lib.hid (E0.out.row w.heap.size #[.bool false, .slice none 0 0] (emC q (.slice none 0 0)) (by simp))
  have hr : Rx.emptyAt (.edge x) k = (q, []) := by unfold Rx.emptyAt; rw [hq]
  have hand := u8_and_nat x k H.2.1 (by omega)
  have hne : (((x &&& k : Nat) : Int) != 0) = q := by
    rw [← hq]
    by_cases h : x &&& k = 0
    · rw [h]; rfl
    · rw [decide_eq_true h]; simp; exact h
  rw [hr]
  unfold ptr
  obtain ⟨r, hr2⟩ : ∃ r, x &&& k = r := ⟨_, rfl⟩
  rw [hr2] at hand hne
  clear hN H hr hq hr2
  go_enter Tryd.func70, Tryd.ntmps70
  go_wp2_with (refine wpList_store_row rfl 112 (.tmp 4) (.tmp 34) rfl w.heap.size (emC q (.slice none 0 0)) rfl rfl 112 (emC false (.slice none 0 0)) h1' (by kernel_rfl) rfl emC_one ?_)
  refine bodyPost_ret (v := .agg (emC q (.slice none 0 0))) ?_ ?_ ?_
  · exact results_cell_row rfl _ _ w.heap.size 112 (emC q (.slice none 0 0)) (0, 0) _ rfl (E1.out.at _ _ (by simp)) Tryd.underlying112 rfl (by kernel_rfl)
  · rfl
  · exact ⟨_, rfl, E1.out.below, OwnI.nil _ _⟩
set_option maxHeartbeats 1000000 in
set_option maxRecDepth 100000 in
theorem em_alt (S : Nat → Prop) (ks : List Rx.Node) (k b : Nat) (hk : k < 4) (w : World) (H : IsN w S (.alt ks) b) (C : ∀ w1, IsN w1 S (.alt ks) b → Calls Tryd.prog 78 #[ptr b, .int .u8 ((k : Nat) : Int)] w1 (EmP w1 (Rx.emptyAlt ks k))) :
    Calls Tryd.prog 70 #[ptr b, .int .u8 ((k : Nat) : Int)] w (EmP w (Rx.emptyAlt ks k)) := by
  have HH := Lib.hid H
  obtain ⟨hS, k0, x0, e0, n0, l0, m0, p0, z0, em0, kv0, hrow⟩ := IsN.head (.alt ks) b H
  have hk0 : w.cell? ⟨b, 0, none⟩ = some (.int .u8 3) := by
    unfold IsN at H
    obtain ⟨_, kv, h, _⟩ := H
    rw [cell_of_row _ _ 0 _ _ _ h]; rfl
  have hlt := (Array.getElem?_eq_some_iff.1 hrow).1
  have E0 := Lib.hid (((Es.start w).lay (emC false (.slice none 0 0))).lay (emC true (.slice none 0 0)))
  unfold emC at E0
  have c0 : ((w.alloc (.cells #[.bool false, .slice none 0 0] 112)).alloc (.cells #[.bool true, .slice none 0 0] 112)).cell? ⟨b, 0, none⟩ = some (.int .u8 3) := (E0.out.below.cell (p := ⟨b, 0, none⟩) hlt).trans hk0
  have CC := Lib.hid (C _ (HH.out.below E0.out.below))
  obtain ⟨⟨q, gs⟩, hr⟩ : ∃ r, Rx.emptyAlt ks k = r := ⟨_, rfl⟩
  rw [hr] at CC ⊢
  unfold ptr at CC ⊢
  clear H hrow hk0 hr C
  go_enter Tryd.func70, Tryd.ntmps70
  go_wp2_with fail
  refine CC.out.mono ?_
  rintro e w3 ⟨v, rfl, hb, ho⟩
  have E3 := Lib.hid (E0.out.next hb)
  obtain ⟨a, c, rfl⟩ := ho.shape
  have h3 : w3.heap[w.heap.size]? = some (.cells (emC false (.slice none 0 0)) 112 (0, 0)) := E3.out.at w.heap.size #[.bool false, .slice none 0 0] (by simp)
  have E4 := Lib.hid (E3.out.row w.heap.size #[.bool false, .slice none 0 0] (emC q (.slice a gs.length c)) (by simp))
  have OW := Lib.hid (moveSet (w0 := w) ho (g := w.heap.size) (by simp; omega) (emC q (.slice a gs.length c)))
  clear hb ho
  go_wp2_with (refine wpList_store_row rfl 112 (.tmp 4) (.tmp 37) rfl w.heap.size (emC q (.slice a gs.length c)) rfl rfl 112 (emC false (.slice none 0 0)) h3 (by kernel_rfl) rfl emC_one ?_)
  refine bodyPost_ret (v := .agg (emC q (.slice a gs.length c))) ?_ ?_ ?_
  · exact results_cell_row rfl _ _ w.heap.size 112 (emC q (.slice a gs.length c)) (0, 0) _ rfl (E4.out.at _ _ (by simp)) Tryd.underlying112 rfl (by kernel_rfl)
  · rfl
  · exact ⟨_, rfl, E4.out.below, OwnI.lower OW.out (by simp; omega)⟩
set_option maxHeartbeats 1000000 in
set_option maxRecDepth 100000 in
theorem em_count (S : Nat → Prop) (l : Nat) (m : Option Nat) (p z : Bool) (t : Rx.Node) (k b : Nat) (hk : k < 4) (w : World) (H : IsN w S (.count l m p z t) b) (C : ∀ w1, IsN w1 S (.count l m p z t) b → Calls Tryd.prog 79 #[ptr b, .int .u8 ((k : Nat) : Int)] w1 (EmP w1 (Rx.emptyAt (.count l m p z t) k))) :
    Calls Tryd.prog 70 #[ptr b, .int .u8 ((k : Nat) : Int)] w (EmP w (Rx.emptyAt (.count l m p z t) k)) := by
  have HH := Lib.hid H
  obtain ⟨hS, k0, x0, e0, n0, l0, m0, p0, z0, em0, kv0, hrow⟩ := IsN.head (.count l m p z t) b H
  have hk0 : w.cell? ⟨b, 0, none⟩ = some (.int .u8 5) := by
    unfold IsN at H
    obtain ⟨_, em, g, cur, i, h, _⟩ := H
    rw [cell_of_row _ _ 0 _ _ _ h]; rfl
  have hlt := (Array.getElem?_eq_some_iff.1 hrow).1
  have E0 := Lib.hid (((Es.start w).lay (emC false (.slice none 0 0))).lay (emC true (.slice none 0 0)))
  unfold emC at E0
  have c0 : ((w.alloc (.cells #[.bool false, .slice none 0 0] 112)).alloc (.cells #[.bool true, .slice none 0 0] 112)).cell? ⟨b, 0, none⟩ = some (.int .u8 5) := (E0.out.below.cell (p := ⟨b, 0, none⟩) hlt).trans hk0
  have CC := Lib.hid (C _ (HH.out.below E0.out.below))
  obtain ⟨⟨q, gs⟩, hr⟩ : ∃ r, Rx.emptyAt (.count l m p z t) k = r := ⟨_, rfl⟩
  rw [hr] at CC ⊢
  unfold ptr at CC ⊢
  clear H hrow hk0 hr C
  go_enter Tryd.func70, Tryd.ntmps70
  go_wp2_with fail
  refine CC.out.mono ?_
  rintro e w3 ⟨v, rfl, hb, ho⟩
  have E3 := Lib.hid (E0.out.next hb)
  obtain ⟨a, c, rfl⟩ := ho.shape
  have h3 : w3.heap[w.heap.size]? = some (.cells (emC false (.slice none 0 0)) 112 (0, 0)) := E3.out.at w.heap.size #[.bool false, .slice none 0 0] (by simp)
  have E4 := Lib.hid (E3.out.row w.heap.size #[.bool false, .slice none 0 0] (emC q (.slice a gs.length c)) (by simp))
  have OW := Lib.hid (moveSet (w0 := w) ho (g := w.heap.size) (by simp; omega) (emC q (.slice a gs.length c)))
  clear hb ho
  go_wp2_with (refine wpList_store_row rfl 112 (.tmp 4) (.tmp 40) rfl w.heap.size (emC q (.slice a gs.length c)) rfl rfl 112 (emC false (.slice none 0 0)) h3 (by kernel_rfl) rfl emC_one ?_)
  refine bodyPost_ret (v := .agg (emC q (.slice a gs.length c))) ?_ ?_ ?_
  · exact results_cell_row rfl _ _ w.heap.size 112 (emC q (.slice a gs.length c)) (0, 0) _ rfl (E4.out.at _ _ (by simp)) Tryd.underlying112 rfl (by kernel_rfl)
  · rfl
  · exact ⟨_, rfl, E4.out.below, OwnI.lower OW.out (by simp; omega)⟩
theorem posMost_eq (m : Option Nat) : decide (mostI m > 0) = Rx.posMost m := by
  cases m with
  | none => rfl
  | some M => show decide (((M : Nat) : Int) > 0) = decide (0 < M); exact decide_eq_decide.2 (by omega)
end Go.Proofs.YtphighddlfabbaaDoor
namespace Go.Proofs.YtphighddlfabbaaDoor
set_option linter.unusedVariables false
set_option linter.unusedSimpArgs false
open Go.RowKit Go.PlainAid Go.Shelf
open Rx (Set4 RS)
set_option maxHeartbeats 1000000 in
set_option maxRecDepth 100000 in
theorem et_a (S : Nat → Prop) (l : Nat) (m : Option Nat) (p z : Bool) (t : Rx.Node) (k b : Nat) (hk : k < 4) (w : World) (H : IsN w S (.count l m p z t) b)
    (C : ∀ i w1, IsN w1 S t i → Calls Tryd.prog 70 #[ptr i, .int .u8 ((k : Nat) : Int)] w1 (EmP w1 (Rx.emptyAt t k))) (q : Bool) (gs : List Nat) (hr : Rx.emptyAt t k = (q, gs)) (hl : 0 < l) :
    Calls Tryd.prog 79 #[ptr b, .int .u8 ((k : Nat) : Int)] w (EmP w (q, gs)) := by
  unfold IsN at H
  obtain ⟨hS, em, g, cur, i, hrow, _, hSg, hg, hc, hi⟩ := H
  have hN : NodeAt w b 5 Set4.none 0 0 l (mostI m) p z em (.slice (some ⟨g, 0, none⟩) 1 1) (Rx.states (.count l m p z t)) := ⟨hrow⟩
  have hlt := (Array.getElem?_eq_some_iff.1 hrow).1
  have hgl := (Array.getElem?_eq_some_iff.1 hg).1
  have E0 := Lib.hid ((Es.start w).lay (emC false (.slice none 0 0)))
  unfold emC at E0
  have c12 : (w.alloc (.cells #[.bool false, .slice none 0 0] 112)).cell? ⟨b, 12, none⟩ = some (.slice (some ⟨g, 0, none⟩) 1 1) := (E0.out.below.cell (p := ⟨b, 12, none⟩) hlt).trans (hN.c 12)
  have cg : (w.alloc (.cells #[.bool false, .slice none 0 0] 112)).cell? ⟨g, 0, none⟩ = some (ptr i) := (E0.out.below.cell (p := ⟨g, 0, none⟩) hgl).trans ((cell_of_row _ _ 0 _ _ _ hg).trans hc)
  have HC7 := Lib.hid (fun w1 (hb : Below w.heap.size w w1) => show w1.cell? ⟨b, 7, none⟩ = some (.int .i64 ((l : Nat) : Int)) from (hb.cell (p := ⟨b, 7, none⟩) hlt).trans (hN.c 7))
  have HC8 := Lib.hid (fun w1 (hb : Below w.heap.size w w1) => show w1.cell? ⟨b, 8, none⟩ = some (.int .i64 (mostI m)) from (hb.cell (p := ⟨b, 8, none⟩) hlt).trans (hN.c 8))
  have HCa := Lib.hid (fun w1 (hb : Below w.heap.size w w1) => show w1.cell? ⟨b, 10, none⟩ = some (.bool z) from (hb.cell (p := ⟨b, 10, none⟩) hlt).trans (hN.c 10))
  have CC := Lib.hid (C i _ (hi.below E0.out.below))
  rw [hr] at CC
  have hd : decide ((l : Int) > 0) = true := by simp; omega
  have hd2 : decide ((0 : Int) < (l : Int)) = true := by simp; omega
  have hd3 : decide (0 < l) = true := by simp; omega
  obtain ⟨M, hM⟩ : ∃ M, mostI m = M := ⟨_, rfl⟩
  rw [hM] at HC8
  unfold ptr at CC cg ⊢
  clear hN hrow hg hc hi hr hS hSg C hM
  go_enter Tryd.func79, Tryd.ntmps79
  go_wp2_with fail
  refine CC.out.mono ?_
  rintro e w3 ⟨v, rfl, hb, ho⟩
  have E3 := E0.out.next hb
  obtain ⟨a, c, rfl⟩ := ho.shape
  have E5 := Lib.hid (E3.lay #[.bool q, .slice a gs.length c])
  have c7 := HC7.out _ E5.out.below
  have c8 := HC8.out _ E5.out.below
  have ca := HCa.out _ E5.out.below
  have h5 : (w3.alloc (.cells #[.bool q, .slice a gs.length c] 112)).heap[w.heap.size]? = some (.cells (emC false (.slice none 0 0)) 112 (0, 0)) := E5.out.at w.heap.size #[.bool false, .slice none 0 0] (by simp)
  have OW := Lib.hid (ho.below ((Below.refl _ _).alloc (Nat.le_refl _) (.cells #[.bool q, .slice a gs.length c] 112)))
  clear hb ho E3
  have E6 := Lib.hid (E5.out.row w.heap.size #[.bool false, .slice none 0 0] (emC q (.slice a gs.length c)) (by simp))
  have OW2 := Lib.hid (moveSet (w0 := w) OW.out (g := w.heap.size) (by simp) (emC q (.slice a gs.length c)))
  go_upto_region 3 with (fail)
  go_wp2_with (refine wpList_store_row rfl 112 (.tmp 4) (.tmp 40) rfl w.heap.size (emC q (.slice a gs.length c)) rfl rfl 112 (emC false (.slice none 0 0)) h5 (by kernel_rfl) rfl emC_one ?_)
  refine bodyPost_ret (v := .agg (emC q (.slice a gs.length c))) ?_ ?_ ?_
  · exact results_cell_row rfl _ _ w.heap.size 112 (emC q (.slice a gs.length c)) (0, 0) _ rfl (E6.out.at _ _ (by simp)) Tryd.underlying112 rfl (by kernel_rfl)
  · rfl
  · exact ⟨_, rfl, E6.out.below, OwnI.lower OW2.out (by simp)⟩
set_option maxHeartbeats 1000000 in
set_option maxRecDepth 100000 in
theorem et_b (S : Nat → Prop) (l : Nat) (m : Option Nat) (p z : Bool) (t : Rx.Node) (k b : Nat) (hk : k < 4) (w : World) (H : IsN w S (.count l m p z t) b)
    (C : ∀ i w1, IsN w1 S t i → Calls Tryd.prog 70 #[ptr i, .int .u8 ((k : Nat) : Int)] w1 (EmP w1 (Rx.emptyAt t k))) (q : Bool) (gs : List Nat) (hr : Rx.emptyAt t k = (q, gs)) (hl : ¬ 0 < l) (hq : q = false) :
    Calls Tryd.prog 79 #[ptr b, .int .u8 ((k : Nat) : Int)] w (EmP w (true, [])) := by
  unfold IsN at H
  obtain ⟨hS, em, g, cur, i, hrow, _, hSg, hg, hc, hi⟩ := H
  have hN : NodeAt w b 5 Set4.none 0 0 l (mostI m) p z em (.slice (some ⟨g, 0, none⟩) 1 1) (Rx.states (.count l m p z t)) := ⟨hrow⟩
  have hlt := (Array.getElem?_eq_some_iff.1 hrow).1
  have hgl := (Array.getElem?_eq_some_iff.1 hg).1
  have E0 := Lib.hid ((Es.start w).lay (emC false (.slice none 0 0)))
  unfold emC at E0
  have c12 : (w.alloc (.cells #[.bool false, .slice none 0 0] 112)).cell? ⟨b, 12, none⟩ = some (.slice (some ⟨g, 0, none⟩) 1 1) := (E0.out.below.cell (p := ⟨b, 12, none⟩) hlt).trans (hN.c 12)
  have cg : (w.alloc (.cells #[.bool false, .slice none 0 0] 112)).cell? ⟨g, 0, none⟩ = some (ptr i) := (E0.out.below.cell (p := ⟨g, 0, none⟩) hgl).trans ((cell_of_row _ _ 0 _ _ _ hg).trans hc)
  have HC7 := Lib.hid (fun w1 (hb : Below w.heap.size w w1) => show w1.cell? ⟨b, 7, none⟩ = some (.int .i64 ((l : Nat) : Int)) from (hb.cell (p := ⟨b, 7, none⟩) hlt).trans (hN.c 7))
  have HC8 := Lib.hid (fun w1 (hb : Below w.heap.size w w1) => show w1.cell? ⟨b, 8, none⟩ = some (.int .i64 (mostI m)) from (hb.cell (p := ⟨b, 8, none⟩) hlt).trans (hN.c 8))
  have HCa := Lib.hid (fun w1 (hb : Below w.heap.size w w1) => show w1.cell? ⟨b, 10, none⟩ = some (.bool z) from (hb.cell (p := ⟨b, 10, none⟩) hlt).trans (hN.c 10))
  have CC := Lib.hid (C i _ (hi.below E0.out.below))
  rw [hr] at CC
  have hd2 : decide ((0 : Int) < ((0 : Nat) : Int)) = false := rfl
  have hl0 : l = 0 := by omega
  subst hl0
  subst hq
  obtain ⟨M, hM⟩ : ∃ M, mostI m = M := ⟨_, rfl⟩
  rw [hM] at HC8
  unfold ptr at CC cg ⊢
  clear hN hrow hg hc hi hr hS hSg C hM
  go_enter Tryd.func79, Tryd.ntmps79
  go_wp2_with fail
  refine CC.out.mono ?_
  rintro e w3 ⟨v, rfl, hb, ho⟩
  have E3 := E0.out.next hb
  obtain ⟨a, c, rfl⟩ := ho.shape
  have E5 := Lib.hid (E3.lay #[.bool false, .slice a gs.length c])
  have c7 := HC7.out _ E5.out.below
  have c8 := HC8.out _ E5.out.below
  have ca := HCa.out _ E5.out.below
  have h5 : (w3.alloc (.cells #[.bool false, .slice a gs.length c] 112)).heap[w.heap.size]? = some (.cells (emC false (.slice none 0 0)) 112 (0, 0)) := E5.out.at w.heap.size #[.bool false, .slice none 0 0] (by simp)
  have OW := Lib.hid (ho.below ((Below.refl _ _).alloc (Nat.le_refl _) (.cells #[.bool false, .slice a gs.length c] 112)))
  clear hb ho E3
  have E6 := Lib.hid (E5.out.row w.heap.size #[.bool false, .slice none 0 0] (emC true (.slice none 0 0)) (by simp))
  go_upto_region 4 with (fail)
  go_wp2_with (refine wpList_store_row rfl 112 (.tmp 4) (.tmp 41) rfl w.heap.size (emC true (.slice none 0 0)) rfl rfl 112 (emC false (.slice none 0 0)) h5 (by kernel_rfl) rfl emC_one ?_)
  refine bodyPost_ret (v := .agg (emC true (.slice none 0 0))) ?_ ?_ ?_
  · exact results_cell_row rfl _ _ w.heap.size 112 (emC true (.slice none 0 0)) (0, 0) _ rfl (E6.out.at _ _ (by simp)) Tryd.underlying112 rfl (by kernel_rfl)
  · rfl
  · exact ⟨_, rfl, E6.out.below, OwnI.nil _ _⟩
set_option maxHeartbeats 1000000 in
set_option maxRecDepth 100000 in
theorem et_c (S : Nat → Prop) (l : Nat) (m : Option Nat) (p z : Bool) (t : Rx.Node) (k b : Nat) (hk : k < 4) (w : World) (H : IsN w S (.count l m p z t) b)
    (C : ∀ i w1, IsN w1 S t i → Calls Tryd.prog 70 #[ptr i, .int .u8 ((k : Nat) : Int)] w1 (EmP w1 (Rx.emptyAt t k))) (q : Bool) (gs : List Nat) (hr : Rx.emptyAt t k = (q, gs)) (hl : ¬ 0 < l) (hq : q = true) (hmo : Rx.posMost m = false) :
    Calls Tryd.prog 79 #[ptr b, .int .u8 ((k : Nat) : Int)] w (EmP w (true, [])) := by
  unfold IsN at H
  obtain ⟨hS, em, g, cur, i, hrow, _, hSg, hg, hc, hi⟩ := H
  have hN : NodeAt w b 5 Set4.none 0 0 l (mostI m) p z em (.slice (some ⟨g, 0, none⟩) 1 1) (Rx.states (.count l m p z t)) := ⟨hrow⟩
  have hlt := (Array.getElem?_eq_some_iff.1 hrow).1
  have hgl := (Array.getElem?_eq_some_iff.1 hg).1
  have E0 := Lib.hid ((Es.start w).lay (emC false (.slice none 0 0)))
  unfold emC at E0
  have c12 : (w.alloc (.cells #[.bool false, .slice none 0 0] 112)).cell? ⟨b, 12, none⟩ = some (.slice (some ⟨g, 0, none⟩) 1 1) := (E0.out.below.cell (p := ⟨b, 12, none⟩) hlt).trans (hN.c 12)
  have cg : (w.alloc (.cells #[.bool false, .slice none 0 0] 112)).cell? ⟨g, 0, none⟩ = some (ptr i) := (E0.out.below.cell (p := ⟨g, 0, none⟩) hgl).trans ((cell_of_row _ _ 0 _ _ _ hg).trans hc)
  have HC7 := Lib.hid (fun w1 (hb : Below w.heap.size w w1) => show w1.cell? ⟨b, 7, none⟩ = some (.int .i64 ((l : Nat) : Int)) from (hb.cell (p := ⟨b, 7, none⟩) hlt).trans (hN.c 7))
  have HC8 := Lib.hid (fun w1 (hb : Below w.heap.size w w1) => show w1.cell? ⟨b, 8, none⟩ = some (.int .i64 (mostI m)) from (hb.cell (p := ⟨b, 8, none⟩) hlt).trans (hN.c 8))
  have HCa := Lib.hid (fun w1 (hb : Below w.heap.size w w1) => show w1.cell? ⟨b, 10, none⟩ = some (.bool z) from (hb.cell (p := ⟨b, 10, none⟩) hlt).trans (hN.c 10))
  have CC := Lib.hid (C i _ (hi.below E0.out.below))
  rw [hr] at CC
  have hd2 : decide ((0 : Int) < ((0 : Nat) : Int)) = false := rfl
  have hl0 : l = 0 := by omega
  subst hl0
  subst hq
  rw [← posMost_eq] at hmo
  obtain ⟨M, hM⟩ : ∃ M, mostI m = M := ⟨_, rfl⟩
  rw [hM] at HC8 hmo
  unfold ptr at CC cg ⊢
  clear hN hrow hg hc hi hr hS hSg C hM
  go_enter Tryd.func79, Tryd.ntmps79
  go_wp2_with fail
  refine CC.out.mono ?_
  rintro e w3 ⟨v, rfl, hb, ho⟩
  have E3 := E0.out.next hb
  obtain ⟨a, c, rfl⟩ := ho.shape
  have E5 := Lib.hid (E3.lay #[.bool true, .slice a gs.length c])
  have c7 := HC7.out _ E5.out.below
  have c8 := HC8.out _ E5.out.below
  have ca := HCa.out _ E5.out.below
  have h5 : (w3.alloc (.cells #[.bool true, .slice a gs.length c] 112)).heap[w.heap.size]? = some (.cells (emC false (.slice none 0 0)) 112 (0, 0)) := E5.out.at w.heap.size #[.bool false, .slice none 0 0] (by simp)
  have OW := Lib.hid (ho.below ((Below.refl _ _).alloc (Nat.le_refl _) (.cells #[.bool true, .slice a gs.length c] 112)))
  clear hb ho E3
  have E6 := Lib.hid (E5.out.row w.heap.size #[.bool false, .slice none 0 0] (emC true (.slice none 0 0)) (by simp))
  go_upto_region 4 with (fail)
  go_wp2_with (refine wpList_store_row rfl 112 (.tmp 4) (.tmp 41) rfl w.heap.size (emC true (.slice none 0 0)) rfl rfl 112 (emC false (.slice none 0 0)) h5 (by kernel_rfl) rfl emC_one ?_)
  refine bodyPost_ret (v := .agg (emC true (.slice none 0 0))) ?_ ?_ ?_
  · exact results_cell_row rfl _ _ w.heap.size 112 (emC true (.slice none 0 0)) (0, 0) _ rfl (E6.out.at _ _ (by simp)) Tryd.underlying112 rfl (by kernel_rfl)
  · rfl
  · exact ⟨_, rfl, E6.out.below, OwnI.nil _ _⟩
set_option maxHeartbeats 1000000 in
set_option maxRecDepth 100000 in
theorem et_d (S : Nat → Prop) (l : Nat) (m : Option Nat) (p z : Bool) (t : Rx.Node) (k b : Nat) (hk : k < 4) (w : World) (H : IsN w S (.count l m p z t) b)
    (C : ∀ i w1, IsN w1 S t i → Calls Tryd.prog 70 #[ptr i, .int .u8 ((k : Nat) : Int)] w1 (EmP w1 (Rx.emptyAt t k))) (q : Bool) (gs : List Nat) (hr : Rx.emptyAt t k = (q, gs)) (hl : ¬ 0 < l) (hq : q = true) (hmo : Rx.posMost m = true) (hz : z = true) :
    Calls Tryd.prog 79 #[ptr b, .int .u8 ((k : Nat) : Int)] w (EmP w (true, [])) := by
  unfold IsN at H
  obtain ⟨hS, em, g, cur, i, hrow, _, hSg, hg, hc, hi⟩ := H
  have hN : NodeAt w b 5 Set4.none 0 0 l (mostI m) p z em (.slice (some ⟨g, 0, none⟩) 1 1) (Rx.states (.count l m p z t)) := ⟨hrow⟩
  have hlt := (Array.getElem?_eq_some_iff.1 hrow).1
  have hgl := (Array.getElem?_eq_some_iff.1 hg).1
  have E0 := Lib.hid ((Es.start w).lay (emC false (.slice none 0 0)))
  unfold emC at E0
  have c12 : (w.alloc (.cells #[.bool false, .slice none 0 0] 112)).cell? ⟨b, 12, none⟩ = some (.slice (some ⟨g, 0, none⟩) 1 1) := (E0.out.below.cell (p := ⟨b, 12, none⟩) hlt).trans (hN.c 12)
  have cg : (w.alloc (.cells #[.bool false, .slice none 0 0] 112)).cell? ⟨g, 0, none⟩ = some (ptr i) := (E0.out.below.cell (p := ⟨g, 0, none⟩) hgl).trans ((cell_of_row _ _ 0 _ _ _ hg).trans hc)
  have HC7 := Lib.hid (fun w1 (hb : Below w.heap.size w w1) => show w1.cell? ⟨b, 7, none⟩ = some (.int .i64 ((l : Nat) : Int)) from (hb.cell (p := ⟨b, 7, none⟩) hlt).trans (hN.c 7))
  have HC8 := Lib.hid (fun w1 (hb : Below w.heap.size w w1) => show w1.cell? ⟨b, 8, none⟩ = some (.int .i64 (mostI m)) from (hb.cell (p := ⟨b, 8, none⟩) hlt).trans (hN.c 8))
  have HCa := Lib.hid (fun w1 (hb : Below w.heap.size w w1) => show w1.cell? ⟨b, 10, none⟩ = some (.bool z) from (hb.cell (p := ⟨b, 10, none⟩) hlt).trans (hN.c 10))
  have CC := Lib.hid (C i _ (hi.below E0.out.below))
  rw [hr] at CC
  have hd2 : decide ((0 : Int) < ((0 : Nat) : Int)) = false := rfl
  have hl0 : l = 0 := by omega
  subst hl0
  subst hq hz
  rw [← posMost_eq] at hmo
  obtain ⟨M, hM⟩ : ∃ M, mostI m = M := ⟨_, rfl⟩
  rw [hM] at HC8 hmo
  unfold ptr at CC cg ⊢
  clear hN hrow hg hc hi hr hS hSg C hM
  go_enter Tryd.func79, Tryd.ntmps79
  go_wp2_with fail
  refine CC.out.mono ?_
  rintro e w3 ⟨v, rfl, hb, ho⟩
  have E3 := E0.out.next hb
  obtain ⟨a, c, rfl⟩ := ho.shape
  have E5 := Lib.hid (E3.lay #[.bool true, .slice a gs.length c])
  have c7 := HC7.out _ E5.out.below
  have c8 := HC8.out _ E5.out.below
  have ca := HCa.out _ E5.out.below
  have h5 : (w3.alloc (.cells #[.bool true, .slice a gs.length c] 112)).heap[w.heap.size]? = some (.cells (emC false (.slice none 0 0)) 112 (0, 0)) := E5.out.at w.heap.size #[.bool false, .slice none 0 0] (by simp)
  have OW := Lib.hid (ho.below ((Below.refl _ _).alloc (Nat.le_refl _) (.cells #[.bool true, .slice a gs.length c] 112)))
  clear hb ho E3
  have E6 := Lib.hid (E5.out.row w.heap.size #[.bool false, .slice none 0 0] (emC true (.slice none 0 0)) (by simp))
  go_upto_region 4 with (fail)
  go_wp2_with (refine wpList_store_row rfl 112 (.tmp 4) (.tmp 41) rfl w.heap.size (emC true (.slice none 0 0)) rfl rfl 112 (emC false (.slice none 0 0)) h5 (by kernel_rfl) rfl emC_one ?_)
  refine bodyPost_ret (v := .agg (emC true (.slice none 0 0))) ?_ ?_ ?_
  · exact results_cell_row rfl _ _ w.heap.size 112 (emC true (.slice none 0 0)) (0, 0) _ rfl (E6.out.at _ _ (by simp)) Tryd.underlying112 rfl (by kernel_rfl)
  · rfl
  · exact ⟨_, rfl, E6.out.below, OwnI.nil _ _⟩
set_option maxHeartbeats 1000000 in
set_option maxRecDepth 100000 in
theorem et_e (S : Nat → Prop) (l : Nat) (m : Option Nat) (p z : Bool) (t : Rx.Node) (k b : Nat) (hk : k < 4) (w : World) (H : IsN w S (.count l m p z t) b)
    (C : ∀ i w1, IsN w1 S t i → Calls Tryd.prog 70 #[ptr i, .int .u8 ((k : Nat) : Int)] w1 (EmP w1 (Rx.emptyAt t k))) (q : Bool) (gs : List Nat) (hr : Rx.emptyAt t k = (q, gs)) (hl : ¬ 0 < l) (hq : q = true) (hmo : Rx.posMost m = true) (hz : z = false) :
    Calls Tryd.prog 79 #[ptr b, .int .u8 ((k : Nat) : Int)] w (EmP w (q, gs)) := by
  unfold IsN at H
  obtain ⟨hS, em, g, cur, i, hrow, _, hSg, hg, hc, hi⟩ := H
  have hN : NodeAt w b 5 Set4.none 0 0 l (mostI m) p z em (.slice (some ⟨g, 0, none⟩) 1 1) (Rx.states (.count l m p z t)) := ⟨hrow⟩
  have hlt := (Array.getElem?_eq_some_iff.1 hrow).1
  have hgl := (Array.getElem?_eq_some_iff.1 hg).1
  have E0 := Lib.hid ((Es.start w).lay (emC false (.slice none 0 0)))
  unfold emC at E0
  have c12 : (w.alloc (.cells #[.bool false, .slice none 0 0] 112)).cell? ⟨b, 12, none⟩ = some (.slice (some ⟨g, 0, none⟩) 1 1) := (E0.out.below.cell (p := ⟨b, 12, none⟩) hlt).trans (hN.c 12)
  have cg : (w.alloc (.cells #[.bool false, .slice none 0 0] 112)).cell? ⟨g, 0, none⟩ = some (ptr i) := (E0.out.below.cell (p := ⟨g, 0, none⟩) hgl).trans ((cell_of_row _ _ 0 _ _ _ hg).trans hc)
  have HC7 := Lib.hid (fun w1 (hb : Below w.heap.size w w1) => show w1.cell? ⟨b, 7, none⟩ = some (.int .i64 ((l : Nat) : Int)) from (hb.cell (p := ⟨b, 7, none⟩) hlt).trans (hN.c 7))
  have HC8 := Lib.hid (fun w1 (hb : Below w.heap.size w w1) => show w1.cell? ⟨b, 8, none⟩ = some (.int .i64 (mostI m)) from (hb.cell (p := ⟨b, 8, none⟩) hlt).trans (hN.c 8))
  have HCa := Lib.hid (fun w1 (hb : Below w.heap.size w w1) => show w1.cell? ⟨b, 10, none⟩ = some (.bool z) from (hb.cell (p := ⟨b, 10, none⟩) hlt).trans (hN.c 10))
  have CC := Lib.hid (C i _ (hi.below E0.out.below))
  rw [hr] at CC
  have hd2 : decide ((0 : Int) < ((0 : Nat) : Int)) = false := rfl
  have hl0 : l = 0 := by omega
  subst hl0
  subst hq hz
  rw [← posMost_eq] at hmo
  obtain ⟨M, hM⟩ : ∃ M, mostI m = M := ⟨_, rfl⟩
  rw [hM] at HC8 hmo
  unfold ptr at CC cg ⊢
  clear hN hrow hg hc hi hr hS hSg C hM
  go_enter Tryd.func79, Tryd.ntmps79
  go_wp2_with fail
  refine CC.out.mono ?_
  rintro e w3 ⟨v, rfl, hb, ho⟩
  have E3 := E0.out.next hb
  obtain ⟨a, c, rfl⟩ := ho.shape
  have E5 := Lib.hid (E3.lay #[.bool true, .slice a gs.length c])
  have c7 := HC7.out _ E5.out.below
  have c8 := HC8.out _ E5.out.below
  have ca := HCa.out _ E5.out.below
  have h5 : (w3.alloc (.cells #[.bool true, .slice a gs.length c] 112)).heap[w.heap.size]? = some (.cells (emC false (.slice none 0 0)) 112 (0, 0)) := E5.out.at w.heap.size #[.bool false, .slice none 0 0] (by simp)
  have OW := Lib.hid (ho.below ((Below.refl _ _).alloc (Nat.le_refl _) (.cells #[.bool true, .slice a gs.length c] 112)))
  clear hb ho E3
  have E6 := Lib.hid (E5.out.row w.heap.size #[.bool false, .slice none 0 0] (emC true (.slice a gs.length c)) (by simp))
  have OW2 := Lib.hid (moveSet (w0 := w) OW.out (g := w.heap.size) (by simp) (emC true (.slice a gs.length c)))
  go_upto_region 3 with (fail)
  go_wp2_with (refine wpList_store_row rfl 112 (.tmp 4) (.tmp 40) rfl w.heap.size (emC true (.slice a gs.length c)) rfl rfl 112 (emC false (.slice none 0 0)) h5 (by kernel_rfl) rfl emC_one ?_)
  refine bodyPost_ret (v := .agg (emC true (.slice a gs.length c))) ?_ ?_ ?_
  · exact results_cell_row rfl _ _ w.heap.size 112 (emC true (.slice a gs.length c)) (0, 0) _ rfl (E6.out.at _ _ (by simp)) Tryd.underlying112 rfl (by kernel_rfl)
  · rfl
  · exact ⟨_, rfl, E6.out.below, OwnI.lower OW2.out (by simp)⟩
theorem et_any (S : Nat → Prop) (l : Nat) (m : Option Nat) (p z : Bool) (t : Rx.Node) (k b : Nat) (hk : k < 4) (w : World) (H : IsN w S (.count l m p z t) b)
    (C : ∀ i w1, IsN w1 S t i → Calls Tryd.prog 70 #[ptr i, .int .u8 ((k : Nat) : Int)] w1 (EmP w1 (Rx.emptyAt t k))) :
    Calls Tryd.prog 79 #[ptr b, .int .u8 ((k : Nat) : Int)] w (EmP w (Rx.emptyAt (.count l m p z t) k)) := by
  rcases hr : Rx.emptyAt t k with ⟨q, gs⟩
  rw [Rx.emptyAt, hr]
  by_cases hl : 0 < l
  · rw [if_pos (.inl hl)]; exact et_a S l m p z t k b hk w H C q gs hr hl
  cases hq : q with
  | false => rw [if_neg (by rintro (h | h); exact hl h; cases h.1)]; exact et_b S l m p z t k b hk w H C q gs hr hl hq
  | true =>
    cases hmo : Rx.posMost m with
    | false => rw [if_neg (by rintro (h | h); exact hl h; cases h.2.1)]; exact et_c S l m p z t k b hk w H C q gs hr hl hq hmo
    | true =>
      cases hz : z with
      | true => rw [if_neg (by rintro (h | h); exact hl h; cases h.2.2)]; exact et_d S l m p z t k b hk w H C q gs hr hl hq hmo hz
      | false => rw [if_pos (.inr ⟨rfl, rfl, rfl⟩)]; have := et_e S l m p z t k b hk w H C q gs hr hl hq hmo hz; rw [hq] at this; exact this
set_option maxHeartbeats 1000000 in
set_option maxRecDepth 100000 in
theorem eb_any (S : Nat → Prop) (ks : List Rx.Node) (k b : Nat) (hk : k < 4) (hlen : ks.length ≤ 1000) (w : World) (H : IsN w S (.alt ks) b)
    (C : ∀ t ∈ ks, ∀ i w1, IsN w1 S t i → Calls Tryd.prog 70 #[ptr i, .int .u8 ((k : Nat) : Int)] w1 (EmP w1 (Rx.emptyAt t k))) :
    Calls Tryd.prog 78 #[ptr b, .int .u8 ((k : Nat) : Int)] w (EmP w (Rx.emptyAlt ks k)) := by
  unfold IsN at H
  obtain ⟨hS, kv, hrow, g, cc, cur, rfl, hSg, hg, hkids⟩ := H
  have hN : NodeAt w b 3 Set4.none 0 0 0 0 false false nilP (.slice (some ⟨g, 0, none⟩) ks.length (ks.length + cc)) (Rx.states (.alt ks)) := ⟨hrow⟩
  have hlt := (Array.getElem?_eq_some_iff.1 hrow).1
  have hgl := (Array.getElem?_eq_some_iff.1 hg).1
  have E0 := Lib.hid ((Es.start w).lay (emC false (.slice none 0 0)))
  unfold emC at E0
  have c12 : (w.alloc (.cells #[.bool false, .slice none 0 0] 112)).cell? ⟨b, 12, none⟩ = some (.slice (some ⟨g, 0, none⟩) ks.length (ks.length + cc)) := (E0.out.below.cell (p := ⟨b, 12, none⟩) hlt).trans (hN.c 12)
  have HKD := Lib.hid (fun j (hj : j < ks.length) => KidsIn.get ks cur 0 hkids j hj)
  have HKW := Lib.hid (fun j i (h : cur[0 + j]? = some (ptr i)) w1 (hb : Below w.heap.size w w1) => show w1.cell? ⟨g, j, none⟩ = some (ptr i) from (hb.cell (p := ⟨g, j, none⟩) hgl).trans ((cell_of_row _ _ j _ _ _ hg).trans (by rw [Nat.zero_add] at h; exact h)))
  obtain ⟨⟨rb, rg⟩, hr⟩ : ∃ r, Rx.emptyAlt ks k = r := ⟨_, rfl⟩
  have H0 := Lib.hid (show Rx.emptyAlt (ks.drop 0) k = (rb, rg) from hr)
  have CC := Lib.hid C
  have HDR := Lib.hid (fun j hj => emptyAlt_drop ks j hj k)
  rw [hr]
  obtain ⟨L, hL⟩ : ∃ L, ks.length = L := ⟨_, rfl⟩
  have HLE := Lib.hid hL
  rw [hL] at c12 hlen
  unfold ptr
  clear hN hrow hg hkids hS hSg C hr hL
  go_enter Tryd.func78, Tryd.ntmps78
  go_wp2
  go_loopw [13] (fun i wr => ∃ j : Nat, j ≤ L ∧ i = .int .i64 ((j : Nat) : Int) ∧ Hid (Es w wr [(w.heap.size, emC false (.slice none 0 0))]) ∧ Hid (Rx.emptyAlt (ks.drop j) k = (rb, rg))) (fun i _ => L - (intOf i).toNat)
  case atStart => exact ⟨0, Nat.zero_le _, rfl, E0, H0⟩
  case round =>
    obtain ⟨j, hj, rfl, HE, HR⟩ := hrel
    by_cases hlt2 : j < L
    · have hd : decide (j < L) = true := decide_eq_true hlt2
      have hjk : j < ks.length := by have := HLE.out; omega
      obtain ⟨i, hi1, hi2⟩ := HKD.out j hjk
      have cj := HKW.out j i hi1 wr HE.out.below
      have C1 := Lib.hid (CC.out ks[j] (List.getElem_mem hjk) i wr (hi2.below HE.out.below))
      have hstep := HDR.out j hjk
      rw [HR.out] at hstep
      obtain ⟨⟨q, gs⟩, hq⟩ : ∃ r, Rx.emptyAt ks[j] k = r := ⟨_, rfl⟩
      rw [hq] at C1 hstep
      have HST := Lib.hid hstep
      unfold ptr at C1 cj
      clear hi1 hi2 hstep hq hjk
      go_wp2_with fail
      refine C1.out.mono ?_
      rintro e w3 ⟨v, rfl, hb, ho⟩
      obtain ⟨a, c, rfl⟩ := ho.shape
      have E4 := Lib.hid ((HE.out.next hb).lay (emC q (.slice a gs.length c)))
      unfold emC at E4
      have OW := Lib.hid ((ho.below ((Below.refl _ _).alloc (Nat.le_refl _) (.cells #[.bool q, .slice a gs.length c] 112))).lower HE.out.below.size)
      clear hb ho cj
      cases q with
      | true =>
        obtain ⟨rfl, rfl⟩ : rb = true ∧ gs = rg := by
          have hq2 : (rb, rg) = (true, gs) := HST.out
          cases hq2
          exact ⟨rfl, rfl⟩
        have h5 : (w3.alloc (.cells #[.bool true, .slice a gs.length c] 112)).heap[w.heap.size]? = some (.cells (emC false (.slice none 0 0)) 112 (0, 0)) := E4.out.at w.heap.size (emC false (.slice none 0 0)) (by simp [emC])
        have E6 := Lib.hid (E4.out.row w.heap.size (emC false (.slice none 0 0)) (emC true (.slice a gs.length c)) (by simp [emC]))
        have hne : (w3.alloc (.cells #[.bool true, .slice a gs.length c] 112)).heap[w.heap.size]? = some (.cells (emC false (.slice none 0 0)) 112 (0, 0)) := h5
        have OW2 := Lib.hid (OW.out.move (w' := (w3.alloc (.cells #[.bool true, .slice a gs.length c] 112)).setRow w.heap.size (emC true (.slice a gs.length c))) (fun k hk => by
          unfold World.setRow
          simp only
          rw [Array.getElem?_modify, if_neg (fun e => OW.out.ne h5 (hk.trans (congrArg some (by first | exact e | exact e.symm))))]))
        clear hne
        go_upto_region 6 with (fail)
        go_wp2_with (refine wpList_store_row rfl 112 (.tmp 4) (.tmp 22) rfl w.heap.size (emC true (.slice a gs.length c)) rfl rfl 112 (emC false (.slice none 0 0)) h5 (by kernel_rfl) rfl emC_one ?_)
        refine bodyPost_ret (v := .agg (emC true (.slice a gs.length c))) ?_ ?_ ?_
        · exact results_cell_row rfl _ _ w.heap.size 112 (emC true (.slice a gs.length c)) (0, 0) _ rfl (E6.out.at _ _ (by simp)) Tryd.underlying112 rfl (by kernel_rfl)
        · rfl
        · exact ⟨_, rfl, E6.out.below, OW2.out⟩
      | false =>
        have hq2 := HST.out
        rw [if_neg (by simp)] at hq2
        have HN := Lib.hid hq2.symm
        have E5 := Lib.hid (show Es w _ [(w.heap.size, emC false (.slice none 0 0))] from ⟨E4.out.below, fun p hp => E4.out.rows p (List.mem_cons_of_mem _ hp)⟩)
        clear hq2
        go_wp2
        go_roundw
        case rel => exact ⟨j + 1, by omega, by go_num, E5, HN⟩
        case measure => simp [intOf]; omega
    · obtain rfl : j = L := by omega
      have hd : decide (j < j) = false := decide_eq_false (by omega)
      have hq2 := HR.out
      rw [← HLE.out, List.drop_length] at hq2
      have hq3 : (rb, rg) = (false, []) := hq2.symm
      cases hq3
      have h5 : wr.heap[w.heap.size]? = some (.cells (emC false (.slice none 0 0)) 112 (0, 0)) := HE.out.at w.heap.size (emC false (.slice none 0 0)) (by simp)
      have E6 := Lib.hid (HE.out.row w.heap.size (emC false (.slice none 0 0)) (emC false (.slice none 0 0)) (by simp))
      clear hq2
      go_upto_region 8 with (fail)
      go_wp2_with (refine wpList_store_row rfl 112 (.tmp 4) (.tmp 24) rfl w.heap.size (emC false (.slice none 0 0)) rfl rfl 112 (emC false (.slice none 0 0)) h5 (by kernel_rfl) rfl emC_one ?_)
      refine bodyPost_ret (v := .agg (emC false (.slice none 0 0))) ?_ ?_ ?_
      · exact results_cell_row rfl _ _ w.heap.size 112 (emC false (.slice none 0 0)) (0, 0) _ rfl (E6.out.at _ _ (by simp)) Tryd.underlying112 rfl (by kernel_rfl)
      · rfl
      · exact ⟨_, rfl, E6.out.below, OwnI.nil _ _⟩
end Go.Proofs.YtphighddlfabbaaDoor
