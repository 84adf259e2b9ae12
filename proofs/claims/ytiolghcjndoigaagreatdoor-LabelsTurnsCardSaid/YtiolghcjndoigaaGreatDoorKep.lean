/-
  WALKS: the labels whose names are among some, or are not: the set of names, the closures, Keep, Without.
-/
import Derived.Test.YtiolghcjndoigaaGreatDoorRkp
import Derived.Test.YtiolghcjndoigaaGreatDoorBok
import Derived.Test.YtiolghcjndoigaaGreatDoorRda
import Derived.Maps.OwnSet
import Derived.StringKeys
namespace Go.Proofs.YtiolghcjndoigaaGreatDoor
set_option linter.unusedVariables false
set_option linter.unusedSimpArgs false
open Go.RowKit Go.PlainAid Go.Shelf
theorem hmf : ∀ (fn : Fn) (first cap : Array Value) (w : World), (Instr.makeFunc fn first cap).run Tryz.prog w = .ok (.func fn first cap) w := fun _ _ _ _ => rfl
theorem keyed9 : Maps.Keyed Tryz.prog 9 := Maps.string_keyed Tryz.underlying9
theorem zero230 (w : World) : (zeroValue 230).run Tryz.prog w = .ok (.agg #[]) w := by kernel_rfl
/-- a set of names: in the block mb, held by the cell cm -/
structure HasF (w : World) (B cm : Nat) (ss : List ByteArray) : Prop where
  lo : B ≤ cm
  out : ∃ (mb n : Nat) (D : DataW Unit), B ≤ mb ∧ w.heap[cm]? = some (.cells #[.map (some mb)] 229 (0, 0)) ∧ w.ownsMap Tryz.prog 9 unitElem mb n D ∧ ∀ s : ByteArray, s.size ≤ maxLen → Maps.has D (.string s.data.toList) = hasB ss s
theorem ownsMap_block {w w' : World} {mb n : Nat} {D : DataW Unit} (h : w.ownsMap Tryz.prog 9 unitElem mb n D) (hb : w'.heap[mb]? = w.heap[mb]?) : w'.ownsMap Tryz.prog 9 unitElem mb n D := by
  obtain ⟨es, clock, h1, h2⟩ := h
  exact ⟨es, clock, hb.trans h1, h2⟩
theorem HasF.stay {w w' : World} {B cm : Nat} {ss : List ByteArray} (h : HasF w B cm ss) (hb : Below w.heap.size w w') : HasF w' B cm ss := by
  obtain ⟨h1, mb, n, D, h2, h3, h4, h5⟩ := h
  exact ⟨h1, mb, n, D, h2, (hb.block cm (Array.getElem?_eq_some_iff.1 h3).1).trans h3, ownsMap_block h4 (hb.block mb h4.lt), h5⟩
theorem data_inj {s t : ByteArray} : Lit.string s.data.toList = Lit.string t.data.toList ↔ s = t := by
  constructor
  · intro h
    injection h with h
    apply ByteArray.ext
    exact Array.toList_inj.1 h
  · intro h; rw [h]
theorem hasB_snoc (ss : List ByteArray) (x s : ByteArray) : hasB (ss ++ [x]) s = (hasB ss s || decide (x = s)) := by simp [hasB]
theorem mkmap (n : Nat) (w : World) : (Instr.makeMap 229 (some (.int .i64 (n : Int)))).run Tryz.prog w = .ok (.map (some w.heap.size)) (w.alloc (.map #[] 0)) := by
  simp [Instr.makeMap, run_underlying Tryz.underlying229, asInt, asIntOf, Result.andThen]
theorem hasB_nil (s : ByteArray) : hasB [] s = false := rfl
set_option maxRecDepth 100000 in
set_option maxHeartbeats 2000000 in
theorem hasone_any (a : Option Addr) (c : Nat) (ss : List ByteArray) (w : World) (H : Strs w a ss) (hsz : ∀ s ∈ ss, s.size ≤ maxLen) (hl : ss.length ≤ 100000) :
    Calls Tryz.prog 94 #[.slice a ss.length c] w fun e w' => ∃ cm, e = .returned (.func (.func 115) #[] #[.pointer (some ⟨cm, 0, none⟩)]) ∧ HasF w' w.heap.size cm ss ∧ Below w.heap.size w w' := by
  have hmm := mkmap
  have hmf := hmf
  have HL := Lib.hid H
  have HSZ := Lib.hid hsz
  obtain ⟨n, hn⟩ : ∃ n, ss.length = n := ⟨_, rfl⟩
  have HN := Lib.hid hn
  rw [hn] at hl ⊢
  have HA := Lib.hid (show Below w.heap.size w ((w.alloc (.map #[] 0)).alloc (.cells #[.map (some w.heap.size)] 229)) from ((Below.refl _ w).alloc (Nat.le_refl _) _).alloc (by simp) _)
  have HC := Lib.hid (show ((w.alloc (.map #[] 0)).alloc (.cells #[.map (some w.heap.size)] 229)).heap[w.heap.size + 1]? = some (.cells #[.map (some w.heap.size)] 229 (0, 0)) by
    have := heap_alloc_new (w.alloc (.map #[] 0)) (.cells #[.map (some w.heap.size)] 229)
    simpa using this)
  have HM := Lib.hid ((World.ownsMap_made w Tryz.prog 9 (unitElem (H := Unit))).alloc (.cells #[.map (some w.heap.size)] 229))
  clear H hsz hn
  go_enter Tryz.func94, Tryz.ntmps94
  go_wp2
  go_loopw [11] (fun i wr => ∃ (k m : Nat) (D : DataW Unit), k ≤ n ∧ m ≤ k ∧ i = .int .i64 (k : Nat) ∧ Hid (wr.ownsMap Tryz.prog 9 unitElem w.heap.size m D) ∧ Hid (∀ s : ByteArray, s.size ≤ maxLen → Maps.has D (.string s.data.toList) = hasB (ss.take k) s) ∧ Hid (wr.heap[w.heap.size + 1]? = some (.cells #[.map (some w.heap.size)] 229 (0, 0))) ∧ Hid (Below w.heap.size w wr)) (fun i _ => n - (intOf i).toNat)
  case atStart => exact ⟨0, 0, _, Nat.zero_le _, Nat.le_refl _, rfl, HM, Lib.hid (fun s _ => rfl), HC, HA⟩
  case round =>
    obtain ⟨k, m, D, hk, hm, rfl, HO, HD, HCC, HB⟩ := hrel
    have cc : wr.cell? ⟨w.heap.size + 1, 0, none⟩ = some (.map (some w.heap.size)) := by rw [cell_of_row _ _ _ _ _ _ HCC.out]; rfl
    by_cases hkn : k < n
    · have da : decide ((k : Int) < (n : Int)) = true := decide_eq_true (by omega)
      have da2 : decide (k < n) = true := decide_eq_true hkn
      have i1 : (k : Int) < (n : Int) := by omega
      have hkl : k < ss.length := by rw [HN.out]; exact hkn
      obtain ⟨b1, o1, rfl, hb1, hc1⟩ := (HL.out.below HB.out) (by intro e; rw [e] at hkl; simp at hkl)
      have p1 := hc1 k hkl
      obtain ⟨x, hx⟩ : ∃ x, ss[k] = x := ⟨_, rfl⟩
      rw [hx] at p1
      have hxs : x.size ≤ maxLen := by rw [← hx]; exact HSZ.out _ (List.getElem_mem hkl)
      have hkey : keyOf Tryz.prog 9 (.string x) = some (.string x.data.toList) := Go.WideMaps.keyOf_string_mk Tryz.underlying9 hxs
      have HTK := Lib.hid (show ss.take (k + 1) = ss.take k ++ [x] by rw [List.take_succ_eq_append_getElem hkl, hx])
      clear hx hc1 hkl
      go_wp2_with (first | (at_mapUpdate; refine wpList_mapUpdate_own _ rfl _ _ _ 229 rfl 9 230 keyed9 Tryz.underlying229 (unitElem (H := Unit)) w.heap.size m D rfl HO.out (by unfold maxLen; omega) _ _ _ rfl rfl hkey _ [] unitElem_mk ?_; intro w1 hown1 hgrow1))
      have HO2 := Lib.hid hown1
      have HB2 := Lib.hid (HB.out.grown hgrow1 HB.out.size (fun j hj => by cases hj; exact Nat.le_refl _))
      have HC2 := Lib.hid (show w1.heap[w.heap.size + 1]? = some (.cells #[.map (some w.heap.size)] 229 (0, 0)) from (hgrow1.block _ (Array.getElem?_eq_some_iff.1 HCC.out).1 (by simp)).trans HCC.out)
      have HD2 := Lib.hid (show ∀ s : ByteArray, s.size ≤ maxLen → Maps.has (D.put (.string x.data.toList) (.agg [])) (.string s.data.toList) = hasB (ss.take (k + 1)) s from fun s hs => by
        rw [HTK.out, hasB_snoc]
        by_cases e : x = s
        · subst e
          rw [Maps.has_put_same HO.out.isMap (show WideAt.IsKeyLit (.string x.data.toList) from trivial), decide_eq_true rfl, Bool.or_true]
        · rw [Maps.has_put_other (fun h => e (data_inj.1 h.symm)), HD.out s hs, decide_eq_false e, Bool.or_false])
      clear hown1 hgrow1
      go_wp2
      go_roundw
      case rel => exact ⟨k + 1, m + 1, _, by omega, by omega, by simp, HO2, HD2, HC2, HB2⟩
      case measure => simp [intOf]; omega
    · have hkk : k = n := by omega
      subst hkk
      have da : decide ((k : Int) < (k : Int)) = false := decide_eq_false (by omega)
      have da2 : decide (k < k) = false := decide_eq_false (by omega)
      have HF := Lib.hid (show HasF wr w.heap.size (w.heap.size + 1) ss from ⟨by omega, w.heap.size, m, D, Nat.le_refl _, HCC.out, HO.out, fun s hs => by
        have h : ss.take k = ss := by rw [← HN.out]; exact List.take_length
        rw [HD.out s hs, h]⟩)
      go_wp2
      go_ret
      exact ⟨w.heap.size + 1, rfl, HF.out, HB.out⟩
set_option maxRecDepth 100000 in
set_option maxHeartbeats 1000000 in
theorem isone_any (B cm : Nat) (ss : List ByteArray) (x : Lm.Lb) (w : World) (H : HasF w B cm ss) (hs : x.1.size ≤ maxLen) :
    Calls Tryz.prog 115 #[.agg #[.string x.1, .string x.2], .pointer (some ⟨cm, 0, none⟩)] w (Gives w (.bool (hasB ss x.1))) := by
  obtain ⟨_, mb, n, D, _, h3, h4, h5⟩ := H
  have h5 := h5 x.1 hs
  have hkey : keyOf Tryz.prog 9 (.string x.1) = some (.string x.1.data.toList) := Go.WideMaps.keyOf_string_mk Tryz.underlying9 hs
  obtain ⟨R, hR⟩ : ∃ R, hasB ss x.1 = R := ⟨_, rfl⟩
  rw [hR] at h5 ⊢
  have H5 := Lib.hid h5
  have H4 := Lib.hid (h4.alloc (.cells #[.string x.1, .string x.2] 94))
  have HA := Lib.hid (show ∀ o : Obj, Below w.heap.size w ((w.alloc (.cells #[.string x.1, .string x.2] 94)).alloc o) from fun o => ((Below.refl _ w).alloc (Nat.le_refl _) _).alloc (by simp) o)
  have hcl := (Array.getElem?_eq_some_iff.1 h3).1
  have cc : (w.alloc (.cells #[.string x.1, .string x.2] 94)).cell? ⟨cm, 0, none⟩ = some (.map (some mb)) := by
    rw [cell_of_row _ _ _ _ _ _ ((Below.heap_alloc w _ cm hcl).trans h3)]; rfl
  clear h5 hR h3 h4 hs hcl
  go_enter Tryz.func115, Tryz.ntmps115
  go_wp2_with (first | (at_lookup; refine wpList_lookup_own_unit _ rfl _ _ 229 rfl 9 230 keyed9 Tryz.underlying229 (zero230 _) mb n D rfl H4.out _ _ rfl hkey ?_; rw [H5.out]))
  go_ret
  exact ⟨rfl, HA.out _⟩
set_option maxRecDepth 100000 in
set_option maxHeartbeats 1000000 in
theorem notone_any (cv cm : Nat) (B : Nat) (ss : List ByteArray) (x : Lm.Lb) (w : World) (H : HasF w B cm ss) (hs : x.1.size ≤ maxLen) (hc : w.cell? ⟨cv, 0, none⟩ = some (.func (.func 115) #[] #[.pointer (some ⟨cm, 0, none⟩)])) :
    Calls Tryz.prog 95 #[.agg #[.string x.1, .string x.2], .pointer (some ⟨cv, 0, none⟩)] w (Gives w (.bool (!hasB ss x.1))) := by
  have hb : Below w.heap.size w (w.alloc (.cells #[.string x.1, .string x.2] 94)) := (Below.refl _ w).alloc (Nat.le_refl _) _
  have CI := Lib.hid (isone_any B cm ss x _ (H.stay hb) hs)
  have HB := Lib.hid hb
  have cc : (w.alloc (.cells #[.string x.1, .string x.2] 94)).cell? ⟨cv, 0, none⟩ = some (.func (.func 115) #[] #[.pointer (some ⟨cm, 0, none⟩)]) := (hb.cell (p := ⟨cv, 0, none⟩) (World.block_lt_of_cell? _ _ hc)).trans hc
  obtain ⟨R, hR⟩ : ∃ R, hasB ss x.1 = R := ⟨_, rfl⟩
  rw [hR] at CI ⊢
  obtain ⟨x1, x2⟩ := x
  simp only at CI cc HB ⊢
  clear hb hc H hs hR
  go_enter Tryz.func95, Tryz.ntmps95
  go_wp2_with fail
  refine CI.out.mono ?_
  rintro e w1 ⟨rfl, hb⟩
  have B1 := Lib.hid (HB.out.trans (hb.mono HB.out.size))
  clear hb
  go_wp2
  go_ret
  exact ⟨rfl, B1.out⟩
set_option maxRecDepth 100000 in
set_option maxHeartbeats 4000000 in
theorem those115_any (cc : Nat) (p : Lm.Lb → Bool) (a : Option Addr) (c : Nat) (l : List Lm.Lb) (w : World) (H : Labs w a l) (hl : l.length ≤ 100000)
    (HP : ∀ x ∈ l, ∀ w', Below w.heap.size w w' → Calls Tryz.prog 115 #[.agg #[.string x.1, .string x.2], .pointer (some ⟨cc, 0, none⟩)] w' (Gives w' (.bool (p x)))) :
    Calls Tryz.prog 93 #[.slice a l.length c, .func (.func 115) #[] #[.pointer (some ⟨cc, 0, none⟩)]] w fun e w' => ∃ v, e = .returned v ∧ OwnL w' w.heap.size v (l.filter p) ∧ Below w.heap.size w w' := by
  obtain ⟨i0, hi, hz0, hz1, hz2⟩ := info_parts info94
  have HL := Lib.hid H
  have CP := Lib.hid HP
  obtain ⟨n, hn⟩ : ∃ n, l.length = n := ⟨_, rfl⟩
  have HN := Lib.hid hn
  rw [hn] at hl ⊢
  clear H HP hn
  go_enter Tryz.func93, Tryz.ntmps93
  go_wp2
  go_loopw [5, 10] (fun v i wr => ∃ k : Nat, k ≤ n ∧ i = .int .i64 (k : Nat) ∧ Hid (OwnL wr w.heap.size v ((l.take k).filter p)) ∧ Hid (((l.take k).filter p).length ≤ k) ∧ Hid (Below w.heap.size w wr)) (fun _ i _ => n - (intOf i).toNat)
  case atStart => exact ⟨0, Nat.zero_le _, rfl, Lib.hid (World.ownsRow_nil _ _ _ _), Lib.hid (Nat.zero_le _), Lib.hid (Below.refl _ _)⟩
  case round =>
    obtain ⟨k, hk, rfl, HO, HLE, HB⟩ := hrel
    obtain ⟨av, cv, rfl⟩ := Bk.owns_shape HO.out
    by_cases hkn : k < n
    · have da : decide ((k : Int) < (n : Int)) = true := decide_eq_true (by omega)
      have da2 : decide (k < n) = true := decide_eq_true hkn
      have i1 : (k : Int) < (n : Int) := by omega
      have hkl : k < l.length := by rw [HN.out]; exact hkn
      obtain ⟨b1, o1, rfl, hb1, hc1⟩ := (HL.out.below HB.out) (by intro e; rw [e] at hkl; simp at hkl)
      obtain ⟨p1, p2⟩ := hc1 k hkl
      have hmem : l[k] ∈ l := List.getElem_mem hkl
      have HTK0 := Lib.hid (show l.take (k + 1) = l.take k ++ [l[k]] from List.take_succ_eq_append_getElem hkl)
      obtain ⟨x, hx⟩ : ∃ x, l[k] = x := ⟨_, rfl⟩
      rw [hx] at p1 p2 hmem HTK0
      have HFL := Lib.hid (show (l.take (k + 1)).filter p = if p x = true then (l.take k).filter p ++ [x] else (l.take k).filter p by
        rw [HTK0.out, List.filter_append]
        cases h : p x <;> simp [h])
      have hA : Below wr.heap.size wr (wr.alloc (.cells #[.string x.1, .string x.2] 94)) := (Below.refl _ wr).alloc (Nat.le_refl _) _
      have HA := Lib.hid (HB.out.trans (hA.mono HB.out.size))
      have CX := Lib.hid (CP.out x hmem _ HA.out)
      have HOA := Lib.hid (HO.out.below hA)
      have HX0 := Lib.hid (heap_alloc_new wr (.cells #[.string x.1, .string x.2] 94))
      obtain ⟨L, hL⟩ : ∃ L, (l.take k).filter p = L := ⟨_, rfl⟩
      rw [hL] at HO HLE HOA HFL
      obtain ⟨m, hm⟩ : ∃ m, L.length = m := ⟨_, rfl⟩
      have HM := Lib.hid hm
      rw [hL, hm]
      rw [hm] at HLE HO HOA
      have HLE2 := HLE.out
      obtain ⟨q, hq⟩ : ∃ q, p x = q := ⟨_, rfl⟩
      rw [hq] at CX HFL
      clear hx hc1 hkl hmem hA hL hm hq
      go_wp2_with fail
      refine CX.out.mono ?_
      rintro e w1 ⟨rfl, hb⟩
      have B1 := Lib.hid (HA.out.trans (hb.mono HA.out.size))
      have O1 := Lib.hid (HOA.out.below hb)
      have X1 := Lib.hid ((hb.block wr.heap.size (by simp)).trans HX0.out)
      have y0 : w1.cell? ⟨wr.heap.size, 0, none⟩ = some (.string x.1) := by rw [cell_of_row _ _ _ _ _ _ X1.out]; rfl
      have y1 : w1.cell? ⟨wr.heap.size, 1, none⟩ = some (.string x.2) := by rw [cell_of_row _ _ _ _ _ _ X1.out]; rfl
      clear hb
      cases q with
      | true =>
        have HF2 := Lib.hid (show (l.take (k + 1)).filter p = L ++ [x] by rw [HFL.out, if_pos rfl])
        have HON : Hid (∀ o : Obj, (w1.alloc o).ownsRow w.heap.size 94 2 (.slice av m cv) m (L.flatMap enc2)) := Lib.hid (fun o => by have h := O1.out.below ((Below.refl w1.heap.size w1).alloc (Nat.le_refl _) o); unfold OwnL at h; rw [HM.out] at h; exact h)
        go_wp2_with (first
          | (at_builtin; refine (wpList_append_own _ rfl (.tmp 17) (.tmp 19) 22 rfl w.heap.size 94 i0 (.agg #[.string ⟨#[]⟩, .string ⟨#[]⟩]) 2 32 Tryz.underlying22 hi hz0 hz1 hz2 rfl (by decide) (.slice av m cv) m (L.flatMap enc2) rfl (HON.out _) ⟨w1.heap.size, 0, none⟩ 1 1 (enc2 x) rfl rfl (two_new w1 x) (by simp [Value.oneCell', enc2]) (by unfold maxLen; omega) (by omega) (by have := B1.out.size; simp; omega) ?_); intro v5 w5 hown5 hgr5 hne5
             have g1 : OwnL w5 w.heap.size v5 (L ++ [x]) := (by unfold OwnL; rw [List.length_append, List.flatMap_append, HM.out]; simpa using hown5)
             have N5 := Lib.hid ((B1.out.alloc B1.out.size (.cells #[.string x.1, .string x.2] 94)).grown hgr5 (by simp; have := B1.out.size; omega) (fun j hj => ownL_block O1.out j hj))
             have O5 := Lib.hid g1
             have HL5 := Lib.hid (show (L ++ [x]).length ≤ k + 1 by rw [List.length_append, HM.out]; simp; omega)
             obtain ⟨a5, c5, rfl⟩ := ownL_shape g1
             clear hown5 hgr5 hne5 g1)
          | fail)
        go_roundw
        case rel => exact ⟨k + 1, by omega, by simp, by rw [HF2.out]; exact Lib.hid (by have h := O5.out; simpa using h), by rw [HF2.out]; exact HL5, N5⟩
        case measure => simp [intOf]; omega
      | false =>
        have HF2 := Lib.hid (show (l.take (k + 1)).filter p = L by rw [HFL.out, if_neg (by simp)])
        have O2 := Lib.hid (show OwnL w1 w.heap.size (.slice av m cv) ((l.take (k + 1)).filter p) by rw [HF2.out]; exact O1.out)
        have L2 := Lib.hid (show ((l.take (k + 1)).filter p).length ≤ k + 1 by rw [HF2.out, HM.out]; omega)
        go_wp2
        go_roundw
        case rel => exact ⟨k + 1, by omega, by simp, O2, L2, B1⟩
        case measure => simp [intOf]; omega
    · have hkk : k = n := by omega
      have da : decide ((k : Int) < (n : Int)) = false := decide_eq_false (by omega)
      have da2 : decide (k < n) = false := decide_eq_false (by omega)
      have HF := Lib.hid (show OwnL wr w.heap.size (.slice av ((l.take k).filter p).length cv) (l.filter p) by
        have h : l.take k = l := by rw [hkk, ← HN.out]; exact List.take_length
        have h2 := HO.out
        rw [h] at h2 ⊢
        exact h2)
      obtain ⟨m, hm⟩ : ∃ m, ((l.take k).filter p).length = m := ⟨_, rfl⟩
      rw [hm] at HF ⊢
      clear hm
      go_wp2
      go_ret
      exact ⟨_, rfl, HF.out, HB.out⟩
set_option maxRecDepth 100000 in
set_option maxHeartbeats 4000000 in
theorem those95_any (cc : Nat) (p : Lm.Lb → Bool) (a : Option Addr) (c : Nat) (l : List Lm.Lb) (w : World) (H : Labs w a l) (hl : l.length ≤ 100000)
    (HP : ∀ x ∈ l, ∀ w', Below w.heap.size w w' → Calls Tryz.prog 95 #[.agg #[.string x.1, .string x.2], .pointer (some ⟨cc, 0, none⟩)] w' (Gives w' (.bool (p x)))) :
    Calls Tryz.prog 93 #[.slice a l.length c, .func (.func 95) #[] #[.pointer (some ⟨cc, 0, none⟩)]] w fun e w' => ∃ v, e = .returned v ∧ OwnL w' w.heap.size v (l.filter p) ∧ Below w.heap.size w w' := by
  obtain ⟨i0, hi, hz0, hz1, hz2⟩ := info_parts info94
  have HL := Lib.hid H
  have CP := Lib.hid HP
  obtain ⟨n, hn⟩ : ∃ n, l.length = n := ⟨_, rfl⟩
  have HN := Lib.hid hn
  rw [hn] at hl ⊢
  clear H HP hn
  go_enter Tryz.func93, Tryz.ntmps93
  go_wp2
  go_loopw [5, 10] (fun v i wr => ∃ k : Nat, k ≤ n ∧ i = .int .i64 (k : Nat) ∧ Hid (OwnL wr w.heap.size v ((l.take k).filter p)) ∧ Hid (((l.take k).filter p).length ≤ k) ∧ Hid (Below w.heap.size w wr)) (fun _ i _ => n - (intOf i).toNat)
  case atStart => exact ⟨0, Nat.zero_le _, rfl, Lib.hid (World.ownsRow_nil _ _ _ _), Lib.hid (Nat.zero_le _), Lib.hid (Below.refl _ _)⟩
  case round =>
    obtain ⟨k, hk, rfl, HO, HLE, HB⟩ := hrel
    obtain ⟨av, cv, rfl⟩ := Bk.owns_shape HO.out
    by_cases hkn : k < n
    · have da : decide ((k : Int) < (n : Int)) = true := decide_eq_true (by omega)
      have da2 : decide (k < n) = true := decide_eq_true hkn
      have i1 : (k : Int) < (n : Int) := by omega
      have hkl : k < l.length := by rw [HN.out]; exact hkn
      obtain ⟨b1, o1, rfl, hb1, hc1⟩ := (HL.out.below HB.out) (by intro e; rw [e] at hkl; simp at hkl)
      obtain ⟨p1, p2⟩ := hc1 k hkl
      have hmem : l[k] ∈ l := List.getElem_mem hkl
      have HTK0 := Lib.hid (show l.take (k + 1) = l.take k ++ [l[k]] from List.take_succ_eq_append_getElem hkl)
      obtain ⟨x, hx⟩ : ∃ x, l[k] = x := ⟨_, rfl⟩
      rw [hx] at p1 p2 hmem HTK0
      have HFL := Lib.hid (show (l.take (k + 1)).filter p = if p x = true then (l.take k).filter p ++ [x] else (l.take k).filter p by
        rw [HTK0.out, List.filter_append]
        cases h : p x <;> simp [h])
      have hA : Below wr.heap.size wr (wr.alloc (.cells #[.string x.1, .string x.2] 94)) := (Below.refl _ wr).alloc (Nat.le_refl _) _
      have HA := Lib.hid (HB.out.trans (hA.mono HB.out.size))
      have CX := Lib.hid (CP.out x hmem _ HA.out)
      have HOA := Lib.hid (HO.out.below hA)
      have HX0 := Lib.hid (heap_alloc_new wr (.cells #[.string x.1, .string x.2] 94))
      obtain ⟨L, hL⟩ : ∃ L, (l.take k).filter p = L := ⟨_, rfl⟩
      rw [hL] at HO HLE HOA HFL
      obtain ⟨m, hm⟩ : ∃ m, L.length = m := ⟨_, rfl⟩
      have HM := Lib.hid hm
      rw [hL, hm]
      rw [hm] at HLE HO HOA
      have HLE2 := HLE.out
      obtain ⟨q, hq⟩ : ∃ q, p x = q := ⟨_, rfl⟩
      rw [hq] at CX HFL
      clear hx hc1 hkl hmem hA hL hm hq
      go_wp2_with fail
      refine CX.out.mono ?_
      rintro e w1 ⟨rfl, hb⟩
      have B1 := Lib.hid (HA.out.trans (hb.mono HA.out.size))
      have O1 := Lib.hid (HOA.out.below hb)
      have X1 := Lib.hid ((hb.block wr.heap.size (by simp)).trans HX0.out)
      have y0 : w1.cell? ⟨wr.heap.size, 0, none⟩ = some (.string x.1) := by rw [cell_of_row _ _ _ _ _ _ X1.out]; rfl
      have y1 : w1.cell? ⟨wr.heap.size, 1, none⟩ = some (.string x.2) := by rw [cell_of_row _ _ _ _ _ _ X1.out]; rfl
      clear hb
      cases q with
      | true =>
        have HF2 := Lib.hid (show (l.take (k + 1)).filter p = L ++ [x] by rw [HFL.out, if_pos rfl])
        have HON : Hid (∀ o : Obj, (w1.alloc o).ownsRow w.heap.size 94 2 (.slice av m cv) m (L.flatMap enc2)) := Lib.hid (fun o => by have h := O1.out.below ((Below.refl w1.heap.size w1).alloc (Nat.le_refl _) o); unfold OwnL at h; rw [HM.out] at h; exact h)
        go_wp2_with (first
          | (at_builtin; refine (wpList_append_own _ rfl (.tmp 17) (.tmp 19) 22 rfl w.heap.size 94 i0 (.agg #[.string ⟨#[]⟩, .string ⟨#[]⟩]) 2 32 Tryz.underlying22 hi hz0 hz1 hz2 rfl (by decide) (.slice av m cv) m (L.flatMap enc2) rfl (HON.out _) ⟨w1.heap.size, 0, none⟩ 1 1 (enc2 x) rfl rfl (two_new w1 x) (by simp [Value.oneCell', enc2]) (by unfold maxLen; omega) (by omega) (by have := B1.out.size; simp; omega) ?_); intro v5 w5 hown5 hgr5 hne5
             have g1 : OwnL w5 w.heap.size v5 (L ++ [x]) := (by unfold OwnL; rw [List.length_append, List.flatMap_append, HM.out]; simpa using hown5)
             have N5 := Lib.hid ((B1.out.alloc B1.out.size (.cells #[.string x.1, .string x.2] 94)).grown hgr5 (by simp; have := B1.out.size; omega) (fun j hj => ownL_block O1.out j hj))
             have O5 := Lib.hid g1
             have HL5 := Lib.hid (show (L ++ [x]).length ≤ k + 1 by rw [List.length_append, HM.out]; simp; omega)
             obtain ⟨a5, c5, rfl⟩ := ownL_shape g1
             clear hown5 hgr5 hne5 g1)
          | fail)
        go_roundw
        case rel => exact ⟨k + 1, by omega, by simp, by rw [HF2.out]; exact Lib.hid (by have h := O5.out; simpa using h), by rw [HF2.out]; exact HL5, N5⟩
        case measure => simp [intOf]; omega
      | false =>
        have HF2 := Lib.hid (show (l.take (k + 1)).filter p = L by rw [HFL.out, if_neg (by simp)])
        have O2 := Lib.hid (show OwnL w1 w.heap.size (.slice av m cv) ((l.take (k + 1)).filter p) by rw [HF2.out]; exact O1.out)
        have L2 := Lib.hid (show ((l.take (k + 1)).filter p).length ≤ k + 1 by rw [HF2.out, HM.out]; omega)
        go_wp2
        go_roundw
        case rel => exact ⟨k + 1, by omega, by simp, O2, L2, B1⟩
        case measure => simp [intOf]; omega
    · have hkk : k = n := by omega
      have da : decide ((k : Int) < (n : Int)) = false := decide_eq_false (by omega)
      have da2 : decide (k < n) = false := decide_eq_false (by omega)
      have HF := Lib.hid (show OwnL wr w.heap.size (.slice av ((l.take k).filter p).length cv) (l.filter p) by
        have h : l.take k = l := by rw [hkk, ← HN.out]; exact List.take_length
        have h2 := HO.out
        rw [h] at h2 ⊢
        exact h2)
      obtain ⟨m, hm⟩ : ∃ m, ((l.take k).filter p).length = m := ⟨_, rfl⟩
      rw [hm] at HF ⊢
      clear hm
      go_wp2
      go_ret
      exact ⟨_, rfl, HF.out, HB.out⟩
set_option maxHeartbeats 1000000 in
theorem keep_any (a an : Option Addr) (c cn : Nat) (l : List Lm.Lb) (ss : List ByteArray) (w : World) (H : Labs w a l) (HS : Strs w an ss) (hz : l.length ≤ 100000) (hs : ss.length ≤ 100000) (hsz : ∀ s ∈ ss, s.size ≤ maxLen) (hlz : ∀ x ∈ l, x.1.size ≤ maxLen) :
    Calls Tryz.prog 25 #[.slice a l.length c, .slice an ss.length cn] w fun e w' => ∃ v, e = .returned v ∧ OwnL w' w.heap.size v (l.filter fun x => hasB ss x.1) ∧ Below w.heap.size w w' := by
  have C1 := Lib.hid (hasone_any an cn ss w HS hsz hs)
  have HLZ := Lib.hid hlz
  have C2 := Lib.hid (fun cm w1 (h : HasF w1 w.heap.size cm ss) hl => those115_any cm (fun x => hasB ss x.1) a c l w1 hl hz (fun x hx w' hb => isone_any w.heap.size cm ss x w' (h.stay hb) (HLZ.out x hx)))
  have HL := Lib.hid H
  obtain ⟨n1, hn1⟩ : ∃ n, l.length = n := ⟨_, rfl⟩
  obtain ⟨n2, hn2⟩ : ∃ n, ss.length = n := ⟨_, rfl⟩
  rw [hn1] at C2 ⊢
  rw [hn2] at C1 ⊢
  clear H HS hz hs hsz hlz hn1 hn2
  go_enter Tryz.func25, Tryz.ntmps25
  go_wp2_with fail
  refine C1.out.mono ?_
  rintro e w1 ⟨cm, rfl, hf, hb⟩
  have F1 := Lib.hid hf
  have B1 := Lib.hid hb
  clear hf hb
  go_wp2_with fail
  refine (C2.out cm _ F1.out (HL.out.below B1.out)).mono ?_
  rintro e w2 ⟨v, rfl, ho, hb⟩
  have O2 := Lib.hid (ho.lower B1.out.size)
  have B2 := Lib.hid (B1.out.trans (hb.mono B1.out.size))
  clear ho hb
  go_wp2
  go_ret
  exact ⟨_, rfl, O2.out, B2.out⟩
set_option maxHeartbeats 1000000 in
theorem without_any (a an : Option Addr) (c cn : Nat) (l : List Lm.Lb) (ss : List ByteArray) (w : World) (H : Labs w a l) (HS : Strs w an ss) (hz : l.length ≤ 100000) (hs : ss.length ≤ 100000) (hsz : ∀ s ∈ ss, s.size ≤ maxLen) (hlz : ∀ x ∈ l, x.1.size ≤ maxLen) :
    Calls Tryz.prog 26 #[.slice a l.length c, .slice an ss.length cn] w fun e w' => ∃ v, e = .returned v ∧ OwnL w' w.heap.size v (l.filter fun x => !hasB ss x.1) ∧ Below w.heap.size w w' := by
  have hmf := hmf
  have C1 := Lib.hid (hasone_any an cn ss w HS hsz hs)
  have HLZ := Lib.hid hlz
  have C2 := Lib.hid (fun cv cm w1 (h : HasF w1 w.heap.size cm ss) (hc : w1.cell? ⟨cv, 0, none⟩ = some (.func (.func 115) #[] #[.pointer (some ⟨cm, 0, none⟩)])) hl => those95_any cv (fun x => !hasB ss x.1) a c l w1 hl hz (fun x hx w' hb => notone_any cv cm w.heap.size ss x w' (h.stay hb) (HLZ.out x hx) ((hb.cell (p := ⟨cv, 0, none⟩) (World.block_lt_of_cell? _ _ hc)).trans hc)))
  have HL := Lib.hid H
  obtain ⟨n1, hn1⟩ : ∃ n, l.length = n := ⟨_, rfl⟩
  obtain ⟨n2, hn2⟩ : ∃ n, ss.length = n := ⟨_, rfl⟩
  rw [hn1] at C2 ⊢
  rw [hn2] at C1 ⊢
  clear H HS hz hs hsz hlz hn1 hn2
  go_enter Tryz.func26, Tryz.ntmps26
  go_wp2_with fail
  refine C1.out.mono ?_
  rintro e w1 ⟨cm, rfl, hf, hb⟩
  have cc0 : (w1.alloc (.cells #[.nilFunc] 96)).cell? ⟨w1.heap.size, 0, none⟩ = some .nilFunc := by rw [cell_of_row _ _ _ _ _ _ (heap_alloc_new w1 _)]; rfl
  have ff0 : (w1.alloc (.cells #[.nilFunc] 96)).frozen? ⟨w1.heap.size, 0, none⟩ = false := frozen_of_row _ _ _ _ _ (heap_alloc_new w1 _)
  have hst : (store ⟨w1.heap.size, 0, none⟩ (.func (.func 115) #[] #[.pointer (some ⟨cm, 0, none⟩)])).run Tryz.prog (w1.alloc (.cells #[.nilFunc] 96)) = .ok () ((w1.alloc (.cells #[.nilFunc] 96)).setCell ⟨w1.heap.size, 0, none⟩ (.func (.func 115) #[] #[.pointer (some ⟨cm, 0, none⟩)])) := by
    rw [run_store Tryz.prog _ _ _ _ rfl]
    simp only [cc0, ff0]
    rfl
  have hA := (Below.refl w1.heap.size w1).alloc (Nat.le_refl _) (.cells #[.func (.func 115) #[] #[.pointer (some ⟨cm, 0, none⟩)]] 96)
  have F1 := Lib.hid (hf.stay hA)
  have B1 := Lib.hid (hb.trans (hA.mono hb.size))
  have HC := Lib.hid (show (w1.alloc (.cells #[.func (.func 115) #[] #[.pointer (some ⟨cm, 0, none⟩)]] 96)).cell? ⟨w1.heap.size, 0, none⟩ = some (.func (.func 115) #[] #[.pointer (some ⟨cm, 0, none⟩)]) by
    rw [cell_of_row _ _ _ _ _ _ (heap_alloc_new w1 _)]; rfl)
  clear hf hb hA
  go_wp2_with fail
  refine (C2.out _ cm _ F1.out HC.out (HL.out.below B1.out)).mono ?_
  rintro e w2 ⟨v, rfl, ho, hb⟩
  have O2 := Lib.hid (ho.lower B1.out.size)
  have B2 := Lib.hid (B1.out.trans (hb.mono B1.out.size))
  clear ho hb
  go_wp2
  go_ret
  exact ⟨_, rfl, O2.out, B2.out⟩
end Go.Proofs.YtiolghcjndoigaaGreatDoor
