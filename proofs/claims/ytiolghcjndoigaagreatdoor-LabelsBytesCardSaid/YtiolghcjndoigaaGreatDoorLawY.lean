/-
  WALKS: the law of the bytes.
-/
import Derived.Test.YtiolghcjndoigaaGreatDoorLen
import Derived.Test.YtiolghcjndoigaaGreatDoorLawB
import Derived.Test.YtiolghcjndoigaaGreatDoorOpb
namespace Go.Proofs.YtiolghcjndoigaaGreatDoor
set_option linter.unusedVariables false
set_option linter.unusedSimpArgs false
open Go.RowKit Go.PlainAid Go.Shelf
theorem cap_of_trod {H : Type} {enc : TypeId × Value → H} {w : World} {base fuel : Nat} {spare : Nat → Bool} {held : Bool} {a : Option Addr} {len cap : Nat} {x : DataW H × List MemPlace}
    (h : DataW.trod enc Tryz.prog w base spare held fuel 83 [.slice a len cap] = some x) : len ≤ cap ∧ (a = none → cap = 0) := by
  rcases Go.Deep.open_slice Tryz.underlying83 h with ⟨hcs, _⟩ | ⟨ad, l, c, m, n, D, Pl, hcs, _, hl, hm, hmm, _, hi⟩
  · simp at hcs
    obtain ⟨rfl, rfl, rfl⟩ := hcs
    exact ⟨Nat.le_refl _, fun _ => rfl⟩
  · simp at hcs
    obtain ⟨rfl, rfl, rfl⟩ := hcs
    exact ⟨hl, fun h => by cases h⟩
theorem Labs.only {w w' : World} {a : Option Addr} {l : List Lm.Lb} {g : Nat} (h : Labs w a l) (hg : l ≠ [] → ∃ g', a = some ⟨g', 0, none⟩ ∧ g < g') (ho : Only [g] w w') : Labs w' a l := fun hn => by
  obtain ⟨b, off, ha, hlt, hc⟩ := h hn
  obtain ⟨g', ha', hg'⟩ := hg hn
  rw [ha] at ha'
  have hb : b = g' := by injection ha' with h; injection h
  have hne : b ∉ [g] := by simp; omega
  exact ⟨b, off, ha, Nat.lt_of_lt_of_le hlt ho.size, fun i hi => ⟨(ho.cell (p := ⟨b, off + i * 2, none⟩) hlt hne).trans (hc i hi).1, (ho.cell (p := ⟨b, off + i * 2 + 1, none⟩) hlt hne).trans (hc i hi).2⟩⟩
theorem Byt.bys {w : World} {a : Option Addr} {bs : List Nat} (h : Byt w a bs) (hB : IsB bs) (hl : bs.length ≤ maxLen) : Bys w a bs := by
  refine ⟨hl, hB, fun hn => ?_⟩
  rcases h with ⟨_, h⟩ | ⟨b, off, ha, hlt, hc⟩
  · exact absurd h hn
  · exact ⟨b, off, ha, hlt, hc⟩
theorem Bin.byt {w : World} {a : Option Addr} {c : Nat} {bs : List Nat} (h : Bin w a c bs) (hn : bs ≠ []) : Byt w a bs := by
  rcases h with ⟨_, _, h⟩ | ⟨ad, ha, hc⟩
  · exact absurd h hn
  · have h0 : 0 < bs.length := List.length_pos_iff.2 hn
    obtain ⟨b, off, spot⟩ := ad
    have hc0 := hc 0 h0
    have hspot : spot = none := by simpa [Addr.add] using World.cell?_spot hc0
    subst hspot
    refine .inr ⟨b, off, ha, ?_, fun i hi => ?_⟩
    · have := World.block_lt_of_cell? _ _ hc0
      simpa [Addr.add] using this
    · have := hc i hi
      rw [add_at] at this
      exact this
theorem Bin.bys {w : World} {a : Option Addr} {c : Nat} {bs : List Nat} (h : Bin w a c bs) (hB : IsB bs) (hl : bs.length ≤ maxLen) : Bys w a bs := by
  refine ⟨hl, hB, fun hn => ?_⟩
  exact ((h.byt hn).bys hB hl).2.2 hn
theorem Lent.byt {w : World} {g : Nat} {bs : List Nat} (h : Lent w g bs) : Byt w (some ⟨g, 0, none⟩) bs := by
  refine .inr ⟨g, 0, rfl, (Array.getElem?_eq_some_iff.1 h).1, fun i hi => ?_⟩
  rw [Nat.zero_add, h.cell]
  unfold cellsOf; rw [List.getElem?_map, List.getElem?_append_left hi, List.getElem?_eq_getElem hi]; rfl
theorem rdecode_nil (a : Option Addr) (c : Nat) (w : World) : Calls Tryz.prog 46 #[.slice a 0 c] w (RDecPost w []) := by
  go_enter Tryz.func46, Tryz.ntmps46
  go_wp2
  go_returns
  exact ⟨.slice none 0 0, 0, 70, [], rfl, .inl ⟨rfl, rfl, rfl, .inl rfl⟩, OwnL.nil _ _, Below.refl _ _⟩
theorem rdecode_bin (a : Option Addr) (c : Nat) (bs : List Nat) (hB : IsB bs) (hc : bs.length ≤ c) (hl : bs.length ≤ 1000000000) (w : World) (H : Bin w a c bs) : Calls Tryz.prog 46 #[.slice a bs.length c] w (RDecPost w bs) := by
  by_cases h : bs = []
  · subst h
    exact rdecode_nil a c w
  · exact rdecode_any a c bs hB hc hl w (H.byt h)
theorem encL_isB (l : List Lm.Lb) : IsB (encL l) := IsB.cons (by omega) (fun x hx => by
  obtain ⟨y, hy, hx⟩ := List.mem_flatMap.1 hx
  exact (IsB.app (textL_isB y.1) (textL_isB y.2)) x hx)
/-- what Encode gives -/
def encN (l : List Lm.Lb) : List Nat := if chkN l = 0 then encL l else []
theorem encN_ok (l : List Lm.Lb) : IsB (encN l) ∧ (encN l).length ≤ 200000 := by
  unfold encN
  by_cases h : chkN l = 0
  · rw [if_pos h]
    obtain ⟨h64, hbad⟩ := chk_zero h
    refine ⟨encL_isB l, ?_⟩
    have := flat1_len l (fun x hx => badB_size (hbad x hx))
    unfold encL
    rw [List.length_cons]
    omega
  · rw [if_neg h]
    exact ⟨IsB.nil, by simp⟩
theorem enc_is {l : List Lm.Lb} {c : Nat} {out : List Nat} (h : EncIs l c out) : c = chkN l ∧ out = encN l := by
  obtain ⟨h1, h2⟩ := h
  have hc := chk_same h1
  refine ⟨hc, ?_⟩
  unfold encN
  rcases h2 with ⟨h3, h4⟩ | ⟨h3, h4⟩
  · rw [if_pos (by omega)]; exact h4
  · rw [if_neg (by omega)]; exact h4
theorem decn_len {bs : List Nat} {n c : Nat} {out : List Lm.Lb} (h : DecN bs n c out) : out.length ≤ 64 := by
  rcases h with ⟨_, _, h, _⟩ | ⟨_, _, _, _, _, _, h, _⟩
  · rw [h]; simp
  · exact (chk_zero h).1
set_option maxRecDepth 100000 in
set_option maxHeartbeats 8000000 in
theorem law_bytes (a1 a2 : Option Addr) (c1 c2 : Nat) (l : List Lm.Lb) (bh : List Nat) (w : World) (H1 : Labs w a1 l) (H2 : Bin w a2 c2 bh) (hB : IsB bh) (l1 : l.length ≤ maxLen) (hc2 : bh.length ≤ c2) (hc0 : a2 = none → c2 = 0) :
    Calls Tryz.prog 6 #[.slice a1 l.length c1, .slice a2 bh.length c2] w (Gives w (.bool true)) := by
  have hmx : maxLen = 9223372036854775807 := rfl
  have M1 := Lib.hid (fun w H => much_any a1 c1 l w H (by omega))
  have CRE := Lib.hid (fun w H => rencode_any a1 c1 l w H l1)
  have CK := Lib.hid known_any
  have K1 := Lib.hid H1
  have K2 := Lib.hid H2
  have HBH := Lib.hid hB
  have HC2 := Lib.hid hc2
  have HC0 := Lib.hid hc0
  obtain ⟨n1, hn1⟩ : ∃ n, l.length = n := ⟨_, rfl⟩
  obtain ⟨n2, hn2⟩ : ∃ n, bh.length = n := ⟨_, rfl⟩
  have HN2 := Lib.hid hn2
  have HN1 := Lib.hid hn1
  rw [hn1] at M1 CRE ⊢
  rw [hn2] at ⊢
  clear H1 H2 hB l1 hn1 hn2 hmx hc2 hc0
  go_enter Tryz.func6, Tryz.ntmps6
  go_wp2_with fail
  refine (M1.out _ K1.out).mono ?_
  rintro e w1 ⟨b1, rfl, hbl, hfew⟩
  have B1 := Lib.hid hbl
  have HFW := Lib.hid hfew
  clear hbl hfew
  cases b1 with
  | true =>
    go_wp2
    go_ret
    exact ⟨rfl, B1.out⟩
  | false =>
    have CE := Lib.hid (fun w H => encode_any a1 c1 l w H (by have := (HFW.out rfl).1; omega))
    rw [HN1.out] at CE
    by_cases h2 : 20000 < n2
    · have d1 : decide ((n2 : Int) > 20000) = true := decide_eq_true (by omega)
      have d2 : decide ((20000 : Int) < (n2 : Int)) = true := decide_eq_true (by omega)
      have d3 : decide (20000 < n2) = true := decide_eq_true (by omega)
      go_wp2
      go_ret
      exact ⟨rfl, B1.out⟩
    have d1 : decide ((n2 : Int) > 20000) = false := decide_eq_false (by omega)
    have d2 : decide ((20000 : Int) < (n2 : Int)) = false := decide_eq_false (by omega)
    have d3 : decide (20000 < n2) = false := decide_eq_false (by omega)
    have HSM := Lib.hid (show bh.length ≤ 100000 by rw [HN2.out]; omega)
    have hmx : maxLen = 9223372036854775807 := rfl
    have CL := Lib.hid (fun w H => lent_any a2 bh c2 w H HC0.out HSM.out)
    have CD := Lib.hid (fun a w H => decode_any a (n2 + 2) bh HBH.out (by rw [HN2.out]; omega) (by have := HSM.out; omega) w H)
    have CW := Lib.hid (fun g w L H => whole_any g a2 bh c2 w L H HSM.out)
    have CR := Lib.hid (fun w H => rdecode_bin a2 c2 bh HBH.out HC2.out (by have := HSM.out; omega) w H)
    have HEN := Lib.hid (encN_ok l)
    rw [HN2.out] at CL CD CW CR
    obtain ⟨EL, hEL⟩ : ∃ E, encN l = E := ⟨_, rfl⟩
    have HEL := Lib.hid hEL
    rw [hEL] at HEN
    obtain ⟨R, hR⟩ : ∃ R, chkN l = R := ⟨_, rfl⟩
    have HR := Lib.hid hR
    have CSB := Lib.hid (fun a a' c c' w H H' => samebytes_any a a' EL c c' w H H')
    obtain ⟨m, hm⟩ : ∃ m, EL.length = m := ⟨_, rfl⟩
    have HM := Lib.hid hm
    rw [hm] at CSB
    have HMX := Lib.hid hmx
    clear hEL hR hm hmx
    go_wp2_with fail
    refine (CE.out _ (K1.out.below B1.out)).mono ?_
    rintro e w2 ⟨v2, c, out, rfl, henc, ho, _, hbl⟩
    obtain ⟨he1, he2⟩ := enc_is henc
    rw [HR.out] at he1
    rw [HEL.out] at he2
    rw [he2] at ho
    rw [he1]
    obtain ⟨ax, cx, rfl, hlx, hyx⟩ := ho.byt
    rw [HM.out]
    have B2 := Lib.hid (B1.out.trans (hbl.mono B1.out.size))
    have X2 := Lib.hid hyx
    clear henc ho hlx hyx hbl he1 he2
    go_wp2_with fail
    refine (CRE.out _ (K1.out.below B2.out)).mono ?_
    rintro e w3 ⟨v3, rfl, ho, hbl⟩
    have ho2 : Own w3 w2.heap.size v3 EL := by
      have h := ho
      rw [show (if chkN l = 0 then encL l else []) = encN l from rfl, HEL.out] at h
      exact h
    rw [HR.out]
    obtain ⟨aw, cw, rfl, hlw, hyw⟩ := ho2.byt
    rw [HM.out]
    have B3 := Lib.hid (B2.out.trans (hbl.mono B2.out.size))
    have X3 := Lib.hid (X2.out.below hbl)
    have W3 := Lib.hid hyw
    have D3 := Lib.hid (K2.out.below B3.out)
    clear ho ho2 hlw hyw hbl
    go_wp2_with fail
    refine (CL.out _ (D3.out.bys HBH.out (by have := HSM.out; have := HMX.out; omega))).mono ?_
    rintro e w4 ⟨g, hg, rfl, hL, hbl⟩
    rw [HN2.out]
    have L4 := Lib.hid hL
    have HG := Lib.hid hg
    have HG4 := Lib.hid (show g < w4.heap.size from (Array.getElem?_eq_some_iff.1 hL).1)
    have T4 := Lib.hid hbl
    clear hL hbl hg
    go_wp2_with fail
    refine (CD.out _ _ L4.out.byt).mono ?_
    rintro e w5 ⟨v5, m5, c5, out5, rfl, hd5, ho5, hbl⟩
    have HD5 := Lib.hid (decn_of hd5)
    obtain ⟨a5, cc5, rfl, hla5, hgo5⟩ := ho5.labs
    have L5 := Lib.hid (L4.out.below hbl)
    have Y5 := Lib.hid hla5
    have G5 := Lib.hid (show out5 ≠ [] → ∃ g', a5 = some ⟨g', 0, none⟩ ∧ g < g' from fun hn => by
      obtain ⟨g', h1, h2⟩ := hgo5 hn
      exact ⟨g', h1, by have := HG4.out; omega⟩)
    have T5 := Lib.hid (T4.out.trans (hbl.mono T4.out.size))
    obtain ⟨k5, hk5⟩ : ∃ k, out5.length = k := ⟨_, rfl⟩
    have HK5 := Lib.hid hk5
    rw [hk5]
    clear hd5 ho5 hla5 hgo5 hbl hk5
    go_wp2_with fail
    refine (CW.out g w5 L5.out ((D3.out.below T5.out).bys HBH.out (by have := HSM.out; have := HMX.out; omega))).mono ?_
    rintro e w6 ⟨rfl, hbl⟩
    have L6 := Lib.hid (L5.out.below hbl)
    have Y6 := Lib.hid (Y5.out.below hbl)
    have T6 := Lib.hid (T5.out.trans (hbl.mono T5.out.size))
    clear hbl
    have CS := Lib.hid (spoil_any g n2 (n2 + 2) w6 (by omega) (by omega) _ L6.out (by rw [List.size_toArray, cellsOf_length, List.length_append, HN2.out]; rfl))
    go_wp2_with fail
    refine CS.out.mono ?_
    rintro e w7 ⟨rfl, hon⟩
    have T7 := Lib.hid (T6.out.trans (hon.below T6.out.size (by have := HG.out; simp; omega)))
    have Y7 := Lib.hid (Y6.out.only G5.out hon)
    clear hon CS
    go_wp2_with fail
    refine (CR.out _ (D3.out.below T7.out)).mono ?_
    rintro e w8 ⟨v8, m8, c8, out8, rfl, hd8, ho8, hbl⟩
    obtain ⟨e1, e2, e3⟩ := decn_one hd8 HD5.out
    subst e1 e2
    rw [e3] at ho8
    obtain ⟨a8, cc8, rfl, hla8, _⟩ := ho8.labs
    rw [HK5.out]
    have T8 := Lib.hid (T7.out.trans (hbl.mono T7.out.size))
    have Y8 := Lib.hid (Y7.out.below hbl)
    have V8 := Lib.hid hla8
    clear hd8 ho8 hla8 hbl e3
    go_wp2_with fail
    refine (CK.out _).mono ?_
    rintro e w9 ⟨rfl, hbl⟩
    have T9 := Lib.hid (T8.out.trans (hbl.mono T8.out.size))
    have Y9 := Lib.hid (Y8.out.below hbl)
    have V9 := Lib.hid (V8.out.below hbl)
    clear hbl
    go_wp2_with fail
    refine (CSB.out _ _ _ _ _ ((X3.out.below T9.out).bys HEN.out.1 (by have := HEN.out.2; have := HMX.out; omega)) ((W3.out.below T9.out).bys HEN.out.1 (by have := HEN.out.2; have := HMX.out; omega))).mono ?_
    rintro e w10 ⟨rfl, hbl⟩
    have T10 := Lib.hid (T9.out.trans (hbl.mono T9.out.size))
    have Y10 := Lib.hid (Y9.out.below hbl)
    have V10 := Lib.hid (V9.out.below hbl)
    clear hbl
    have CSM := Lib.hid (show Calls Tryz.prog 18 #[.slice a5 out5.length cc5, .slice a8 out5.length cc8] w10 (Gives w10 (.bool true)) by
      have h := same_any a5 a8 cc5 cc8 out5 out5 w10 Y10.out V10.out (by have := decn_len HD5.out; have := HMX.out; omega)
      rw [decide_eq_true rfl] at h
      exact h)
    rw [HK5.out] at CSM
    go_wp2_with fail
    refine CSM.out.mono ?_
    rintro e w11 ⟨rfl, hbl⟩
    have B11 := Lib.hid (B3.out.trans ((T10.out.trans (hbl.mono T10.out.size)).mono B3.out.size))
    clear hbl
    go_wp2
    go_ret
    exact ⟨rfl, B11.out⟩
end Go.Proofs.YtiolghcjndoigaaGreatDoor
