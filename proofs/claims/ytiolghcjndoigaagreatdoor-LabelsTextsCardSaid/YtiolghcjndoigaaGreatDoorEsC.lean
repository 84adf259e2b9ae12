/-
  WALKS: escapes that stand for a code point; all escapes.
-/
import Derived.Test.YtiolghcjndoigaaGreatDoorEsB
namespace Go.Proofs.YtiolghcjndoigaaGreatDoor
set_option linter.unusedVariables false
set_option linter.unusedSimpArgs false
open Go.RowKit Go.PlainAid
theorem rune_ok {v : Nat} (h : v < 55296 ∨ (57343 < v ∧ v ≤ 1114111)) : IntKind.i32.wrap (v : Int) = (v : Int) ∧ Lib.validRune (v : Int) = true := by
  constructor
  · rw [IntKind.wrap_i32]; omega
  · unfold Lib.validRune; exact decide_eq_true (by omega)
theorem rune_bad {v : Nat} (hv : v < 4294967296) (h : ¬ (v < 55296 ∨ (57343 < v ∧ v ≤ 1114111))) : ∃ r : Int, IntKind.i32.wrap (v : Int) = r ∧ Lib.validRune r = false ∧ -2147483648 ≤ r ∧ r ≤ 2147483647 := by
  refine ⟨_, rfl, ?_, ?_, ?_⟩
  · unfold Lib.validRune; rw [IntKind.wrap_i32]; exact decide_eq_false (by omega)
  · rw [IntKind.wrap_i32]; omega
  · rw [IntKind.wrap_i32]; omega
/-- behind AppendRune -/
theorem rune_put {B : Nat} {w1 w2 : World} {ob : Obj} {o v2 : Value} {ds xs : List Nat} {n m : Nat} (h : w2.ownsRow B 5 1 v2 (n + m) (cellsOf ds ++ cellsOf xs)) (hn : ds.length = n) (hm : xs.length = m) (hO : Own w1 B o ds) (hg : (w1.alloc ob).grownBy w2 o.ownBlock) (hs : B ≤ w1.heap.size) :
    Own w2 B v2 (ds ++ xs) ∧ Below B w1 w2 :=
  own_grow (ds := ds) (es := xs) h (by rw [hn, hm]) (own_block hO) hg ((Below.refl B w1).alloc hs ob) (by simp; omega)
theorem below_put {B : Nat} {w1 w2 : World} {ob : Obj} {o : Value} {ds : List Nat} (hO : Own w1 B o ds) (hg : (w1.alloc ob).grownBy w2 o.ownBlock) (hs : B ≤ w1.heap.size) : Below B w1 w2 :=
  ((Below.refl B w1).alloc hs ob).grown hg (by simp; omega) (own_block hO)
set_option maxRecDepth 100000 in
set_option maxHeartbeats 2000000 in
theorem codepoint_any (R B : Nat) (bs : List Nat) (p n : Nat) (b : Value) (es : List Nat) (hB : IsB bs) (hl : bs.length ≤ 200000) (hn : n ≤ 8) (hp : p ≤ bs.length)
    (hes : es.length ≤ 200000) (hRB : R < B) (w : World) (hBw : B ≤ w.heap.size) (H : Rd w R bs p) (HO : Own w B b es) :
    Calls Tryz.prog 193 #[.pointer (some ⟨R, 0, none⟩), b, .int .i64 (n : Int)] w (EscPostR R B bs es w (runeR (p + n) (digsN bs 16 n p 0))) := by
  obtain ⟨ao, co, rfl⟩ := own_shape HO
  have CD := Lib.hid (digits_any R bs p n 16 hB hl hn (by decide) hp w H)
  obtain ⟨T, hT⟩ : ∃ T, digsN bs 16 n p 0 = T := ⟨_, rfl⟩
  rw [hT] at CD ⊢
  obtain ⟨m, hm⟩ : ∃ m, es.length = m := ⟨_, rfl⟩
  rw [hm] at HO hes ⊢
  have HM := Lib.hid hm
  have HO := Lib.hid HO
  have HRB := Lib.hid hRB
  have HBW := Lib.hid hBw
  have CA := Lib.hid (fun (r : Int) (h0 : -2147483648 ≤ r) (h1 : r ≤ 2147483647) (w1 : World) (hO1 : Own w1 B (.slice ao m co) es) (hS : B ≤ w1.heap.size) =>
    Tryz.utf8_AppendRune_plain B (.slice ao m co) m (cellsOf es) r h0 h1 w1 (by unfold Own at hO1; rw [hm] at hO1; exact hO1) (by omega) hS)
  have CV := Lib.hid (fun (r : Int) (w1 : World) => Tryz.utf8_ValidRune r w1)
  obtain ⟨pn, hpn⟩ : ∃ q, p + n = q := ⟨_, rfl⟩
  rw [hpn] at CD ⊢
  clear hT hm hRB hBw hB hl H hn hp hpn
  cases T with
  | val v =>
    by_cases hv : v < 55296 ∨ (57343 < v ∧ v ≤ 1114111)
    · obtain ⟨e1, hval⟩ := rune_ok hv
      have HC := Lib.hid (utf8L_cells hv)
      have b1 : -2147483648 ≤ (v : Int) := by omega
      have b2 : (v : Int) ≤ 2147483647 := by omega
      rw [show runeR pn (.val v) = .ok (utf8L v) pn from if_pos hv]
      clear hv
      go_enter Tryz.func193, Tryz.ntmps193
      go_wp2_with fail
      refine CD.out.mono ?_
      rintro e w1 ⟨rfl, ho, hr, _⟩
      have O1 := Lib.hid (HO.out.only ho (fun k hk hb => by have h1 := own_block HO.out k hb; have h2 := HRB.out; simp at hk; omega))
      have K1 := Lib.hid (Kept.of_only ho HBW.out)
      have S1 := Lib.hid (Nat.le_trans HBW.out ho.size)
      have R1 := Lib.hid hr
      clear ho hr
      go_wp2_with fail
      refine (CV.out _ _).mono ?_
      rintro e w2 ⟨rfl, rfl⟩
      have CA2 := Lib.hid (CA.out (v : Int) b1 b2 _ O1.out S1.out)
      go_wp2_with fail
      refine CA2.out.mono ?_
      rintro e w3 ⟨v3, rfl, g1, ob, g2⟩
      rw [HC.out] at g1
      obtain ⟨k1, k2⟩ := rune_put g1 HM.out (by simp [cellsOf]) O1.out g2 S1.out
      have G1 := Lib.hid k1
      have G2 := Lib.hid k2
      clear g1 g2 k1 k2
      go_wp2
      go_ret2
      exact ⟨_, rfl, G1.out, K1.out.trans (Kept.of_below G2.out), R1.out.below G2.out HRB.out⟩
    · rw [show runeR pn (.val v) = .bad from if_neg hv]
      go_enter Tryz.func193, Tryz.ntmps193
      go_wp2_with fail
      refine CD.out.mono ?_
      rintro e w1 ⟨rfl, ho, hr, hlt⟩
      obtain ⟨r, e1, hval, b1, b2⟩ := rune_bad hlt hv
      clear hv hlt
      have O1 := Lib.hid (HO.out.only ho (fun k hk hb => by have h1 := own_block HO.out k hb; have h2 := HRB.out; simp at hk; omega))
      have K1 := Lib.hid (Kept.of_only ho HBW.out)
      have S1 := Lib.hid (Nat.le_trans HBW.out ho.size)
      clear ho hr
      go_wp2_with fail
      refine (CV.out _ _).mono ?_
      rintro e w2 ⟨rfl, rfl⟩
      have CA2 := Lib.hid (CA.out r b1 b2 _ O1.out S1.out)
      go_wp2_with fail
      refine CA2.out.mono ?_
      rintro e w3 ⟨v3, rfl, g1, ob, g2⟩
      have G2 := Lib.hid (below_put O1.out g2 S1.out)
      clear g1 g2
      go_wp2
      go_ret2
      exact ⟨_, _, rfl, K1.out.trans (Kept.of_below G2.out), .inl rfl⟩
  | bad =>
    have e0 : IntKind.i32.wrap 0 = 0 := rfl
    rw [show runeR pn .bad = .bad from rfl]
    go_enter Tryz.func193, Tryz.ntmps193
    go_wp2_with fail
    refine CD.out.mono ?_
    rintro e w1 ⟨x, rfl, ho, he⟩
    have O1 := Lib.hid (HO.out.only ho (fun k hk hb => by have h1 := own_block HO.out k hb; have h2 := HRB.out; simp at hk; omega))
    have K1 := Lib.hid (Kept.of_only ho HBW.out)
    have S1 := Lib.hid (Nat.le_trans HBW.out ho.size)
    have HE := Lib.hid he
    clear ho
    rcases he with rfl | ⟨q, a, rfl, _⟩
    · have CA2 := Lib.hid (CA.out 0 (by decide) (by decide) _ O1.out S1.out)
      go_wp2_with fail
      refine CA2.out.mono ?_
      rintro e w3 ⟨v3, rfl, g1, ob, g2⟩
      have HX := Lib.hid (HE.out.grown g2 (fun q hq => own_far HO.out hq))
      have G2 := Lib.hid (below_put O1.out g2 S1.out)
      clear g1 g2
      go_wp2
      go_ret2
      exact ⟨_, _, rfl, K1.out.trans (Kept.of_below G2.out), HX.out⟩
    · have CA2 := Lib.hid (CA.out 0 (by decide) (by decide) _ O1.out S1.out)
      go_wp2_with fail
      refine CA2.out.mono ?_
      rintro e w3 ⟨v3, rfl, g1, ob, g2⟩
      have HX := Lib.hid (HE.out.grown g2 (fun q hq => own_far HO.out hq))
      have G2 := Lib.hid (below_put O1.out g2 S1.out)
      clear g1 g2
      go_wp2
      go_ret2
      exact ⟨_, _, rfl, K1.out.trans (Kept.of_below G2.out), HX.out⟩
  | ends =>
    have e0 : IntKind.i32.wrap 0 = 0 := rfl
    rw [show runeR pn .ends = .ends from rfl]
    go_enter Tryz.func193, Tryz.ntmps193
    go_wp2_with fail
    refine CD.out.mono ?_
    rintro e w1 ⟨x, rfl, ho, he⟩
    have O1 := Lib.hid (HO.out.only ho (fun k hk hb => by have h1 := own_block HO.out k hb; have h2 := HRB.out; simp at hk; omega))
    have K1 := Lib.hid (Kept.of_only ho HBW.out)
    have S1 := Lib.hid (Nat.le_trans HBW.out ho.size)
    have HE := Lib.hid he
    clear ho
    obtain ⟨q, rfl⟩ := endErr_ne he
    clear he
    have CA2 := Lib.hid (CA.out 0 (by decide) (by decide) _ O1.out S1.out)
    go_wp2_with fail
    refine CA2.out.mono ?_
    rintro e w3 ⟨v3, rfl, g1, ob, g2⟩
    have HX := Lib.hid (HE.out.grown g2 (fun q hq => own_far HO.out hq))
    have G2 := Lib.hid (below_put O1.out g2 S1.out)
    clear g1 g2
    go_wp2
    go_ret2
    exact ⟨_, _, rfl, K1.out.trans (Kept.of_below G2.out), HX.out⟩
def escF (bs : List Nat) (p : Nat) : EscR := match bs[p]? with
  | none => .ends
  | some c => match simpleV c with
    | some v => .ok [v] (p + 1)
    | none => if c = 120 then byteR (p + 1 + 2) (digsN bs 16 2 (p + 1) 0) else if c = 117 then runeR (p + 1 + 4) (digsN bs 16 4 (p + 1) 0) else if c = 85 then runeR (p + 1 + 8) (digsN bs 16 8 (p + 1) 0)
      else if 48 ≤ c ∧ c ≤ 55 then byteR (p + 3) (digsN bs 8 3 p 0) else .bad
theorem escF_none {bs : List Nat} {p : Nat} (h : bs[p]? = none) : escF bs p = .ends := by unfold escF; rw [h]
theorem escF_simple {bs : List Nat} {p c v : Nat} (h : bs[p]? = some c) (hs : simpleV c = some v) : escF bs p = .ok [v] (p + 1) := by unfold escF; rw [h]; show (match simpleV c with | some v => EscR.ok [v] (p + 1) | none => _) = _; rw [hs]
theorem escF_other {bs : List Nat} {p c : Nat} (h : bs[p]? = some c) (hs : simpleV c = none) : escF bs p = (if c = 120 then byteR (p + 1 + 2) (digsN bs 16 2 (p + 1) 0) else if c = 117 then runeR (p + 1 + 4) (digsN bs 16 4 (p + 1) 0) else if c = 85 then runeR (p + 1 + 8) (digsN bs 16 8 (p + 1) 0)
      else if 48 ≤ c ∧ c ≤ 55 then byteR (p + 3) (digsN bs 8 3 p 0) else .bad) := by unfold escF; rw [h]; show (match simpleV c with | some v => EscR.ok [v] (p + 1) | none => _) = _; rw [hs]
theorem escPost_of {R B : Nat} {bs es : List Nat} {w w1 : World} {T : EscR} {e : Ending} {w' : World} (h : EscPostR R B bs es w1 T e w') (hk : Kept B R w w1) : EscPostR R B bs es w T e w' := by
  cases T with
  | ok xs p => obtain ⟨v, h1, h2, h3, h4⟩ := h; exact ⟨v, h1, h2, hk.trans h3, h4⟩
  | bad => obtain ⟨v, x, h1, h2, h3⟩ := h; exact ⟨v, x, h1, hk.trans h2, h3.mono hk.size⟩
  | ends => obtain ⟨v, x, h1, h2, h3⟩ := h; exact ⟨v, x, h1, hk.trans h2, h3.mono hk.size⟩
set_option maxRecDepth 100000 in
set_option maxHeartbeats 4000000 in
theorem escape_c120 (R B : Nat) (bs : List Nat) (p : Nat) (ao : Option Addr) (co : Nat) (es : List Nat) (hB : IsB bs) (hl : bs.length ≤ 200000) (hes : es.length ≤ 200000) (hRB : R < B) (w : World) (hBw : B ≤ w.heap.size) (H : Rd w R bs p) (HO : Own w B (.slice ao es.length co) es) (hc : bs[p]? = some 120) :
    Calls Tryz.prog 180 #[.pointer (some ⟨R, 0, none⟩), .slice ao es.length co] w (EscPostR R B bs es w (byteR (p + 1 + 2) (digsN bs 16 2 (p + 1) 0))) := by
  have CN := Lib.hid (next_at R bs p 120 hB hc hl w H)
  have hlt := (List.getElem?_eq_some_iff.1 hc).1
  have hp1 : p + 1 ≤ bs.length := by omega
  have hp : p ≤ bs.length := by omega
  have HOh := Lib.hid HO
  have HRB := Lib.hid hRB
  have HBW := Lib.hid hBw
  have OO := Lib.hid (fun (w1 : World) (ho : Only [R] w w1) => HO.only ho (fun k hk hb => by have h1 := own_block HO k hb; simp at hk; omega))
  have CB := Lib.hid (fun (w1 : World) (hBw : B ≤ w1.heap.size) (H : Rd w1 R bs (p + 1)) (HO1 : Own w1 B (.slice ao es.length co) es) => byteof_any R B bs (p + 1) 2 16 (.slice ao es.length co) es hB hl (by decide) (by decide) hp1 hes hRB w1 hBw H HO1)
  obtain ⟨T, hT⟩ : ∃ T, byteR (p + 1 + 2) (digsN bs 16 2 (p + 1) 0) = T := ⟨_, rfl⟩
  rw [hT] at CB ⊢
  obtain ⟨m, hm⟩ : ∃ m, es.length = m := ⟨_, rfl⟩
  rw [hm] at CB OO ⊢
  clear hlt hT hm hRB hBw hB hl H hp1 hp hc hes HO HOh
  go_enter Tryz.func180, Tryz.ntmps180
  go_wp2_with fail
  refine CN.out.mono ?_
  rintro e w1 ⟨rfl, ho, hr⟩
  have K1 := Lib.hid (Kept.of_only (B := B) ho HBW.out)
  have CB2 := Lib.hid (CB.out w1 (Nat.le_trans HBW.out ho.size) hr (OO.out w1 ho))
  clear ho hr
  go_wp2_with fail
  refine CB2.out.mono ?_
  intro e w2 hpost
  have hpost2 := escPost_of hpost K1.out
  clear hpost
  cases T with
  | ok xs p2 =>
    obtain ⟨v, rfl, r1, r2, r3⟩ := hpost2
    have RR := Lib.hid (And.intro r1 (And.intro r2 r3))
    clear r1 r2 r3
    go_wp2
    go_ret2
    exact ⟨_, rfl, RR.out.1, RR.out.2.1, RR.out.2.2⟩
  | bad =>
    obtain ⟨v, x, rfl, r1, r2⟩ := hpost2
    have RR := Lib.hid (And.intro r1 r2)
    clear r1 r2
    go_wp2
    go_ret2
    exact ⟨_, _, rfl, RR.out.1, RR.out.2⟩
  | ends =>
    obtain ⟨v, x, rfl, r1, r2⟩ := hpost2
    have RR := Lib.hid (And.intro r1 r2)
    clear r1 r2
    go_wp2
    go_ret2
    exact ⟨_, _, rfl, RR.out.1, RR.out.2⟩
set_option maxRecDepth 100000 in
set_option maxHeartbeats 4000000 in
theorem escape_c117 (R B : Nat) (bs : List Nat) (p : Nat) (ao : Option Addr) (co : Nat) (es : List Nat) (hB : IsB bs) (hl : bs.length ≤ 200000) (hes : es.length ≤ 200000) (hRB : R < B) (w : World) (hBw : B ≤ w.heap.size) (H : Rd w R bs p) (HO : Own w B (.slice ao es.length co) es) (hc : bs[p]? = some 117) :
    Calls Tryz.prog 180 #[.pointer (some ⟨R, 0, none⟩), .slice ao es.length co] w (EscPostR R B bs es w (runeR (p + 1 + 4) (digsN bs 16 4 (p + 1) 0))) := by
  have CN := Lib.hid (next_at R bs p 117 hB hc hl w H)
  have hlt := (List.getElem?_eq_some_iff.1 hc).1
  have hp1 : p + 1 ≤ bs.length := by omega
  have hp : p ≤ bs.length := by omega
  have HOh := Lib.hid HO
  have HRB := Lib.hid hRB
  have HBW := Lib.hid hBw
  have OO := Lib.hid (fun (w1 : World) (ho : Only [R] w w1) => HO.only ho (fun k hk hb => by have h1 := own_block HO k hb; simp at hk; omega))
  have CB := Lib.hid (fun (w1 : World) (hBw : B ≤ w1.heap.size) (H : Rd w1 R bs (p + 1)) (HO1 : Own w1 B (.slice ao es.length co) es) => codepoint_any R B bs (p + 1) 4 (.slice ao es.length co) es hB hl (by decide) hp1 hes hRB w1 hBw H HO1)
  obtain ⟨T, hT⟩ : ∃ T, runeR (p + 1 + 4) (digsN bs 16 4 (p + 1) 0) = T := ⟨_, rfl⟩
  rw [hT] at CB ⊢
  obtain ⟨m, hm⟩ : ∃ m, es.length = m := ⟨_, rfl⟩
  rw [hm] at CB OO ⊢
  clear hlt hT hm hRB hBw hB hl H hp1 hp hc hes HO HOh
  go_enter Tryz.func180, Tryz.ntmps180
  go_wp2_with fail
  refine CN.out.mono ?_
  rintro e w1 ⟨rfl, ho, hr⟩
  have K1 := Lib.hid (Kept.of_only (B := B) ho HBW.out)
  have CB2 := Lib.hid (CB.out w1 (Nat.le_trans HBW.out ho.size) hr (OO.out w1 ho))
  clear ho hr
  go_wp2_with fail
  refine CB2.out.mono ?_
  intro e w2 hpost
  have hpost2 := escPost_of hpost K1.out
  clear hpost
  cases T with
  | ok xs p2 =>
    obtain ⟨v, rfl, r1, r2, r3⟩ := hpost2
    have RR := Lib.hid (And.intro r1 (And.intro r2 r3))
    clear r1 r2 r3
    go_wp2
    go_ret2
    exact ⟨_, rfl, RR.out.1, RR.out.2.1, RR.out.2.2⟩
  | bad =>
    obtain ⟨v, x, rfl, r1, r2⟩ := hpost2
    have RR := Lib.hid (And.intro r1 r2)
    clear r1 r2
    go_wp2
    go_ret2
    exact ⟨_, _, rfl, RR.out.1, RR.out.2⟩
  | ends =>
    obtain ⟨v, x, rfl, r1, r2⟩ := hpost2
    have RR := Lib.hid (And.intro r1 r2)
    clear r1 r2
    go_wp2
    go_ret2
    exact ⟨_, _, rfl, RR.out.1, RR.out.2⟩
set_option maxRecDepth 100000 in
set_option maxHeartbeats 4000000 in
theorem escape_c85 (R B : Nat) (bs : List Nat) (p : Nat) (ao : Option Addr) (co : Nat) (es : List Nat) (hB : IsB bs) (hl : bs.length ≤ 200000) (hes : es.length ≤ 200000) (hRB : R < B) (w : World) (hBw : B ≤ w.heap.size) (H : Rd w R bs p) (HO : Own w B (.slice ao es.length co) es) (hc : bs[p]? = some 85) :
    Calls Tryz.prog 180 #[.pointer (some ⟨R, 0, none⟩), .slice ao es.length co] w (EscPostR R B bs es w (runeR (p + 1 + 8) (digsN bs 16 8 (p + 1) 0))) := by
  have CN := Lib.hid (next_at R bs p 85 hB hc hl w H)
  have hlt := (List.getElem?_eq_some_iff.1 hc).1
  have hp1 : p + 1 ≤ bs.length := by omega
  have hp : p ≤ bs.length := by omega
  have HOh := Lib.hid HO
  have HRB := Lib.hid hRB
  have HBW := Lib.hid hBw
  have OO := Lib.hid (fun (w1 : World) (ho : Only [R] w w1) => HO.only ho (fun k hk hb => by have h1 := own_block HO k hb; simp at hk; omega))
  have CB := Lib.hid (fun (w1 : World) (hBw : B ≤ w1.heap.size) (H : Rd w1 R bs (p + 1)) (HO1 : Own w1 B (.slice ao es.length co) es) => codepoint_any R B bs (p + 1) 8 (.slice ao es.length co) es hB hl (by decide) hp1 hes hRB w1 hBw H HO1)
  obtain ⟨T, hT⟩ : ∃ T, runeR (p + 1 + 8) (digsN bs 16 8 (p + 1) 0) = T := ⟨_, rfl⟩
  rw [hT] at CB ⊢
  obtain ⟨m, hm⟩ : ∃ m, es.length = m := ⟨_, rfl⟩
  rw [hm] at CB OO ⊢
  clear hlt hT hm hRB hBw hB hl H hp1 hp hc hes HO HOh
  go_enter Tryz.func180, Tryz.ntmps180
  go_wp2_with fail
  refine CN.out.mono ?_
  rintro e w1 ⟨rfl, ho, hr⟩
  have K1 := Lib.hid (Kept.of_only (B := B) ho HBW.out)
  have CB2 := Lib.hid (CB.out w1 (Nat.le_trans HBW.out ho.size) hr (OO.out w1 ho))
  clear ho hr
  go_wp2_with fail
  refine CB2.out.mono ?_
  intro e w2 hpost
  have hpost2 := escPost_of hpost K1.out
  clear hpost
  cases T with
  | ok xs p2 =>
    obtain ⟨v, rfl, r1, r2, r3⟩ := hpost2
    have RR := Lib.hid (And.intro r1 (And.intro r2 r3))
    clear r1 r2 r3
    go_wp2
    go_ret2
    exact ⟨_, rfl, RR.out.1, RR.out.2.1, RR.out.2.2⟩
  | bad =>
    obtain ⟨v, x, rfl, r1, r2⟩ := hpost2
    have RR := Lib.hid (And.intro r1 r2)
    clear r1 r2
    go_wp2
    go_ret2
    exact ⟨_, _, rfl, RR.out.1, RR.out.2⟩
  | ends =>
    obtain ⟨v, x, rfl, r1, r2⟩ := hpost2
    have RR := Lib.hid (And.intro r1 r2)
    clear r1 r2
    go_wp2
    go_ret2
    exact ⟨_, _, rfl, RR.out.1, RR.out.2⟩
set_option maxRecDepth 100000 in
set_option maxHeartbeats 4000000 in
theorem escape_none (R B : Nat) (bs : List Nat) (p : Nat) (ao : Option Addr) (co : Nat) (es : List Nat) (hB : IsB bs) (hl : bs.length ≤ 200000) (hes : es.length ≤ 200000) (hRB : R < B) (w : World) (hBw : B ≤ w.heap.size) (H : Rd w R bs p) (HO : Own w B (.slice ao es.length co) es) (hc : bs[p]? = none) (hp : p ≤ bs.length) :
    Calls Tryz.prog 180 #[.pointer (some ⟨R, 0, none⟩), .slice ao es.length co] w (EscPostR R B bs es w (.ends)) := by
  have hpe : p = bs.length := by have h1 := List.getElem?_eq_none_iff.1 hc; omega
  subst hpe
  have CN := Lib.hid (next_end R bs w H)
  have HBW := Lib.hid hBw
  clear hB hl hp hes hRB hBw H HO hc
  go_enter Tryz.func180, Tryz.ntmps180
  go_wp2_with fail
  refine CN.out.mono ?_
  rintro e w1 ⟨x, rfl, hb, he⟩
  obtain ⟨q, rfl⟩ := endErr_ne he
  have HE := Lib.hid he
  have HB1 := Lib.hid hb
  clear he hb
  go_wp2
  go_ret2
  exact ⟨_, _, rfl, Kept.of_below (HB1.out.mono HBW.out), HE.out⟩
set_option maxRecDepth 100000 in
set_option maxHeartbeats 4000000 in
theorem escape_other (R B : Nat) (bs : List Nat) (p : Nat) (ao : Option Addr) (co : Nat) (es : List Nat) (hB : IsB bs) (hl : bs.length ≤ 200000) (hes : es.length ≤ 200000) (hRB : R < B) (w : World) (hBw : B ≤ w.heap.size) (H : Rd w R bs p) (HO : Own w B (.slice ao es.length co) es) (c : Nat) (hc : bs[p]? = some c) (hn : c ≠ 92 ∧ c ≠ 39 ∧ c ≠ 34 ∧ c ≠ 97 ∧ c ≠ 98 ∧ c ≠ 102 ∧ c ≠ 110 ∧ c ≠ 114 ∧ c ≠ 116 ∧ c ≠ 118 ∧ c ≠ 120 ∧ c ≠ 117 ∧ c ≠ 85 ∧ c ≠ 48 ∧ c ≠ 49 ∧ c ≠ 50 ∧ c ≠ 51 ∧ c ≠ 52 ∧ c ≠ 53 ∧ c ≠ 54 ∧ c ≠ 55) :
    Calls Tryz.prog 180 #[.pointer (some ⟨R, 0, none⟩), .slice ao es.length co] w (EscPostR R B bs es w (.bad)) := by
  have CN := Lib.hid (next_at R bs p c hB hc hl w H)
  have HBW := Lib.hid hBw
  have hlt := (List.getElem?_eq_some_iff.1 hc).1
  have hc256 := at_isB hB hc
  have e1 : IntKind.i64.wrap (((p + 1 : Nat) : Int) - 1) = ((p : Nat) : Int) := by rw [IntKind.wrap_i64]; omega
  have t92 : ((c : Int) == 92) = false := by simp; omega
  have t39 : ((c : Int) == 39) = false := by simp; omega
  have t34 : ((c : Int) == 34) = false := by simp; omega
  have t97 : ((c : Int) == 97) = false := by simp; omega
  have t98 : ((c : Int) == 98) = false := by simp; omega
  have t102 : ((c : Int) == 102) = false := by simp; omega
  have t110 : ((c : Int) == 110) = false := by simp; omega
  have t114 : ((c : Int) == 114) = false := by simp; omega
  have t116 : ((c : Int) == 116) = false := by simp; omega
  have t118 : ((c : Int) == 118) = false := by simp; omega
  have t120 : ((c : Int) == 120) = false := by simp; omega
  have t117 : ((c : Int) == 117) = false := by simp; omega
  have t85 : ((c : Int) == 85) = false := by simp; omega
  have t48 : ((c : Int) == 48) = false := by simp; omega
  have t49 : ((c : Int) == 49) = false := by simp; omega
  have t50 : ((c : Int) == 50) = false := by simp; omega
  have t51 : ((c : Int) == 51) = false := by simp; omega
  have t52 : ((c : Int) == 52) = false := by simp; omega
  have t53 : ((c : Int) == 53) = false := by simp; omega
  have t54 : ((c : Int) == 54) = false := by simp; omega
  have t55 : ((c : Int) == 55) = false := by simp; omega
  clear hn hRB hBw hB hl H hc hes HO hlt hc256
  go_enter Tryz.func180, Tryz.ntmps180
  go_wp2_with fail
  refine CN.out.mono ?_
  rintro e w1 ⟨rfl, ho, hr⟩
  have K1 := Lib.hid (Kept.of_only (B := B) ho HBW.out)
  have O1 := Lib.hid ho
  have h1 := hr.c1
  have S1 := Lib.hid (Nat.le_trans HBW.out ho.size)
  clear ho hr
  obtain ⟨P1, hP1⟩ : ∃ P1, p + 1 = P1 := ⟨_, rfl⟩
  rw [hP1] at h1 e1
  clear hP1
  go_wp2_with fail
  go_region
  all_goals go_wp2
  all_goals go_ret2
  all_goals exact ⟨_, _, rfl, K1.out.trans (Kept.of_below (below_drewN ((Below.refl B w1).alloc S1.out _) 1)), .inr ⟨_, _, rfl, heap_alloc_new _ _, O1.out.size⟩⟩
end Go.Proofs.YtiolghcjndoigaaGreatDoor
