/-
  WALKS: octal escapes.
-/
import Derived.Test.YtiolghcjndoigaaGreatDoorEsO
namespace Go.Proofs.YtiolghcjndoigaaGreatDoor
set_option linter.unusedVariables false
set_option linter.unusedSimpArgs false
open Go.RowKit Go.PlainAid
set_option maxRecDepth 100000 in
set_option maxHeartbeats 4000000 in
theorem escape_c52 (R B : Nat) (bs : List Nat) (p : Nat) (ao : Option Addr) (co : Nat) (es : List Nat) (hB : IsB bs) (hl : bs.length ≤ 200000) (hes : es.length ≤ 200000) (hRB : R < B) (w : World) (hBw : B ≤ w.heap.size) (H : Rd w R bs p) (HO : Own w B (.slice ao es.length co) es) (hc : bs[p]? = some 52) :
    Calls Tryz.prog 180 #[.pointer (some ⟨R, 0, none⟩), .slice ao es.length co] w (EscPostR R B bs es w (byteR (p + 3) (digsN bs 8 3 p 0))) := by
  have CN := Lib.hid (next_at R bs p 52 hB hc hl w H)
  have hlt := (List.getElem?_eq_some_iff.1 hc).1
  have hp1 : p + 1 ≤ bs.length := by omega
  have hp : p ≤ bs.length := by omega
  have HOh := Lib.hid HO
  have HRB := Lib.hid hRB
  have HBW := Lib.hid hBw
  have OO := Lib.hid (fun (w1 : World) (ho : Only [R] w w1) => HO.only ho (fun k hk hb => by have h1 := own_block HO k hb; simp at hk; omega))
  have e9 : IntKind.i64.wrap (((p + 1 : Nat) : Int) - 1) = ((p : Nat) : Int) := by rw [IntKind.wrap_i64]; omega
  have CB := Lib.hid (fun (w1 : World) (hBw : B ≤ w1.heap.size) (H : Rd w1 R bs p) (HO1 : Own w1 B (.slice ao es.length co) es) => byteof_any R B bs p 3 8 (.slice ao es.length co) es hB hl (by decide) (by decide) hp hes hRB w1 hBw H HO1)
  obtain ⟨T, hT⟩ : ∃ T, byteR (p + 3) (digsN bs 8 3 p 0) = T := ⟨_, rfl⟩
  rw [hT] at CB ⊢
  obtain ⟨m, hm⟩ : ∃ m, es.length = m := ⟨_, rfl⟩
  rw [hm] at CB OO ⊢
  clear hlt hT hm hRB hBw hB hl H hp1 hp hc hes HO HOh
  go_enter Tryz.func180, Tryz.ntmps180
  go_wp2_with fail
  refine CN.out.mono ?_
  rintro e w1 ⟨rfl, ho, hr⟩
  have K1 := Lib.hid (Kept.of_only (B := B) ho HBW.out)
  have f1 := hr.fz 1
  have h1 := hr.c1
  have CB2 := Lib.hid (CB.out (w1.setCell ⟨R, 1, none⟩ (.int .i64 ((p : Nat) : Int))) (by simp [World.setCell]; exact Nat.le_trans HBW.out ho.size) (hr.set p) (OO.out _ (ho.setCell (.inl (by simp)) _)))
  have K2 := Lib.hid (K1.out.trans (Kept.of_only (B := B) ((Only.refl [R] w1).setCell (p := ⟨R, 1, none⟩) (.inl (by simp)) (.int .i64 ((p : Nat) : Int))) (Nat.le_trans HBW.out ho.size)))
  clear ho hr
  obtain ⟨P1, hP1⟩ : ∃ P1, p + 1 = P1 := ⟨_, rfl⟩
  rw [hP1] at h1 e9
  clear hP1
  go_wp2_with fail
  refine CB2.out.mono ?_
  intro e w2 hpost
  have hpost2 := escPost_of hpost K2.out
  clear hpost
  cases T with
  | ok xs p2 =>
    obtain ⟨v, rfl, r1, r2, r3⟩ := hpost2
    have RR := Lib.hid (And.intro r1 (And.intro r2 r3))
    clear r1 r2 r3
    go_wp2
    go_ret2
    exact ⟨_, rfl, RR.out.1, RR.out.2.1, RR.out.2.2⟩
  | bad =>
    obtain ⟨v, x, rfl, r1, r2⟩ := hpost2
    have RR := Lib.hid (And.intro r1 r2)
    clear r1 r2
    go_wp2
    go_ret2
    exact ⟨_, _, rfl, RR.out.1, RR.out.2⟩
  | ends =>
    obtain ⟨v, x, rfl, r1, r2⟩ := hpost2
    have RR := Lib.hid (And.intro r1 r2)
    clear r1 r2
    go_wp2
    go_ret2
    exact ⟨_, _, rfl, RR.out.1, RR.out.2⟩
set_option maxRecDepth 100000 in
set_option maxHeartbeats 4000000 in
theorem escape_c53 (R B : Nat) (bs : List Nat) (p : Nat) (ao : Option Addr) (co : Nat) (es : List Nat) (hB : IsB bs) (hl : bs.length ≤ 200000) (hes : es.length ≤ 200000) (hRB : R < B) (w : World) (hBw : B ≤ w.heap.size) (H : Rd w R bs p) (HO : Own w B (.slice ao es.length co) es) (hc : bs[p]? = some 53) :
    Calls Tryz.prog 180 #[.pointer (some ⟨R, 0, none⟩), .slice ao es.length co] w (EscPostR R B bs es w (byteR (p + 3) (digsN bs 8 3 p 0))) := by
  have CN := Lib.hid (next_at R bs p 53 hB hc hl w H)
  have hlt := (List.getElem?_eq_some_iff.1 hc).1
  have hp1 : p + 1 ≤ bs.length := by omega
  have hp : p ≤ bs.length := by omega
  have HOh := Lib.hid HO
  have HRB := Lib.hid hRB
  have HBW := Lib.hid hBw
  have OO := Lib.hid (fun (w1 : World) (ho : Only [R] w w1) => HO.only ho (fun k hk hb => by have h1 := own_block HO k hb; simp at hk; omega))
  have e9 : IntKind.i64.wrap (((p + 1 : Nat) : Int) - 1) = ((p : Nat) : Int) := by rw [IntKind.wrap_i64]; omega
  have CB := Lib.hid (fun (w1 : World) (hBw : B ≤ w1.heap.size) (H : Rd w1 R bs p) (HO1 : Own w1 B (.slice ao es.length co) es) => byteof_any R B bs p 3 8 (.slice ao es.length co) es hB hl (by decide) (by decide) hp hes hRB w1 hBw H HO1)
  obtain ⟨T, hT⟩ : ∃ T, byteR (p + 3) (digsN bs 8 3 p 0) = T := ⟨_, rfl⟩
  rw [hT] at CB ⊢
  obtain ⟨m, hm⟩ : ∃ m, es.length = m := ⟨_, rfl⟩
  rw [hm] at CB OO ⊢
  clear hlt hT hm hRB hBw hB hl H hp1 hp hc hes HO HOh
  go_enter Tryz.func180, Tryz.ntmps180
  go_wp2_with fail
  refine CN.out.mono ?_
  rintro e w1 ⟨rfl, ho, hr⟩
  have K1 := Lib.hid (Kept.of_only (B := B) ho HBW.out)
  have f1 := hr.fz 1
  have h1 := hr.c1
  have CB2 := Lib.hid (CB.out (w1.setCell ⟨R, 1, none⟩ (.int .i64 ((p : Nat) : Int))) (by simp [World.setCell]; exact Nat.le_trans HBW.out ho.size) (hr.set p) (OO.out _ (ho.setCell (.inl (by simp)) _)))
  have K2 := Lib.hid (K1.out.trans (Kept.of_only (B := B) ((Only.refl [R] w1).setCell (p := ⟨R, 1, none⟩) (.inl (by simp)) (.int .i64 ((p : Nat) : Int))) (Nat.le_trans HBW.out ho.size)))
  clear ho hr
  obtain ⟨P1, hP1⟩ : ∃ P1, p + 1 = P1 := ⟨_, rfl⟩
  rw [hP1] at h1 e9
  clear hP1
  go_wp2_with fail
  refine CB2.out.mono ?_
  intro e w2 hpost
  have hpost2 := escPost_of hpost K2.out
  clear hpost
  cases T with
  | ok xs p2 =>
    obtain ⟨v, rfl, r1, r2, r3⟩ := hpost2
    have RR := Lib.hid (And.intro r1 (And.intro r2 r3))
    clear r1 r2 r3
    go_wp2
    go_ret2
    exact ⟨_, rfl, RR.out.1, RR.out.2.1, RR.out.2.2⟩
  | bad =>
    obtain ⟨v, x, rfl, r1, r2⟩ := hpost2
    have RR := Lib.hid (And.intro r1 r2)
    clear r1 r2
    go_wp2
    go_ret2
    exact ⟨_, _, rfl, RR.out.1, RR.out.2⟩
  | ends =>
    obtain ⟨v, x, rfl, r1, r2⟩ := hpost2
    have RR := Lib.hid (And.intro r1 r2)
    clear r1 r2
    go_wp2
    go_ret2
    exact ⟨_, _, rfl, RR.out.1, RR.out.2⟩
set_option maxRecDepth 100000 in
set_option maxHeartbeats 4000000 in
theorem escape_c54 (R B : Nat) (bs : List Nat) (p : Nat) (ao : Option Addr) (co : Nat) (es : List Nat) (hB : IsB bs) (hl : bs.length ≤ 200000) (hes : es.length ≤ 200000) (hRB : R < B) (w : World) (hBw : B ≤ w.heap.size) (H : Rd w R bs p) (HO : Own w B (.slice ao es.length co) es) (hc : bs[p]? = some 54) :
    Calls Tryz.prog 180 #[.pointer (some ⟨R, 0, none⟩), .slice ao es.length co] w (EscPostR R B bs es w (byteR (p + 3) (digsN bs 8 3 p 0))) := by
  have CN := Lib.hid (next_at R bs p 54 hB hc hl w H)
  have hlt := (List.getElem?_eq_some_iff.1 hc).1
  have hp1 : p + 1 ≤ bs.length := by omega
  have hp : p ≤ bs.length := by omega
  have HOh := Lib.hid HO
  have HRB := Lib.hid hRB
  have HBW := Lib.hid hBw
  have OO := Lib.hid (fun (w1 : World) (ho : Only [R] w w1) => HO.only ho (fun k hk hb => by have h1 := own_block HO k hb; simp at hk; omega))
  have e9 : IntKind.i64.wrap (((p + 1 : Nat) : Int) - 1) = ((p : Nat) : Int) := by rw [IntKind.wrap_i64]; omega
  have CB := Lib.hid (fun (w1 : World) (hBw : B ≤ w1.heap.size) (H : Rd w1 R bs p) (HO1 : Own w1 B (.slice ao es.length co) es) => byteof_any R B bs p 3 8 (.slice ao es.length co) es hB hl (by decide) (by decide) hp hes hRB w1 hBw H HO1)
  obtain ⟨T, hT⟩ : ∃ T, byteR (p + 3) (digsN bs 8 3 p 0) = T := ⟨_, rfl⟩
  rw [hT] at CB ⊢
  obtain ⟨m, hm⟩ : ∃ m, es.length = m := ⟨_, rfl⟩
  rw [hm] at CB OO ⊢
  clear hlt hT hm hRB hBw hB hl H hp1 hp hc hes HO HOh
  go_enter Tryz.func180, Tryz.ntmps180
  go_wp2_with fail
  refine CN.out.mono ?_
  rintro e w1 ⟨rfl, ho, hr⟩
  have K1 := Lib.hid (Kept.of_only (B := B) ho HBW.out)
  have f1 := hr.fz 1
  have h1 := hr.c1
  have CB2 := Lib.hid (CB.out (w1.setCell ⟨R, 1, none⟩ (.int .i64 ((p : Nat) : Int))) (by simp [World.setCell]; exact Nat.le_trans HBW.out ho.size) (hr.set p) (OO.out _ (ho.setCell (.inl (by simp)) _)))
  have K2 := Lib.hid (K1.out.trans (Kept.of_only (B := B) ((Only.refl [R] w1).setCell (p := ⟨R, 1, none⟩) (.inl (by simp)) (.int .i64 ((p : Nat) : Int))) (Nat.le_trans HBW.out ho.size)))
  clear ho hr
  obtain ⟨P1, hP1⟩ : ∃ P1, p + 1 = P1 := ⟨_, rfl⟩
  rw [hP1] at h1 e9
  clear hP1
  go_wp2_with fail
  refine CB2.out.mono ?_
  intro e w2 hpost
  have hpost2 := escPost_of hpost K2.out
  clear hpost
  cases T with
  | ok xs p2 =>
    obtain ⟨v, rfl, r1, r2, r3⟩ := hpost2
    have RR := Lib.hid (And.intro r1 (And.intro r2 r3))
    clear r1 r2 r3
    go_wp2
    go_ret2
    exact ⟨_, rfl, RR.out.1, RR.out.2.1, RR.out.2.2⟩
  | bad =>
    obtain ⟨v, x, rfl, r1, r2⟩ := hpost2
    have RR := Lib.hid (And.intro r1 r2)
    clear r1 r2
    go_wp2
    go_ret2
    exact ⟨_, _, rfl, RR.out.1, RR.out.2⟩
  | ends =>
    obtain ⟨v, x, rfl, r1, r2⟩ := hpost2
    have RR := Lib.hid (And.intro r1 r2)
    clear r1 r2
    go_wp2
    go_ret2
    exact ⟨_, _, rfl, RR.out.1, RR.out.2⟩
set_option maxRecDepth 100000 in
set_option maxHeartbeats 4000000 in
theorem escape_c55 (R B : Nat) (bs : List Nat) (p : Nat) (ao : Option Addr) (co : Nat) (es : List Nat) (hB : IsB bs) (hl : bs.length ≤ 200000) (hes : es.length ≤ 200000) (hRB : R < B) (w : World) (hBw : B ≤ w.heap.size) (H : Rd w R bs p) (HO : Own w B (.slice ao es.length co) es) (hc : bs[p]? = some 55) :
    Calls Tryz.prog 180 #[.pointer (some ⟨R, 0, none⟩), .slice ao es.length co] w (EscPostR R B bs es w (byteR (p + 3) (digsN bs 8 3 p 0))) := by
  have CN := Lib.hid (next_at R bs p 55 hB hc hl w H)
  have hlt := (List.getElem?_eq_some_iff.1 hc).1
  have hp1 : p + 1 ≤ bs.length := by omega
  have hp : p ≤ bs.length := by omega
  have HOh := Lib.hid HO
  have HRB := Lib.hid hRB
  have HBW := Lib.hid hBw
  have OO := Lib.hid (fun (w1 : World) (ho : Only [R] w w1) => HO.only ho (fun k hk hb => by have h1 := own_block HO k hb; simp at hk; omega))
  have e9 : IntKind.i64.wrap (((p + 1 : Nat) : Int) - 1) = ((p : Nat) : Int) := by rw [IntKind.wrap_i64]; omega
  have CB := Lib.hid (fun (w1 : World) (hBw : B ≤ w1.heap.size) (H : Rd w1 R bs p) (HO1 : Own w1 B (.slice ao es.length co) es) => byteof_any R B bs p 3 8 (.slice ao es.length co) es hB hl (by decide) (by decide) hp hes hRB w1 hBw H HO1)
  obtain ⟨T, hT⟩ : ∃ T, byteR (p + 3) (digsN bs 8 3 p 0) = T := ⟨_, rfl⟩
  rw [hT] at CB ⊢
  obtain ⟨m, hm⟩ : ∃ m, es.length = m := ⟨_, rfl⟩
  rw [hm] at CB OO ⊢
  clear hlt hT hm hRB hBw hB hl H hp1 hp hc hes HO HOh
  go_enter Tryz.func180, Tryz.ntmps180
  go_wp2_with fail
  refine CN.out.mono ?_
  rintro e w1 ⟨rfl, ho, hr⟩
  have K1 := Lib.hid (Kept.of_only (B := B) ho HBW.out)
  have f1 := hr.fz 1
  have h1 := hr.c1
  have CB2 := Lib.hid (CB.out (w1.setCell ⟨R, 1, none⟩ (.int .i64 ((p : Nat) : Int))) (by simp [World.setCell]; exact Nat.le_trans HBW.out ho.size) (hr.set p) (OO.out _ (ho.setCell (.inl (by simp)) _)))
  have K2 := Lib.hid (K1.out.trans (Kept.of_only (B := B) ((Only.refl [R] w1).setCell (p := ⟨R, 1, none⟩) (.inl (by simp)) (.int .i64 ((p : Nat) : Int))) (Nat.le_trans HBW.out ho.size)))
  clear ho hr
  obtain ⟨P1, hP1⟩ : ∃ P1, p + 1 = P1 := ⟨_, rfl⟩
  rw [hP1] at h1 e9
  clear hP1
  go_wp2_with fail
  refine CB2.out.mono ?_
  intro e w2 hpost
  have hpost2 := escPost_of hpost K2.out
  clear hpost
  cases T with
  | ok xs p2 =>
    obtain ⟨v, rfl, r1, r2, r3⟩ := hpost2
    have RR := Lib.hid (And.intro r1 (And.intro r2 r3))
    clear r1 r2 r3
    go_wp2
    go_ret2
    exact ⟨_, rfl, RR.out.1, RR.out.2.1, RR.out.2.2⟩
  | bad =>
    obtain ⟨v, x, rfl, r1, r2⟩ := hpost2
    have RR := Lib.hid (And.intro r1 r2)
    clear r1 r2
    go_wp2
    go_ret2
    exact ⟨_, _, rfl, RR.out.1, RR.out.2⟩
  | ends =>
    obtain ⟨v, x, rfl, r1, r2⟩ := hpost2
    have RR := Lib.hid (And.intro r1 r2)
    clear r1 r2
    go_wp2
    go_ret2
    exact ⟨_, _, rfl, RR.out.1, RR.out.2⟩
theorem escape_any (R B : Nat) (bs : List Nat) (p : Nat) (b : Value) (es : List Nat) (hB : IsB bs) (hl : bs.length ≤ 200000) (hp : p ≤ bs.length) (hes : es.length ≤ 200000) (hRB : R < B) (w : World) (hBw : B ≤ w.heap.size) (H : Rd w R bs p) (HO : Own w B b es) :
    Calls Tryz.prog 180 #[.pointer (some ⟨R, 0, none⟩), b] w (EscPostR R B bs es w (escF bs p)) := by
  obtain ⟨ao, co, rfl⟩ := own_shape HO
  cases hc : bs[p]? with
  | none => rw [escF_none hc]; exact escape_none R B bs p ao co es hB hl hes hRB w hBw H HO hc hp
  | some c =>
    cases hs : simpleV c with
    | some v =>
      rw [escF_simple hc hs]
      refine (escape_simple R B bs p c v _ es hB hl hc hs hes hRB w hBw H HO).mono ?_
      rintro e w' ⟨x, h1, h2, h3, h4⟩
      exact ⟨x, h1, h2, h3, h4⟩
    | none =>
      have hsn : c ≠ 92 ∧ c ≠ 39 ∧ c ≠ 34 ∧ c ≠ 97 ∧ c ≠ 98 ∧ c ≠ 102 ∧ c ≠ 110 ∧ c ≠ 114 ∧ c ≠ 116 ∧ c ≠ 118 := by
        unfold simpleV at hs
        repeat' split at hs
        all_goals (try cases hs)
        all_goals omega
      rw [escF_other hc hs]
      by_cases h1 : c = 120
      · subst h1; rw [if_pos rfl]; exact escape_c120 R B bs p ao co es hB hl hes hRB w hBw H HO hc
      rw [if_neg h1]
      by_cases h2 : c = 117
      · subst h2; rw [if_pos rfl]; exact escape_c117 R B bs p ao co es hB hl hes hRB w hBw H HO hc
      rw [if_neg h2]
      by_cases h3 : c = 85
      · subst h3; rw [if_pos rfl]; exact escape_c85 R B bs p ao co es hB hl hes hRB w hBw H HO hc
      rw [if_neg h3]
      by_cases h4 : 48 ≤ c ∧ c ≤ 55
      · rw [if_pos h4]
        have hcs : c = 48 ∨ c = 49 ∨ c = 50 ∨ c = 51 ∨ c = 52 ∨ c = 53 ∨ c = 54 ∨ c = 55 := by omega
        rcases hcs with rfl | rfl | rfl | rfl | rfl | rfl | rfl | rfl
        · exact escape_c48 R B bs p ao co es hB hl hes hRB w hBw H HO hc
        · exact escape_c49 R B bs p ao co es hB hl hes hRB w hBw H HO hc
        · exact escape_c50 R B bs p ao co es hB hl hes hRB w hBw H HO hc
        · exact escape_c51 R B bs p ao co es hB hl hes hRB w hBw H HO hc
        · exact escape_c52 R B bs p ao co es hB hl hes hRB w hBw H HO hc
        · exact escape_c53 R B bs p ao co es hB hl hes hRB w hBw H HO hc
        · exact escape_c54 R B bs p ao co es hB hl hes hRB w hBw H HO hc
        · exact escape_c55 R B bs p ao co es hB hl hes hRB w hBw H HO hc
      · rw [if_neg h4]
        exact escape_other R B bs p ao co es hB hl hes hRB w hBw H HO c hc (by omega)
end Go.Proofs.YtiolghcjndoigaaGreatDoor
