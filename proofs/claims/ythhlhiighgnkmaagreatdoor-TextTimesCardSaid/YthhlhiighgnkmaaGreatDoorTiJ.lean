/-
  WALKS: the document's own reading of a duration.
-/
import Derived.Test.YthhlhiighgnkmaaGreatDoorTiI
import Derived.Test.YthhlhiighgnkmaaGreatDoorTiH
import Derived.Test.YthhlhiighgnkmaaGreatDoorLawQ
import Derived.Handy
namespace Go.Proofs.YthhlhiighgnkmaaGreatDoor
set_option linter.unusedVariables false
set_option linter.unusedSimpArgs false
open Go.RowKit Go.PlainAid
def tvalR (r : Option Int) : Value := .tuple #[.int .i64 (tVal r), .int .i64 ((tErr r : Nat) : Int)]
theorem take_snoc (l : List Nat) (k c : Nat) (h : l[k]? = some c) : l.take (k + 1) = l.take k ++ [c] := by
  obtain ⟨hk, rfl⟩ := List.getElem?_eq_some_iff.1 h
  exact List.take_succ_eq_append_getElem hk
/-- where the document's loop stands -/
def DAt (bs : List Nat) (r0 : Option Nat) (p last sum : Nat) : Prop := (p < bs.length ∧ DurRun bs p last sum r0) ∨ (p = bs.length ∧ ((last = 0 ∧ r0 = none) ∨ (0 < last ∧ r0 = some sum)))
theorem dAt_start {bs : List Nat} {r0 : Option Nat} (h : DurRun bs 0 0 0 r0) : DAt bs r0 0 0 0 := by
  rcases Nat.eq_zero_or_pos bs.length with h0 | h0
  · refine .inr ⟨h0.symm, .inl ⟨rfl, ?_⟩⟩
    have key : ∀ p' k sum', ¬ DurStep bs 0 0 0 p' k sum' := by
      intro p' k sum' hst
      have := hst.le (Nat.zero_le _)
      omega
    cases h with
    | bad _ _ _ h => rfl
    | fin _ _ _ k sum' h => exact absurd h (key _ _ _)
    | more _ _ _ p' k sum' _ h _ _ => exact absurd h (key _ _ _)
  · exact .inl ⟨h0, h⟩
set_option maxRecDepth 100000 in
set_option maxHeartbeats 4000000 in
theorem rreaddur_any (bs : List Nat) (r0 : Option Nat) (hB : IsB bs) (hl : bs.length ≤ 30000) (hr : DurRun bs 0 0 0 r0) (w : World) :
    Calls Tryz.prog 24 #[.string (strOf bs)] w (Gives w (tvalR (natI (if 100 < bs.length then none else r0)))) := by
  have hsz := strOf_size bs
  have hbt := get_bt (strOf bs)
  have CRUN := Lib.hid (fun (p : Nat) (hp : p ≤ bs.length) (w : World) => rrun_any bs p hB hl hp w)
  have CBND := Lib.hid (fun (p : Nat) (hp : p ≤ bs.length) (w : World) => rbounded_any (digs bs p) digs_mem (by have := digs_le hp; omega) w)
  have CUN := Lib.hid (fun (p : Nat) (w : World) => runit_any (nots bs p) (nots_isB hB p) w)
  have HX := Lib.hid (fun (p : Nat) => extract_strOf bs (digs bs p) p _ rfl (fun k c hk => (tw_get hk).1))
  have HX1 := Lib.hid (fun (p c : Nat) (hc : bs[p]? = some c) => extract_strOf bs [c] p 1 rfl (fun k x hk => by
    match k, hk with
    | 0, hk => cases hk; exact hc
    | k + 1, hk => simp at hk))
  have HG := Lib.hid (fun (p k c : Nat) (hk : (nots bs p)[k]? = some c) => show bs[p + k]? = some c ∧ bt (strOf bs) (p + k) = (c : Int) ∧ p + k < bs.length ∧ c < 256 ∧ dig c = false by
    obtain ⟨h2, h3⟩ := tw_get hk
    obtain ⟨h4, h5⟩ := List.getElem?_eq_some_iff.1 h2
    have h6 := strOf_bt bs hB (p + k) h4
    rw [h5] at h6
    exact ⟨h2, h6, h4, at_isB hB h2, by simpa using h3⟩)
  have HEN := Lib.hid (fun (p : Nat) => show bs.length ≤ p + (nots bs p).length ∨ ∃ c : Nat, bt (strOf bs) (p + (nots bs p).length) = (c : Int) ∧ p + (nots bs p).length < bs.length ∧ c < 256 ∧ dig c = true by
    cases h : bs[p + (nots bs p).length]? with
    | none => exact .inl (List.getElem?_eq_none_iff.1 h)
    | some c =>
      obtain ⟨h4, h5⟩ := List.getElem?_eq_some_iff.1 h
      have h6 := strOf_bt bs hB _ h4
      rw [h5] at h6
      have h7 : (!dig c) = false := tw_end (f := fun c => !dig c) h
      exact .inr ⟨c, h6, h4, at_isB hB h, by simpa using h7⟩)
  have HST := Lib.hid (dAt_start hr)
  have HLL := Lib.hid hl
  obtain ⟨L, hL⟩ : ∃ L, bs.length = L := ⟨_, rfl⟩
  have HL := Lib.hid hL
  rw [hL] at hsz hl
  rw [hL]
  obtain ⟨RV, hRV⟩ : ∃ v, tvalR (natI (if 100 < L then none else r0)) = v := ⟨_, rfl⟩
  have HRV := Lib.hid hRV
  rw [hRV]
  clear hL hB hr hRV
  go_enter Tryz.func24, Tryz.ntmps24
  go_wp2
  go_loopw [4, 5, 6] (fun s l a wr => ∃ (p last sum : Nat), Hid (DAt bs r0 p last sum) ∧ p ≤ L ∧ a = .int .i64 ((p : Nat) : Int) ∧ l = .int .i64 ((last : Nat) : Int) ∧ s = .int .i64 ((sum : Nat) : Int) ∧ sum ≤ 9007199254740992 ∧ last ≤ 7 ∧ Hid (Below w.heap.size w wr)) (fun _ _ a _ => (L - intOf a).toNat)
  case atStart => exact ⟨0, 0, 0, HST, Nat.zero_le _, rfl, rfl, rfl, Nat.zero_le _, Nat.zero_le _, Lib.hid (Below.refl _ _)⟩
  case round =>
    obtain ⟨p, last, sum, HAT, hp, rfl, rfl, rfl, hsum, hlast, HBL⟩ := hrel
    obtain ⟨wo, hwo⟩ : ∃ wo, wo = wr := ⟨_, rfl⟩
    subst hwo
    by_cases hpl : p < L
    · have d1 : decide ((p : Int) < (L : Int)) = true := decide_eq_true (by omega)
      have d2 : decide (p < L) = true := decide_eq_true hpl
      have HRUN : Hid (DurRun bs p last sum r0) := Lib.hid (by
        have h9 := HL.out
        rcases HAT.out with ⟨_, h⟩ | ⟨h, _⟩
        · exact h
        · omega)
      have C1 := Lib.hid (CRUN.out p (by rw [HL.out]; exact hp))
      have C2 := Lib.hid (CBND.out p (by rw [HL.out]; exact hp))
      have hx := HX.out p
      have hle : p + (digs bs p).length ≤ L := by have := digs_le (bs := bs) (p := p) (by rw [HL.out]; exact hp); rw [HL.out] at this; exact this
      have HSTEP := Lib.hid (fun p' k sum' => show DurStep bs p last sum p' k sum' ↔ (digs bs p).length ≠ 0 ∧ unitI (nots bs (p + (digs bs p).length)) = k ∧ last < k ∧ sum + decV 0 (digs bs p) * unitMs k = sum' ∧ sum' ≤ 9007199254740992 ∧ p + (digs bs p).length + (nots bs (p + (digs bs p).length)).length = p' from
        ⟨fun h => ⟨fun h0 => h.ne (List.length_eq_zero_iff.1 h0), h.key, h.up, h.sum, h.low, h.at'⟩, fun ⟨h1, h2, h3, h4, h5, h6⟩ => ⟨fun h0 => h1 (by rw [h0]; rfl), h2, h3, h4, h5, h6⟩⟩)
      obtain ⟨n, hn⟩ : ∃ n, (digs bs p).length = n := ⟨_, rfl⟩
      obtain ⟨V, hV⟩ : ∃ V, decV 0 (digs bs p) = V := ⟨_, rfl⟩
      rw [hn] at C1 hx hle
      rw [hV] at C2
      unfold bndV at C2
      obtain ⟨D, hD⟩ : ∃ D, strOf (digs bs p) = D := ⟨_, rfl⟩
      rw [hD] at C2 hx
      have e1 : IntKind.i64.wrap ((p : Int) + (n : Int)) = ((p + n : Nat) : Int) := by rw [IntKind.wrap_i64]; omega
      simp only [hn, hV] at HSTEP
      obtain ⟨q, hq⟩ : ∃ q, p + n = q := ⟨_, rfl⟩
      rw [hq] at e1 hx hle
      simp only [hq] at HSTEP
      have hpq : (p : Int) ≤ (q : Int) := by omega
      have hqL : (q : Int) ≤ (L : Int) := by omega
      have HPQ := Lib.hid (show p ≤ q by omega)
      obtain ⟨k, hk⟩ : ∃ k, unitI (nots bs q) = k := ⟨_, rfl⟩
      obtain ⟨m, hm⟩ : ∃ m, (nots bs q).length = m := ⟨_, rfl⟩
      have CU := Lib.hid (CUN.out q)
      have HGQ := Lib.hid (HG.out q)
      have HEQ := HEN.out q
      rw [hk] at CU
      rw [hm, HL.out] at HEQ
      simp only [hk, hm] at HSTEP
      have HM := Lib.hid hm
      have HK7 := Lib.hid (show k ≤ 7 by rw [← hk]; exact unitI_le _)
      have HQN := Lib.hid hq
      have HEQ := Lib.hid HEQ
      have hcmp : (n = 0 → (n : Int) = 0) := by omega
      obtain ⟨B, hBn⟩ : ∃ B, (if V ≤ 9007199254740992 then V else 0) = B := ⟨_, rfl⟩
      obtain ⟨F, hF⟩ : ∃ F, decide (V ≤ 9007199254740992) = F := ⟨_, rfl⟩
      rw [hBn, hF] at C2
      have HBF := Lib.hid (And.intro hBn hF)
      clear hn hV hD hq hk hm hpl hcmp hBn hF
      go_wp2_with fail
      refine (C1.out _).mono ?_
      rintro e w1 ⟨rfl, hb⟩
      have B1 := Lib.hid (HBL.out.trans (hb.mono HBL.out.size))
      clear hb
      go_wp2_with fail
      refine (C2.out _).mono ?_
      rintro e w2 ⟨rfl, hb⟩
      have B2 := Lib.hid (B1.out.trans (hb.mono B1.out.size))
      clear hb
      go_wp2
      go_loopw [6, 10] (fun a nm wr => ∃ (j : Nat) (N : ByteArray), j ≤ m ∧ a = .int .i64 ((q + j : Nat) : Int) ∧ nm = .string N ∧ Hid (N = strOf ((nots bs q).take j)) ∧ Hid (Below w.heap.size w wr)) (fun a _ _ => (q + m - intOf a).toNat)
      case atStart => exact ⟨0, _, Nat.zero_le _, rfl, rfl, Lib.hid rfl, B2⟩
      case round =>
        obtain ⟨j, N, hj, rfl, rfl, HN, HBJ⟩ := hrel
        by_cases hjm : j < m
        · obtain ⟨c, hc⟩ : ∃ c, (nots bs q)[j]? = some c := ⟨_, List.getElem?_eq_getElem (by rw [HM.out]; exact hjm)⟩
          obtain ⟨hbc, hbv, hlt, h256, hdf⟩ := HGQ.out j c hc
          have CD := Lib.hid (fun w => rdig_any c h256 w)
          rw [hdf] at CD
          have hx1 := HX1.out (q + j) c hbc
          rw [HL.out] at hlt
          have hnn : N.size ≤ 30000 := by rw [HN.out, strOf_size, List.length_take]; have := HM.out; have := HLL.out; omega
          have HN2 := Lib.hid (show N ++ strOf [c] = strOf ((nots bs q).take (j + 1)) by rw [HN.out, strOf_append, take_snoc _ _ _ hc])
          have hcs : (strOf [c]).size = 1 := strOf_size [c]
          obtain ⟨C, hC⟩ : ∃ C, strOf [c] = C := ⟨_, rfl⟩
          rw [hC] at hx1 hcs HN2
          have hcat : N.size + C.size ≤ 9223372036854775807 := by omega
          obtain ⟨t, ht⟩ : ∃ t, q + j = t := ⟨_, rfl⟩
          rw [ht] at hx1 hbv hlt
          obtain ⟨t1, ht1⟩ : ∃ t1, t + 1 = t1 := ⟨_, rfl⟩
          rw [ht1] at hx1
          have e5 : IntKind.i64.wrap ((t : Int) + 1) = (t1 : Int) := by rw [IntKind.wrap_i64]; omega
          have i1 : (t : Int) < (L : Int) := by omega
          have i2 : (t : Int) ≤ (t1 : Int) := by omega
          have i3 : (t1 : Int) ≤ (L : Int) := by omega
          have g1 : decide ((t : Int) < (L : Int)) = true := decide_eq_true i1
          have g2 : decide (t < L) = true := decide_eq_true hlt
          have HTT := Lib.hid (show t1 = q + (j + 1) ∧ t = q + j ∧ j < m by omega)
          rw [ht]
          clear hc hbc hdf hC hnn hcs ht ht1 h256
          go_wp2_with fail
          refine (CD.out _).mono ?_
          rintro e w3 ⟨rfl, rfl⟩
          go_wp2
          go_roundw
          case rel => exact ⟨j + 1, _, by omega, by rw [← HTT.out.1], rfl, Lib.hid (by first | exact HN2.out | (rw [hx1]; exact HN2.out)), HBJ⟩
          case measure => have := HTT.out; simp [intOf]; omega
        · obtain rfl : j = m := by omega
          have hNN : N = strOf (nots bs q) := by rw [HN.out, ← HM.out, List.take_length]
          have CU2 := CU.out
          rw [← hNN] at CU2
          have CU3 := Lib.hid CU2
          obtain ⟨u, hu⟩ : ∃ u, unitMs k = u := ⟨_, rfl⟩
          have HU := Lib.hid hu
          rw [hu] at CU3
          have hu0 : k ≠ 0 → 1 ≤ u ∧ u ≤ 31536000000 := fun h => by rw [← hu]; exact unitMs_pos k (by omega) HK7.out
          obtain ⟨hBn, hF⟩ := HBF.out
          obtain ⟨t, ht⟩ : ∃ t, q + j = t := ⟨_, rfl⟩
          have HTQ := Lib.hid ht
          have HEQ2 := HEQ.out
          simp only [ht] at HSTEP HEQ2
          rw [ht]
          clear ht
          -- whether the step is one
          have fails : (n = 0 ∨ k ≤ last ∨ ¬ V ≤ 9007199254740992 ∨ 9007199254740992 / u < V ∨ 9007199254740992 < sum + V * u) → r0 = none := by
            intro h
            have key : ∀ p' k' sum', ¬ DurStep bs p last sum p' k' sum' := by
              intro p' k' sum' hst
              obtain ⟨s1, s2, s3, s4, s5, s6⟩ := (HSTEP.out p' k' sum').1 hst
              subst s2
              rw [HU.out] at s4
              obtain ⟨u1, u2⟩ := hu0 (by omega)
              have hVu : V * 1 ≤ V * u := Nat.mul_le_mul_left _ u1
              rcases h with h | h | h | h | h
              · exact s1 h
              · omega
              · omega
              · have := (Nat.div_lt_iff_lt_mul (by omega)).1 h
                omega
              · omega
            cases HRUN.out with
            | bad _ _ _ h => rfl
            | fin _ _ _ k sum' h => exact absurd h (key _ _ _)
            | more _ _ _ p' k sum' _ h _ _ => exact absurd h (key _ _ _)
          have HFAIL := Lib.hid fails
          have HNONE : r0 = none → RV = .tuple #[.int .i64 0, .int .i64 41] := fun h => by rw [← HRV.out, h, ite_self]; rfl
          have HNO := Lib.hid HNONE
          clear fails HNONE hNN CU2 hu hjm hj
          have z41 : ∀ (e : Ending) (w' : World), e = .returned (.tuple #[.int .i64 0, .int .i64 41]) → Below w.heap.size w w' → r0 = none → Gives w RV e w' := fun e w' h1 h2 h3 => by rw [HNO.out h3]; exact ⟨h1, h2⟩
          have HZ := Lib.hid z41
          clear z41
          rcases HEQ2 with hge | ⟨c, hbv, hlt, h256, hdf⟩
          · have ge1 : decide ((t : Int) < (L : Int)) = false := decide_eq_false (by omega)
            have ge2 : decide (t < L) = false := decide_eq_false (by omega)
            clear hge
            go_wp2_with fail
            refine (CU3.out _).mono ?_
            rintro e w4 ⟨rfl, hb⟩
            have B4 := Lib.hid (HBJ.out.trans (hb.mono HBJ.out.size))
            clear hb
            by_cases c0 : n = 0
            · have hr0 := HFAIL.out (.inl c0)
              have n0 : ((n : Int) == 0) = true := by simp; omega
              clear hBn hF hu0 c0
              go_wp2
              go_ret2
              exact HZ.out _ _ rfl B4.out hr0
            have n0 : ((n : Int) == 0) = false := by simp; omega
            by_cases c1 : k ≤ last
            · have hr0 := HFAIL.out (.inr (.inl c1))
              have g1 : decide ((k : Int) ≤ (last : Int)) = true := decide_eq_true (by omega)
              have g2 : decide (k ≤ last) = true := decide_eq_true c1
              clear hBn hF hu0 c0 c1
              go_wp2
              go_ret2
              exact HZ.out _ _ rfl B4.out hr0
            have g1 : decide ((k : Int) ≤ (last : Int)) = false := decide_eq_false (by omega)
            have g2 : decide (k ≤ last) = false := decide_eq_false c1
            obtain ⟨u1, u2⟩ := hu0 (by omega)
            by_cases c2 : V ≤ 9007199254740992
            · rw [if_pos c2] at hBn
              rw [decide_eq_true c2] at hF
              subst hBn hF
              have tdv : (9007199254740992 : Int).tdiv (u : Int) = ((9007199254740992 / u : Nat) : Int) := by
                rw [Int.tdiv_eq_ediv_of_nonneg (by decide)]; simp
              have u0 : ((u : Int) == 0) = false := by simp; omega
              obtain ⟨Q, hQ⟩ : ∃ Q, 9007199254740992 / u = Q := ⟨_, rfl⟩
              rw [hQ] at tdv
              have hQle : Q ≤ 9007199254740992 := by rw [← hQ]; exact Nat.div_le_self _ _
              have eQ : IntKind.i64.wrap (Q : Int) = (Q : Int) := by rw [IntKind.wrap_i64]; omega
              by_cases c3 : Q < V
              · have hr0 := HFAIL.out (.inr (.inr (.inr (.inl (by rw [hQ]; exact c3)))))
                have g3 : decide ((V : Int) > (Q : Int)) = true := decide_eq_true (by omega)
                have g4 : decide ((Q : Int) < (V : Int)) = true := g3
                have g5 : decide (Q < V) = true := decide_eq_true c3
                clear hu0 c0 c1 c2 c3 hQ
                go_wp2
                go_ret2
                exact HZ.out _ _ rfl B4.out hr0
              · have g3 : decide ((V : Int) > (Q : Int)) = false := decide_eq_false (by omega)
                have g4 : decide ((Q : Int) < (V : Int)) = false := g3
                have g5 : decide (Q < V) = false := decide_eq_false c3
                have hVu : V * u ≤ 9007199254740992 := by
                  have h1 : V ≤ 9007199254740992 / u := by rw [hQ]; omega
                  exact (Nat.le_div_iff_mul_le (by omega)).1 h1
                obtain ⟨M, hM⟩ : ∃ M, V * u = M := ⟨_, rfl⟩
                rw [hM] at hVu
                have eM : ((V : Int) * (u : Int)) = (M : Int) := by rw [← hM]; simp
                have eM2 : IntKind.i64.wrap (M : Int) = (M : Int) := by rw [IntKind.wrap_i64]; omega
                obtain ⟨s', hs'⟩ : ∃ s, sum + M = s := ⟨_, rfl⟩
                have eS : IntKind.i64.wrap ((sum : Int) + (M : Int)) = (s' : Int) := by rw [IntKind.wrap_i64]; omega
                by_cases c4 : 9007199254740992 < s'
                · have hr0 := HFAIL.out (.inr (.inr (.inr (.inr (by rw [hM, hs']; exact c4)))))
                  have g6 : decide ((s' : Int) > 9007199254740992) = true := decide_eq_true (by omega)
                  have g7 : decide ((9007199254740992 : Int) < (s' : Int)) = true := g6
                  have g8 : decide (9007199254740992 < s') = true := decide_eq_true c4
                  clear hu0 c0 c1 c2 c3 c4 hQ hM hs'
                  go_wp2
                  go_ret2
                  exact HZ.out _ _ rfl B4.out hr0
                · have g6 : decide ((s' : Int) > 9007199254740992) = false := decide_eq_false (by omega)
                  have g7 : decide ((9007199254740992 : Int) < (s' : Int)) = false := g6
                  have g8 : decide (9007199254740992 < s') = false := decide_eq_false c4
                  have HTHIS := Lib.hid ((HSTEP.out t k s').2 ⟨c0, rfl, by omega, by rw [HU.out, hM, hs'], by omega, rfl⟩)
                  have HNX : Hid (DAt bs r0 t k s') := Lib.hid (by
                    have huni : ∀ p2 k2 s2, DurStep bs p last sum p2 k2 s2 → p2 = t ∧ k2 = k ∧ s2 = s' := by
                      intro p2 k2 s2 h
                      obtain ⟨_, a2, _, a4, _, a6⟩ := (HSTEP.out p2 k2 s2).1 h
                      subst a2
                      exact ⟨a6.symm, rfl, by rw [← a4, HU.out, hM, hs']⟩
                    cases HRUN.out with
                    | bad _ _ _ h => exact absurd HTHIS.out (h _ _ _)
                    | fin _ _ _ k2 s2 h =>
                      obtain ⟨a1, a2, a3⟩ := huni _ _ _ h
                      exact .inr ⟨a1.symm, .inr ⟨by omega, by rw [a3]⟩⟩
                    | more _ _ _ p2 k2 s2 _ h hlt hrest =>
                      obtain ⟨rfl, rfl, rfl⟩ := huni _ _ _ h
                      exact .inl ⟨hlt, hrest⟩)
                  have HPN := Lib.hid (show p < t ∧ t ≤ L by
                    have := HTHIS.out.le (by rw [HL.out]; exact hp)
                    rw [HL.out] at this
                    exact this)
                  clear hu0 c0 c1 c2 c3 hQ hM hs'
                  go_wp2
                  go_roundw
                  case rel => exact ⟨t, k, s', HNX, HPN.out.2, rfl, rfl, rfl, by omega, HK7.out, B4⟩
                  case measure => have := HPN.out; simp [intOf]; omega
            · rw [if_neg c2] at hBn
              rw [decide_eq_false c2] at hF
              subst hBn hF
              have hr0 := HFAIL.out (.inr (.inr (.inl c2)))
              clear hu0 c0 c1 c2
              go_wp2
              go_ret2
              exact HZ.out _ _ rfl B4.out hr0
          · have CD := Lib.hid (fun w => rdig_any c h256 w)
            rw [hdf] at CD
            have i1 : (t : Int) < (L : Int) := by omega
            have ge1 : decide ((t : Int) < (L : Int)) = true := decide_eq_true i1
            have ge2 : decide (t < L) = true := decide_eq_true hlt
            clear hlt h256 hdf
            go_wp2_with fail
            refine (CD.out _).mono ?_
            rintro e w3 ⟨rfl, rfl⟩
            go_wp2_with fail
            refine (CU3.out _).mono ?_
            rintro e w4 ⟨rfl, hb⟩
            have B4 := Lib.hid (HBJ.out.trans (hb.mono HBJ.out.size))
            clear hb
            by_cases c0 : n = 0
            · have hr0 := HFAIL.out (.inl c0)
              have n0 : ((n : Int) == 0) = true := by simp; omega
              clear hBn hF hu0 c0
              go_wp2
              go_ret2
              exact HZ.out _ _ rfl B4.out hr0
            have n0 : ((n : Int) == 0) = false := by simp; omega
            by_cases c1 : k ≤ last
            · have hr0 := HFAIL.out (.inr (.inl c1))
              have g1 : decide ((k : Int) ≤ (last : Int)) = true := decide_eq_true (by omega)
              have g2 : decide (k ≤ last) = true := decide_eq_true c1
              clear hBn hF hu0 c0 c1
              go_wp2
              go_ret2
              exact HZ.out _ _ rfl B4.out hr0
            have g1 : decide ((k : Int) ≤ (last : Int)) = false := decide_eq_false (by omega)
            have g2 : decide (k ≤ last) = false := decide_eq_false c1
            obtain ⟨u1, u2⟩ := hu0 (by omega)
            by_cases c2 : V ≤ 9007199254740992
            · rw [if_pos c2] at hBn
              rw [decide_eq_true c2] at hF
              subst hBn hF
              have tdv : (9007199254740992 : Int).tdiv (u : Int) = ((9007199254740992 / u : Nat) : Int) := by
                rw [Int.tdiv_eq_ediv_of_nonneg (by decide)]; simp
              have u0 : ((u : Int) == 0) = false := by simp; omega
              obtain ⟨Q, hQ⟩ : ∃ Q, 9007199254740992 / u = Q := ⟨_, rfl⟩
              rw [hQ] at tdv
              have hQle : Q ≤ 9007199254740992 := by rw [← hQ]; exact Nat.div_le_self _ _
              have eQ : IntKind.i64.wrap (Q : Int) = (Q : Int) := by rw [IntKind.wrap_i64]; omega
              by_cases c3 : Q < V
              · have hr0 := HFAIL.out (.inr (.inr (.inr (.inl (by rw [hQ]; exact c3)))))
                have g3 : decide ((V : Int) > (Q : Int)) = true := decide_eq_true (by omega)
                have g4 : decide ((Q : Int) < (V : Int)) = true := g3
                have g5 : decide (Q < V) = true := decide_eq_true c3
                clear hu0 c0 c1 c2 c3 hQ
                go_wp2
                go_ret2
                exact HZ.out _ _ rfl B4.out hr0
              · have g3 : decide ((V : Int) > (Q : Int)) = false := decide_eq_false (by omega)
                have g4 : decide ((Q : Int) < (V : Int)) = false := g3
                have g5 : decide (Q < V) = false := decide_eq_false c3
                have hVu : V * u ≤ 9007199254740992 := by
                  have h1 : V ≤ 9007199254740992 / u := by rw [hQ]; omega
                  exact (Nat.le_div_iff_mul_le (by omega)).1 h1
                obtain ⟨M, hM⟩ : ∃ M, V * u = M := ⟨_, rfl⟩
                rw [hM] at hVu
                have eM : ((V : Int) * (u : Int)) = (M : Int) := by rw [← hM]; simp
                have eM2 : IntKind.i64.wrap (M : Int) = (M : Int) := by rw [IntKind.wrap_i64]; omega
                obtain ⟨s', hs'⟩ : ∃ s, sum + M = s := ⟨_, rfl⟩
                have eS : IntKind.i64.wrap ((sum : Int) + (M : Int)) = (s' : Int) := by rw [IntKind.wrap_i64]; omega
                by_cases c4 : 9007199254740992 < s'
                · have hr0 := HFAIL.out (.inr (.inr (.inr (.inr (by rw [hM, hs']; exact c4)))))
                  have g6 : decide ((s' : Int) > 9007199254740992) = true := decide_eq_true (by omega)
                  have g7 : decide ((9007199254740992 : Int) < (s' : Int)) = true := g6
                  have g8 : decide (9007199254740992 < s') = true := decide_eq_true c4
                  clear hu0 c0 c1 c2 c3 c4 hQ hM hs'
                  go_wp2
                  go_ret2
                  exact HZ.out _ _ rfl B4.out hr0
                · have g6 : decide ((s' : Int) > 9007199254740992) = false := decide_eq_false (by omega)
                  have g7 : decide ((9007199254740992 : Int) < (s' : Int)) = false := g6
                  have g8 : decide (9007199254740992 < s') = false := decide_eq_false c4
                  have HTHIS := Lib.hid ((HSTEP.out t k s').2 ⟨c0, rfl, by omega, by rw [HU.out, hM, hs'], by omega, rfl⟩)
                  have HNX : Hid (DAt bs r0 t k s') := Lib.hid (by
                    have huni : ∀ p2 k2 s2, DurStep bs p last sum p2 k2 s2 → p2 = t ∧ k2 = k ∧ s2 = s' := by
                      intro p2 k2 s2 h
                      obtain ⟨_, a2, _, a4, _, a6⟩ := (HSTEP.out p2 k2 s2).1 h
                      subst a2
                      exact ⟨a6.symm, rfl, by rw [← a4, HU.out, hM, hs']⟩
                    cases HRUN.out with
                    | bad _ _ _ h => exact absurd HTHIS.out (h _ _ _)
                    | fin _ _ _ k2 s2 h =>
                      obtain ⟨a1, a2, a3⟩ := huni _ _ _ h
                      exact .inr ⟨a1.symm, .inr ⟨by omega, by rw [a3]⟩⟩
                    | more _ _ _ p2 k2 s2 _ h hlt hrest =>
                      obtain ⟨rfl, rfl, rfl⟩ := huni _ _ _ h
                      exact .inl ⟨hlt, hrest⟩)
                  have HPN := Lib.hid (show p < t ∧ t ≤ L by
                    have := HTHIS.out.le (by rw [HL.out]; exact hp)
                    rw [HL.out] at this
                    exact this)
                  clear hu0 c0 c1 c2 c3 hQ hM hs'
                  go_wp2
                  go_roundw
                  case rel => exact ⟨t, k, s', HNX, HPN.out.2, rfl, rfl, rfl, by omega, HK7.out, B4⟩
                  case measure => have := HPN.out; simp [intOf]; omega
            · rw [if_neg c2] at hBn
              rw [decide_eq_false c2] at hF
              subst hBn hF
              have hr0 := HFAIL.out (.inr (.inr (.inl c2)))
              clear hu0 c0 c1 c2
              go_wp2
              go_ret2
              exact HZ.out _ _ rfl B4.out hr0
    · obtain rfl : p = L := by omega
      have d1 : decide ((p : Int) < (p : Int)) = false := decide_eq_false (by omega)
      have d2 : decide (p < p) = false := decide_eq_false hpl
      have HEND : Hid ((last = 0 ∧ r0 = none) ∨ (0 < last ∧ r0 = some sum)) := Lib.hid (by
        have h9 := HL.out
        rcases HAT.out with ⟨h, _⟩ | ⟨_, h⟩
        · omega
        · exact h)
      rcases HEND.out with ⟨rfl, hr0⟩ | ⟨hpos, hr0⟩
      · have HV := Lib.hid (show RV = .tuple #[.int .i64 0, .int .i64 41] by rw [← HRV.out, hr0, ite_self]; rfl)
        clear hpl hr0
        go_wp2
        go_ret2
        rw [HV.out]
        exact ⟨rfl, HBL.out⟩
      · have l0 : ((last : Int) == 0) = false := by simp; omega
        by_cases hlong : 100 < p
        · have g1 : decide ((p : Int) > 100) = true := decide_eq_true (by omega)
          have g2 : decide ((100 : Int) < (p : Int)) = true := g1
          have g3 : decide (100 < p) = true := decide_eq_true hlong
          have HV := Lib.hid (show RV = .tuple #[.int .i64 0, .int .i64 41] by rw [← HRV.out, if_pos hlong]; rfl)
          clear hpl hr0 hlong hpos
          go_wp2
          go_ret2
          rw [HV.out]
          exact ⟨rfl, HBL.out⟩
        · have g1 : decide ((p : Int) > 100) = false := decide_eq_false (by omega)
          have g2 : decide ((100 : Int) < (p : Int)) = false := g1
          have g3 : decide (100 < p) = false := decide_eq_false hlong
          have HV := Lib.hid (show RV = .tuple #[.int .i64 ((sum : Nat) : Int), .int .i64 0] by rw [← HRV.out, if_neg hlong, hr0]; rfl)
          clear hpl hr0 hlong hpos
          go_wp2
          go_ret2
          rw [HV.out]
          exact ⟨rfl, HBL.out⟩
end Go.Proofs.YthhlhiighgnkmaaGreatDoor
