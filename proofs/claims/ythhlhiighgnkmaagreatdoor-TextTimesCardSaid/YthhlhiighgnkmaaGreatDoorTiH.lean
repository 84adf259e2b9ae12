/-
  WALKS: times of any text; ReadDuration, ReadTime.
-/
import Derived.Test.YthhlhiighgnkmaaGreatDoorTiG
namespace Go.Proofs.YthhlhiighgnkmaaGreatDoor
set_option linter.unusedVariables false
set_option linter.unusedSimpArgs false
open Go.RowKit Go.PlainAid Go.Extern.Stop Go.Stop Go.Extern
def fracR (bs : List Nat) (q : Nat) : Option (Nat × Nat) := if bs[q]? = some 46 then thouR bs (q + 1) else some (0, q)
def sumR (V : Nat) : Option (Nat × Nat) → Option (Nat × Nat)
  | none => none
  | some (f, e) => if f + V * 1000 ≤ 9007199254740992 then some (f + V * 1000, e) else none
def secR (bs : List Nat) (p : Nat) : Option (Nat × Nat) := if digs bs p = [] then none else sumR (decV 0 (digs bs p)) (fracR bs (p + (digs bs p).length))
def endR (bs : List Nat) (neg : Bool) : Option (Nat × Nat) → Option Int
  | none => none
  | some (v, e) => if e = bs.length then some (if neg then -(v : Int) else (v : Int)) else none
def timeR (bs : List Nat) : Option Int := if 100 < bs.length then none else endR bs (decide (bs[0]? = some 45)) (secR bs (if bs[0]? = some 45 then 1 else 0))
theorem thouR_le {bs : List Nat} {p f e : Nat} (hp : p ≤ bs.length) (h : thouR bs p = some (f, e)) : f ≤ 999 ∧ e ≤ bs.length := by
  unfold thouR at h
  have h4 := decV_lt 0 (digs bs p) digs_mem
  have hle := digs_le hp
  by_cases h1 : (digs bs p).length = 1
  · rw [if_pos h1] at h
    rw [h1] at h4 hle
    simp at h
    omega
  rw [if_neg h1] at h
  by_cases h2 : (digs bs p).length = 2
  · rw [if_pos h2] at h
    rw [h2] at h4 hle
    simp at h
    omega
  rw [if_neg h2] at h
  by_cases h3 : (digs bs p).length = 3
  · rw [if_pos h3] at h
    rw [h3] at h4 hle
    simp at h
    omega
  rw [if_neg h3] at h
  cases h
theorem sumR_big {V : Nat} (h : 9223372036854775808 ≤ V) (x : Option (Nat × Nat)) : sumR V x = none := by
  cases x with
  | none => rfl
  | some y => obtain ⟨f, e⟩ := y; unfold sumR; exact if_neg (by omega)
set_option maxRecDepth 100000 in
set_option maxHeartbeats 2000000 in
theorem seconds_any (R : Nat) (bs : List Nat) (p : Nat) (hB : IsB bs) (hl : bs.length ≤ 30000) (hp : p ≤ bs.length) (w : World) (H : Rd w R bs p) (hE : ErrR w) (hR6 : R ≠ 6) :
    Calls Tryz.prog 104 #[.pointer (some ⟨R, 0, none⟩)] w (PartPost R bs w (secR bs p)) := by
  by_cases hw : digs bs p = [] ∨ 9223372036854775808 ≤ decV 0 (digs bs p)
  · have CW := Lib.hid (whole_bad R bs p hB hl hp hw w H hR6 hE)
    have hn : secR bs p = none := by
      unfold secR
      rcases hw with h | h
      · exact if_pos h
      · by_cases h2 : digs bs p = []
        · exact if_pos h2
        · rw [if_neg h2, sumR_big h]
    rw [hn]
    clear hw hn hB hl hp H hE
    go_enter Tryz.func104, Tryz.ntmps104
    go_wp2_with fail
    refine CW.out.mono ?_
    rintro e w1 ⟨t, v, rfl, ho⟩
    have O1 := Lib.hid ho
    clear ho
    go_wp2
    go_ret2
    exact ⟨_, _, rfl, O1.out⟩
  · have hne : digs bs p ≠ [] := fun h => hw (.inl h)
    have hlt : decV 0 (digs bs p) < 9223372036854775808 := by
      rcases Nat.lt_or_ge (decV 0 (digs bs p)) 9223372036854775808 with h | h
      · exact h
      · exact absurd (.inr h) hw
    have CW := Lib.hid (whole_good R bs p hB (by omega) hp hne hlt w H)
    have hle := digs_le hp
    rw [show secR bs p = sumR (decV 0 (digs bs p)) (fracR bs (p + (digs bs p).length)) from if_neg hne]
    obtain ⟨V, hV⟩ : ∃ V, decV 0 (digs bs p) = V := ⟨_, rfl⟩
    obtain ⟨q, hq⟩ : ∃ q, p + (digs bs p).length = q := ⟨_, rfl⟩
    rw [hV, hq] at CW
    rw [hq] at hle
    rw [hV, hq]
    have CS := Lib.hid (fun w H => skip_one R bs q 46 (.inr rfl) hB hl hle w H)
    have HE := Lib.hid hE
    have HR6 := Lib.hid hR6
    rw [show strOf [46] = { data := #[46] } from rfl] at CS
    by_cases h46 : bs[q]? = some 46
    · rw [decide_eq_true h46, if_pos h46] at CS
      have hq1 : q + 1 ≤ bs.length := by have := (List.getElem?_eq_some_iff.1 h46).1; omega
      have CT := Lib.hid (fun (w : World) (H : Rd w R bs (q + 1)) (hE : ErrR w) => thou_any R bs (q + 1) hB hl hq1 w H hE hR6)
      rw [show fracR bs q = thouR bs (q + 1) from if_pos h46]
      have HTL := Lib.hid (fun f e (h : thouR bs (q + 1) = some (f, e)) => thouR_le hq1 h)
      cases hT : thouR bs (q + 1) with
      | none =>
        rw [hT] at CT
        have HNN := Lib.hid (show sumR V none = none from rfl)
        clear hw hne hlt hV hq h46 hq1 hT HTL hle hB hl hp H hE hR6
        go_enter Tryz.func104, Tryz.ntmps104
        go_wp2_with fail
        refine CW.out.mono ?_
        rintro e w1 ⟨rfl, ho, hr⟩
        have CS1 := Lib.hid (CS.out w1 hr)
        have O1 := Lib.hid ho
        clear ho hr
        go_wp2_with fail
        refine CS1.out.mono ?_
        rintro e w2 ⟨rfl, ho, hr⟩
        have O2 := Lib.hid (O1.out.trans ho (fun x hx => .inl hx))
        have CT2 := Lib.hid (CT.out w2 hr (HE.out.only O2.out HR6.out))
        clear ho hr
        go_wp2_with fail
        refine CT2.out.mono ?_
        rintro e w3 ⟨t, y, rfl, ho⟩
        have O3 := Lib.hid (O2.out.trans ho (fun x hx => .inl hx))
        clear ho
        go_wp2
        go_ret2
        rw [HNN.out]
        exact ⟨_, _, rfl, O3.out⟩
      | some fe =>
        obtain ⟨f, e0⟩ := fe
        have hf := (HTL.out f e0 hT).1
        rw [hT] at CT
        clear hw hne hlt hV hq h46 hq1 hT HTL hle hB hl hp H hE hR6
        go_enter Tryz.func104, Tryz.ntmps104
        go_wp2_with fail
        refine CW.out.mono ?_
        rintro e w1 ⟨rfl, ho, hr⟩
        have CS1 := Lib.hid (CS.out w1 hr)
        have O1 := Lib.hid ho
        clear ho hr
        go_wp2_with fail
        refine CS1.out.mono ?_
        rintro e w2 ⟨rfl, ho, hr⟩
        have O2 := Lib.hid (O1.out.trans ho (fun x hx => .inl hx))
        have CT2 := Lib.hid (CT.out w2 hr (HE.out.only O2.out HR6.out))
        clear ho hr
        go_wp2_with fail
        refine CT2.out.mono ?_
        rintro e w3 ⟨rfl, ho, hr⟩
        have O3 := Lib.hid (O2.out.trans ho (fun x hx => .inl hx))
        have R3 := Lib.hid hr
        clear ho hr
        by_cases hsum : f + V * 1000 ≤ 9007199254740992
        · obtain ⟨M, hM⟩ : ∃ M, f + V * 1000 = M := ⟨_, rfl⟩
          have HW : (((f : Nat) : Int) + (V : Int) * ((1000 : Nat) : Int)) = ((M : Nat) : Int) := by rw [← hM]; simp
          have CA := fun w => add_nat f V 1000 (by decide) (by decide) hsum w
          rw [HW] at CA
          have HV := Lib.hid (show sumR V (some (f, e0)) = some (M, e0) by rw [← hM]; exact if_pos hsum)
          have CA := Lib.hid CA
          clear hsum HW hM
          go_wp2_with fail
          refine (CA.out _).mono ?_
          rintro e wz ⟨rfl, rfl⟩
          go_wp2
          go_ret2
          rw [HV.out]
          exact ⟨rfl, O3.out, R3.out⟩
        · have CA := Lib.hid (fun w => add_nat_over f V 1000 (by decide) (by omega) hsum w)
          have HV := Lib.hid (show sumR V (some (f, e0)) = none from if_neg hsum)
          clear hsum
          go_wp2_with fail
          refine (CA.out _).mono ?_
          rintro e wz ⟨rfl, rfl⟩
          go_wp2
          go_ret2
          rw [HV.out]
          exact ⟨_, _, rfl, O3.out⟩
    · rw [decide_eq_false h46, if_neg h46] at CS
      rw [show fracR bs q = some (0, q) from if_neg h46]
      clear hw hne hlt hV hq h46 hle hB hl hp H hE hR6
      go_enter Tryz.func104, Tryz.ntmps104
      go_wp2_with fail
      refine CW.out.mono ?_
      rintro e w1 ⟨rfl, ho, hr⟩
      have CS1 := Lib.hid (CS.out w1 hr)
      have O1 := Lib.hid ho
      clear ho hr
      go_wp2_with fail
      refine CS1.out.mono ?_
      rintro e w2 ⟨rfl, ho, hr⟩
      have O3 := Lib.hid (O1.out.trans ho (fun x hx => .inl hx))
      have R3 := Lib.hid hr
      clear ho hr
      by_cases hsum : 0 + V * 1000 ≤ 9007199254740992
      · obtain ⟨M, hM⟩ : ∃ M, 0 + V * 1000 = M := ⟨_, rfl⟩
        have HW : (((0 : Nat) : Int) + (V : Int) * ((1000 : Nat) : Int)) = ((M : Nat) : Int) := by rw [← hM]; simp
        have CA := fun w => add_nat 0 V 1000 (by decide) (by decide) hsum w
        rw [HW] at CA
        have HV := Lib.hid (show sumR V (some (0, q)) = some (M, q) by rw [← hM]; exact if_pos hsum)
        have CA := Lib.hid CA
        clear hsum HW hM
        go_wp2_with fail
        refine (CA.out _).mono ?_
        rintro e wz ⟨rfl, rfl⟩
        go_wp2
        go_ret2
        rw [HV.out]
        exact ⟨rfl, O3.out, R3.out⟩
      · have CA := Lib.hid (fun w => add_nat_over 0 V 1000 (by decide) (by omega) hsum w)
        have HV := Lib.hid (show sumR V (some (0, q)) = none from if_neg hsum)
        clear hsum
        go_wp2_with fail
        refine (CA.out _).mono ?_
        rintro e wz ⟨rfl, rfl⟩
        go_wp2
        go_ret2
        rw [HV.out]
        exact ⟨_, _, rfl, O3.out⟩
set_option maxRecDepth 100000 in
set_option maxHeartbeats 2000000 in
theorem time_long (R : Nat) (bs : List Nat) (hl : 100 < bs.length) (w : World) (H : Rd w R bs 0) : Calls Tryz.prog 56 #[.pointer (some ⟨R, 0, none⟩)] w (TPost R w none) := by
  have h0 := H.c0
  have hsz := strOf_size bs
  obtain ⟨L, hL⟩ : ∃ L, bs.length = L := ⟨_, rfl⟩
  rw [hL] at hsz hl
  have d1 : decide ((L : Int) > 100) = true := decide_eq_true (by omega)
  have d2 : decide ((100 : Int) < (L : Int)) = true := d1
  have d3 : decide (100 < L) = true := decide_eq_true hl
  obtain ⟨S, hS⟩ : ∃ S, strOf bs = S := ⟨_, rfl⟩
  rw [hS] at h0 hsz
  have OO := Lib.hid (fun o : Obj => (Only.refl [R] w).alloc o)
  clear hL hS H
  go_enter Tryz.func56, Tryz.ntmps56
  go_wp2
  go_ret2
  exact ⟨_, _, _, rfl, OO.out _, heap_alloc_new w _⟩
theorem secR_low {bs : List Nat} {p v e : Nat} (h : secR bs p = some (v, e)) : v ≤ 9007199254740992 := by
  unfold secR at h
  by_cases h1 : digs bs p = []
  · rw [if_pos h1] at h; cases h
  rw [if_neg h1] at h
  cases hf : fracR bs (p + (digs bs p).length) with
  | none => rw [hf] at h; cases h
  | some y =>
    obtain ⟨f, e2⟩ := y
    rw [hf] at h
    unfold sumR at h
    by_cases h2 : f + decV 0 (digs bs p) * 1000 ≤ 9007199254740992
    · simp only [if_pos h2] at h
      simp at h
      omega
    · simp only [if_neg h2] at h
      cases h
set_option maxRecDepth 100000 in
set_option maxHeartbeats 4000000 in
theorem time_any (R : Nat) (bs : List Nat) (hB : IsB bs) (w : World) (H : Rd w R bs 0) (hE : ErrR w) (hR6 : R ≠ 6) : Calls Tryz.prog 56 #[.pointer (some ⟨R, 0, none⟩)] w (TPost R w (timeR bs)) := by
  by_cases hl : 100 < bs.length
  · rw [show timeR bs = none from if_pos hl]; exact time_long R bs hl w H
  rw [show timeR bs = endR bs (decide (bs[0]? = some 45)) (secR bs (if bs[0]? = some 45 then 1 else 0)) from if_neg hl]
  have h0 := H.c0
  have hsz := strOf_size bs
  have CS := Lib.hid (skip_one R bs 0 45 (.inl rfl) hB (by omega) (Nat.zero_le _) w H)
  rw [show strOf [45] = { data := #[45] } from rfl] at CS
  have CSS := Lib.hid (fun (p : Nat) (hp : p ≤ bs.length) (w : World) (H : Rd w R bs p) (hE : ErrR w) => seconds_any R bs p hB (by omega) hp w H hE hR6)
  have HE := Lib.hid hE
  have HR6 := Lib.hid hR6
  have HSL := Lib.hid (fun p v e (h : secR bs p = some (v, e)) => secR_low h)
  obtain ⟨L, hL⟩ : ∃ L, (strOf bs).size = L := ⟨_, rfl⟩
  have d1 : decide ((L : Int) > 100) = false := decide_eq_false (by omega)
  have d2 : decide ((100 : Int) < (L : Int)) = false := d1
  have d3 : decide (100 < L) = false := decide_eq_false (by omega)
  obtain ⟨S, hS⟩ : ∃ S, strOf bs = S := ⟨_, rfl⟩
  rw [hS] at h0 hsz hL
  clear hS hsz
  by_cases h45 : bs[0]? = some 45
  · rw [decide_eq_true h45, if_pos h45] at CS
    rw [decide_eq_true h45, if_pos h45]
    have CC := Lib.hid (CSS.out 1 (by have := (List.getElem?_eq_some_iff.1 h45).1; omega))
    clear CSS
    cases hsec : secR bs 1 with
    | none =>
      rw [hsec] at CC
      have HN := Lib.hid (show endR bs true none = none from rfl)
      clear hsec hB hl H hE hR6 h45 HSL
      go_enter Tryz.func56, Tryz.ntmps56
      go_wp2_with fail
      refine CS.out.mono ?_
      rintro e w1 ⟨rfl, ho, hr⟩
      have O1 := Lib.hid ho
      have CC1 := Lib.hid (CC.out w1 hr (HE.out.only ho HR6.out))
      clear ho hr
      go_wp2_with fail
      refine CC1.out.mono ?_
      rintro e w2 ⟨t, y, rfl, ho⟩
      have O2 := Lib.hid (O1.out.trans ho (fun x hx => .inl hx))
      clear ho
      go_wp2
      go_ret2
      rw [HN.out]
      exact ⟨_, _, _, rfl, O2.out.alloc _, heap_alloc_new w2 _⟩
    | some ve =>
      obtain ⟨v, e0⟩ := ve
      rw [hsec] at CC
      have hv := HSL.out _ _ _ hsec
      have ev : IntKind.i64.wrap (-(v : Int)) = -(v : Int) := by rw [IntKind.wrap_i64]; omega
      by_cases hend : e0 = bs.length
      · have CD1 := Lib.hid (fun (w : World) (H : Rd w R bs e0) => isdone_any R bs e0 w H)
        rw [decide_eq_true hend] at CD1
        have HN := Lib.hid (show endR bs true (some (v, e0)) = some (-(v : Int)) from if_pos hend)
        clear hsec hB hl H hE hR6 h45 HSL hend
        go_enter Tryz.func56, Tryz.ntmps56
        go_wp2_with fail
        refine CS.out.mono ?_
        rintro e w1 ⟨rfl, ho, hr⟩
        have O1 := Lib.hid ho
        have CC1 := Lib.hid (CC.out w1 hr (HE.out.only ho HR6.out))
        clear ho hr
        go_wp2_with fail
        refine CC1.out.mono ?_
        rintro e w2 ⟨rfl, ho, hr⟩
        have O2 := Lib.hid (O1.out.trans ho (fun x hx => .inl hx))
        have CD2 := Lib.hid (CD1.out w2 hr)
        clear ho hr
        go_wp2_with fail
        refine CD2.out.mono ?_
        rintro e w3 ⟨rfl, hb⟩
        have O3 := Lib.hid (O2.out.trans (Only.of_below hb [R]) (fun x hx => .inl hx))
        clear hb
        go_wp2
        go_ret2
        rw [HN.out]
        exact ⟨rfl, O3.out⟩
      · have CD1 := Lib.hid (fun (w : World) (H : Rd w R bs e0) => isdone_any R bs e0 w H)
        rw [decide_eq_false hend] at CD1
        have CR1 := Lib.hid (fun (w : World) (H : Rd w R bs e0) => refusal_any R bs e0 41 w H)
        have HN := Lib.hid (show endR bs true (some (v, e0)) = none from if_neg hend)
        clear hsec hB hl H hE hR6 h45 HSL hend
        go_enter Tryz.func56, Tryz.ntmps56
        go_wp2_with fail
        refine CS.out.mono ?_
        rintro e w1 ⟨rfl, ho, hr⟩
        have O1 := Lib.hid ho
        have CC1 := Lib.hid (CC.out w1 hr (HE.out.only ho HR6.out))
        clear ho hr
        go_wp2_with fail
        refine CC1.out.mono ?_
        rintro e w2 ⟨rfl, ho, hr⟩
        have O2 := Lib.hid (O1.out.trans ho (fun x hx => .inl hx))
        have CD2 := Lib.hid (CD1.out w2 hr)
        have R2 := Lib.hid hr
        clear ho hr
        go_wp2_with fail
        refine CD2.out.mono ?_
        rintro e w3 ⟨rfl, hb⟩
        have O3 := Lib.hid (O2.out.trans (Only.of_below hb [R]) (fun x hx => .inl hx))
        have CR3 := Lib.hid (CR1.out w3 (R2.out.stay hb))
        clear hb
        go_wp2_with fail
        refine CR3.out.mono ?_
        rintro e w4 ⟨t, y, rfl, hb⟩
        have O4 := Lib.hid (O3.out.trans (Only.of_below hb [R]) (fun x hx => .inl hx))
        clear hb
        go_wp2
        go_ret2
        rw [HN.out]
        exact ⟨_, _, _, rfl, O4.out.alloc _, heap_alloc_new w4 _⟩
  · rw [decide_eq_false h45, if_neg h45] at CS
    rw [decide_eq_false h45, if_neg h45]
    have CC := Lib.hid (CSS.out 0 (Nat.zero_le _))
    clear CSS
    cases hsec : secR bs 0 with
    | none =>
      rw [hsec] at CC
      have HN := Lib.hid (show endR bs false none = none from rfl)
      clear hsec hB hl H hE hR6 h45 HSL
      go_enter Tryz.func56, Tryz.ntmps56
      go_wp2_with fail
      refine CS.out.mono ?_
      rintro e w1 ⟨rfl, ho, hr⟩
      have O1 := Lib.hid ho
      have CC1 := Lib.hid (CC.out w1 hr (HE.out.only ho HR6.out))
      clear ho hr
      go_wp2_with fail
      refine CC1.out.mono ?_
      rintro e w2 ⟨t, y, rfl, ho⟩
      have O2 := Lib.hid (O1.out.trans ho (fun x hx => .inl hx))
      clear ho
      go_wp2
      go_ret2
      rw [HN.out]
      exact ⟨_, _, _, rfl, O2.out.alloc _, heap_alloc_new w2 _⟩
    | some ve =>
      obtain ⟨v, e0⟩ := ve
      rw [hsec] at CC
      have hv := HSL.out _ _ _ hsec
      have ev : IntKind.i64.wrap (-(v : Int)) = -(v : Int) := by rw [IntKind.wrap_i64]; omega
      by_cases hend : e0 = bs.length
      · have CD1 := Lib.hid (fun (w : World) (H : Rd w R bs e0) => isdone_any R bs e0 w H)
        rw [decide_eq_true hend] at CD1
        have HN := Lib.hid (show endR bs false (some (v, e0)) = some ((v : Int)) from if_pos hend)
        clear hsec hB hl H hE hR6 h45 HSL hend
        go_enter Tryz.func56, Tryz.ntmps56
        go_wp2_with fail
        refine CS.out.mono ?_
        rintro e w1 ⟨rfl, ho, hr⟩
        have O1 := Lib.hid ho
        have CC1 := Lib.hid (CC.out w1 hr (HE.out.only ho HR6.out))
        clear ho hr
        go_wp2_with fail
        refine CC1.out.mono ?_
        rintro e w2 ⟨rfl, ho, hr⟩
        have O2 := Lib.hid (O1.out.trans ho (fun x hx => .inl hx))
        have CD2 := Lib.hid (CD1.out w2 hr)
        clear ho hr
        go_wp2_with fail
        refine CD2.out.mono ?_
        rintro e w3 ⟨rfl, hb⟩
        have O3 := Lib.hid (O2.out.trans (Only.of_below hb [R]) (fun x hx => .inl hx))
        clear hb
        go_wp2
        go_ret2
        rw [HN.out]
        exact ⟨rfl, O3.out⟩
      · have CD1 := Lib.hid (fun (w : World) (H : Rd w R bs e0) => isdone_any R bs e0 w H)
        rw [decide_eq_false hend] at CD1
        have CR1 := Lib.hid (fun (w : World) (H : Rd w R bs e0) => refusal_any R bs e0 41 w H)
        have HN := Lib.hid (show endR bs false (some (v, e0)) = none from if_neg hend)
        clear hsec hB hl H hE hR6 h45 HSL hend
        go_enter Tryz.func56, Tryz.ntmps56
        go_wp2_with fail
        refine CS.out.mono ?_
        rintro e w1 ⟨rfl, ho, hr⟩
        have O1 := Lib.hid ho
        have CC1 := Lib.hid (CC.out w1 hr (HE.out.only ho HR6.out))
        clear ho hr
        go_wp2_with fail
        refine CC1.out.mono ?_
        rintro e w2 ⟨rfl, ho, hr⟩
        have O2 := Lib.hid (O1.out.trans ho (fun x hx => .inl hx))
        have CD2 := Lib.hid (CD1.out w2 hr)
        have R2 := Lib.hid hr
        clear ho hr
        go_wp2_with fail
        refine CD2.out.mono ?_
        rintro e w3 ⟨rfl, hb⟩
        have O3 := Lib.hid (O2.out.trans (Only.of_below hb [R]) (fun x hx => .inl hx))
        have CR3 := Lib.hid (CR1.out w3 (R2.out.stay hb))
        clear hb
        go_wp2_with fail
        refine CR3.out.mono ?_
        rintro e w4 ⟨t, y, rfl, hb⟩
        have O4 := Lib.hid (O3.out.trans (Only.of_below hb [R]) (fun x hx => .inl hx))
        clear hb
        go_wp2
        go_ret2
        rw [HN.out]
        exact ⟨_, _, _, rfl, O4.out.alloc _, heap_alloc_new w4 _⟩
def tVal (r : Option Int) : Int := r.getD 0
def tErr (r : Option Int) : Nat := match r with | some _ => 0 | none => 41
theorem duration_all (R : Nat) (bs : List Nat) (r : Option Nat) (hr : if 100 < bs.length then r = none else DurRun bs 0 0 0 r) (hB : IsB bs) (w : World) (H : Rd w R bs 0) (hE : ErrR w) (hR6 : R ≠ 6) : Calls Tryz.prog 55 #[.pointer (some ⟨R, 0, none⟩)] w (TPost R w (natI r)) := by
  by_cases hl : 100 < bs.length
  · rw [if_pos hl] at hr
    subst hr
    exact duration_long R bs hl w H
  · rw [if_neg hl] at hr
    exact duration_run R bs r hB (by omega) hr w H hE hR6
set_option maxRecDepth 100000 in
set_option maxHeartbeats 2000000 in
theorem readdur_any (bs : List Nat) (r : Option Nat) (hr : if 100 < bs.length then r = none else DurRun bs 0 0 0 r) (hB : IsB bs) (w : World) (hg : w.cell? ⟨0, 0, none⟩ = some (rt 60)) (hE : ErrR w) :
    Calls Tryz.prog 22 #[.string (strOf bs)] w (Gives w (.tuple #[.int .i64 (tVal (natI r)), .int .u16 ((tErr (natI r) : Nat) : Int)])) := by
  have CQ := Lib.hid (fun (R : Nat) (w : World) (H : Rd w R bs 0) (hE : ErrR w) (h6 : R ≠ 6) => duration_all R bs r hr hB w H hE h6)
  have CA := Lib.hid as_nil
  have HG := Lib.hid hg
  have HG0 := Lib.hid (zero_lt hg)
  have HE := Lib.hid hE
  have HRL := Lib.hid (Rd.laid w bs)
  have H6 := Lib.hid (show w.heap.size ≠ 6 by have := hE.lt; omega)
  obtain ⟨T, hT⟩ : ∃ T, (natI r) = T := ⟨_, rfl⟩
  rw [hT] at CQ ⊢
  clear hT hB hg hE hr
  cases T with
  | some v =>
    show Calls Tryz.prog 22 #[.string (strOf bs)] w (Gives w (.tuple #[.int .i64 v, .int .u16 0]))
    obtain ⟨S, hS⟩ : ∃ S, strOf bs = S := ⟨_, rfl⟩
    rw [hS] at HRL ⊢
    clear hS
    go_enter Tryz.func22, Tryz.ntmps22
    go_wp2_with fail
    refine (CQ.out _ _ HRL.out (HE.out.below (alloc_stay w _)) H6.out).mono ?_
    rintro e w1 ⟨rfl, ho⟩
    have BB := Lib.hid (Below.trans (alloc_stay w _) (ho.below (B := w.heap.size) (by simp) (by simp)))
    clear ho
    go_wp2_with fail
    refine (CA.out _ _).mono ?_
    rintro e w2 ⟨rfl, rfl⟩
    go_wp2
    go_ret2
    exact ⟨rfl, BB.out.alloc BB.out.size _⟩
  | none =>
    show Calls Tryz.prog 22 #[.string (strOf bs)] w (Gives w (.tuple #[.int .i64 0, .int .u16 41]))
    obtain ⟨S, hS⟩ : ∃ S, strOf bs = S := ⟨_, rfl⟩
    rw [hS] at HRL ⊢
    clear hS
    go_enter Tryz.func22, Tryz.ntmps22
    go_wp2_with fail
    refine (CQ.out _ _ HRL.out (HE.out.below (alloc_stay w _)) H6.out).mono ?_
    rintro e w1 ⟨q, x, y, rfl, ho, hq⟩
    have hb : Below w.heap.size w w1 := Below.trans (alloc_stay w _) (ho.below (B := w.heap.size) (by simp) (by simp))
    have hg1 : w1.cell? ⟨0, 0, none⟩ = some (rt 60) := (hb.cell (p := ⟨0, 0, none⟩) HG0.out).trans HG.out
    have CF := Lib.hid (as_hit63 ⟨q, 0, none⟩ ⟨w1.heap.size, 0, none⟩ (.pointer none) _ (zero_alloc hg1 (.cells #[.pointer none] 63)) (fresh_cell ..) (fresh_thaw ..))
    have BB := Lib.hid hb
    have HQ := Lib.hid hq
    clear ho hb hg1 hq
    go_wp2_with fail
    refine CF.out.mono ?_
    rintro e w2 ⟨rfl, ho, hc⟩
    have hb2 : Below w1.heap.size w1 w2 := (alloc_stay w1 _).trans (ho.below (by simp) (by simp))
    have h41 : w2.cell? ⟨q, 0, none⟩ = some (.int .u16 41) := (cellAt ((hb2.block q (blk_lt HQ.out)).trans HQ.out) 0).trans rfl
    have B2 := Lib.hid (BB.out.trans (hb2.mono BB.out.size))
    clear ho hb2
    go_wp2_with fail
    go_quiet (fail)
    go_wp2
    go_ret2
    exact ⟨rfl, below_drewN B2.out nq⟩
set_option maxRecDepth 100000 in
set_option maxHeartbeats 2000000 in
theorem readtime_any (bs : List Nat)  (hB : IsB bs) (w : World) (hg : w.cell? ⟨0, 0, none⟩ = some (rt 60)) (hE : ErrR w) :
    Calls Tryz.prog 23 #[.string (strOf bs)] w (Gives w (.tuple #[.int .i64 (tVal (timeR bs)), .int .u16 ((tErr (timeR bs) : Nat) : Int)])) := by
  have CQ := Lib.hid (fun (R : Nat) (w : World) (H : Rd w R bs 0) (hE : ErrR w) (h6 : R ≠ 6) => time_any R bs hB w H hE h6)
  have CA := Lib.hid as_nil
  have HG := Lib.hid hg
  have HG0 := Lib.hid (zero_lt hg)
  have HE := Lib.hid hE
  have HRL := Lib.hid (Rd.laid w bs)
  have H6 := Lib.hid (show w.heap.size ≠ 6 by have := hE.lt; omega)
  obtain ⟨T, hT⟩ : ∃ T, (timeR bs) = T := ⟨_, rfl⟩
  rw [hT] at CQ ⊢
  clear hT hB hg hE 
  cases T with
  | some v =>
    show Calls Tryz.prog 23 #[.string (strOf bs)] w (Gives w (.tuple #[.int .i64 v, .int .u16 0]))
    obtain ⟨S, hS⟩ : ∃ S, strOf bs = S := ⟨_, rfl⟩
    rw [hS] at HRL ⊢
    clear hS
    go_enter Tryz.func23, Tryz.ntmps23
    go_wp2_with fail
    refine (CQ.out _ _ HRL.out (HE.out.below (alloc_stay w _)) H6.out).mono ?_
    rintro e w1 ⟨rfl, ho⟩
    have BB := Lib.hid (Below.trans (alloc_stay w _) (ho.below (B := w.heap.size) (by simp) (by simp)))
    clear ho
    go_wp2_with fail
    refine (CA.out _ _).mono ?_
    rintro e w2 ⟨rfl, rfl⟩
    go_wp2
    go_ret2
    exact ⟨rfl, BB.out.alloc BB.out.size _⟩
  | none =>
    show Calls Tryz.prog 23 #[.string (strOf bs)] w (Gives w (.tuple #[.int .i64 0, .int .u16 41]))
    obtain ⟨S, hS⟩ : ∃ S, strOf bs = S := ⟨_, rfl⟩
    rw [hS] at HRL ⊢
    clear hS
    go_enter Tryz.func23, Tryz.ntmps23
    go_wp2_with fail
    refine (CQ.out _ _ HRL.out (HE.out.below (alloc_stay w _)) H6.out).mono ?_
    rintro e w1 ⟨q, x, y, rfl, ho, hq⟩
    have hb : Below w.heap.size w w1 := Below.trans (alloc_stay w _) (ho.below (B := w.heap.size) (by simp) (by simp))
    have hg1 : w1.cell? ⟨0, 0, none⟩ = some (rt 60) := (hb.cell (p := ⟨0, 0, none⟩) HG0.out).trans HG.out
    have CF := Lib.hid (as_hit63 ⟨q, 0, none⟩ ⟨w1.heap.size, 0, none⟩ (.pointer none) _ (zero_alloc hg1 (.cells #[.pointer none] 63)) (fresh_cell ..) (fresh_thaw ..))
    have BB := Lib.hid hb
    have HQ := Lib.hid hq
    clear ho hb hg1 hq
    go_wp2_with fail
    refine CF.out.mono ?_
    rintro e w2 ⟨rfl, ho, hc⟩
    have hb2 : Below w1.heap.size w1 w2 := (alloc_stay w1 _).trans (ho.below (by simp) (by simp))
    have h41 : w2.cell? ⟨q, 0, none⟩ = some (.int .u16 41) := (cellAt ((hb2.block q (blk_lt HQ.out)).trans HQ.out) 0).trans rfl
    have B2 := Lib.hid (BB.out.trans (hb2.mono BB.out.size))
    clear ho hb2
    go_wp2_with fail
    go_quiet (fail)
    go_wp2
    go_ret2
    exact ⟨rfl, below_drewN B2.out nq⟩
end Go.Proofs.YthhlhiighgnkmaaGreatDoor
