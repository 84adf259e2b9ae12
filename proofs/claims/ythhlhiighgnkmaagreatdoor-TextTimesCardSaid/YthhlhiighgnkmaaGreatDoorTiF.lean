/-
  WALKS: durations of any text.
-/
import Derived.Test.YthhlhiighgnkmaaGreatDoorTiC
import Derived.Test.YthhlhiighgnkmaaGreatDoorTiD
import Derived.Test.YthhlhiighgnkmaaGreatDoorAsB
import Derived.Handy
namespace Go.Proofs.YthhlhiighgnkmaaGreatDoor
set_option linter.unusedVariables false
set_option linter.unusedSimpArgs false
open Go.RowKit Go.PlainAid
theorem nots_isB {bs : List Nat} (hB : IsB bs) (p : Nat) : IsB (nots bs p) := by
  intro c hc
  obtain ⟨k, hk, hke⟩ := List.getElem_of_mem hc
  exact at_isB hB (tw_get (List.getElem?_eq_some_iff.2 ⟨hk, hke⟩)).1
theorem left_cells {w : World} {g : Nat} (h : ∀ i v, unitCells[i]? = some v → w.cell? ⟨g, i, none⟩ = some v) (last i : Nat) (hi : i < 7 - last) : w.cell? ⟨g, last * 2 + i * 2, none⟩ = some (.string (unm (i + last))) ∧ w.cell? ⟨g, last * 2 + i * 2 + 1, none⟩ = some (.int .i64 (ums (i + last))) := by
  have := units_at h (i + last) (by omega)
  rw [show (i + last) * 2 = last * 2 + i * 2 by omega] at this
  exact this
theorem add_nat (sum x ms : Nat) (h1 : 1 ≤ ms) (h2 : ms ≤ 31536000000) (h : sum + x * ms ≤ 9007199254740992) (w : World) :
    Calls Tryz.prog 151 #[.int .i64 ((sum : Nat) : Int), .int .i64 ((x : Nat) : Int), .int .i64 ((ms : Nat) : Int)] w fun e w' => e = .returned (.tuple #[.int .i64 (((sum : Nat) : Int) + ((x : Nat) : Int) * ((ms : Nat) : Int)), .nilIface]) ∧ w' = w := by
  have hm : ((x : Int) * (ms : Int)) = ((x * ms : Nat) : Int) := by simp
  refine add_any sum x ms (by omega) (by omega) (by omega) (by omega) ?_ (by omega) (by rw [hm]; omega) (by rw [hm]; omega) w
  rw [Int.le_ediv_iff_mul_le (by omega), hm]
  omega
theorem add_nat_over (sum x ms : Nat) (h1 : 1 ≤ ms) (h0 : sum ≤ 9007199254740992) (h : ¬ sum + x * ms ≤ 9007199254740992) (w : World) :
    Calls Tryz.prog 151 #[.int .i64 ((sum : Nat) : Int), .int .i64 ((x : Nat) : Int), .int .i64 ((ms : Nat) : Int)] w fun e w' => e = .returned (.tuple #[.int .i64 0, .iface 28 (.int .u16 41)]) ∧ w' = w := by
  have hm : ((x : Int) * (ms : Int)) = ((x * ms : Nat) : Int) := by simp
  refine add_over sum x ms (by omega) (by omega) (by omega) ?_ w
  rw [Int.le_ediv_iff_mul_le (by omega), hm]
  omega
theorem addunits_good (R : Nat) (bs : List Nat) (p last k g cap sum x : Nat) (lv : Value) (w : World) (hB : IsB bs) (hl : bs.length ≤ 30000) (hp : p ≤ bs.length) (H : Rd w R bs p) (hgR : g ≠ R) (hcap : 7 ≤ cap) (hg : g < w.heap.size) (hc : ∀ i v, unitCells[i]? = some v → w.cell? ⟨g, i, none⟩ = some v)
    (hLV : LeftV g cap last lv) (hk : unitI (nots bs p) = k) (hup : last < k) (hsum : sum + x * unitMs k ≤ 9007199254740992) :
    Calls Tryz.prog 102 #[.pointer (some ⟨R, 0, none⟩), .int .i64 ((sum : Nat) : Int), .int .i64 ((x : Nat) : Int), lv] w fun e w' => ∃ lv', e = .returned (.tuple #[.int .i64 ((sum + x * unitMs k : Nat) : Int), lv', .nilIface]) ∧ LeftV g cap k lv' ∧ Only [R] w w' ∧ Rd w' R bs (p + (nots bs p).length) := by
  have hk7 : k ≤ 7 := by rw [← hk]; exact unitI_le _
  have hns := nots_isB hB p
  rcases hLV with ⟨hl7, rfl⟩ | ⟨rfl, _⟩
  · obtain ⟨u1, u2⟩ := unitMs_pos k (by omega) hk7
    have hms : ums (k - 1 - last + last) = ((unitMs k : Nat) : Int) := by rw [show k - 1 - last + last = k - 1 by omega, ums_eq (k - 1) (by omega), show k - 1 + 1 = k by omega]
    have hbq : ∀ i, i < 7 - last → ((unm (i + last)).toList == (strOf (nots bs p)).toList) = decide (k = i + last + 1) := fun i hi => by rw [unit_beq _ hns _ (by omega), hk]
    have hval : ((sum : Int) + (x : Int) * ums (k - 1 - last + last)) = ((sum + x * unitMs k : Nat) : Int) := by rw [hms]; simp
    by_cases hj2 : k < 7
    · refine (addunits_ok R bs p _ (nots bs p) g (last * 2) (7 - last) (cap - last) (k - 1 - last) (fun i => unm (i + last)) (fun i => ums (i + last)) sum x w hB (by omega) rfl (tw_le hp) (fun k c h => tw_get h) (fun c h => tw_end h) H hgR (by omega) (by omega) hg (fun i hi => left_cells hc last i hi) (by omega) (by omega) (by rw [hbq _ (by omega)]; exact decide_eq_true (by omega)) (fun i hi => by rw [hbq _ (by omega)]; exact decide_eq_false (by omega)) (fun w => by rw [hms]; exact add_nat sum x _ u1 u2 hsum w)).mono ?_
      rintro e w' ⟨h1, h2, h3⟩
      refine ⟨_, by rw [h1, hval], .inl ⟨hj2, ?_⟩, h2, h3⟩
      rw [show last * 2 + (k - 1 - last + 1) * 2 = k * 2 by omega, show 7 - last - (k - 1 - last + 1) = 7 - k by omega, show cap - last - (k - 1 - last + 1) = cap - k by omega]
    · refine (addunits_last R bs p _ (nots bs p) g (last * 2) (7 - last) (cap - last) (k - 1 - last) (fun i => unm (i + last)) (fun i => ums (i + last)) sum x w hB (by omega) rfl (tw_le hp) (fun k c h => tw_get h) (fun c h => tw_end h) H hgR (by omega) (by omega) hg (fun i hi => left_cells hc last i hi) (by omega) (by omega) (by rw [hbq _ (by omega)]; exact decide_eq_true (by omega)) (fun i hi => by rw [hbq _ (by omega)]; exact decide_eq_false (by omega)) (fun w => by rw [hms]; exact add_nat sum x _ u1 u2 hsum w)).mono ?_
      rintro e w' ⟨a, c, h1, h2, h3⟩
      exact ⟨_, by rw [h1, hval], .inr ⟨by omega, a, c, rfl⟩, h2, h3⟩
  · omega
theorem addunits_bad (R : Nat) (bs : List Nat) (p last g cap sum x : Nat) (lv : Value) (w : World) (hB : IsB bs) (hl : bs.length ≤ 30000) (hp : p ≤ bs.length) (H : Rd w R bs p) (hgR : g ≠ R) (hcap : 7 ≤ cap) (hg : g < w.heap.size) (hc : ∀ i v, unitCells[i]? = some v → w.cell? ⟨g, i, none⟩ = some v)
    (hLV : LeftV g cap last lv) (hs : sum ≤ 9007199254740992) (hbad : ¬ (last < unitI (nots bs p) ∧ sum + x * unitMs (unitI (nots bs p)) ≤ 9007199254740992)) :
    Calls Tryz.prog 102 #[.pointer (some ⟨R, 0, none⟩), .int .i64 ((sum : Nat) : Int), .int .i64 ((x : Nat) : Int), lv] w fun e w' => ∃ s u t v, e = .returned (.tuple #[s, u, .iface t v]) ∧ Only [R] w w' := by
  obtain ⟨k, hk⟩ : ∃ k, unitI (nots bs p) = k := ⟨_, rfl⟩
  rw [hk] at hbad
  have hk7 : k ≤ 7 := by rw [← hk]; exact unitI_le _
  have hns := nots_isB hB p
  rcases hLV with ⟨hl7, rfl⟩ | ⟨rfl, a, c, rfl⟩
  · have hbq : ∀ i, i < 7 - last → ((unm (i + last)).toList == (strOf (nots bs p)).toList) = decide (k = i + last + 1) := fun i hi => by rw [unit_beq _ hns _ (by omega), hk]
    by_cases hup : last < k
    · obtain ⟨u1, u2⟩ := unitMs_pos k (by omega) hk7
      have hms : ums (k - 1 - last + last) = ((unitMs k : Nat) : Int) := by rw [show k - 1 - last + last = k - 1 by omega, ums_eq (k - 1) (by omega), show k - 1 + 1 = k by omega]
      refine (addunits_over R bs p _ (nots bs p) g (last * 2) (7 - last) (cap - last) (k - 1 - last) (fun i => unm (i + last)) (fun i => ums (i + last)) sum x w hB (by omega) rfl (tw_le hp) (fun k c h => tw_get h) (fun c h => tw_end h) H hgR (by omega) (by omega) hg (fun i hi => left_cells hc last i hi) (by omega) (by rw [hbq _ (by omega)]; exact decide_eq_true (by omega)) (fun i hi => by rw [hbq _ (by omega)]; exact decide_eq_false (by omega)) (fun w => by rw [hms]; exact add_nat_over sum x _ u1 hs (fun h => hbad ⟨hup, h⟩) w)).mono ?_
      rintro e w' ⟨s, u, t, v, h1, h2⟩
      exact ⟨s, u, t, v, h1, h2⟩
    · refine (addunits_none R bs p _ (nots bs p) g (last * 2) (7 - last) (cap - last) (fun i => unm (i + last)) (fun i => ums (i + last)) sum x w hB (by omega) rfl (tw_le hp) (fun k c h => tw_get h) (fun c h => tw_end h) H hgR (by omega) (by omega) hg (fun i hi => left_cells hc last i hi) (fun i hi => by rw [hbq _ (by omega)]; exact decide_eq_false (by omega))).mono ?_
      rintro e w' ⟨t, v, h1, h2⟩
      exact ⟨_, _, t, v, h1, h2⟩
  · refine (addunits_nil R bs p _ (nots bs p) a c sum x w hB (by omega) rfl (tw_le hp) (fun k c h => tw_get h) (fun c h => tw_end h) H).mono ?_
    rintro e w' ⟨t, v, h1, h2⟩
    exact ⟨_, _, t, v, h1, h2⟩
/-- what a reading of a time comes to -/
def TPost (R : Nat) (w : World) : Option Int → Ending → World → Prop
  | some v, e, w' => e = .returned (.tuple #[.int .i64 v, .nilIface]) ∧ Only [R] w w'
  | none, e, w' => ∃ (q : Nat) (s : Int) (y : Value), e = .returned (.tuple #[.int .i64 0, .iface 63 (.pointer (some ⟨q, 0, none⟩))]) ∧ Only [R] w w' ∧ w'.heap[q]? = some (.cells #[.int .u16 41, .int .i64 s, y] 67 (0, 0))
def natI (r : Option Nat) : Option Int := r.map fun n => (n : Int)
set_option maxRecDepth 100000 in
set_option maxHeartbeats 2000000 in
theorem duration_long (R : Nat) (bs : List Nat) (hl : 100 < bs.length) (w : World) (H : Rd w R bs 0) : Calls Tryz.prog 55 #[.pointer (some ⟨R, 0, none⟩)] w (TPost R w none) := by
  have h0 := H.c0
  have hsz := strOf_size bs
  obtain ⟨L, hL⟩ : ∃ L, bs.length = L := ⟨_, rfl⟩
  rw [hL] at hsz hl
  have d1 : decide ((L : Int) > 100) = true := decide_eq_true (by omega)
  have d2 : decide ((100 : Int) < (L : Int)) = true := d1
  have d3 : decide (100 < L) = true := decide_eq_true hl
  obtain ⟨S, hS⟩ : ∃ S, strOf bs = S := ⟨_, rfl⟩
  rw [hS] at h0 hsz
  have OO := Lib.hid (fun o : Obj => (Only.refl [R] w).alloc o)
  clear hL hS H
  go_enter Tryz.func55, Tryz.ntmps55
  go_wp2
  go_ret2
  exact ⟨_, _, _, rfl, OO.out _, heap_alloc_new w _⟩
set_option maxRecDepth 100000 in
set_option maxHeartbeats 4000000 in
theorem duration_run (R : Nat) (bs : List Nat) (r : Option Nat) (hB : IsB bs) (hl : bs.length ≤ 100) (hr : DurRun bs 0 0 0 r) (w : World) (H : Rd w R bs 0) (hE : ErrR w) (hR6 : R ≠ 6) : Calls Tryz.prog 55 #[.pointer (some ⟨R, 0, none⟩)] w (TPost R w (natI r)) := by
  have h0 := H.c0
  have hsz := strOf_size bs
  have CAU := Lib.hid allunits_any
  have CWG := Lib.hid (fun (p : Nat) (hp : p ≤ bs.length) h1 h2 w H => whole_good R bs p hB (by omega) hp h1 h2 w H)
  have CWB := Lib.hid (fun (p : Nat) (hp : p ≤ bs.length) h1 (w : World) H (hE : ErrR w) => whole_bad R bs p hB (by omega) hp h1 w H hR6 hE)
  have CUG := Lib.hid (fun (p last k g cap sum x : Nat) (lv : Value) (w : World) (hp : p ≤ bs.length) h1 h2 h3 h4 h5 h6 h7 h8 h9 => addunits_good R bs p last k g cap sum x lv w hB (by omega) hp h1 h2 h3 h4 h5 h6 h7 h8 h9)
  have CUB := Lib.hid (fun (p last g cap sum x : Nat) (lv : Value) (w : World) (hp : p ≤ bs.length) h1 h2 h3 h4 h5 h6 h7 h8 => addunits_bad R bs p last g cap sum x lv w hB (by omega) hp h1 h2 h3 h4 h5 h6 h7 h8)
  have CD := Lib.hid (fun (p : Nat) (w : World) (H : Rd w R bs p) => isdone_any R bs p w H)
  have HR := Lib.hid hr
  have HE := Lib.hid hE
  have HR6 := Lib.hid hR6
  have H0 := Lib.hid H
  have HLL := Lib.hid hl
  obtain ⟨L, hL⟩ : ∃ L, bs.length = L := ⟨_, rfl⟩
  have HL := Lib.hid hL
  rw [hL] at hsz hl
  have d1 : decide ((L : Int) > 100) = false := decide_eq_false (by omega)
  have d2 : decide ((100 : Int) < (L : Int)) = false := d1
  have d3 : decide (100 < L) = false := decide_eq_false (by omega)
  obtain ⟨S, hS⟩ : ∃ S, strOf bs = S := ⟨_, rfl⟩
  rw [hS] at h0 hsz
  clear hL hS H hr hE hR6 hB
  go_enter Tryz.func55, Tryz.ntmps55
  go_wp2_with fail
  refine (CAU.out _).mono ?_
  rintro e w1 ⟨g, cap, rfl, hcap, hgw, hg, hcl, hb⟩
  have hgR : g ≠ R := by have := H0.out.lt; omega
  have R1 := Lib.hid (H0.out.stay hb)
  have O1 := Lib.hid (Only.of_below hb [R])
  have E1 := Lib.hid (HE.out.below hb)
  have HGR := Lib.hid hgR
  have HK : Hid (∀ (w2 : World), Only [R] w1 w2 → g < w2.heap.size ∧ ∀ i v, unitCells[i]? = some v → w2.cell? ⟨g, i, none⟩ = some v) := Lib.hid (fun w2 ho => ⟨Nat.lt_of_lt_of_le hg ho.size, fun i v hv => (ho.cell (p := ⟨g, i, none⟩) hg (by simpa using hgR)).trans (hcl i v hv)⟩)
  have HCAP := Lib.hid hcap
  have HLV0 : Hid (LeftV g cap 0 (.slice (some ⟨g, 0, none⟩) 7 cap)) := Lib.hid (.inl ⟨by decide, rfl⟩)
  clear hb hcl hg hgR hgw h0
  go_wp2
  go_loopw [4, 5] (fun s lv wr => ∃ (p last sum : Nat), Hid (DurRun bs p last sum r) ∧ Hid (p ≤ bs.length) ∧ s = .int .i64 ((sum : Nat) : Int) ∧ Hid (sum ≤ 9007199254740992) ∧ Hid (LeftV g cap last lv) ∧ Hid (Only [R] w1 wr) ∧ Hid (Rd wr R bs p)) (fun _ _ wr => bs.length + 1 - posOf R wr)
  case atStart => exact ⟨0, 0, 0, HR, Lib.hid (Nat.zero_le _), rfl, Lib.hid (Nat.zero_le _), HLV0, Lib.hid (Only.refl _ _), R1⟩
  case round =>
    obtain ⟨p, last, sum, HRN, HP, rfl, HS, HLV, HO, HRD⟩ := hrel
    have hcl := HRD.out.c1
    have hms : posOf R wr = p := HRD.out.posOf
    have HO2 := Lib.hid (O1.out.trans HO.out (fun x hx => .inl hx))
    have finish : ∀ (wz : World), Only [R] w1 wz → Only [R] w wz := fun wz h => O1.out.trans h (fun x hx => .inl hx)
    have HF := Lib.hid finish
    clear finish
    by_cases hw : digs bs p = [] ∨ 9223372036854775808 ≤ decV 0 (digs bs p)
    · have CW := Lib.hid (CWB.out p HP.out hw wr HRD.out (E1.out.only HO.out HR6.out))
      have HNONE : Hid (r = none) := Lib.hid (by
        have key : ∀ p' k sum', ¬ DurStep bs p last sum p' k sum' := by
          intro p' k sum' hst
          rcases hw with h | h
          · exact hst.ne h
          · have h1 := hst.sum
            have h2 := hst.low
            have h3 := (unitMs_pos k (by have := hst.up; omega) (by rw [← hst.key]; exact unitI_le _)).1
            have h4 : decV 0 (digs bs p) * 1 ≤ decV 0 (digs bs p) * unitMs k := Nat.mul_le_mul_left _ h3
            omega
        cases HRN.out with
        | bad _ _ _ h => rfl
        | fin _ _ _ k sum' h => exact absurd h (key _ _ _)
        | more _ _ _ p' k sum' _ h _ _ => exact absurd h (key _ _ _))
      clear hw
      go_wp2_with fail
      refine CW.out.mono ?_
      rintro e w2 ⟨t, v, rfl, ho⟩
      have O2 := Lib.hid (HF.out w2 (HO.out.trans ho (fun x hx => .inl hx)))
      clear ho
      go_wp2
      go_ret2
      rw [HNONE.out]
      exact ⟨_, _, _, rfl, O2.out.alloc _, heap_alloc_new w2 _⟩
    · have hne : digs bs p ≠ [] := fun h => hw (.inl h)
      have hlt : decV 0 (digs bs p) < 9223372036854775808 := by
        rcases Nat.lt_or_ge (decV 0 (digs bs p)) 9223372036854775808 with h | h
        · exact h
        · exact absurd (.inr h) hw
      have CW := Lib.hid (CWG.out p HP.out hne hlt wr HRD.out)
      have HP2 := Lib.hid (show p + (digs bs p).length ≤ bs.length from tw_le HP.out)
      by_cases hst : last < unitI (nots bs (p + (digs bs p).length)) ∧ sum + decV 0 (digs bs p) * unitMs (unitI (nots bs (p + (digs bs p).length))) ≤ 9007199254740992
      · obtain ⟨k, hk⟩ : ∃ k, unitI (nots bs (p + (digs bs p).length)) = k := ⟨_, rfl⟩
        rw [hk] at hst
        obtain ⟨sum', hsum'⟩ : ∃ s, sum + decV 0 (digs bs p) * unitMs k = s := ⟨_, rfl⟩
        obtain ⟨p', hp'⟩ : ∃ q, p + (digs bs p).length + (nots bs (p + (digs bs p).length)).length = q := ⟨_, rfl⟩
        have HST := Lib.hid (DurStep.mk hne hk hst.1 hsum' (by rw [← hsum']; exact hst.2) hp')
        have HPL := Lib.hid (HST.out.le HP.out)
        have CU := Lib.hid (fun (w2 : World) (ho : Only [R] w1 w2) (H : Rd w2 R bs (p + (digs bs p).length)) => CUG.out (p + (digs bs p).length) last k g cap sum (decV 0 (digs bs p)) _ w2 HP2.out H HGR.out HCAP.out (HK.out w2 ho).1 (HK.out w2 ho).2 HLV.out hk hst.1 hst.2)
        rw [hsum', hp'] at CU
        have HUNI : ∀ p2 k2 s2, DurStep bs p last sum p2 k2 s2 → p2 = p' ∧ k2 = k ∧ s2 = sum' := by
          intro p2 k2 s2 h
          have h1 : k2 = k := by rw [← h.key, hk]
          subst h1
          exact ⟨by rw [← h.at', hp'], rfl, by rw [← h.sum, hsum']⟩
        have HU := Lib.hid HUNI
        obtain ⟨V, hV⟩ : ∃ V, decV 0 (digs bs p) = V := ⟨_, rfl⟩
        rw [hV] at CW CU
        have HS2 := Lib.hid HST.out.low
        clear hw hne hlt hk hst hsum' hp' HUNI hV
        go_wp2_with fail
        refine CW.out.mono ?_
        rintro e w2 ⟨rfl, ho, hr⟩
        have O2 := Lib.hid (HO.out.trans ho (fun x hx => .inl hx))
        have CU2 := Lib.hid (CU.out w2 O2.out hr)
        clear ho hr
        go_wp2_with fail
        refine CU2.out.mono ?_
        rintro e w3 ⟨lv', rfl, hlv, ho, hr⟩
        have O3 := Lib.hid (O2.out.trans ho (fun x hx => .inl hx))
        have R3 := Lib.hid hr
        have CD3 := Lib.hid (CD.out p' w3 hr)
        have LV3 := Lib.hid hlv
        clear ho hr hlv
        by_cases hend : p' = bs.length
        · rw [decide_eq_true hend] at CD3
          have HRES : Hid (r = some sum') := Lib.hid (by
            cases HRN.out with
            | bad _ _ _ h => exact absurd HST.out (h _ _ _)
            | fin _ _ _ k2 s2 h => rw [(HU.out _ _ _ h).2.2]
            | more _ _ _ p2 k2 s2 _ h hlt _ => have := (HU.out _ _ _ h).1; omega)
          clear hend
          go_wp2_with fail
          refine CD3.out.mono ?_
          rintro e w4 ⟨rfl, hb⟩
          have O4 := Lib.hid (HF.out w4 (O3.out.trans (Only.of_below hb [R]) (fun x hx => .inl hx)))
          clear hb
          go_wp2
          go_ret2
          rw [HRES.out]
          exact ⟨rfl, O4.out⟩
        · rw [decide_eq_false hend] at CD3
          have HNEXT : Hid (DurRun bs p' k sum' r) := Lib.hid (by
            cases HRN.out with
            | bad _ _ _ h => exact absurd HST.out (h _ _ _)
            | fin _ _ _ k2 s2 h => exact absurd (HU.out _ _ _ h).1.symm hend
            | more _ _ _ p2 k2 s2 _ h hlt hrest =>
              obtain ⟨rfl, rfl, rfl⟩ := HU.out _ _ _ h
              exact hrest)
          clear hend
          go_wp2_with fail
          refine CD3.out.mono ?_
          rintro e w4 ⟨rfl, hb⟩
          have O4 := Lib.hid (O3.out.trans (Only.of_below hb [R]) (fun x hx => .inl hx))
          have R4 := Lib.hid (R3.out.stay hb)
          have hms2 : posOf R w4 = p' := R4.out.posOf
          clear hb
          go_wp2
          go_roundw
          case rel => exact ⟨p', k, sum', HNEXT, Lib.hid HPL.out.2, rfl, HS2, LV3, O4, R4⟩
          case measure => have := HPL.out; rw [hms, hms2]; omega
      · have CU := Lib.hid (fun (w2 : World) (ho : Only [R] w1 w2) (H : Rd w2 R bs (p + (digs bs p).length)) => CUB.out (p + (digs bs p).length) last g cap sum (decV 0 (digs bs p)) _ w2 HP2.out H HGR.out HCAP.out (HK.out w2 ho).1 (HK.out w2 ho).2 HLV.out HS.out hst)
        have HNONE : Hid (r = none) := Lib.hid (by
          have key : ∀ p' k sum', ¬ DurStep bs p last sum p' k sum' := by
            intro p' k sum' h
            refine hst ⟨?_, ?_⟩
            · rw [h.key]; exact h.up
            · rw [h.key, h.sum]; exact h.low
          cases HRN.out with
          | bad _ _ _ h => rfl
          | fin _ _ _ k sum' h => exact absurd h (key _ _ _)
          | more _ _ _ p' k sum' _ h _ _ => exact absurd h (key _ _ _))
        obtain ⟨V, hV⟩ : ∃ V, decV 0 (digs bs p) = V := ⟨_, rfl⟩
        rw [hV] at CW CU
        clear hw hne hlt hst hV
        go_wp2_with fail
        refine CW.out.mono ?_
        rintro e w2 ⟨rfl, ho, hr⟩
        have O2 := Lib.hid (HO.out.trans ho (fun x hx => .inl hx))
        have CU2 := Lib.hid (CU.out w2 O2.out hr)
        clear ho hr
        go_wp2_with fail
        refine CU2.out.mono ?_
        rintro e w3 ⟨s, u, t, v, rfl, ho⟩
        have O3 := Lib.hid (HF.out w3 (O2.out.trans ho (fun x hx => .inl hx)))
        clear ho
        go_wp2
        go_ret2
        rw [HNONE.out]
        exact ⟨_, _, _, rfl, O3.out.alloc _, heap_alloc_new w3 _⟩
end Go.Proofs.YthhlhiighgnkmaaGreatDoor
