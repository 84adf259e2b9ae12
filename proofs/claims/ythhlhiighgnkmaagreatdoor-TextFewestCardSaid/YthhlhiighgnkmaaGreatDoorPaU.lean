/-
  PaJ, PaK, PaL, PaM, PaN, PaO, PaP, BkA, put together (a claim holds at most 60 files).
-/
import Derived.Test.YthhlhiighgnkmaaGreatDoorPaT
import Derived.Test.YthhlhiighgnkmaaGreatDoorLaidP
import Derived.Test.YthhlhiighgnkmaaGreatDoorPtZ
/-! ## WALKS: the reader's number without its sign, and with it, where it begins with a digit. -/
namespace Go.Proofs.YthhlhiighgnkmaaGreatDoor
set_option linter.unusedVariables false
set_option linter.unusedSimpArgs false
open Go.RowKit Go.PlainAid
set_option maxRecDepth 100000 in
set_option maxHeartbeats 2000000 in
/-- behind a nought stands a point: it begins no 0x -/
theorem word_point (R : Nat) (bs : List Nat) (p : Nat) (hB : IsB bs) (hp : bs[p]? = some 48) (hp2 : bs[p + 1]? = some 46) (hl : bs.length ≤ 200000) (w : World) (H : Rd w R bs p) :
    Calls Tryz.prog 130 #[.pointer (some ⟨R, 0, none⟩), .string { data := #[48, 120] }] w fun e w' => e = .returned (.bool false) ∧ ∃ m, w' = w.drewN m := by
  have h0 := H.c0
  have h1 := H.c1
  obtain ⟨hp, hpc⟩ := List.getElem?_eq_some_iff.1 hp
  obtain ⟨hp2, hpc2⟩ := List.getElem?_eq_some_iff.1 hp2
  have hsz := strOf_size bs
  have hbt := get_bt (strOf bs)
  have hb0 : bt (strOf bs) p = 48 := by rw [strOf_bt bs hB p hp, hpc]; rfl
  have hb1 : bt (strOf bs) (p + 1) = 46 := by rw [strOf_bt bs hB (p + 1) hp2, hpc2]; rfl
  obtain ⟨L, hL⟩ : ∃ L, bs.length = L := ⟨_, rfl⟩
  rw [hL] at hsz hl hp hp2
  have e1 : IntKind.i64.wrap ((L : Int) - (p : Int)) = ((L - p : Nat) : Int) := by rw [IntKind.wrap_i64]; omega
  have e2 : decide (((L - p : Nat) : Int) < 2) = false := decide_eq_false (by omega)
  have e6 : IntKind.i64.wrap ((p : Int) + 0) = (p : Int) := by rw [IntKind.wrap_i64]; omega
  have e7 : IntKind.i64.wrap ((p : Int) + 1) = ((p + 1 : Nat) : Int) := by rw [IntKind.wrap_i64]; omega
  have hpi : (p : Int) < (L : Int) := by omega
  have hpi2 : ((p + 1 : Nat) : Int) < (L : Int) := by omega
  have hpi3 : (p : Int) + 1 < (L : Int) := by omega
  obtain ⟨D, hD⟩ : ∃ D, L - p = D := ⟨_, rfl⟩
  rw [hD] at e1 e2
  have hDZ : ¬ D < 2 := by omega
  clear hL H hD hpc hpc2 hB
  go_enter Tryz.func130, Tryz.ntmps130
  go_wp2_with fail
  go_quiet (fail)
  go_wp2_with fail
  refine wp_loop_rounds 2 ?_
  rw [rounds_succ]
  go_wp2_with fail
  go_quiet (fail)
  go_wp2_with fail
  rw [rounds_succ]
  go_wp2_with fail
  go_quiet (fail)
  go_wp2
  go_ret
  exact ⟨rfl, _, rfl⟩
/-- a word of letters does not begin with a digit -/
theorem word_letter (R : Nat) (bs : List Nat) (p c d : Nat) (W : ByteArray) (hB : IsB bs) (hp : bs[p]? = some c) (hc : c < 65) (hl : bs.length ≤ 200000) (hZ0 : 1 ≤ W.size) (hd : bt W 0 = ((d : Nat) : Int)) (hcd : c ≠ d) (w : World) (H : Rd w R bs p) :
    Calls Tryz.prog 130 #[.pointer (some ⟨R, 0, none⟩), .string W] w fun e w' => e = .returned (.bool false) ∧ ∃ m, w' = w.drewN m := by
  have hp' := (List.getElem?_eq_some_iff.1 hp).1
  by_cases h : bs.length - p < W.size
  · exact word_short R bs p W (by omega) hl h w H
  · exact word_other R bs p c d W hB hp hc hl (by omega) hZ0 hd hcd w H
/-- no 0x -/
theorem word_hex (R : Nat) (bs : List Nat) (p c : Nat) (hB : IsB bs) (hp : bs[p]? = some c) (hc : c < 65) (hz : c = 48 → p + 1 = bs.length ∨ bs[p + 1]? = some 46) (hl : bs.length ≤ 200000) (w : World) (H : Rd w R bs p) :
    Calls Tryz.prog 130 #[.pointer (some ⟨R, 0, none⟩), .string { data := #[48, 120] }] w fun e w' => e = .returned (.bool false) ∧ ∃ m, w' = w.drewN m := by
  by_cases h : c = 48
  · subst h
    rcases hz rfl with h2 | h2
    · exact word_short R bs p { data := #[48, 120] } (by omega) hl (show bs.length - p < 2 by omega) w H
    · exact word_point R bs p hB hp h2 hl w H
  · exact word_letter R bs p c 48 _ hB hp hc hl (by decide) rfl h w H
set_option maxRecDepth 100000 in
/-- what begins with a digit is read as a decimal number -/
theorem unsigned_any (R : Nat) (bs : List Nat) (p c q v : Nat) (hB : IsB bs) (hl : bs.length ≤ 1000) (hp : bs[p]? = some c) (hc : c < 65) (hz : c = 48 → p + 1 = bs.length ∨ bs[p + 1]? = some 46) (W0 w : World) (hb0 : Below W0.heap.size W0 w)
    (CD : ∀ w, Below W0.heap.size W0 w → Rd w R bs p → Calls Tryz.prog 134 #[.pointer (some ⟨R, 0, none⟩)] w fun e w' => e = .returned (.tuple #[.int .u64 (v : Int), .nilIface]) ∧ Only [R] w w' ∧ Rd w' R bs q) (H : Rd w R bs p) :
    Calls Tryz.prog 82 #[.pointer (some ⟨R, 0, none⟩)] w fun e w' => e = .returned (.tuple #[.int .u64 (v : Int), .nilIface]) ∧ Only [R] w w' ∧ Rd w' R bs q := by
  have C1 := Lib.hid (fun w H => word_letter R bs p c 105 { data := #[105, 110, 102, 105, 110, 105, 116, 121] } hB hp hc (by omega) (by decide) rfl (by omega) w H)
  have C2 := Lib.hid (fun w H => word_letter R bs p c 105 { data := #[105, 110, 102] } hB hp hc (by omega) (by decide) rfl (by omega) w H)
  have C3 := Lib.hid (fun w H => word_letter R bs p c 110 { data := #[110, 97, 110] } hB hp hc (by omega) (by decide) rfl (by omega) w H)
  have C4 := Lib.hid (fun w H => word_hex R bs p c hB hp hc hz (by omega) w H)
  have HD := Lib.hid CD
  have HB0 := Lib.hid hb0
  have HH := Lib.hid H
  clear H CD hb0 hp hz hB
  go_enter Tryz.func82, Tryz.ntmps82
  go_wp2_with fail
  refine (C1.out w HH.out).mono ?_
  rintro e w1 ⟨rfl, m1, rfl⟩
  go_wp2_with fail
  refine (C2.out (w.drewN m1) HH.out).mono ?_
  rintro e w1 ⟨rfl, m2, rfl⟩
  go_wp2_with fail
  refine (C3.out (w.drewN (m1 + m2)) HH.out).mono ?_
  rintro e w1 ⟨rfl, m3, rfl⟩
  go_wp2_with fail
  refine (C4.out (w.drewN (m1 + m2 + m3)) HH.out).mono ?_
  rintro e w1 ⟨rfl, m4, rfl⟩
  go_wp2_with fail
  refine (HD.out (w.drewN (m1 + m2 + m3 + m4)) (below_drewN HB0.out _) HH.out).mono ?_
  rintro e w1 ⟨rfl, ho, hr⟩
  have O1 := Lib.hid (show Only [R] w w1 from ((Only.refl [R] w).drewN _).trans ho (fun x hx => .inl hx))
  have R1 := Lib.hid hr
  clear ho hr
  go_wp2
  go_ret2
  exact ⟨rfl, O1.out, R1.out⟩
end Go.Proofs.YthhlhiighgnkmaaGreatDoor
/-! ## WALKS: the code's Number, from the walks of its sign and of what follows. -/
namespace Go.Proofs.YthhlhiighgnkmaaGreatDoor
set_option linter.unusedVariables false
set_option linter.unusedSimpArgs false
open Go.RowKit Go.PlainAid
/-- with its sign -/
def sgnV (neg : Bool) (v : Nat) : Nat := if neg then Nr.dNeg v else v
set_option maxRecDepth 100000 in
theorem number_any (R : Nat) (bs : List Nat) (neg : Bool) (p v : Nat) (hl : bs.length ≤ 1000) (hv : v < 2 ^ 64) (W0 w : World) (hb0 : Below W0.heap.size W0 w) (hR : W0.heap.size ≤ R)
    (CS : Calls Tryz.prog 81 #[.pointer (some ⟨R, 0, none⟩)] w fun e w' => e = .returned (.bool neg) ∧ Only [R] w w' ∧ Rd w' R bs p)
    (CU : ∀ w, Below W0.heap.size W0 w → Rd w R bs p → Calls Tryz.prog 82 #[.pointer (some ⟨R, 0, none⟩)] w fun e w' => e = .returned (.tuple #[.int .u64 (v : Int), .nilIface]) ∧ Only [R] w w' ∧ Rd w' R bs bs.length) (H : Rd w R bs 0) :
    Calls Tryz.prog 43 #[.pointer (some ⟨R, 0, none⟩)] w fun e w' => e = .returned (.tuple #[.int .u64 (sgnV neg v : Nat), .nilIface]) ∧ Only [R] w w' := by
  have HS := Lib.hid CS
  have HU := Lib.hid CU
  have CD := Lib.hid (fun w => isdone_any R bs bs.length w)
  rw [show decide (bs.length = bs.length) = true from decide_eq_true rfl] at CD
  have CN := Lib.hid (fun w => Tn.neg_any v hv w)
  have h0 := H.c0
  have hsz := strOf_size bs
  have HB0 := Lib.hid hb0
  have HRR := Lib.hid hR
  obtain ⟨S, hS⟩ : ∃ S, strOf bs = S := ⟨_, rfl⟩
  rw [hS] at h0 hsz
  have s1 : decide ((1000 : Int) < (S.size : Int)) = false := decide_eq_false (by omega)
  have s2 : decide (1000 < S.size) = false := decide_eq_false (by omega)
  clear hS H CS CU hb0 hR hsz
  cases neg with
  | true =>
    rw [show sgnV true v = Nr.dNeg v from rfl]
    go_enter Tryz.func43, Tryz.ntmps43
    go_wp2_with fail
    refine HS.out.mono ?_
    rintro e w1 ⟨rfl, ho, hr⟩
    have O1 := Lib.hid ho
    have R1 := Lib.hid hr
    clear ho hr h0
    go_wp2_with fail
    refine (HU.out w1 (below_only HB0.out O1.out HRR.out) R1.out).mono ?_
    rintro e w2 ⟨rfl, ho, hr⟩
    have O2 := Lib.hid (O1.out.trans ho (fun x hx => .inl hx))
    have R2 := Lib.hid hr
    clear ho hr
    go_wp2_with fail
    refine (CD.out w2 R2.out).mono ?_
    rintro e w3 ⟨rfl, hb⟩
    have O3 := Lib.hid (O2.out.trans (Only.of_below hb [R]) (fun x hx => .inl hx))
    clear hb
    go_wp2_with fail
    refine (CN.out _).mono ?_
    rintro e w4 ⟨rfl, rfl⟩
    go_wp2
    go_ret2
    exact ⟨rfl, O3.out⟩
  | false =>
    rw [show sgnV false v = v from rfl]
    go_enter Tryz.func43, Tryz.ntmps43
    go_wp2_with fail
    refine HS.out.mono ?_
    rintro e w1 ⟨rfl, ho, hr⟩
    have O1 := Lib.hid ho
    have R1 := Lib.hid hr
    clear ho hr h0
    go_wp2_with fail
    refine (HU.out w1 (below_only HB0.out O1.out HRR.out) R1.out).mono ?_
    rintro e w2 ⟨rfl, ho, hr⟩
    have O2 := Lib.hid (O1.out.trans ho (fun x hx => .inl hx))
    have R2 := Lib.hid hr
    clear ho hr
    go_wp2_with fail
    refine (CD.out w2 R2.out).mono ?_
    rintro e w3 ⟨rfl, hb⟩
    have O3 := Lib.hid (O2.out.trans (Only.of_below hb [R]) (fun x hx => .inl hx))
    clear hb
    go_wp2
    go_ret2
    exact ⟨rfl, O3.out⟩
set_option maxRecDepth 100000 in
theorem Number_any (bs : List Nat) (neg : Bool) (p v : Nat) (hl : bs.length ≤ 1000) (hv : v < 2 ^ 64) (w : World)
    (CS : ∀ w1, Rd w1 w.heap.size bs 0 → Calls Tryz.prog 81 #[.pointer (some ⟨w.heap.size, 0, none⟩)] w1 fun e w' => e = .returned (.bool neg) ∧ Only [w.heap.size] w1 w' ∧ Rd w' w.heap.size bs p)
    (CU : ∀ w1, Below w.heap.size w w1 → Rd w1 w.heap.size bs p → Calls Tryz.prog 82 #[.pointer (some ⟨w.heap.size, 0, none⟩)] w1 fun e w' => e = .returned (.tuple #[.int .u64 (v : Int), .nilIface]) ∧ Only [w.heap.size] w1 w' ∧ Rd w' w.heap.size bs bs.length) :
    Calls Tryz.prog 14 #[.string (strOf bs)] w (Gives w (.tuple #[.int .u64 (sgnV neg v : Nat), .int .u16 0])) := by
  have CQ := Lib.hid (fun w1 (hb : Below w.heap.size w w1) (H : Rd w1 w.heap.size bs 0) => number_any w.heap.size bs neg p v hl hv w w1 hb (Nat.le_refl _) (CS w1 H) CU H)
  have CA := Lib.hid as_nil
  have T1 := Lib.hid ((Below.refl w.heap.size w).alloc (Nat.le_refl _) (.cells #[.string (strOf bs), .int .i64 0] 58))
  have HRL := Lib.hid (Rd.laid w bs)
  obtain ⟨S, hS⟩ : ∃ S, strOf bs = S := ⟨_, rfl⟩
  rw [hS] at HRL T1 ⊢
  obtain ⟨V, hV⟩ : ∃ V, sgnV neg v = V := ⟨_, rfl⟩
  rw [hV] at CQ ⊢
  clear hS hV CS CU hv hl
  go_enter Tryz.func14, Tryz.ntmps14
  go_wp2_with fail
  refine (CQ.out _ T1.out HRL.out).mono ?_
  rintro e w1 ⟨rfl, ho⟩
  have BB := Lib.hid (Below.trans T1.out (ho.below (B := w.heap.size) (by simp) (by simp)))
  clear ho
  go_wp2_with fail
  refine (CA.out _ _).mono ?_
  rintro e w2 ⟨rfl, rfl⟩
  go_wp2
  go_ret2
  exact ⟨rfl, BB.out.alloc BB.out.size _⟩
end Go.Proofs.YthhlhiighgnkmaaGreatDoor
/-! ## WHAT THE LISTED VARIABLES GIVE READING OF NUMBERS: the exact powers of ten, and all of it. -/
namespace Go.Proofs.YthhlhiighgnkmaaGreatDoor
set_option linter.unusedVariables false
set_option linter.unusedSimpArgs false
open Go.RowKit Go.ChangeShapes Go.WideShapes Go.ChangeAt Go.WideMaps Go.WideElems
def powDs : List (DataW Unit) := match (Rows.laid_internal_strconv_float64pow10 : DataW Unit) with
  | .slice ds _ => ds
  | _ => []
def powAt (i : Nat) : Nat := match powDs[i]? with
  | some (.lit (.float .f64 b)) => b
  | _ => 0
def okPow (i : Nat) : Bool := powAt i == P10 i
set_option maxRecDepth 100000 in
theorem okPow_all : Nr.allP okPow 23 0 = true := by decide +kernel
theorem pow_at (i : Nat) (h : i < 23) : powDs[i]? = some (.lit (.float .f64 (powAt i))) := by
  match i, h with
  | 0, _ => rfl | 1, _ => rfl | 2, _ => rfl | 3, _ => rfl | 4, _ => rfl | 5, _ => rfl | 6, _ => rfl | 7, _ => rfl | 8, _ => rfl | 9, _ => rfl | 10, _ => rfl | 11, _ => rfl
  | 12, _ => rfl | 13, _ => rfl | 14, _ => rfl | 15, _ => rfl | 16, _ => rfl | 17, _ => rfl | 18, _ => rfl | 19, _ => rfl | 20, _ => rfl | 21, _ => rfl | 22, _ => rfl
  | n + 23, h => omega
theorem pow_is (i : Nat) (h : i < 23) : powAt i = P10 i := by
  have hk := Nr.allP_at okPow_all i (by omega) (by omega)
  unfold okPow at hk
  exact beq_iff_eq.1 hk
theorem laid_pows {W : World} (h : laidMetH Tryz.prog laid16 W) : ∃ b off cap, W.cell? ⟨17, 0, none⟩ = some (.slice (some ⟨b, off, none⟩) 23 cap) ∧ ∀ i, i < 23 → W.cell? ⟨b, off + i, none⟩ = some (.float .f64 (P10 i)) := by
  obtain ⟨cs, fuel, p, hc, hd⟩ := one_cells h "internal/strconv.float64pow10" Rows.laid_internal_strconv_float64pow10 17 308 (by kernel_rfl) (by kernel_rfl) (by kernel_rfl) (by kernel_rfl)
  obtain ⟨a, cap, hcs, _, hel⟩ := open_row Tryz.underlying308 (by kernel_rfl) hd
  obtain ⟨b, off, spot⟩ := a
  obtain ⟨v0, n0, q0, hc0, _⟩ := hel 0 _ rfl
  have hspot : spot = none := by simpa [Addr.add] using World.cell?_spot hc0
  subst hspot
  refine ⟨b, off, cap, ?_, ?_⟩
  · rw [hc 0, Array.eq_one_of_toList hcs]
    rfl
  · intro i hi
    obtain ⟨v1, n1, q1, hc1, hr1⟩ := hel i _ (pow_at i hi)
    have hv := trod_f64 Tryz.underlying97 hr1
    rw [add_at] at hc1
    rw [hc1, hv, pow_is i hi]
theorem laid_numtabs {W : World} (h : laidMetH Tryz.prog laid16 W) : ∃ a o cap, NumTabs W a o cap := by
  obtain ⟨b, off, cap, h1, h2⟩ := laid_pows h
  have hsz : 18 ≤ W.heap.size := cell_lt h1
  exact ⟨b, off, cap, ⟨laid_info h, laid_opt h, h1, h2, cell_lt (h2 0 (by decide)), hsz⟩, laid_ptab h, laid_powT h, laid_range h, hsz⟩
end Go.Proofs.YthhlhiighgnkmaaGreatDoor
/-! ## WALKS: Number on a sign or none, digits, a point and more of them or not, an exponent or not. -/
namespace Go.Proofs.YthhlhiighgnkmaaGreatDoor
set_option linter.unusedVariables false
set_option linter.unusedSimpArgs false
open Go.RowKit Go.PlainAid
theorem decR_lt (m : Nat) (p : Int) : decR m p < 2 ^ 64 := by
  unfold decR
  split
  · decide
  · exact Nat.lt_of_le_of_lt (rnd_le _ _) (by decide)
theorem at_off {A B : List Nat} {p k c : Nat} (hA : A.length = p) (h : B[k]? = some c) : (A ++ B)[p + k]? = some c := by
  rw [← hA, List.getElem?_append_right (Nat.le_add_right _ _), Nat.add_sub_cancel_left]; exact h
theorem at_in {A B : List Nat} {k c : Nat} (h : A[k]? = some c) : (A ++ B)[k]? = some c := by
  rw [List.getElem?_append_left (List.getElem?_eq_some_iff.1 h).1]; exact h
theorem sgnS_len (s : Bool) : (sgnS s).length = if s then 1 else 0 := by cases s <;> rfl
/-- the sign of the whole -/
theorem sign_any (R : Nat) (s : Bool) (B : List Nat) (c : Nat) (hB : IsB (sgnS s ++ B)) (hl : (sgnS s ++ B).length ≤ 200000) (hc : B[0]? = some c) (h1 : c ≠ 45) (h2 : c ≠ 43) (w : World) (H : Rd w R (sgnS s ++ B) 0) :
    Calls Tryz.prog 81 #[.pointer (some ⟨R, 0, none⟩)] w fun e w' => e = .returned (.bool s) ∧ Only [R] w w' ∧ Rd w' R (sgnS s ++ B) (sgnS s).length := by
  cases s with
  | true => exact sign_minus R _ 0 hB hl rfl w H
  | false =>
    refine (sign_none R _ 0 c hB hl hc h1 h2 w H).mono ?_
    rintro e w' ⟨he, m, rfl⟩
    exact ⟨he, (Only.refl [R] w).drewN m, H⟩
theorem digs_isB {l : List Nat} (h : Nr.Digs l) : IsB l := fun c hc => by have := h c hc; omega
theorem dig_of_digs {c : Nat} (h : 48 ≤ c ∧ c ≤ 57) : dig c = true := by
  unfold dig; simp; omega
set_option maxHeartbeats 1000000 in
theorem Number_pe (s : Bool) (W : List Nat) (F : List Nat) (neg : Bool) (X : List Nat) (dW : Nr.Digs W) (hW : W ≠ []) (dF : Nr.Digs F) (dX : Nr.Digs X) (hX : X ≠ []) (hv : decV 0 X ≤ 10000) (hz : W[0]? = some 48 → W = [48]) (hl : (sgnS s ++ (W ++ (46 :: (F ++ (101 :: (if neg then 45 else 43) :: X))))).length ≤ 1000) (ht : Nr.truncF (W ++ F) = false) (a o cap : Nat) (w : World) (Tb : NumTabs w a o cap) :
    Calls Tryz.prog 14 #[.string (strOf (sgnS s ++ (W ++ (46 :: (F ++ (101 :: (if neg then 45 else 43) :: X))))))] w (Gives w (.tuple #[.int .u64 (sgnV s (decR (Nr.dv 0 (W ++ F)) ((if neg then -(decV 0 X : Int) else (decV 0 X : Int)) + (W.length : Int) - ((W ++ F).length : Int))) : Nat), .int .u16 0])) := by
  have hBW := digs_isB dW
  have hBF := digs_isB dF
  have hBX := digs_isB dX
  have hB : IsB (sgnS s ++ (W ++ (46 :: (F ++ (101 :: (if neg then 45 else 43) :: X))))) := IsB.app (show IsB (sgnS s) by cases s <;> simp [sgnS, IsB]) (IsB.app hBW (IsB.cons (by decide) (IsB.app hBF (IsB.cons (by decide) (IsB.cons (by cases neg <;> decide) hBX)))))
  obtain ⟨c, r, hcr⟩ : ∃ c r, W = c :: r := by cases W with | nil => exact absurd rfl hW | cons c r => exact ⟨c, r, rfl⟩
  have hc := dW c (by rw [hcr]; exact List.mem_cons_self ..)
  have hc0 : W[0]? = some c := by rw [hcr]; rfl
  have hT0 : (W ++ (46 :: (F ++ (101 :: (if neg then 45 else 43) :: X))))[0]? = some c := at_in hc0
  obtain ⟨p, hp⟩ : ∃ p, (sgnS s).length = p := ⟨_, rfl⟩
  have hlen : (sgnS s ++ (W ++ (46 :: (F ++ (101 :: (if neg then 45 else 43) :: X))))).length = p + W.length + 1 + F.length + 1 + 1 + X.length := by simp [hp]; omega
  have hb0 : (sgnS s ++ (W ++ (46 :: (F ++ (101 :: (if neg then 45 else 43) :: X)))))[p]? = some c := at_off (k := 0) hp hT0
  refine Number_any (sgnS s ++ (W ++ (46 :: (F ++ (101 :: (if neg then 45 else 43) :: X))))) s p _ hl (decR_lt _ _) w (fun w1 H => ?_) (fun w1 hb H => ?_)
  · have := sign_any w.heap.size s (W ++ (46 :: (F ++ (101 :: (if neg then 45 else 43) :: X)))) c hB (by omega) hT0 (by omega) (by omega) w1 H
    rw [hp] at this
    exact this
  · refine unsigned_any w.heap.size _ p c _ _ hB hl hb0 (by omega) ?_ w w1 hb (fun w2 hb2 H2 => ?_) H
    · intro h48
      right
      have := hz (by rw [hc0, h48])
      rw [this]
      exact at_off hp rfl
    · exact decimal_pe w.heap.size (sgnS s ++ (W ++ (46 :: (F ++ (101 :: (if neg then 45 else 43) :: X))))) p W.length W F F.length neg X X.length hB hl rfl (by rw [hcr]; simp) (fun k d hk => ⟨at_off hp (at_in hk), dig_of_digs (dW d (List.mem_of_getElem? hk))⟩) (at_off (k := W.length) hp (at_off (A := W) (p := W.length) (k := 0) rfl rfl)) rfl (fun k d hk => ⟨by rw [Nat.add_assoc, Nat.add_assoc]; exact at_off hp (at_off rfl (by rw [Nat.add_comm 1 k, List.getElem?_cons_succ]; exact at_in hk)), dig_of_digs (dF d (List.mem_of_getElem? hk))⟩) (by rw [show p + W.length + 1 + F.length = p + (W.length + (1 + (F.length + (0)))) by omega]; exact at_off hp (at_off rfl (by rw [Nat.add_comm 1, List.getElem?_cons_succ]; exact at_off (A := F) (p := F.length) (k := 0) rfl rfl))) (by rw [show p + W.length + 1 + F.length + 1 = p + (W.length + (1 + (F.length + (1)))) by omega]; exact at_off hp (at_off rfl (by rw [Nat.add_comm 1, List.getElem?_cons_succ]; exact at_off (A := F) (p := F.length) (k := 1) rfl rfl))) rfl (by cases X with | nil => exact absurd rfl hX | cons _ _ => simp) (fun k d hk => ⟨(by rw [show p + W.length + 1 + F.length + 1 + 1 + k = p + (W.length + (1 + (F.length + (k + 2)))) by omega]; exact at_off hp (at_off rfl (by rw [Nat.add_comm 1, List.getElem?_cons_succ]; exact at_off (A := F) (p := F.length) (k := k + 2) rfl (by rw [List.getElem?_cons_succ, List.getElem?_cons_succ]; exact hk)))), dig_of_digs (dX d (List.mem_of_getElem? hk))⟩) hv hlen.symm ht a o cap w w2 Tb hb2 (Nat.le_refl _) H2
set_option maxHeartbeats 1000000 in
theorem Number_pn (s : Bool) (W : List Nat) (F : List Nat) (dW : Nr.Digs W) (hW : W ≠ []) (dF : Nr.Digs F) (hz : W[0]? = some 48 → W = [48]) (hl : (sgnS s ++ (W ++ (46 :: F))).length ≤ 1000) (ht : Nr.truncF (W ++ F) = false) (a o cap : Nat) (w : World) (Tb : NumTabs w a o cap) :
    Calls Tryz.prog 14 #[.string (strOf (sgnS s ++ (W ++ (46 :: F))))] w (Gives w (.tuple #[.int .u64 (sgnV s (decR (Nr.dv 0 (W ++ F)) ((W.length : Int) - ((W ++ F).length : Int))) : Nat), .int .u16 0])) := by
  have hBW := digs_isB dW
  have hBF := digs_isB dF
  have hB : IsB (sgnS s ++ (W ++ (46 :: F))) := IsB.app (show IsB (sgnS s) by cases s <;> simp [sgnS, IsB]) (IsB.app hBW (IsB.cons (by decide) hBF))
  obtain ⟨c, r, hcr⟩ : ∃ c r, W = c :: r := by cases W with | nil => exact absurd rfl hW | cons c r => exact ⟨c, r, rfl⟩
  have hc := dW c (by rw [hcr]; exact List.mem_cons_self ..)
  have hc0 : W[0]? = some c := by rw [hcr]; rfl
  have hT0 : (W ++ (46 :: F))[0]? = some c := at_in hc0
  obtain ⟨p, hp⟩ : ∃ p, (sgnS s).length = p := ⟨_, rfl⟩
  have hlen : (sgnS s ++ (W ++ (46 :: F))).length = p + W.length + 1 + F.length := by simp [hp]; omega
  have hb0 : (sgnS s ++ (W ++ (46 :: F)))[p]? = some c := at_off (k := 0) hp hT0
  refine Number_any (sgnS s ++ (W ++ (46 :: F))) s p _ hl (decR_lt _ _) w (fun w1 H => ?_) (fun w1 hb H => ?_)
  · have := sign_any w.heap.size s (W ++ (46 :: F)) c hB (by omega) hT0 (by omega) (by omega) w1 H
    rw [hp] at this
    exact this
  · refine unsigned_any w.heap.size _ p c _ _ hB hl hb0 (by omega) ?_ w w1 hb (fun w2 hb2 H2 => ?_) H
    · intro h48
      right
      have := hz (by rw [hc0, h48])
      rw [this]
      exact at_off hp rfl
    · exact decimal_pn w.heap.size (sgnS s ++ (W ++ (46 :: F))) p W.length W F F.length hB hl rfl (by rw [hcr]; simp) (fun k d hk => ⟨at_off hp (at_in hk), dig_of_digs (dW d (List.mem_of_getElem? hk))⟩) (at_off (k := W.length) hp (at_off (A := W) (p := W.length) (k := 0) rfl rfl)) rfl (fun k d hk => ⟨by rw [Nat.add_assoc, Nat.add_assoc]; exact at_off hp (at_off rfl (by rw [Nat.add_comm 1 k, List.getElem?_cons_succ]; exact hk)), dig_of_digs (dF d (List.mem_of_getElem? hk))⟩) hlen.symm ht a o cap w w2 Tb hb2 (Nat.le_refl _) H2
set_option maxHeartbeats 1000000 in
theorem Number_ne (s : Bool) (W : List Nat) (neg : Bool) (X : List Nat) (dW : Nr.Digs W) (hW : W ≠ []) (dX : Nr.Digs X) (hX : X ≠ []) (hv : decV 0 X ≤ 10000) (hnz0 : W[0]? ≠ some 48) (hl : (sgnS s ++ (W ++ (101 :: (if neg then 45 else 43) :: X))).length ≤ 1000) (ht : Nr.truncF W = false) (a o cap : Nat) (w : World) (Tb : NumTabs w a o cap) :
    Calls Tryz.prog 14 #[.string (strOf (sgnS s ++ (W ++ (101 :: (if neg then 45 else 43) :: X))))] w (Gives w (.tuple #[.int .u64 (sgnV s (decR (Nr.dv 0 W) ((if neg then -(decV 0 X : Int) else (decV 0 X : Int)) + (W.length : Int) - (W.length : Int))) : Nat), .int .u16 0])) := by
  have hBW := digs_isB dW
  have hBX := digs_isB dX
  have hB : IsB (sgnS s ++ (W ++ (101 :: (if neg then 45 else 43) :: X))) := IsB.app (show IsB (sgnS s) by cases s <;> simp [sgnS, IsB]) (IsB.app hBW (IsB.cons (by decide) (IsB.cons (by cases neg <;> decide) hBX)))
  obtain ⟨c, r, hcr⟩ : ∃ c r, W = c :: r := by cases W with | nil => exact absurd rfl hW | cons c r => exact ⟨c, r, rfl⟩
  have hc := dW c (by rw [hcr]; exact List.mem_cons_self ..)
  have hc0 : W[0]? = some c := by rw [hcr]; rfl
  have hT0 : (W ++ (101 :: (if neg then 45 else 43) :: X))[0]? = some c := at_in hc0
  obtain ⟨p, hp⟩ : ∃ p, (sgnS s).length = p := ⟨_, rfl⟩
  have hlen : (sgnS s ++ (W ++ (101 :: (if neg then 45 else 43) :: X))).length = p + W.length + 1 + 1 + X.length := by simp [hp]; omega
  have hb0 : (sgnS s ++ (W ++ (101 :: (if neg then 45 else 43) :: X)))[p]? = some c := at_off (k := 0) hp hT0
  refine Number_any (sgnS s ++ (W ++ (101 :: (if neg then 45 else 43) :: X))) s p _ hl (decR_lt _ _) w (fun w1 H => ?_) (fun w1 hb H => ?_)
  · have := sign_any w.heap.size s (W ++ (101 :: (if neg then 45 else 43) :: X)) c hB (by omega) hT0 (by omega) (by omega) w1 H
    rw [hp] at this
    exact this
  · refine unsigned_any w.heap.size _ p c _ _ hB hl hb0 (by omega) ?_ w w1 hb (fun w2 hb2 H2 => ?_) H
    · intro h48; exact absurd (by rw [hc0, h48]) hnz0
    · exact decimal_ne w.heap.size (sgnS s ++ (W ++ (101 :: (if neg then 45 else 43) :: X))) p W.length W neg X X.length hB hl rfl (by rw [hcr]; simp) (fun k d hk => ⟨at_off hp (at_in hk), dig_of_digs (dW d (List.mem_of_getElem? hk))⟩) (by rw [show p + W.length = p + (W.length + (0)) by omega]; exact at_off hp (at_off (A := W) (p := W.length) (k := 0) rfl rfl)) (by rw [show p + W.length + 1 = p + (W.length + (1)) by omega]; exact at_off hp (at_off (A := W) (p := W.length) (k := 1) rfl rfl)) rfl (by cases X with | nil => exact absurd rfl hX | cons _ _ => simp) (fun k d hk => ⟨(by rw [show p + W.length + 1 + 1 + k = p + (W.length + (k + 2)) by omega]; exact at_off hp (at_off (A := W) (p := W.length) (k := k + 2) rfl (by rw [List.getElem?_cons_succ, List.getElem?_cons_succ]; exact hk))), dig_of_digs (dX d (List.mem_of_getElem? hk))⟩) hv hlen.symm ht a o cap w w2 Tb hb2 (Nat.le_refl _) H2
set_option maxHeartbeats 1000000 in
theorem Number_nn (s : Bool) (W : List Nat) (dW : Nr.Digs W) (hW : W ≠ []) (hz : W[0]? = some 48 → W = [48]) (hl : (sgnS s ++ (W)).length ≤ 1000) (ht : Nr.truncF W = false) (a o cap : Nat) (w : World) (Tb : NumTabs w a o cap) :
    Calls Tryz.prog 14 #[.string (strOf (sgnS s ++ (W)))] w (Gives w (.tuple #[.int .u64 (sgnV s (decR (Nr.dv 0 W) ((W.length : Int) - (W.length : Int))) : Nat), .int .u16 0])) := by
  have hBW := digs_isB dW
  have hB : IsB (sgnS s ++ (W)) := IsB.app (show IsB (sgnS s) by cases s <;> simp [sgnS, IsB]) hBW
  obtain ⟨c, r, hcr⟩ : ∃ c r, W = c :: r := by cases W with | nil => exact absurd rfl hW | cons c r => exact ⟨c, r, rfl⟩
  have hc := dW c (by rw [hcr]; exact List.mem_cons_self ..)
  have hc0 : W[0]? = some c := by rw [hcr]; rfl
  have hT0 : (W)[0]? = some c := hc0
  obtain ⟨p, hp⟩ : ∃ p, (sgnS s).length = p := ⟨_, rfl⟩
  have hlen : (sgnS s ++ W).length = p + W.length := by simp [hp]
  have hb0 : (sgnS s ++ (W))[p]? = some c := at_off (k := 0) hp hT0
  refine Number_any (sgnS s ++ (W)) s p _ hl (decR_lt _ _) w (fun w1 H => ?_) (fun w1 hb H => ?_)
  · have := sign_any w.heap.size s (W) c hB (by omega) hT0 (by omega) (by omega) w1 H
    rw [hp] at this
    exact this
  · refine unsigned_any w.heap.size _ p c _ _ hB hl hb0 (by omega) ?_ w w1 hb (fun w2 hb2 H2 => ?_) H
    · intro h48
      left
      have := hz (by rw [hc0, h48])
      rw [hlen, this]; rfl
    · exact decimal_nn w.heap.size (sgnS s ++ (W)) p W.length W hB hl rfl (by rw [hcr]; simp) (fun k d hk => ⟨at_off hp hk, dig_of_digs (dW d (List.mem_of_getElem? hk))⟩) hlen.symm ht a o cap w w2 Tb hb2 (Nat.le_refl _) H2
end Go.Proofs.YthhlhiighgnkmaaGreatDoor
/-! ## WALKS: Number on the digits that are shown, the point behind so many of them. -/
namespace Go.Proofs.YthhlhiighgnkmaaGreatDoor
set_option linter.unusedVariables false
set_option linter.unusedSimpArgs false
open Go.RowKit Go.PlainAid
theorem trunc_short {l : List Nat} (h : l.length ≤ 19) : Nr.truncF l = false := by
  have := Nr.lead_body l
  unfold Nr.truncF
  rw [List.drop_eq_nil_of_le (by omega)]
  rfl
theorem body_nghts (j : Nat) (l : List Nat) : Nr.body (nghts j ++ l) = Nr.body l := by
  induction j with
  | zero => rfl
  | succ j ih =>
    unfold nghts at *
    rw [List.replicate_succ, List.cons_append, Nr.body_cons, if_pos rfl, ih]
theorem nghts_digs (j : Nat) : Nr.Digs (nghts j) := fun c hc => by
  unfold nghts at hc
  rw [List.eq_of_mem_replicate hc]
  decide
theorem nghts_len (j : Nat) : (nghts j).length = j := by unfold nghts; rw [List.length_replicate]
theorem nghts_dv (j : Nat) : Nr.dv 0 (nghts j) = 0 := Nr.dv_noughts _ (fun c hc => by unfold nghts at hc; exact List.eq_of_mem_replicate hc)
theorem dv_front (j : Nat) (l : List Nat) : Nr.dv 0 ([48] ++ (nghts j ++ l)) = Nr.dv 0 l := by
  rw [Nr.dv_body, show [48] ++ (nghts j ++ l) = 48 :: (nghts j ++ l) from rfl, Nr.body_cons, if_pos rfl, body_nghts, ← Nr.dv_body]
theorem trunc_front (j : Nat) (l : List Nat) : Nr.truncF ([48] ++ (nghts j ++ l)) = Nr.truncF l := by
  unfold Nr.truncF
  rw [show [48] ++ (nghts j ++ l) = 48 :: (nghts j ++ l) from rfl, Nr.body_cons, if_pos rfl, body_nghts]
theorem dv_behind (j : Nat) (l : List Nat) : Nr.dv 0 (l ++ nghts j) = Nr.dv 0 l * 10 ^ j := by
  rw [Nr.dv_append, Nr.dv_acc, nghts_dv, nghts_len, Nat.add_zero]
theorem trunc_behind (j : Nat) (c : Nat) (l : List Nat) (hc : c ≠ 48) (h : (c :: l).length ≤ 19) : Nr.truncF ((c :: l) ++ nghts j) = false := by
  unfold Nr.truncF
  rw [List.cons_append, Nr.body_cons, if_neg hc, ← List.cons_append, List.drop_append, List.drop_eq_nil_of_le h, List.nil_append, List.any_eq_false]
  intro d hd
  have := List.mem_of_mem_drop hd
  unfold nghts at this
  rw [List.eq_of_mem_replicate this]
  decide
theorem decR_shift (m j : Nat) : decR (m * 10 ^ j) 0 = decR m (j : Int) := by
  unfold decR
  have h10 : 0 < 10 ^ j := Nat.pow_pos (by decide)
  by_cases h : m = 0
  · rw [if_pos h, if_pos (by rw [h, Nat.zero_mul])]
  · rw [if_neg h, if_neg (Nat.mul_ne_zero h (Nat.pos_iff_ne_zero.1 h10))]
    have := Nr.dec_shift m j (j : Int)
    rw [Int.sub_self] at this
    exact this
theorem decN_ok (u : Nat) : Nr.Digs (decN u) ∧ decN u ≠ [] ∧ decV 0 (decN u) = u := by
  refine ⟨fun c hc => ?_, ?_, decV_decN u u (Nat.le_refl _)⟩
  · exact Nr.dd_digs u u (Nat.le_refl _) c (by rw [dd_decN u u (Nat.le_refl _)]; exact hc)
  · intro e
    have := Nr.dd_len_pos u
    rw [dd_decN u u (Nat.le_refl _), e] at this
    exact absurd this (by decide)
theorem decN_len3 (u : Nat) (h : u < 1000) : (decN u).length ≤ 3 := decN_len 2 u h
/-- what is told of digits is their number -/
theorem number_pt (s : Bool) (c : Nat) (tl : List Nat) (k : Int) (hd : Nr.Digs (c :: tl)) (hc : c ≠ 48) (hl : (c :: tl).length ≤ 18) (k1 : -400 ≤ k) (k2 : k ≤ 420) (a o cap : Nat) (w : World) (T : NumTabs w a o cap) :
    Calls Tryz.prog 14 #[.string (strOf (sgnS s ++ ptT (c :: tl) k))] w (Gives w (.tuple #[.int .u64 (sgnV s (decR (Nr.dv 0 (c :: tl)) (k - ((c :: tl).length : Nat))) : Nat), .int .u16 0])) := by
  have hs1 : (sgnS s).length ≤ 1 := by cases s <;> simp [sgnS]
  have hz : ∀ l : List Nat, (c :: l)[0]? = some 48 → (c :: l) = [48] := fun l h => absurd (Option.some.inj h) hc
  have hd1 : Nr.Digs [c] := fun x hx => hd x (by rw [List.mem_singleton.1 hx]; exact List.mem_cons_self ..)
  have hdt : Nr.Digs tl := fun x hx => hd x (List.mem_cons_of_mem _ hx)
  simp only [List.length_cons] at hl
  unfold ptT
  by_cases hx : k < -5 ∨ 21 < k
  · rw [if_pos hx]
    obtain ⟨x1, x2, x3⟩ := decN_ok (k - 1).natAbs
    have x4 := decN_len3 (k - 1).natAbs (by omega)
    have hE : ((if decide (k - 1 < 0) then -(decV 0 (decN (k - 1).natAbs) : Int) else (decV 0 (decN (k - 1).natAbs) : Int))) = k - 1 := by
      rw [x3]; split
      · rename_i h; have := of_decide_eq_true h; omega
      · rename_i h; have := of_decide_eq_false (Bool.eq_false_iff.2 h); omega
    have hX : (if k - 1 < 0 then [101, 45] ++ decN (-(k - 1)).toNat else [101, 43] ++ decN (k - 1).toNat) = 101 :: (if decide (k - 1 < 0) then 45 else 43) :: decN (k - 1).natAbs := by
      by_cases h : k - 1 < 0
      · rw [if_pos h, decide_eq_true h, show (-(k - 1)).toNat = (k - 1).natAbs by omega]; rfl
      · rw [if_neg h, decide_eq_false h, show (k - 1).toNat = (k - 1).natAbs by omega]; rfl
    unfold expT
    rw [hX]
    cases tl with
    | nil =>
      have hN := Number_ne s [c] (decide (k - 1 < 0)) (decN (k - 1).natAbs) hd1 (by simp) x1 x2 (by rw [x3]; omega) (fun h => hc (Option.some.inj h)) (by simp; omega) (trunc_short (by simp)) a o cap w T
      rw [hE] at hN
      rw [show k - (([c] : List Nat).length : Nat) = k - 1 + (([c] : List Nat).length : Int) - (([c] : List Nat).length : Int) by simp]
      exact hN
    | cons d r =>
      have hN := Number_pe s [c] (d :: r) (decide (k - 1 < 0)) (decN (k - 1).natAbs) hd1 (by simp) hdt x1 x2 (by rw [x3]; omega) (hz []) (by simp at hl ⊢; omega) (trunc_short (by simp at hl ⊢; omega)) a o cap w T
      rw [hE] at hN
      rw [show ([c] ++ (d :: r)) = c :: d :: r from rfl] at hN
      rw [show k - ((c :: d :: r).length : Nat) = k - 1 + (([c] : List Nat).length : Int) - ((c :: d :: r).length : Int) by simp]
      rw [if_pos (by simp)]
      rw [show (List.take 1 (c :: d :: r) ++ [46] ++ List.drop 1 (c :: d :: r) ++ 101 :: (if decide (k - 1 < 0) then 45 else 43) :: decN (k - 1).natAbs) = [c] ++ 46 :: ((d :: r) ++ 101 :: (if decide (k - 1 < 0) then 45 else 43) :: decN (k - 1).natAbs) by simp]
      exact hN
  · rw [if_neg hx]
    by_cases h0 : k ≤ 0
    · rw [if_pos h0]
      have hN := Number_pn s [48] (nghts (-k).toNat ++ (c :: tl)) (fun x hx => by rw [List.mem_singleton.1 hx]; decide) (by simp) (fun x hx => by rcases List.mem_append.1 hx with h | h; exact nghts_digs _ x h; exact hd x h) (fun _ => rfl) (by simp [nghts_len]; omega) (by rw [trunc_front]; exact trunc_short (by simp; omega)) a o cap w T
      rw [dv_front] at hN
      rw [show k - ((c :: tl).length : Nat) = (([48] : List Nat).length : Int) - ((([48] : List Nat) ++ (nghts (-k).toNat ++ (c :: tl))).length : Int) by simp [nghts_len]; omega]
      rw [show ([48, 46] ++ nghts (-k).toNat ++ c :: tl) = [48] ++ 46 :: (nghts (-k).toNat ++ (c :: tl)) by simp]
      exact hN
    · rw [if_neg h0]
      by_cases hlt : k < (c :: tl).length
      · rw [if_pos hlt]
        obtain ⟨j, rfl⟩ : ∃ j : Nat, k = ((j + 1 : Nat) : Int) := ⟨(k - 1).toNat, by omega⟩
        simp only [List.length_cons] at hlt
        have hN := Number_pn s ((c :: tl).take (j + 1)) ((c :: tl).drop (j + 1)) (fun x hx => hd x (List.mem_of_mem_take hx)) (by simp) (fun x hx => hd x (List.mem_of_mem_drop hx)) (by rw [List.take_succ_cons]; exact hz _) (by simp; omega) (by rw [List.take_append_drop]; exact trunc_short (by simp; omega)) a o cap w T
        rw [List.take_append_drop] at hN
        rw [show (((j + 1 : Nat) : Int) - ((c :: tl).length : Nat)) = (((c :: tl).take (j + 1)).length : Int) - ((c :: tl).length : Int) by rw [List.length_take, Nat.min_eq_left (by simp; omega)]]
        rw [Int.toNat_natCast, List.append_assoc]
        exact hN
      · rw [if_neg hlt]
        simp only [List.length_cons] at hlt
        obtain ⟨j, hj⟩ : ∃ j : Nat, k - ((c :: tl).length : Nat) = (j : Int) := ⟨(k - ((c :: tl).length : Nat)).toNat, by simp; omega⟩
        simp only [List.length_cons] at hj
        have hN := Number_nn s ((c :: tl) ++ nghts j) (fun x hx => by rcases List.mem_append.1 hx with h | h; exact hd x h; exact nghts_digs _ x h) (by simp) (fun h => absurd (Option.some.inj h) hc) (by simp [nghts_len]; omega) (trunc_behind j c tl hc (by simp; omega)) a o cap w T
        rw [dv_behind, Int.sub_self, decR_shift] at hN
        simp only [List.length_cons]
        rw [hj, Int.toNat_natCast]
        exact hN
end Go.Proofs.YthhlhiighgnkmaaGreatDoor
/-! ## WALKS: Number on the words for what is no finite number. -/
namespace Go.Proofs.YthhlhiighgnkmaaGreatDoor
set_option linter.unusedVariables false
set_option linter.unusedSimpArgs false
open Go.RowKit Go.PlainAid
set_option maxRecDepth 100000 in
set_option maxHeartbeats 2000000 in
theorem nan_inf (R : Nat) (w : World) (H : Rd w R [78, 97, 78] 0) :
    Calls Tryz.prog 130 #[.pointer (some ⟨R, 0, none⟩), .string { data := #[105, 110, 102] }] w fun e w' => e = .returned (.bool false) ∧ ∃ m, w' = w.drewN m := by
  have h0 := H.c0
  have h1 := H.c1
  have HR := Lib.hid H
  have f1 := H.fz 1
  have hsz : (strOf [78, 97, 78]).size = 3 := rfl
  have hbt := get_bt (strOf [78, 97, 78])
  have hb0 : bt (strOf [78, 97, 78]) 0 = 78 := rfl
  have hb1 : bt (strOf [78, 97, 78]) 1 = 97 := rfl
  have hb2 : bt (strOf [78, 97, 78]) 2 = 78 := rfl
  obtain ⟨S, hS⟩ : ∃ S, strOf [78, 97, 78] = S := ⟨_, rfl⟩
  rw [hS] at h0 hsz hbt hb0 hb1 hb2
  clear hS H
  go_enter Tryz.func130, Tryz.ntmps130
  go_wp2_with fail
  go_quiet (fail)
  go_wp2_with fail
  refine wp_loop_rounds 1 ?_
  rw [rounds_succ]
  go_wp2_with fail
  go_quiet (fail)
  go_wp2
  go_ret
  exact ⟨rfl, _, rfl⟩
set_option maxRecDepth 100000 in
set_option maxHeartbeats 2000000 in
theorem nan_nan (R : Nat) (w : World) (H : Rd w R [78, 97, 78] 0) :
    Calls Tryz.prog 130 #[.pointer (some ⟨R, 0, none⟩), .string { data := #[110, 97, 110] }] w fun e w' => e = .returned (.bool true) ∧ Only [R] w w' ∧ Rd w' R [78, 97, 78] 3 := by
  have h0 := H.c0
  have h1 := H.c1
  have HR := Lib.hid H
  have f1 := H.fz 1
  have hsz : (strOf [78, 97, 78]).size = 3 := rfl
  have hbt := get_bt (strOf [78, 97, 78])
  have hb0 : bt (strOf [78, 97, 78]) 0 = 78 := rfl
  have hb1 : bt (strOf [78, 97, 78]) 1 = 97 := rfl
  have hb2 : bt (strOf [78, 97, 78]) 2 = 78 := rfl
  obtain ⟨S, hS⟩ : ∃ S, strOf [78, 97, 78] = S := ⟨_, rfl⟩
  rw [hS] at h0 hsz hbt hb0 hb1 hb2
  clear hS H
  go_enter Tryz.func130, Tryz.ntmps130
  go_wp2_with fail
  go_quiet (fail)
  go_wp2_with fail
  refine wp_loop_rounds 4 ?_
  rw [rounds_succ]
  go_wp2_with fail
  go_quiet (fail)
  go_wp2_with fail
  rw [rounds_succ]
  go_wp2_with fail
  go_quiet (fail)
  go_wp2_with fail
  rw [rounds_succ]
  go_wp2_with fail
  go_quiet (fail)
  go_wp2_with fail
  rw [rounds_succ]
  go_wp2_with fail
  go_ret
  exact ⟨rfl, ((Only.refl [R] w).drewN _).setCell (.inl (by simp)) _, Rd.set (w := w.drewN _) HR.out 3⟩
set_option maxRecDepth 100000 in
set_option maxHeartbeats 2000000 in
theorem inf_plus (R : Nat) (w : World) (H : Rd w R [43, 73, 110, 102] 1) :
    Calls Tryz.prog 130 #[.pointer (some ⟨R, 0, none⟩), .string { data := #[105, 110, 102] }] w fun e w' => e = .returned (.bool true) ∧ Only [R] w w' ∧ Rd w' R [43, 73, 110, 102] 4 := by
  have h0 := H.c0
  have h1 := H.c1
  have HR := Lib.hid H
  have f1 := H.fz 1
  have hsz : (strOf [43, 73, 110, 102]).size = 4 := rfl
  have hbt := get_bt (strOf [43, 73, 110, 102])
  have hb0 : bt (strOf [43, 73, 110, 102]) 0 = 43 := rfl
  have hb1 : bt (strOf [43, 73, 110, 102]) 1 = 73 := rfl
  have hb2 : bt (strOf [43, 73, 110, 102]) 2 = 110 := rfl
  have hb3 : bt (strOf [43, 73, 110, 102]) 3 = 102 := rfl
  obtain ⟨S, hS⟩ : ∃ S, strOf [43, 73, 110, 102] = S := ⟨_, rfl⟩
  rw [hS] at h0 hsz hbt hb0 hb1 hb2 hb3
  clear hS H
  go_enter Tryz.func130, Tryz.ntmps130
  go_wp2_with fail
  go_quiet (fail)
  go_wp2_with fail
  refine wp_loop_rounds 4 ?_
  rw [rounds_succ]
  go_wp2_with fail
  go_quiet (fail)
  go_wp2_with fail
  rw [rounds_succ]
  go_wp2_with fail
  go_quiet (fail)
  go_wp2_with fail
  rw [rounds_succ]
  go_wp2_with fail
  go_quiet (fail)
  go_wp2_with fail
  rw [rounds_succ]
  go_wp2_with fail
  go_ret
  exact ⟨rfl, ((Only.refl [R] w).drewN _).setCell (.inl (by simp)) _, Rd.set (w := w.drewN _) HR.out 4⟩
set_option maxRecDepth 100000 in
set_option maxHeartbeats 2000000 in
theorem inf_minus (R : Nat) (w : World) (H : Rd w R [45, 73, 110, 102] 1) :
    Calls Tryz.prog 130 #[.pointer (some ⟨R, 0, none⟩), .string { data := #[105, 110, 102] }] w fun e w' => e = .returned (.bool true) ∧ Only [R] w w' ∧ Rd w' R [45, 73, 110, 102] 4 := by
  have h0 := H.c0
  have h1 := H.c1
  have HR := Lib.hid H
  have f1 := H.fz 1
  have hsz : (strOf [45, 73, 110, 102]).size = 4 := rfl
  have hbt := get_bt (strOf [45, 73, 110, 102])
  have hb0 : bt (strOf [45, 73, 110, 102]) 0 = 45 := rfl
  have hb1 : bt (strOf [45, 73, 110, 102]) 1 = 73 := rfl
  have hb2 : bt (strOf [45, 73, 110, 102]) 2 = 110 := rfl
  have hb3 : bt (strOf [45, 73, 110, 102]) 3 = 102 := rfl
  obtain ⟨S, hS⟩ : ∃ S, strOf [45, 73, 110, 102] = S := ⟨_, rfl⟩
  rw [hS] at h0 hsz hbt hb0 hb1 hb2 hb3
  clear hS H
  go_enter Tryz.func130, Tryz.ntmps130
  go_wp2_with fail
  go_quiet (fail)
  go_wp2_with fail
  refine wp_loop_rounds 4 ?_
  rw [rounds_succ]
  go_wp2_with fail
  go_quiet (fail)
  go_wp2_with fail
  rw [rounds_succ]
  go_wp2_with fail
  go_quiet (fail)
  go_wp2_with fail
  rw [rounds_succ]
  go_wp2_with fail
  go_quiet (fail)
  go_wp2_with fail
  rw [rounds_succ]
  go_wp2_with fail
  go_ret
  exact ⟨rfl, ((Only.refl [R] w).drewN _).setCell (.inl (by simp)) _, Rd.set (w := w.drewN _) HR.out 4⟩
end Go.Proofs.YthhlhiighgnkmaaGreatDoor
/-! ## WALKS: Number on NaN, +Inf, -Inf, 0 and -0. -/
namespace Go.Proofs.YthhlhiighgnkmaaGreatDoor
set_option linter.unusedVariables false
set_option linter.unusedSimpArgs false
open Go.RowKit Go.PlainAid
theorem inf131 (w : World) : Calls Tryz.prog 131 #[.bool false] w fun e w' => e = .returned (.int .u64 9218868437227405312) ∧ w' = w := by
  go_enter Tryz.func131, Tryz.ntmps131
  go_wp2
  go_ret
  exact ⟨rfl, rfl⟩
set_option maxRecDepth 100000 in
theorem unsigned_nan (R : Nat) (w : World) (H : Rd w R [78, 97, 78] 0) :
    Calls Tryz.prog 82 #[.pointer (some ⟨R, 0, none⟩)] w fun e w' => e = .returned (.tuple #[.int .u64 ((9221120237041090561 : Nat) : Int), .nilIface]) ∧ Only [R] w w' ∧ Rd w' R [78, 97, 78] 3 := by
  have C1 := Lib.hid (fun w H => word_short R [78, 97, 78] 0 { data := #[105, 110, 102, 105, 110, 105, 116, 121] } (by decide) (by decide) (by decide) w H)
  have C2 := Lib.hid (fun w H => nan_inf R w H)
  have C3 := Lib.hid (fun w H => nan_nan R w H)
  have CN := Lib.hid Tn.nan_any
  rw [show ((Nr.nan : Nat) : Int) = 9221120237041090561 from rfl] at CN
  have HH := Lib.hid H
  clear H
  go_enter Tryz.func82, Tryz.ntmps82
  go_wp2_with fail
  refine (C1.out w HH.out).mono ?_
  rintro e w1 ⟨rfl, m1, rfl⟩
  go_wp2_with fail
  refine (C2.out (w.drewN m1) HH.out).mono ?_
  rintro e w1 ⟨rfl, m2, rfl⟩
  go_wp2_with fail
  refine (C3.out (w.drewN (m1 + m2)) HH.out).mono ?_
  rintro e w1 ⟨rfl, ho, hr⟩
  have O1 := Lib.hid (show Only [R] w w1 from ((Only.refl [R] w).drewN _).trans ho (fun x hx => .inl hx))
  have R1 := Lib.hid hr
  clear ho hr
  go_wp2_with fail
  refine (CN.out _).mono ?_
  rintro e w2 ⟨rfl, rfl⟩
  go_wp2
  go_ret2
  exact ⟨rfl, O1.out, R1.out⟩
set_option maxRecDepth 100000 in
theorem unsigned_inf_plus (R : Nat) (w : World) (H : Rd w R [43, 73, 110, 102] 1) :
    Calls Tryz.prog 82 #[.pointer (some ⟨R, 0, none⟩)] w fun e w' => e = .returned (.tuple #[.int .u64 ((9218868437227405312 : Nat) : Int), .nilIface]) ∧ Only [R] w w' ∧ Rd w' R [43, 73, 110, 102] 4 := by
  have C1 := Lib.hid (fun w H => word_short R [43, 73, 110, 102] 1 { data := #[105, 110, 102, 105, 110, 105, 116, 121] } (by decide) (by decide) (by decide) w H)
  have C2 := Lib.hid (fun w H => inf_plus R w H)
  have CN := Lib.hid inf131
  have HH := Lib.hid H
  clear H
  go_enter Tryz.func82, Tryz.ntmps82
  go_wp2_with fail
  refine (C1.out w HH.out).mono ?_
  rintro e w1 ⟨rfl, m1, rfl⟩
  go_wp2_with fail
  refine (C2.out (w.drewN m1) HH.out).mono ?_
  rintro e w1 ⟨rfl, ho, hr⟩
  have O1 := Lib.hid (show Only [R] w w1 from ((Only.refl [R] w).drewN _).trans ho (fun x hx => .inl hx))
  have R1 := Lib.hid hr
  clear ho hr
  go_wp2_with fail
  refine (CN.out _).mono ?_
  rintro e w2 ⟨rfl, rfl⟩
  go_wp2
  go_ret2
  exact ⟨rfl, O1.out, R1.out⟩
set_option maxRecDepth 100000 in
theorem unsigned_inf_minus (R : Nat) (w : World) (H : Rd w R [45, 73, 110, 102] 1) :
    Calls Tryz.prog 82 #[.pointer (some ⟨R, 0, none⟩)] w fun e w' => e = .returned (.tuple #[.int .u64 ((9218868437227405312 : Nat) : Int), .nilIface]) ∧ Only [R] w w' ∧ Rd w' R [45, 73, 110, 102] 4 := by
  have C1 := Lib.hid (fun w H => word_short R [45, 73, 110, 102] 1 { data := #[105, 110, 102, 105, 110, 105, 116, 121] } (by decide) (by decide) (by decide) w H)
  have C2 := Lib.hid (fun w H => inf_minus R w H)
  have CN := Lib.hid inf131
  have HH := Lib.hid H
  clear H
  go_enter Tryz.func82, Tryz.ntmps82
  go_wp2_with fail
  refine (C1.out w HH.out).mono ?_
  rintro e w1 ⟨rfl, m1, rfl⟩
  go_wp2_with fail
  refine (C2.out (w.drewN m1) HH.out).mono ?_
  rintro e w1 ⟨rfl, ho, hr⟩
  have O1 := Lib.hid (show Only [R] w w1 from ((Only.refl [R] w).drewN _).trans ho (fun x hx => .inl hx))
  have R1 := Lib.hid hr
  clear ho hr
  go_wp2_with fail
  refine (CN.out _).mono ?_
  rintro e w2 ⟨rfl, rfl⟩
  go_wp2
  go_ret2
  exact ⟨rfl, O1.out, R1.out⟩
theorem number_nan (w : World) : Calls Tryz.prog 14 #[.string (strOf [78, 97, 78])] w (Gives w (.tuple #[.int .u64 (sgnV false 9221120237041090561 : Nat), .int .u16 0])) :=
  Number_any [78, 97, 78] false 0 9221120237041090561 (by decide) (by decide) w
    (fun w1 H => (sign_none w.heap.size [78, 97, 78] 0 78 (by unfold IsB; decide) (by decide) rfl (by decide) (by decide) w1 H).mono (by rintro e w' ⟨he, m, rfl⟩; exact ⟨he, (Only.refl _ w1).drewN m, H⟩))
    (fun w1 _ H => unsigned_nan w.heap.size w1 H)
theorem number_pinf (w : World) : Calls Tryz.prog 14 #[.string (strOf [43, 73, 110, 102])] w (Gives w (.tuple #[.int .u64 (sgnV false 9218868437227405312 : Nat), .int .u16 0])) :=
  Number_any [43, 73, 110, 102] false 1 9218868437227405312 (by decide) (by decide) w
    (fun w1 H => sign_plus w.heap.size [43, 73, 110, 102] 0 (by unfold IsB; decide) (by decide) rfl w1 H)
    (fun w1 _ H => unsigned_inf_plus w.heap.size w1 H)
theorem number_minf (w : World) : Calls Tryz.prog 14 #[.string (strOf [45, 73, 110, 102])] w (Gives w (.tuple #[.int .u64 (sgnV true 9218868437227405312 : Nat), .int .u16 0])) :=
  Number_any [45, 73, 110, 102] true 1 9218868437227405312 (by decide) (by decide) w
    (fun w1 H => sign_minus w.heap.size [45, 73, 110, 102] 0 (by unfold IsB; decide) (by decide) rfl w1 H)
    (fun w1 _ H => unsigned_inf_minus w.heap.size w1 H)
theorem number_nought (s : Bool) (a o cap : Nat) (w : World) (T : NumTabs w a o cap) : Calls Tryz.prog 14 #[.string (strOf (sgnS s ++ [48]))] w (Gives w (.tuple #[.int .u64 (sgnV s 0 : Nat), .int .u16 0])) := by
  have h := Number_nn s [48] (fun x hx => by rw [List.mem_singleton.1 hx]; decide) (by simp) (fun _ => rfl) (by cases s <;> decide) (trunc_short (by decide)) a o cap w T
  exact h
end Go.Proofs.YthhlhiighgnkmaaGreatDoor
/-! ## WALKS: Number on what Show writes; what is written with a point, one digit fewer. -/
namespace Go.Proofs.YthhlhiighgnkmaaGreatDoor
set_option linter.unusedVariables false
set_option linter.unusedSimpArgs false
open Go.RowKit Go.PlainAid
def backV (a : Nat) : Nat := if Nr.isNaN a then Nr.nan else a
theorem finite_parts {a : Nat} (hn : Nr.isNaN a = false) (hz : Nr.nought a = false) (hi : Nr.isInf a = false) : 0 < a % 2 ^ 63 ∧ a % 2 ^ 63 < 2047 * 2 ^ 52 := by
  unfold Nr.isNaN Nr.inf at hn
  unfold Nr.nought at hz
  unfold Nr.isInf Nr.inf at hi
  have h1 := of_decide_eq_false hn
  have h2 := of_decide_eq_false hz
  have h3 := of_decide_eq_false hi
  omega
theorem sgnV_pos (s : Bool) {v : Nat} (h : v ≤ Nr.inf) : sgnV s v = (if s then 2 ^ 63 else 0) + v := by
  unfold sgnV
  cases s
  · simp
  · have e1 : Nr.isNaN v = false := by
      unfold Nr.isNaN
      unfold Nr.inf at h ⊢
      exact decide_eq_false (by omega)
    have e2 : Nr.neg v = false := by
      unfold Nr.neg
      unfold Nr.inf at h
      exact decide_eq_false (by omega)
    simp only [if_true]
    unfold Nr.dNeg
    rw [e1, e2]
    simp only [Bool.false_eq_true, if_false]
    omega
theorem sgnV_back {a : Nat} (ha : a < 2 ^ 64) (hn : Nr.isNaN a = false) : sgnV (Nr.neg a) (a % 2 ^ 63) = a := by
  have h : a % 2 ^ 63 ≤ Nr.inf := by
    unfold Nr.isNaN at hn
    have := of_decide_eq_false hn
    omega
  rw [sgnV_pos _ h]
  unfold Nr.neg
  by_cases h : 2 ^ 63 ≤ a
  · rw [decide_eq_true h]; simp only [if_true]; omega
  · rw [decide_eq_false h]; simp only [Bool.false_eq_true, if_false]; omega
theorem dv_dd (y : Nat) : Nr.dv 0 (Nr.dd y) = y := by
  rw [dv_decV, dd_decN y y (Nat.le_refl _)]; exact (decN_ok y).2.2
theorem dd_digits (y : Nat) : Nr.Digs (Nr.dd y) := fun c hc => Nr.dd_digs y y (Nat.le_refl _) c hc
/-- what is shown is read as it was -/
theorem number_show (a : Nat) (ha : a < 2 ^ 64) (b o cap : Nat) (w : World) (T : NumTabs w b o cap) :
    Calls Tryz.prog 14 #[.string (strOf (showS a))] w (Gives w (.tuple #[.int .u64 (backV a : Nat), .int .u16 0])) := by
  unfold showS backV
  cases hn : Nr.isNaN a
  · have hsb := sgnV_back ha hn
    simp only [Bool.false_eq_true, if_false]
    cases hz : Nr.nought a
    · simp only [Bool.false_eq_true, if_false]
      cases hi : Nr.isInf a
      · simp only [Bool.false_eq_true, if_false]
        obtain ⟨h0, h1⟩ := finite_parts hn hz hi
        obtain ⟨p1, p2, p3, p4⟩ := parts_of h0 h1
        obtain ⟨y, k, hT⟩ := Nr.told p2 p3 p4
        obtain ⟨c, tl, hd, hc1, hc2⟩ := Nr.dd_head y y (Nat.le_refl _) hT.pos
        have hN := number_pt (Nr.neg a) c tl k (by rw [← hd]; exact dd_digits y) (by omega) (by rw [← hd]; exact hT.len) hT.k1 hT.k2 b o cap w T
        rw [← hd, dv_dd] at hN
        have hR : decR y (k - ((Nr.dd y).length : Nat)) = a % 2 ^ 63 := by
          unfold decR
          rw [if_neg (by have := hT.pos; omega), hT.back, p1]
        rw [hR, hsb] at hN
        rw [hT.e]
        exact hN
      · simp only [if_true]
        have hv : a % 2 ^ 63 = 9218868437227405312 := by
          unfold Nr.isInf Nr.inf at hi
          have := of_decide_eq_true hi
          omega
        rw [hv] at hsb
        cases hs : Nr.neg a
        · rw [hs] at hsb
          simp only [Bool.false_eq_true, if_false]
          have h := number_pinf w
          rw [hsb] at h
          exact h
        · rw [hs] at hsb
          simp only [if_true]
          have h := number_minf w
          rw [hsb] at h
          exact h
    · simp only [if_true]
      have hv : a % 2 ^ 63 = 0 := by
        unfold Nr.nought at hz
        exact of_decide_eq_true hz
      rw [hv] at hsb
      have h := number_nought (Nr.neg a) b o cap w T
      rw [hsb] at h
      exact h
  · simp only [if_true]
    exact number_nan w
/-- no byte of it is a point -/
def NoPt (l : List Nat) : Prop := ∀ c ∈ l, c ≠ 46
def NoPE (l : List Nat) : Prop := ∀ c ∈ l, c ≠ 46 ∧ c ≠ 101
theorem NoPE.app {l m : List Nat} (h : NoPE l) (h2 : NoPE m) : NoPE (l ++ m) := fun c hc => by
  rcases List.mem_append.1 hc with h1 | h1
  · exact h c h1
  · exact h2 c h1
theorem NoPE.digs {l : List Nat} (h : Nr.Digs l) : NoPE l := fun c hc => by have := h c hc; omega
theorem NoPE.sgn (s : Bool) : NoPE (sgnS s) := by
  cases s
  · intro c hc; cases hc
  · intro c hc
    rw [List.mem_singleton.1 hc]
    decide
/-- what is written with a point: its parts, and what is read without the last digit ahead of the exponent -/
structure Pointed (a : Nat) (P F : List Nat) (z : Nat) (E : List Nat) (V : Nat) : Prop where
  text : showS a = P ++ 46 :: (F ++ z :: E)
  p : NoPE P
  f : NoPE F
  z1 : 49 ≤ z
  z2 : z ≤ 57
  e : E = [] ∨ ∃ E', E = 101 :: E' ∧ NoPt E'
  lp : P.length ≤ 30
  lf : F.length ≤ 30
  le : E.length ≤ 30
  v : V ≠ a
  read : ∀ (b o cap : Nat) (w : World), NumTabs w b o cap → Calls Tryz.prog 14 #[.string (strOf (P ++ 46 :: (F ++ E)))] w (Gives w (.tuple #[.int .u64 (V : Nat), .int .u16 0]))
theorem decR_inf (m : Nat) (p : Int) : decR m p ≤ Nr.inf := by
  unfold decR
  split
  · exact Nat.zero_le _
  · unfold Nr.rndN Nr.inf
    exact Nat.le_trans (Nat.min_le_right _ _) (by decide)
theorem few_ne {a : Nat} (ha : a < 2 ^ 64) (hn : Nr.isNaN a = false) (hz : Nr.nought a = false) {y : Nat} {k : Int} {I : List Nat} {z : Nat}
    (p1 : shW (a % 2 ^ 63) * 2 ^ 52 + mW (a % 2 ^ 63) = a % 2 ^ 63) (hT : Nr.Told (mW (a % 2 ^ 63)) (shW (a % 2 ^ 63)) y k) (hI : Nr.dd y = I ++ [z]) (hI2 : I.length = (Nr.dd y).length - 1) :
    sgnV (Nr.neg a) (decR (y / 10) (k - (I.length : Nat))) ≠ a := by
  have hne : decR (y / 10) (k - (I.length : Nat)) ≠ a % 2 ^ 63 := by
    unfold decR
    by_cases h : y / 10 = 0
    · rw [if_pos h]
      unfold Nr.nought at hz
      have := of_decide_eq_false hz
      omega
    · rw [if_neg h, hI2, ← p1]
      refine hT.few ?_
      rw [Nr.dd_big (by omega), List.length_append]
      have := Nr.dd_len_pos (y / 10)
      simp only [List.length_cons, List.length_nil]
      omega
  intro h
  apply hne
  rw [sgnV_pos _ (decR_inf _ _)] at h
  have hb := decR_inf (y / 10) (k - (I.length : Nat))
  obtain ⟨R, hR⟩ : ∃ R, decR (y / 10) (k - (I.length : Nat)) = R := ⟨_, rfl⟩
  rw [hR] at h hb ⊢
  unfold Nr.inf at hb
  unfold Nr.neg at h
  by_cases hs : 2 ^ 63 ≤ a
  · rw [decide_eq_true hs] at h; simp only [if_true] at h; omega
  · rw [decide_eq_false hs] at h; simp only [Bool.false_eq_true, if_false] at h; omega
theorem dd_parts {y : Nat} (h0 : 0 < y) (hl : y % 10 ≠ 0) : ∃ I z, Nr.dd y = I ++ [z] ∧ 49 ≤ z ∧ z ≤ 57 ∧ Nr.dv 0 I = y / 10 ∧ Nr.Digs I ∧ (∀ c, I[0]? = some c → c ≠ 48) := by
  by_cases h : y < 10
  · refine ⟨[], 48 + y, by rw [Nr.dd_small h]; rfl, by omega, by omega, ?_, (fun c hc => absurd hc (by simp)), (fun c hc => absurd hc (by simp))⟩
    rw [Nr.dv_nil]; omega
  · refine ⟨Nr.dd (y / 10), 48 + y % 10, Nr.dd_big h, by omega, by omega, dv_dd _, dd_digits _, ?_⟩
    obtain ⟨c, tl, hd, hc1, hc2⟩ := Nr.dd_head (y / 10) (y / 10) (Nat.le_refl _) (by omega)
    intro x hx
    rw [hd] at hx
    have := Option.some.inj hx
    omega
theorem nopt_digs {l : List Nat} (h : Nr.Digs l) : NoPt l := fun c hc => by have := h c hc; omega
theorem nopt_app {l m : List Nat} (h : NoPt l) (h2 : NoPt m) : NoPt (l ++ m) := fun c hc => by
  rcases List.mem_append.1 hc with h1 | h1
  · exact h c h1
  · exact h2 c h1
theorem nopt_sgn (s : Bool) : NoPt (sgnS s) := fun c hc => (NoPE.sgn s c hc).1
theorem exp_form (k : Int) : (if k - 1 < 0 then [101, 45] ++ decN (-(k - 1)).toNat else [101, 43] ++ decN (k - 1).toNat) = 101 :: (if decide (k - 1 < 0) then 45 else 43) :: decN (k - 1).natAbs := by
  by_cases h : k - 1 < 0
  · rw [if_pos h, decide_eq_true h, show (-(k - 1)).toNat = (k - 1).natAbs by omega]; rfl
  · rw [if_neg h, decide_eq_false h, show (k - 1).toNat = (k - 1).natAbs by omega]; rfl
theorem few_cases (a : Nat) (ha : a < 2 ^ 64) : (NoPt (showS a) ∧ (showS a).length ≤ 100) ∨ ∃ P F z E V, Pointed a P F z E V := by
  cases hn : Nr.isNaN a
  · cases hz : Nr.nought a
    · cases hi : Nr.isInf a
      · have hsh : showS a = sgnS (Nr.neg a) ++ ptT (Nr.shownE (mW (a % 2 ^ 63)) (shW (a % 2 ^ 63))).1 (Nr.shownE (mW (a % 2 ^ 63)) (shW (a % 2 ^ 63))).2 := by
          unfold showS
          rw [hn, hz, hi]
          simp only [Bool.false_eq_true, if_false]
        obtain ⟨h0, h1⟩ := finite_parts hn hz hi
        obtain ⟨p1, p2, p3, p4⟩ := parts_of h0 h1
        obtain ⟨y, k, hT⟩ := Nr.told p2 p3 p4
        rw [hT.e] at hsh
        have hlen := hT.len
        have k1 := hT.k1
        have k2 := hT.k2
        obtain ⟨I, z, hI, z1, z2, hv, dI, hI0⟩ := dd_parts hT.pos hT.last
        have hI2 : I.length = (Nr.dd y).length - 1 := by rw [hI, List.length_append]; simp
        have hne := few_ne ha hn hz p1 hT hI hI2
        have hs1 : (sgnS (Nr.neg a)).length ≤ 1 := by cases Nr.neg a <;> simp [sgnS]
        have hIl : I.length ≤ 17 := by omega
        rw [hI] at hsh hlen
        have dD : Nr.Digs (I ++ [z]) := by rw [← hI]; exact dd_digits y
        clear hT p1 p2 p3 p4 hI hI2 hn hz hi h0 h1
        obtain ⟨s, hs⟩ : ∃ s, Nr.neg a = s := ⟨_, rfl⟩
        rw [hs] at hsh hne hs1
        clear hs
        have hE3 := decN_len3 (k - 1).natAbs (by omega)
        obtain ⟨x1, x2, x3⟩ := decN_ok (k - 1).natAbs
        have hEx : ((if decide (k - 1 < 0) then -(decV 0 (decN (k - 1).natAbs) : Int) else (decV 0 (decN (k - 1).natAbs) : Int))) = k - 1 := by
          rw [x3]; split
          · rename_i h; have := of_decide_eq_true h; omega
          · rename_i h; have := of_decide_eq_false (Bool.eq_false_iff.2 h); omega
        by_cases hx : k < -5 ∨ 21 < k
        · cases hIc : I with
          | nil =>
            refine .inl ?_
            have ht : showS a = sgnS s ++ ([z] ++ (101 :: (if decide (k - 1 < 0) then 45 else 43) :: decN (k - 1).natAbs)) := by
              rw [hsh, hIc]
              unfold ptT
              rw [if_pos hx]
              unfold expT
              rw [exp_form]
              rfl
            rw [ht]
            refine ⟨nopt_app (nopt_sgn s) (nopt_app (fun c hc => by rw [List.mem_singleton.1 hc]; omega) ?_), by simp; omega⟩
            intro c hc
            rcases List.mem_cons.1 hc with h | hc
            · omega
            · rcases List.mem_cons.1 hc with h | hc
              · rw [h]; split <;> decide
              · exact nopt_digs x1 c hc
          | cons c r =>
            refine .inr ⟨sgnS s ++ [c], r, z, 101 :: (if decide (k - 1 < 0) then 45 else 43) :: decN (k - 1).natAbs, _, ⟨?_, ?_, ?_, z1, z2, ?_, by simp; omega, by rw [hIc] at hIl; simp at hIl; omega, by simp; omega, hne, ?_⟩⟩
            · rw [hsh, hIc]
              unfold ptT
              rw [if_pos hx]
              unfold expT
              rw [exp_form, if_pos (by simp)]
              simp
            · exact (NoPE.sgn s).app (NoPE.digs fun x hx => dI x (by rw [hIc, List.mem_singleton.1 hx]; exact List.mem_cons_self ..))
            · exact NoPE.digs fun x hx => dI x (by rw [hIc]; exact List.mem_cons_of_mem _ hx)
            · refine .inr ⟨_, rfl, ?_⟩
              intro c hc
              rcases List.mem_cons.1 hc with h | hc
              · rw [h]; split <;> decide
              · exact nopt_digs x1 c hc
            · intro b o cap w T
              have hN := Number_pe s [c] r (decide (k - 1 < 0)) (decN (k - 1).natAbs) (fun x hx => dI x (by rw [hIc, List.mem_singleton.1 hx]; exact List.mem_cons_self ..)) (by simp) (fun x hx => dI x (by rw [hIc]; exact List.mem_cons_of_mem _ hx)) x1 x2 (by rw [x3]; omega) (fun h => absurd (Option.some.inj h) (hI0 c (by rw [hIc]; rfl))) (by rw [hIc] at hIl; simp at hIl ⊢; omega) (trunc_short (by rw [hIc] at hIl; simp at hIl ⊢; omega)) b o cap w T
              rw [hEx, show ([c] ++ r) = I by rw [hIc]; rfl, hv, show k - 1 + (([c] : List Nat).length : Int) - (I.length : Int) = k - (I.length : Nat) by simp] at hN
              rw [show (sgnS s ++ [c] ++ 46 :: (r ++ 101 :: (if decide (k - 1 < 0) then 45 else 43) :: decN (k - 1).natAbs)) = sgnS s ++ ([c] ++ (46 :: (r ++ (101 :: (if decide (k - 1 < 0) then 45 else 43) :: decN (k - 1).natAbs)))) by simp]
              exact hN
        · by_cases h0 : k ≤ 0
          · refine .inr ⟨sgnS s ++ [48], nghts (-k).toNat ++ I, z, [], _, ⟨?_, ?_, ?_, z1, z2, .inl rfl, by simp; omega, by simp [nghts_len]; omega, by simp, hne, ?_⟩⟩
            · rw [hsh]
              unfold ptT
              rw [if_neg hx, if_pos h0]
              simp
            · exact (NoPE.sgn s).app (NoPE.digs fun x hx => by rw [List.mem_singleton.1 hx]; decide)
            · exact (NoPE.digs (nghts_digs _)).app (NoPE.digs dI)
            · intro b o cap w T
              have hN := Number_pn s [48] (nghts (-k).toNat ++ I) (fun x hx => by rw [List.mem_singleton.1 hx]; decide) (by simp) (fun x hx => by rcases List.mem_append.1 hx with h | h; exact nghts_digs _ x h; exact dI x h) (fun _ => rfl) (by simp [nghts_len]; omega) (by rw [trunc_front]; exact trunc_short (by omega)) b o cap w T
              rw [dv_front, hv, show (([48] : List Nat).length : Int) - ((([48] : List Nat) ++ (nghts (-k).toNat ++ I)).length : Int) = k - (I.length : Nat) by simp [nghts_len]; omega] at hN
              rw [show (sgnS s ++ [48] ++ 46 :: (nghts (-k).toNat ++ I ++ [])) = sgnS s ++ ([48] ++ 46 :: (nghts (-k).toNat ++ I)) by simp]
              exact hN
          · by_cases hlt : k < (I ++ [z]).length
            · obtain ⟨j, rfl⟩ : ∃ j : Nat, k = ((j + 1 : Nat) : Int) := ⟨(k - 1).toNat, by omega⟩
              have hj : j + 1 ≤ I.length := by simp at hlt; omega
              refine .inr ⟨sgnS s ++ I.take (j + 1), I.drop (j + 1), z, [], _, ⟨?_, ?_, ?_, z1, z2, .inl rfl, by simp; omega, by simp; omega, by simp, hne, ?_⟩⟩
              · rw [hsh]
                unfold ptT
                rw [if_neg hx, if_neg h0, if_pos hlt, Int.toNat_natCast, List.take_append_of_le_length hj, List.drop_append_of_le_length hj]
                simp
              · exact (NoPE.sgn s).app (NoPE.digs fun x hx => dI x (List.mem_of_mem_take hx))
              · exact NoPE.digs fun x hx => dI x (List.mem_of_mem_drop hx)
              · intro b o cap w T
                have hW : I.take (j + 1) ≠ [] := by
                  intro h
                  have := congrArg List.length h
                  rw [List.length_take, Nat.min_eq_left hj] at this
                  simp at this
                have hN := Number_pn s (I.take (j + 1)) (I.drop (j + 1)) (fun x hx => dI x (List.mem_of_mem_take hx)) hW (fun x hx => dI x (List.mem_of_mem_drop hx)) (fun h => by
                  rw [List.getElem?_take_of_lt (by omega)] at h
                  exact absurd rfl (hI0 48 h)) (by simp; omega) (by rw [List.take_append_drop]; exact trunc_short (by omega)) b o cap w T
                rw [List.take_append_drop, hv, show ((I.take (j + 1)).length : Int) = ((j + 1 : Nat) : Int) by rw [List.length_take, Nat.min_eq_left hj]] at hN
                rw [show (sgnS s ++ I.take (j + 1) ++ 46 :: (I.drop (j + 1) ++ [])) = sgnS s ++ (I.take (j + 1) ++ 46 :: I.drop (j + 1)) by simp]
                exact hN
            · refine .inl ?_
              have ht : showS a = sgnS s ++ (I ++ [z] ++ nghts (k - ((I ++ [z]).length : Nat)).toNat) := by
                rw [hsh]
                unfold ptT
                rw [if_neg hx, if_neg h0, if_neg hlt]
              rw [ht]
              exact ⟨nopt_app (nopt_sgn s) (nopt_app (nopt_digs dD) (nopt_digs (nghts_digs _))), by simp [nghts_len]; omega⟩
      · refine .inl ?_
        unfold showS
        rw [hn, hz, hi]
        simp only [Bool.false_eq_true, if_false, if_true]
        cases Nr.neg a
        · exact ⟨by unfold NoPt; decide, by decide⟩
        · exact ⟨by unfold NoPt; decide, by decide⟩
    · refine .inl ?_
      unfold showS
      rw [hn, hz]
      simp only [Bool.false_eq_true, if_false, if_true]
      cases Nr.neg a
      · exact ⟨by unfold NoPt; decide, by decide⟩
      · exact ⟨by unfold NoPt; decide, by decide⟩
  · refine .inl ?_
    unfold showS
    rw [hn]
    simp only [if_true]
    exact ⟨by unfold NoPt; decide, by decide⟩
end Go.Proofs.YthhlhiighgnkmaaGreatDoor
