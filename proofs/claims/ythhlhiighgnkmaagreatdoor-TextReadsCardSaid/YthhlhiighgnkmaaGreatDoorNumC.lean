/-
  WALKS: ".1" is read: the reader's skip, word, sign; the number.
-/
import Derived.Test.YthhlhiighgnkmaaGreatDoorNumB
namespace Go.Proofs.YthhlhiighgnkmaaGreatDoor
set_option linter.unusedVariables false
set_option linter.unusedSimpArgs false
open Go.RowKit Go.PlainAid
/-- nothing is skipped at the end -/
theorem skip_end (R : Nat) (bs : List Nat) (p : Nat) (W : ByteArray) (hp : p = bs.length) (w : World) (H : Rd w R bs p) :
    Calls Tryz.prog 103 #[.pointer (some ⟨R, 0, none⟩), .string W] w fun e w' => e = .returned (.bool false) ∧ ∃ m, w' = w.drewN m := by
  have CQ := Lib.hid (fun m => isdone_q R bs p (w.drewN m) H)
  rw [decide_eq_true hp] at CQ
  clear hp H
  go_enter Tryz.func103, Tryz.ntmps103
  go_wp2_with fail
  go_quiet ((go_at_call 83; exact Calls.quiet_of (CQ.out _)))
  go_wp2
  go_ret
  exact ⟨rfl, _, rfl⟩
/-- another byte is not skipped -/
theorem skip_no (R : Nat) (bs : List Nat) (p c : Nat) (W : ByteArray) (hB : IsB bs) (hl : bs.length ≤ 200000) (hc : bs[p]? = some c) (hW : Lib.indexByte W.data.toList c.toUInt8 = -1) (w : World) (H : Rd w R bs p) :
    Calls Tryz.prog 103 #[.pointer (some ⟨R, 0, none⟩), .string W] w fun e w' => e = .returned (.bool false) ∧ ∃ m, w' = w.drewN m := by
  obtain ⟨hp, hpc⟩ := List.getElem?_eq_some_iff.1 hc
  have CQ := Lib.hid (fun m => isdone_q R bs p (w.drewN m) H)
  rw [decide_eq_false (by omega)] at CQ
  have CI := Lib.hid (fun w => Tryz.strings_IndexByte W ((c : Nat) : Int) w)
  rw [Int.toNat_natCast, hW] at CI
  have h0 := H.c0
  have h1 := H.c1
  have hsz := strOf_size bs
  have hbt := get_bt (strOf bs)
  have hb0 : bt (strOf bs) p = ((c : Nat) : Int) := by rw [strOf_bt bs hB p hp, hpc]
  obtain ⟨L, hL⟩ : ∃ L, bs.length = L := ⟨_, rfl⟩
  rw [hL] at hsz hl hp
  have hpi : (p : Int) < (L : Int) := by omega
  clear hL H hpc hc hW hB
  go_enter Tryz.func103, Tryz.ntmps103
  go_wp2_with fail
  go_quiet ((first
    | (go_at_call 83; exact Calls.quiet_of (CQ.out _))
    | (go_at_call 152; exact Calls.quiet_of_same ((CI.out _).mono fun _ _ h => ⟨h.1, h.2⟩))))
  go_wp2
  go_ret
  exact ⟨rfl, _, rfl⟩
/-- one of these bytes is skipped -/
theorem skip_yes (R : Nat) (bs : List Nat) (p c : Nat) (W : ByteArray) (i : Nat) (hB : IsB bs) (hl : bs.length ≤ 200000) (hc : bs[p]? = some c) (hW : Lib.indexByte W.data.toList c.toUInt8 = (i : Int)) (w : World) (H : Rd w R bs p) :
    Calls Tryz.prog 103 #[.pointer (some ⟨R, 0, none⟩), .string W] w fun e w' => e = .returned (.bool true) ∧ Only [R] w w' ∧ Rd w' R bs (p + 1) := by
  obtain ⟨hp, hpc⟩ := List.getElem?_eq_some_iff.1 hc
  have CQ := Lib.hid (fun m => isdone_q R bs p (w.drewN m) H)
  rw [decide_eq_false (by omega)] at CQ
  have CI := Lib.hid (fun w => Tryz.strings_IndexByte W ((c : Nat) : Int) w)
  rw [Int.toNat_natCast, hW] at CI
  have HR := Lib.hid H
  have h0 := H.c0
  have h1 := H.c1
  have f1 := H.fz 1
  have hsz := strOf_size bs
  have hbt := get_bt (strOf bs)
  have hb0 : bt (strOf bs) p = ((c : Nat) : Int) := by rw [strOf_bt bs hB p hp, hpc]
  obtain ⟨L, hL⟩ : ∃ L, bs.length = L := ⟨_, rfl⟩
  rw [hL] at hsz hl hp
  have hpi : (p : Int) < (L : Int) := by omega
  have hin : decide ((i : Int) < 0) = false := decide_eq_false (by omega)
  have e1 : IntKind.i64.wrap ((p : Int) + 1) = ((p + 1 : Nat) : Int) := by rw [IntKind.wrap_i64]; omega
  clear hL H hpc hc hW hB
  go_enter Tryz.func103, Tryz.ntmps103
  go_wp2_with fail
  go_quiet ((first
    | (go_at_call 83; exact Calls.quiet_of (CQ.out _))
    | (go_at_call 152; exact Calls.quiet_of_same ((CI.out _).mono fun _ _ h => ⟨h.1, h.2⟩))))
  go_wp2
  go_ret
  exact ⟨rfl, ((Only.refl [R] w).drewN _).setCell (.inl (by simp)) _, Rd.set (w := w.drewN nq) HR.out (p + 1)⟩
/-- a word that has more bytes than are left is not there -/
theorem word_short (R : Nat) (bs : List Nat) (p : Nat) (W : ByteArray) (hp : p ≤ bs.length) (hl : bs.length ≤ 200000) (hW : bs.length - p < W.size) (w : World) (H : Rd w R bs p) :
    Calls Tryz.prog 130 #[.pointer (some ⟨R, 0, none⟩), .string W] w fun e w' => e = .returned (.bool false) ∧ ∃ m, w' = w.drewN m := by
  have h0 := H.c0
  have h1 := H.c1
  have hsz := strOf_size bs
  obtain ⟨L, hL⟩ : ∃ L, bs.length = L := ⟨_, rfl⟩
  rw [hL] at hsz hl hp hW
  obtain ⟨Z, hZ⟩ : ∃ Z, W.size = Z := ⟨_, rfl⟩
  rw [hZ] at hW
  have e1 : IntKind.i64.wrap ((L : Int) - (p : Int)) = ((L - p : Nat) : Int) := by rw [IntKind.wrap_i64]; omega
  have e2 : decide (((L - p : Nat) : Int) < (Z : Int)) = true := decide_eq_true (by omega)
  obtain ⟨D, hD⟩ : ∃ D, L - p = D := ⟨_, rfl⟩
  rw [hD] at e1 e2
  have hDZ : D < Z := by omega
  clear hL H hD hW
  go_enter Tryz.func130, Tryz.ntmps130
  go_wp2_with fail
  go_quiet (fail)
  go_wp2
  go_ret
  exact ⟨rfl, _, rfl⟩
/-- a word that begins with another byte is not there -/
theorem word_other (R : Nat) (bs : List Nat) (p c d : Nat) (W : ByteArray) (hB : IsB bs) (hp : bs[p]? = some c) (hc : c < 65) (hl : bs.length ≤ 200000) (hW : W.size ≤ bs.length - p) (hZ0 : 1 ≤ W.size) (hd : bt W 0 = ((d : Nat) : Int)) (hcd : c ≠ d) (w : World) (H : Rd w R bs p) :
    Calls Tryz.prog 130 #[.pointer (some ⟨R, 0, none⟩), .string W] w fun e w' => e = .returned (.bool false) ∧ ∃ m, w' = w.drewN m := by
  have h0 := H.c0
  have h1 := H.c1
  obtain ⟨hp, hpc⟩ := List.getElem?_eq_some_iff.1 hp
  have hsz := strOf_size bs
  have hbt := get_bt (strOf bs)
  have hbw := get_bt W
  have hb0 : bt (strOf bs) p = ((c : Nat) : Int) := by rw [strOf_bt bs hB p hp, hpc]
  obtain ⟨L, hL⟩ : ∃ L, bs.length = L := ⟨_, rfl⟩
  rw [hL] at hsz hl hp hW
  obtain ⟨Z, hZ⟩ : ∃ Z, W.size = Z := ⟨_, rfl⟩
  rw [hZ] at hW hZ0
  have e1 : IntKind.i64.wrap ((L : Int) - (p : Int)) = ((L - p : Nat) : Int) := by rw [IntKind.wrap_i64]; omega
  have e2 : decide (((L - p : Nat) : Int) < (Z : Int)) = false := decide_eq_false (by omega)
  have e3 : decide ((0 : Int) < (Z : Int)) = true := decide_eq_true (by omega)
  have hz : (0 : Int) < (Z : Int) := by omega
  have e4 : decide ((65 : Int) ≤ (c : Int)) = false := decide_eq_false (by omega)
  have e5 : (((c : Nat) : Int) == ((d : Nat) : Int)) = false := by simp; omega
  have e6 : IntKind.i64.wrap ((p : Int) + 0) = (p : Int) := by rw [IntKind.wrap_i64]; omega
  have hpi : (p : Int) < (L : Int) := by omega
  obtain ⟨D, hD⟩ : ∃ D, L - p = D := ⟨_, rfl⟩
  rw [hD] at e1 e2
  have hDZ : ¬ D < Z := by omega
  have hZp : 0 < Z := by omega
  have hcn : ¬ 65 ≤ c := by omega
  clear hL H hD hW hpc hB
  go_enter Tryz.func130, Tryz.ntmps130
  go_wp2_with fail
  go_quiet (fail)
  go_wp2_with fail
  refine wp_loop_rounds 1 ?_
  rw [rounds_succ]
  go_wp2_with fail
  go_quiet (fail)
  go_wp2
  go_ret
  exact ⟨rfl, _, rfl⟩
end Go.Proofs.YthhlhiighgnkmaaGreatDoor
