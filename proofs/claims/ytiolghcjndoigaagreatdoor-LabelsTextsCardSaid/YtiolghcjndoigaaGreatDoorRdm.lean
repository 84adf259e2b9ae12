/-
  WALKS: the reader of a text of labels: signs, values, labels.
-/
import Derived.Test.YtiolghcjndoigaaGreatDoorCls
namespace Go.Proofs.YtiolghcjndoigaaGreatDoor
set_option linter.unusedVariables false
set_option linter.unusedSimpArgs false
open Go.RowKit Go.PlainAid Go.Shelf
theorem isB_drop {bs : List Nat} (h : IsB bs) (k : Nat) : IsB (bs.drop k) := fun c hc => h c (List.mem_of_mem_drop hc)
theorem ofNat_inj {a b : Nat} (ha : a < 256) (hb : b < 256) (h : UInt8.ofNat a = UInt8.ofNat b) : a = b := by
  have := congrArg UInt8.toNat h
  rw [UInt8.toNat_ofNat', UInt8.toNat_ofNat', Nat.mod_eq_of_lt ha, Nat.mod_eq_of_lt hb] at this
  exact this
theorem prefix_one (ds : List Nat) (hB : IsB ds) (c : Nat) (hc : c < 256) : Lib.hasPrefix (strOf ds).data.toList (strOf [c]).data.toList = decide (ds[0]? = some c) := by
  rw [strOf_list, strOf_list]
  cases ds with
  | nil => simp [Lib.hasPrefix]
  | cons d ds =>
    have hd : d < 256 := hB d List.mem_cons_self
    by_cases e : d = c
    · subst e; simp [Lib.hasPrefix]
    · have : ¬ UInt8.ofNat d = UInt8.ofNat c := fun h => e (ofNat_inj hd hc h)
      have this2 : ¬ UInt8.ofNat c = UInt8.ofNat d := fun h => e (ofNat_inj hc hd h).symm
      have h2 : ((d :: ds)[0]? = some c) ↔ False := by simp [e]
      rw [decide_eq_false (fun h => h2.1 h)]
      show ((UInt8.ofNat c == UInt8.ofNat d) && List.isPrefixOf [] _) = false
      rw [beq_eq_false_iff_ne.2 this2]
      rfl
theorem prefix_any (ds : List Nat) (hB : IsB ds) (c : Nat) (hc : c < 256) (w : World) : Calls Tryz.prog 133 #[.string (strOf ds), .string (strOf [c])] w fun e w' => e = .returned (.bool (decide (ds[0]? = some c))) ∧ w' = w := by
  have h := Tryz.strings_HasPrefix (strOf ds) (strOf [c]) w
  rw [prefix_one ds hB c hc] at h
  exact h
theorem drop_head (bs : List Nat) (p : Nat) : (bs.drop p)[0]? = bs[p]? := by rw [List.getElem?_drop, Nat.add_zero]
/-- stays where it was -/
theorem Rr.only {w w' : World} {R : Nat} {bs : List Nat} {p : Nat} (h : Rr w R bs p) {S : List Nat} (ho : Only S w w') (hS : R ∉ S) : Rr w' R bs p := (ho.block R h.lt hS).trans h
theorem sign_yes (R : Nat) (bs : List Nat) (p c : Nat) (hB : IsB bs) (hc : c < 256) (h : bs[p]? = some c) (hl : bs.length ≤ 4611686018427387904) (w : World) (H : Rr w R bs p) :
    Calls Tryz.prog 117 #[.pointer (some ⟨R, 0, none⟩), .string (strOf [c])] w fun e w' => e = .returned (.bool true) ∧ Only [R] w w' ∧ Rr w' R bs (skipB bs (p + 1)) := by
  have hp : p < bs.length := (List.getElem?_eq_some_iff.1 h).1
  have CR := Lib.hid (rest_any R bs p (by omega) (by omega) w H)
  have CP := Lib.hid (fun w => prefix_any (bs.drop p) (isB_drop hB p) c hc w)
  rw [drop_head, decide_eq_true h] at CP
  have CS := Lib.hid (fun w (H : Rr w R bs p) => pass_any R bs p 1 hB (by omega) hl w H)
  have HR := Lib.hid H
  have hs : (strOf [c]).size = 1 := strOf_size [c]
  obtain ⟨D, hD⟩ : ∃ D, strOf (bs.drop p) = D := ⟨_, rfl⟩
  obtain ⟨C, hC⟩ : ∃ C, strOf [c] = C := ⟨_, rfl⟩
  rw [hD] at CR CP
  rw [hC] at CP hs ⊢
  clear hD hC h hB H
  go_enter Tryz.func117, Tryz.ntmps117
  go_wp2_with fail
  refine CR.out.mono ?_
  rintro e w1 ⟨rfl, hb⟩
  have R1 := Lib.hid (HR.out.stay hb)
  have B1 := Lib.hid hb
  clear hb
  go_wp2_with fail
  refine (CP.out _).mono ?_
  rintro e w2 ⟨rfl, rfl⟩
  go_wp2_with fail
  refine (CS.out _ R1.out).mono ?_
  rintro e w3 ⟨rfl, ho, hr⟩
  go_wp2
  go_ret
  exact ⟨rfl, (Only.of_below B1.out [R]).trans ho (fun x hx => .inl hx), hr⟩
theorem sign_no (R : Nat) (bs : List Nat) (p c : Nat) (hB : IsB bs) (hc : c < 256) (h : bs[p]? ≠ some c) (hp : p ≤ bs.length) (hl : bs.length ≤ 4611686018427387904) (w : World) (H : Rr w R bs p) :
    Calls Tryz.prog 117 #[.pointer (some ⟨R, 0, none⟩), .string (strOf [c])] w (Gives w (.bool false)) := by
  have CR := Lib.hid (rest_any R bs p hp (by omega) w H)
  have CP := Lib.hid (fun w => prefix_any (bs.drop p) (isB_drop hB p) c hc w)
  rw [drop_head, decide_eq_false h] at CP
  obtain ⟨D, hD⟩ : ∃ D, strOf (bs.drop p) = D := ⟨_, rfl⟩
  obtain ⟨C, hC⟩ : ∃ C, strOf [c] = C := ⟨_, rfl⟩
  rw [hD] at CR CP
  rw [hC] at CP ⊢
  clear hD hC h hB H
  go_enter Tryz.func117, Tryz.ntmps117
  go_wp2_with fail
  refine CR.out.mono ?_
  rintro e w1 ⟨rfl, hb⟩
  have B1 := Lib.hid hb
  clear hb
  go_wp2_with fail
  refine (CP.out _).mono ?_
  rintro e w2 ⟨rfl, rfl⟩
  go_wp2
  go_ret
  exact ⟨rfl, B1.out⟩
/-- a value stands at p: between its quotes are ds, what follows it begins at e -/
def ValOk (bs : List Nat) (p : Nat) (ds : List Nat) (e : Nat) : Prop := ∃ pe, IsB ds ∧ (bs.drop p)[0]? = some 34 ∧ Toks 34 (bs.drop p) 1 ds pe ∧ e = skipB bs (p + (pe + 1))
set_option maxHeartbeats 1000000 in
theorem value_ok (R : Nat) (bs : List Nat) (p : Nat) (ds : List Nat) (en : Nat) (hB : IsB bs) (hl : bs.length ≤ 200000) (hv : ValOk bs p ds en) (w : World) (H : Rr w R bs p) :
    Calls Tryz.prog 134 #[.pointer (some ⟨R, 0, none⟩)] w fun e w' => e = .returned (.tuple #[.string (strOf ds), .bool true]) ∧ Only [R] w w' ∧ Rr w' R bs en := by
  obtain ⟨pe, hO, h0, ht, rfl⟩ := hv
  have hp : p < bs.length := by
    have := (List.getElem?_eq_some_iff.1 h0).1
    rw [List.length_drop] at this
    omega
  have hpe := ht.lt
  rw [List.length_drop] at hpe
  have CR := Lib.hid (fun w H => rest_any R bs p (by omega) (by omega) w H)
  have CP := Lib.hid (fun w => prefix_any (bs.drop p) (isB_drop hB p) 34 (by decide) w)
  rw [decide_eq_true h0] at CP
  have CC := Lib.hid (fun w => closed_any (bs.drop p) (isB_drop hB p) (by rw [List.length_drop]; omega) w)
  rw [toks_cls ht] at CC
  have CU := Lib.hid (fun w => unquote_ok ((bs.drop p).take (pe + 1)) 34 pe ds (fun c hc => isB_drop hB p c (List.mem_of_mem_take hc)) hO (by rw [List.length_take, List.length_drop]; omega) (.inl rfl) (take_get h0 (by omega)) (toks_take ht (by omega)) w)
  have CS := Lib.hid (fun w (H : Rr w R bs p) => pass_any R bs p (pe + 1) hB (by omega) (by omega) w H)
  have hx := strOf_extract (bs.drop p) 0 (pe + 1) (Nat.zero_le _) (by rw [List.length_drop]; omega)
  rw [List.drop_zero, Nat.sub_zero] at hx
  have hsz := strOf_size (bs.drop p)
  rw [List.length_drop] at hsz
  have HR := Lib.hid H
  have h34 : strOf [34] = ⟨#[34]⟩ := rfl
  rw [h34] at CP
  obtain ⟨D, hD⟩ : ∃ D, strOf (bs.drop p) = D := ⟨_, rfl⟩
  obtain ⟨T, hT⟩ : ∃ D, strOf ((bs.drop p).take (pe + 1)) = D := ⟨_, rfl⟩
  rw [hD] at CR CP CC hx hsz
  rw [hT] at CU hx
  obtain ⟨V, hV⟩ : ∃ D, strOf ds = D := ⟨_, rfl⟩
  rw [hV] at CU ⊢
  obtain ⟨m, hm⟩ : ∃ m, pe + 1 = m := ⟨_, rfl⟩
  rw [hm] at CU CS CC hx ⊢
  have hm0 : ((m : Int) == 0) = false := by simp; omega
  have hml : m ≤ D.size := by rw [hsz]; omega
  clear hD h0 hB H hV hO ht hpe hm h34 hT
  go_enter Tryz.func134, Tryz.ntmps134
  go_wp2_with fail
  refine (CR.out _ HR.out).mono ?_
  rintro e w1 ⟨rfl, hb⟩
  have R1 := Lib.hid (HR.out.stay hb)
  have B1 := Lib.hid hb
  clear hb
  go_wp2_with fail
  refine (CP.out _).mono ?_
  rintro e w2 ⟨rfl, rfl⟩
  go_wp2_with fail
  refine (CR.out _ R1.out).mono ?_
  rintro e w2 ⟨rfl, hb⟩
  have R2 := Lib.hid (R1.out.stay hb)
  have B2 := Lib.hid (B1.out.trans (hb.mono B1.out.size))
  clear hb
  go_wp2_with fail
  refine (CC.out _).mono ?_
  rintro e w3 ⟨rfl, rfl⟩
  go_wp2_with fail
  refine (CR.out _ R2.out).mono ?_
  rintro e w4 ⟨rfl, hb⟩
  have R4 := Lib.hid (R2.out.stay hb)
  have B4 := Lib.hid (B2.out.trans (hb.mono B2.out.size))
  clear hb
  go_wp2_with fail
  refine (CU.out _).mono ?_
  rintro e w5 ⟨rfl, hb⟩
  have R5 := Lib.hid (R4.out.stay hb)
  have B5 := Lib.hid (B4.out.trans (hb.mono B4.out.size))
  clear hb
  go_wp2_with fail
  refine (CS.out _ R5.out).mono ?_
  rintro e w6 ⟨rfl, ho, hr⟩
  have O6 := Lib.hid ((Only.of_below B5.out [R]).trans ho (fun x hx => .inl hx))
  have R6 := Lib.hid hr
  clear ho hr
  go_wp2
  go_ret2
  exact ⟨rfl, O6.out, R6.out⟩
/-- a label stands at p -/
def LabOk (bs : List Nat) (p : Nat) (x : Lm.Lb) (e : Nat) : Prop := ∃ m p1 ds, 0 < m ∧ nmL (bs.drop p) = m ∧ p1 = skipB bs (p + m) ∧ bs[p1]? = some 61 ∧ ValOk bs (skipB bs (p1 + 1)) ds e ∧ x = (strOf ((bs.drop p).take m), strOf ds)
end Go.Proofs.YtiolghcjndoigaaGreatDoor
