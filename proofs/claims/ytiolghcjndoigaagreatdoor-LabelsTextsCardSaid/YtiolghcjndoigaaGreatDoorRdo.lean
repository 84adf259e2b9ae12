/-
  WALKS: the reader of a text of labels: a label.
-/
import Derived.Test.YtiolghcjndoigaaGreatDoorRdm
import Derived.Test.YtiolghcjndoigaaGreatDoorDlt
namespace Go.Proofs.YtiolghcjndoigaaGreatDoor
set_option linter.unusedVariables false
set_option linter.unusedSimpArgs false
open Go.RowKit Go.PlainAid Go.Shelf
theorem read118 {T : Array Value} {N : Nat} {W : World} {a b : ByteArray} {q : Bool} (h2 : T[2]?.getD undef = .pointer (some ⟨N, 0, none⟩)) (h3 : T[3]?.getD undef = .bool q) (ha : W.cell? ⟨N, 0, none⟩ = some (.string a)) (hb : W.cell? ⟨N, 1, none⟩ = some (.string b)) :
    (results Tryz.f118 T).run Tryz.prog W = .ok (.tuple #[.agg #[.string a, .string b], .bool q]) W := by
  have i94 := Tryz.isAgg94
  have s94 := Tryz.sizeOf94
  simp [results, Tryz.results118, go_sem, h2, h3, ha, hb, i94, s94]
set_option maxHeartbeats 1000000 in
theorem label_ok (R : Nat) (bs : List Nat) (p : Nat) (x : Lm.Lb) (en : Nat) (hB : IsB bs) (hl : bs.length ≤ 200000) (hv : LabOk bs p x en) (hp : p ≤ bs.length) (w : World) (H : Rr w R bs p) :
    Calls Tryz.prog 118 #[.pointer (some ⟨R, 0, none⟩)] w fun e w' => e = .returned (.tuple #[.agg #[.string x.1, .string x.2], .bool true]) ∧ Only [R] w w' ∧ Rr w' R bs en := by
  obtain ⟨m, p1, ds, hm0, hm, rfl, h61, hval, rfl⟩ := hv
  have hle := nmL_le (bs.drop p)
  rw [hm, List.length_drop] at hle
  have CR := Lib.hid (fun w H => rest_any R bs p hp (by omega) w H)
  have CN := Lib.hid (fun w => nameahead_any (bs.drop p) (isB_drop hB p) w)
  rw [hm] at CN
  have CS := Lib.hid (fun w (H : Rr w R bs p) => pass_any R bs p m hB (by omega) (by omega) w H)
  have CE := Lib.hid (fun w H => sign_yes R bs (skipB bs (p + m)) 61 hB (by decide) h61 (by omega) w H)
  rw [show strOf [61] = ⟨#[61]⟩ from rfl] at CE
  have CV := Lib.hid (fun w H => value_ok R bs _ ds en hB hl hval w H)
  have HR := Lib.hid H
  have hns := strOf_size ((bs.drop p).take m)
  rw [List.length_take, List.length_drop] at hns
  have hns2 : (strOf ((bs.drop p).take m)).size = m := by rw [hns]; omega
  obtain ⟨N, hN⟩ : ∃ N, strOf ((bs.drop p).take m) = N := ⟨_, rfl⟩
  have hne : ¬ N.toList = [] := by
    intro e
    have : N = ⟨#[]⟩ := (toList_iff _ _).1 (by rw [e, ByteArray.toList_eq])
    rw [hN, this] at hns2
    have : m = 0 := hns2.symm
    omega
  have hie : N.toList.isEmpty = false := by cases h : N.toList with
    | nil => exact absurd h hne
    | cons => rfl
  obtain ⟨D, hD⟩ : ∃ D, strOf (bs.drop p) = D := ⟨_, rfl⟩
  obtain ⟨V, hV⟩ : ∃ D, strOf ds = D := ⟨_, rfl⟩
  rw [hD] at CR CN
  rw [hN] at CN hns2 ⊢
  rw [hV] at CV ⊢
  have HBX := Lib.hid ((Below.refl _ w).alloc (Nat.le_refl _) (.cells #[.string ⟨#[]⟩, .string ⟨#[]⟩] 94))
  have HRA := Lib.hid (HR.out.stay HBX.out)
  have HX0 := Lib.hid (heap_alloc_new w (.cells #[.string ⟨#[]⟩, .string ⟨#[]⟩] 94))
  have HLT := Lib.hid HR.out.lt
  clear hD hN hV hns hB H hm hval h61 hle
  go_enter Tryz.func118, Tryz.ntmps118
  go_wp2_with fail
  refine (CR.out _ HRA.out).mono ?_
  rintro e w1 ⟨rfl, hb⟩
  have R1 := Lib.hid (HRA.out.stay hb)
  have B1 := Lib.hid (HBX.out.trans (hb.mono HBX.out.size))
  have X1 := Lib.hid ((hb.block w.heap.size (by simp)).trans HX0.out)
  clear hb
  go_wp2_with fail
  refine (CN.out _).mono ?_
  rintro e w2 ⟨rfl, rfl⟩
  go_wp2_with fail
  refine (CS.out _ R1.out).mono ?_
  rintro e w2 ⟨rfl, ho, hr⟩
  have R2 := Lib.hid hr
  have O2 := Lib.hid ((Only.of_below B1.out [R]).trans ho (fun x hx => .inl hx))
  have X2 := Lib.hid ((ho.block w.heap.size (Array.getElem?_eq_some_iff.1 X1.out).1 (by have := HLT.out; simp; omega)).trans X1.out)
  clear ho hr
  go_wp2_with fail
  refine (CE.out _ R2.out).mono ?_
  rintro e w3 ⟨rfl, ho, hr⟩
  have R3 := Lib.hid hr
  have O3 := Lib.hid (O2.out.trans ho (fun x hx => .inl hx))
  have X3 := Lib.hid ((ho.block w.heap.size (Array.getElem?_eq_some_iff.1 X2.out).1 (by have := HLT.out; simp; omega)).trans X2.out)
  clear ho hr
  go_wp2_with fail
  refine (CV.out _ R3.out).mono ?_
  rintro e w4 ⟨rfl, ho, hr⟩
  have R4 := Lib.hid hr
  have O4 := Lib.hid (O3.out.trans ho (fun x hx => .inl hx))
  have X4 := Lib.hid ((ho.block w.heap.size (Array.getElem?_eq_some_iff.1 X3.out).1 (by have := HLT.out; simp; omega)).trans X3.out)
  clear ho hr
  have y0 : w4.cell? ⟨w.heap.size, 0, none⟩ = some (.string ⟨#[]⟩) := by rw [cell_of_row _ _ _ _ _ _ X4.out]; rfl
  have y1 : w4.cell? ⟨w.heap.size, 1, none⟩ = some (.string ⟨#[]⟩) := by rw [cell_of_row _ _ _ _ _ _ X4.out]; rfl
  have f0 : w4.frozen? ⟨w.heap.size, 0, none⟩ = false := frozen_of_row _ _ _ _ _ X4.out
  have f1 : w4.frozen? ⟨w.heap.size, 1, none⟩ = false := frozen_of_row _ _ _ _ _ X4.out
  go_wp2
  refine bodyPost_ret (read118 (N := w.heap.size) (a := N) (b := V) rfl rfl (by rw [cell_other _ _ _ _ _ (by omega)]; exact World.cell?_setCell_same' _ _ _ (by rw [y0]; rfl)) (World.cell?_setCell_same' _ _ _ (by rw [cell_other _ _ _ _ _ (by omega), y1]; rfl))) rfl ?_
  have hne2 : R ≠ w.heap.size := by have := HLT.out; omega
  refine ⟨rfl, ?_, ?_⟩
  · exact (O4.out.setCell (p := ⟨w.heap.size, 0, none⟩) (.inr (Nat.le_refl _)) _).setCell (p := ⟨w.heap.size, 1, none⟩) (.inr (Nat.le_refl _)) _
  · exact ((Below.heap_setCell _ _ _ _ (by intro e; exact hne2 e)).trans (Below.heap_setCell _ _ _ _ (by intro e; exact hne2 e))).trans R4.out
end Go.Proofs.YtiolghcjndoigaaGreatDoor
