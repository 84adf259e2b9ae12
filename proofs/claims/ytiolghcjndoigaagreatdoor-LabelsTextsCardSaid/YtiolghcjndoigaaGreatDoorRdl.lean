/-
  WALKS: the reader of a text of labels: what is left, passing by, signs.
-/
import Derived.Test.YtiolghcjndoigaaGreatDoorNmb
import Derived.Test.YtiolghcjndoigaaGreatDoorUnC
namespace Go.Proofs.YtiolghcjndoigaaGreatDoor
set_option linter.unusedVariables false
set_option linter.unusedSimpArgs false
open Go.RowKit Go.PlainAid Go.Shelf
/-- the reader stands at p -/
def Rr (w : World) (R : Nat) (bs : List Nat) (p : Nat) : Prop := w.heap[R]? = some (.cells #[.string (strOf bs), .int .i64 ((p : Nat) : Int)] 139 (0, 0))
theorem Rr.lt {w : World} {R : Nat} {bs : List Nat} {p : Nat} (h : Rr w R bs p) : R < w.heap.size := (Array.getElem?_eq_some_iff.1 h).1
theorem Rr.below {w w' : World} {R : Nat} {bs : List Nat} {p : Nat} (h : Rr w R bs p) {B : Nat} (ho : Below B w w') (hB : R < B) : Rr w' R bs p := (ho.block R hB).trans h
theorem Rr.stay {w w' : World} {R : Nat} {bs : List Nat} {p : Nat} (h : Rr w R bs p) (ho : Below w.heap.size w w') : Rr w' R bs p := h.below ho h.lt
theorem Rr.c0 {w : World} {R : Nat} {bs : List Nat} {p : Nat} (h : Rr w R bs p) : w.cell? ⟨R, 0, none⟩ = some (.string (strOf bs)) := by
  rw [cell_of_row _ _ _ _ _ _ h]; rfl
theorem Rr.c1 {w : World} {R : Nat} {bs : List Nat} {p : Nat} (h : Rr w R bs p) : w.cell? ⟨R, 1, none⟩ = some (.int .i64 ((p : Nat) : Int)) := by
  rw [cell_of_row _ _ _ _ _ _ h]; rfl
theorem Rr.fz {w : World} {R : Nat} {bs : List Nat} {p : Nat} (h : Rr w R bs p) (k : Nat) : w.frozen? ⟨R, k, none⟩ = false := frozen_of_row _ _ _ _ _ h
theorem Rr.set {w : World} {R : Nat} {bs : List Nat} {p : Nat} (h : Rr w R bs p) (q : Nat) : Rr (w.setCell ⟨R, 1, none⟩ (.int .i64 ((q : Nat) : Int))) R bs q := heap_setCell_same _ _ _ _ _ _ h
/-- behind the blanks -/
def skipB (bs : List Nat) (q : Nat) : Nat := bs.length - ((bs.drop q).dropWhile fun c => c == 32).length
theorem dropW_le (ds : List Nat) : (ds.dropWhile fun c => c == 32).length ≤ ds.length := by
  have := List.takeWhile_append_dropWhile (p := fun c => c == 32) (l := ds)
  have h := congrArg List.length this
  rw [List.length_append] at h
  omega
theorem skipB_le (bs : List Nat) (q : Nat) : skipB bs q ≤ bs.length := by unfold skipB; omega
theorem skipB_ge (bs : List Nat) (q : Nat) (h : q ≤ bs.length) : q ≤ skipB bs q := by
  unfold skipB
  have := dropW_le (bs.drop q)
  rw [List.length_drop] at this
  omega
theorem strOf_list (ds : List Nat) : (strOf ds).data.toList = ds.map UInt8.ofNat := by simp [strOf]
theorem drop_blank : ∀ (ds : List Nat), IsB ds → (ds.map UInt8.ofNat).dropWhile (fun b => b == 32) = (ds.dropWhile fun c => c == 32).map UInt8.ofNat
  | [], _ => rfl
  | c :: ds, h => by
    have hc : c < 256 := h c List.mem_cons_self
    have ih := drop_blank ds fun x hx => h x (List.mem_cons_of_mem _ hx)
    have e : (UInt8.ofNat c == 32) = (c == 32) := by
      by_cases hh : c = 32
      · subst hh; rfl
      · have : ¬ UInt8.ofNat c = 32 := by
          intro e
          have := congrArg UInt8.toNat e
          rw [UInt8.toNat_ofNat', Nat.mod_eq_of_lt hc] at this
          exact hh this
        rw [beq_eq_false_iff_ne.2 this, beq_eq_false_iff_ne.2 hh]
    rw [List.map_cons, List.dropWhile_cons, List.dropWhile_cons, e]
    split
    · exact ih
    · rfl
theorem trim_any (ds : List Nat) (hB : IsB ds) (w : World) : Calls Tryz.prog 132 #[.string (strOf ds), .string ⟨#[32]⟩] w fun e w' => e = .returned (.string (strOf (ds.dropWhile fun c => c == 32))) ∧ w' = w := by
  have h := Tryz.strings_TrimLeft_one (strOf ds) 32 (by decide) w
  have e : (⟨(Lib.trimLeftB (strOf ds).data.toList 32).toArray⟩ : ByteArray) = strOf (ds.dropWhile fun c => c == 32) := by
    unfold Lib.trimLeftB
    rw [strOf_list, drop_blank ds hB]
    rfl
  rw [e] at h
  exact h
theorem rest_any (R : Nat) (bs : List Nat) (p : Nat) (hp : p ≤ bs.length) (hl : bs.length ≤ 9223372036854775807) (w : World) (H : Rr w R bs p) : Calls Tryz.prog 119 #[.pointer (some ⟨R, 0, none⟩)] w (Gives w (.string (strOf (bs.drop p)))) := by
  have h0 := H.c0
  have h1 := H.c1
  have hsz := strOf_size bs
  have hx := strOf_extract bs p bs.length hp (Nat.le_refl _)
  rw [List.take_of_length_le (by rw [List.length_drop]; omega)] at hx
  obtain ⟨S, hS⟩ : ∃ S, strOf bs = S := ⟨_, rfl⟩
  obtain ⟨D, hD⟩ : ∃ D, strOf (bs.drop p) = D := ⟨_, rfl⟩
  rw [hS] at h0 hsz hx
  rw [hD] at hx ⊢
  obtain ⟨L, hL⟩ : ∃ L, bs.length = L := ⟨_, rfl⟩
  rw [hL] at hsz hx hp hl
  have g0 := H.fz 0
  clear hS hD hL H
  go_enter Tryz.func119, Tryz.ntmps119
  go_wp2_with (go_quiet (fail))
  go_ret
  exact ⟨rfl, below_drewN (Below.refl _ _) nq⟩
/-- only the reader's place may have turned -/
theorem only_set {w : World} {R : Nat} (j : Nat) (v : Value) : Only [R] w (w.setCell ⟨R, j, none⟩ v) := (Only.refl [R] w).setCell (p := ⟨R, j, none⟩) (.inl List.mem_cons_self) v
set_option maxHeartbeats 1000000 in
theorem pass_any (R : Nat) (bs : List Nat) (p n : Nat) (hB : IsB bs) (hp : p + n ≤ bs.length) (hl : bs.length ≤ 4611686018427387904) (w : World) (H : Rr w R bs p) :
    Calls Tryz.prog 116 #[.pointer (some ⟨R, 0, none⟩), .int .i64 ((n : Nat) : Int)] w fun e w' => e = .returned (.tuple #[]) ∧ Only [R] w w' ∧ Rr w' R bs (skipB bs (p + n)) := by
  have h0 := H.c0
  have h1 := H.c1
  have f1 := H.fz 1
  have hsz := strOf_size bs
  have hx := strOf_extract bs (p + n) bs.length hp (Nat.le_refl _)
  rw [List.take_of_length_le (by rw [List.length_drop]; omega)] at hx
  have CT := Lib.hid (fun w => trim_any (bs.drop (p + n)) (fun c hc => hB c (List.mem_of_mem_drop hc)) w)
  have hts := strOf_size ((bs.drop (p + n)).dropWhile fun c => c == 32)
  have hdl := dropW_le (bs.drop (p + n))
  rw [List.length_drop] at hdl
  have HSK := Lib.hid (show skipB bs (p + n) = bs.length - ((bs.drop (p + n)).dropWhile fun c => c == 32).length from rfl)
  obtain ⟨S, hS⟩ : ∃ S, strOf bs = S := ⟨_, rfl⟩
  obtain ⟨D, hD⟩ : ∃ D, strOf (bs.drop (p + n)) = D := ⟨_, rfl⟩
  obtain ⟨T, hT⟩ : ∃ T, strOf ((bs.drop (p + n)).dropWhile fun c => c == 32) = T := ⟨_, rfl⟩
  obtain ⟨M, hM⟩ : ∃ M, ((bs.drop (p + n)).dropWhile fun c => c == 32).length = M := ⟨_, rfl⟩
  rw [hS] at h0 hsz hx
  rw [hD] at hx CT
  rw [hT] at CT hts
  rw [hM] at hts hdl HSK
  obtain ⟨L, hL⟩ : ∃ L, bs.length = L := ⟨_, rfl⟩
  have HL := Lib.hid hL
  rw [hL] at hsz hx hp hl hdl HSK
  have e1 : wrap64 ((p : Int) + (n : Int)) = ((p + n : Nat) : Int) := by rw [wrap64_small (by omega) (by omega)]; omega
  have e2 : wrap64 ((L : Int) - (M : Int)) = ((L - M : Nat) : Int) := by rw [wrap64_small (by omega) (by omega)]; omega
  have e3 : IntKind.i64.wrap ((p : Int) + (n : Int)) = ((p + n : Nat) : Int) := by rw [IntKind.wrap_i64]; omega
  have e4 : IntKind.i64.wrap ((L : Int) - (M : Int)) = ((L - M : Nat) : Int) := by rw [IntKind.wrap_i64]; omega
  have HR := Lib.hid H
  obtain ⟨q, hq⟩ : ∃ q, p + n = q := ⟨_, rfl⟩
  rw [hq] at hp hx e1 e3 hdl
  have HQ := Lib.hid hq
  clear hS hD hT hM hL H hB hq
  go_enter Tryz.func116, Tryz.ntmps116
  go_wp2_with fail
  go_region_law (go_simp; go_at_call 132; refine (CT.out _).mono ?_; rintro e w2 ⟨rfl, rfl⟩; go_simp)
  all_goals
    go_wp2
    go_end0
    exact ⟨rfl, (only_set 1 _).drew, by rw [HSK.out]; exact Rr.set HR.out _⟩
end Go.Proofs.YtiolghcjndoigaaGreatDoor
