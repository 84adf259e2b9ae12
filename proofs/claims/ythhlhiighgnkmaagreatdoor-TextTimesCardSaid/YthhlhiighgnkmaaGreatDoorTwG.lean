/-
  WALKS: what no text is written for: a time or a duration out of reach; the duration zero.
-/
import Derived.Test.YthhlhiighgnkmaaGreatDoorTwE
import Derived.Test.YthhlhiighgnkmaaGreatDoorTiI
namespace Go.Proofs.YthhlhiighgnkmaaGreatDoor
set_option linter.unusedVariables false
set_option linter.unusedSimpArgs false
open Go.RowKit Go.PlainAid
theorem duration_low (v : Int) (h : v < 0) (w : World) : Calls Tryz.prog 18 #[.int .i64 v] w (Gives w (.tuple #[.string { data := #[] }, .int .u16 41])) := by
  have d1 : decide (v < 0) = true := decide_eq_true (by omega)
  have d2 : decide (v > 9007199254740992) = false := decide_eq_false (by omega)
  have d3 : decide (9007199254740992 < v) = false := d2
  clear h
  go_enter Tryz.func18, Tryz.ntmps18
  go_wp2
  try go_ret2
  try exact ⟨rfl, Below.refl _ _⟩
theorem duration_high (v : Int) (h : 9007199254740992 < v) (w : World) : Calls Tryz.prog 18 #[.int .i64 v] w (Gives w (.tuple #[.string { data := #[] }, .int .u16 41])) := by
  have d1 : decide (v < 0) = false := decide_eq_false (by omega)
  have d2 : decide (v > 9007199254740992) = true := decide_eq_true (by omega)
  have d3 : decide (9007199254740992 < v) = true := d2
  clear h
  go_enter Tryz.func18, Tryz.ntmps18
  go_wp2
  try go_ret2
  try exact ⟨rfl, Below.refl _ _⟩
theorem duration_zero (w : World) : Calls Tryz.prog 18 #[.int .i64 0] w (Gives w (.tuple #[.string { data := #[48, 115] }, .int .u16 0])) := by
  go_enter Tryz.func18, Tryz.ntmps18
  go_wp2
  try go_ret2
  try exact ⟨rfl, Below.refl _ _⟩
theorem time_low (v : Int) (h : v < (-9007199254740992)) (w : World) : Calls Tryz.prog 19 #[.int .i64 v] w (Gives w (.tuple #[.string { data := #[] }, .int .u16 41])) := by
  have d1 : decide (v < (-9007199254740992)) = true := decide_eq_true (by omega)
  have d2 : decide (v > 9007199254740992) = false := decide_eq_false (by omega)
  have d3 : decide (9007199254740992 < v) = false := d2
  clear h
  go_enter Tryz.func19, Tryz.ntmps19
  go_wp2
  try go_ret2
  try exact ⟨rfl, Below.refl _ _⟩
theorem time_high (v : Int) (h : 9007199254740992 < v) (w : World) : Calls Tryz.prog 19 #[.int .i64 v] w (Gives w (.tuple #[.string { data := #[] }, .int .u16 41])) := by
  have d1 : decide (v < (-9007199254740992)) = false := decide_eq_false (by omega)
  have d2 : decide (v > 9007199254740992) = true := decide_eq_true (by omega)
  have d3 : decide (9007199254740992 < v) = true := d2
  clear h
  go_enter Tryz.func19, Tryz.ntmps19
  go_wp2
  try go_ret2
  try exact ⟨rfl, Below.refl _ _⟩
theorem rduration_low (v : Int) (h : v < 0) (w : World) : Calls Tryz.prog 20 #[.int .i64 v] w (Gives w (.tuple #[.string { data := #[] }, .int .i64 41])) := by
  have d1 : decide (v < 0) = true := decide_eq_true (by omega)
  have d2 : decide (v > 9007199254740992) = false := decide_eq_false (by omega)
  have d3 : decide (9007199254740992 < v) = false := d2
  clear h
  go_enter Tryz.func20, Tryz.ntmps20
  go_wp2
  try go_ret2
  try exact ⟨rfl, Below.refl _ _⟩
theorem rduration_high (v : Int) (h : 9007199254740992 < v) (w : World) : Calls Tryz.prog 20 #[.int .i64 v] w (Gives w (.tuple #[.string { data := #[] }, .int .i64 41])) := by
  have d1 : decide (v < 0) = false := decide_eq_false (by omega)
  have d2 : decide (v > 9007199254740992) = true := decide_eq_true (by omega)
  have d3 : decide (9007199254740992 < v) = true := d2
  clear h
  go_enter Tryz.func20, Tryz.ntmps20
  go_wp2
  try go_ret2
  try exact ⟨rfl, Below.refl _ _⟩
theorem rduration_zero (w : World) : Calls Tryz.prog 20 #[.int .i64 0] w (Gives w (.tuple #[.string { data := #[48, 115] }, .int .i64 0])) := by
  go_enter Tryz.func20, Tryz.ntmps20
  go_wp2
  try go_ret2
  try exact ⟨rfl, Below.refl _ _⟩
theorem rtimew_low (v : Int) (h : v < (-9007199254740992)) (w : World) : Calls Tryz.prog 21 #[.int .i64 v] w (Gives w (.tuple #[.string { data := #[] }, .int .i64 41])) := by
  have d1 : decide (v < (-9007199254740992)) = true := decide_eq_true (by omega)
  have d2 : decide (v > 9007199254740992) = false := decide_eq_false (by omega)
  have d3 : decide (9007199254740992 < v) = false := d2
  clear h
  go_enter Tryz.func21, Tryz.ntmps21
  go_wp2
  try go_ret2
  try exact ⟨rfl, Below.refl _ _⟩
theorem rtimew_high (v : Int) (h : 9007199254740992 < v) (w : World) : Calls Tryz.prog 21 #[.int .i64 v] w (Gives w (.tuple #[.string { data := #[] }, .int .i64 41])) := by
  have d1 : decide (v < (-9007199254740992)) = false := decide_eq_false (by omega)
  have d2 : decide (v > 9007199254740992) = true := decide_eq_true (by omega)
  have d3 : decide (9007199254740992 < v) = true := d2
  clear h
  go_enter Tryz.func21, Tryz.ntmps21
  go_wp2
  try go_ret2
  try exact ⟨rfl, Below.refl _ _⟩
end Go.Proofs.YthhlhiighgnkmaaGreatDoor
