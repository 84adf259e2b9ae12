/-
  WALKS: one tenth is shown; what is known.
-/
import Derived.Test.YthhlhiighgnkmaaGreatDoorShZ
namespace Go.Proofs.YthhlhiighgnkmaaGreatDoor
set_option linter.unusedVariables false
set_option linter.unusedSimpArgs false
open Go.RowKit Go.PlainAid
set_option maxRecDepth 100000 in
theorem show_tenth (m : Int) (w : World) (T : ShTab w m) : Calls Tryz.prog 12 #[.int .u64 4591870180066957722] w (Gives w (.string { data := #[48, 46, 49] })) := by
  have C1 := Lib.hid order_a
  have C2 := Lib.hid cmp_a
  have C3 := Lib.hid inf_a
  have C4 := Lib.hid abs_a
  have C5 := Lib.hid (shortest_tenth m w T)
  have C6 := Lib.hid point_a
  clear T
  go_enter Tryz.func12, Tryz.ntmps12
  go_wp2_with fail
  refine (C1.out _).mono ?_
  rintro e w1 ⟨rfl, rfl⟩
  go_wp2_with fail
  refine (C2.out _).mono ?_
  rintro e w1 ⟨rfl, rfl⟩
  go_wp2_with fail
  refine (C3.out _).mono ?_
  rintro e w1 ⟨rfl, rfl⟩
  go_wp2_with fail
  refine (C3.out _).mono ?_
  rintro e w1 ⟨rfl, rfl⟩
  go_wp2_with fail
  refine (C4.out _).mono ?_
  rintro e w1 ⟨rfl, rfl⟩
  go_wp2_with fail
  refine C5.out.mono ?_
  rintro e w2 ⟨rfl, hb⟩
  have B2 := Lib.hid hb
  clear hb
  go_wp2_with fail
  refine (C6.out _).mono ?_
  rintro e w1 ⟨rfl, rfl⟩
  go_wp2
  go_ret
  exact ⟨rfl, B2.out⟩
def bUn : List Nat := [39, 97, 92, 120, 52, 49, 39, 32, 98]
theorem bUn_toks : Toks 39 bUn 1 [97, 65] 6 :=
  .cons 1 2 6 [97] [65] (.plain 97 rfl (by decide) (fun _ => by decide))
    (.cons 2 6 6 [65] [] (.esc [65] 6 (by decide) (by decide) rfl (by
      have h : Esc bUn 3 [dvl 16 [52, 49]] (3 + 3) := .hex 52 49 rfl rfl rfl (by decide) (by decide)
      exact h)) (.nil 6 rfl))
theorem quoteL_known : quoteL [97, 34] = [34, 97, 92, 34, 34] := by decide +kernel
theorem TenTab.below {w w' : World} {a o cap : Nat} {B : Nat} (h : TenTab w a o cap) (hb : Below B w w') (hB : 18 ≤ B) (ha : a < B) : TenTab w' a o cap :=
  ⟨(hb.cell (p := ⟨14, 0, none⟩) (show 14 < B by omega)).trans h.info, (hb.cell (p := ⟨4, 0, none⟩) (show 4 < B by omega)).trans h.opt, (hb.cell (p := ⟨17, 0, none⟩) (show 17 < B by omega)).trans h.pow, (hb.cell (p := ⟨a, o + 1, none⟩) ha).trans h.ten, Nat.lt_of_lt_of_le h.lo hb.size, Nat.le_trans h.hi hb.size⟩
set_option maxRecDepth 100000 in
set_option maxHeartbeats 1000000 in
theorem known_any (m : Int) (a o cap : Nat) (w : World) (TT : TenTab w a o cap) (TS : ShTab w m) : Calls Tryz.prog 11 #[] w (Gives w (.bool true)) := by
  have C1 := Lib.hid (number_tenth a o cap w TT)
  rw [show strOf bTen = { data := #[46, 49] } from rfl] at C1
  have C2 := Lib.hid readduration_130
  rw [show strOf b130 = { data := #[49, 104, 51, 48, 109] } from rfl] at C2
  have C3 := Lib.hid (fun w => unquote_ok bUn 39 6 [97, 65] (by unfold IsB bUn; decide) (by unfold IsB; decide) (by decide) (.inr (.inl rfl)) rfl bUn_toks w)
  rw [show strOf bUn = { data := #[39, 97, 92, 120, 52, 49, 39, 32, 98] } from rfl, show strOf [97, 65] = { data := #[97, 65] } from rfl] at C3
  have C4 := Lib.hid (fun w T => show_tenth m w T)
  have C5 := Lib.hid (fun w => quote_any [97, 34] (by unfold IsB; decide) (by decide) w)
  rw [quoteL_known, show strOf [97, 34] = { data := #[97, 34] } from rfl, show strOf [34, 97, 92, 34, 34] = { data := #[34, 97, 92, 34, 34] } from rfl] at C5
  have HS := Lib.hid TS
  clear TT TS
  go_enter Tryz.func11, Tryz.ntmps11
  go_wp2_with fail
  refine C1.out.mono ?_
  rintro e w1 ⟨rfl, hb⟩
  have B1 := Lib.hid hb
  clear hb
  go_wp2_with fail
  refine (C2.out _).mono ?_
  rintro e w2 ⟨rfl, hb⟩
  have B2 := Lib.hid (B1.out.trans (hb.mono B1.out.size))
  clear hb
  go_wp2_with fail
  refine (C3.out _).mono ?_
  rintro e w3 ⟨rfl, hb⟩
  have B3 := Lib.hid (B2.out.trans (hb.mono B2.out.size))
  have S3 := Lib.hid (HS.out.below B3.out (by have := HS.out.size; omega))
  clear hb
  go_wp2_with fail
  refine (C4.out _ S3.out).mono ?_
  rintro e w4 ⟨rfl, hb⟩
  have B4 := Lib.hid (B3.out.trans (hb.mono B3.out.size))
  clear hb
  go_wp2_with fail
  refine (C5.out _).mono ?_
  rintro e w5 ⟨rfl, hb⟩
  have B5 := Lib.hid (B4.out.trans (hb.mono B4.out.size))
  clear hb
  go_wp2
  go_ret
  exact ⟨rfl, B5.out⟩
end Go.Proofs.YthhlhiighgnkmaaGreatDoor
