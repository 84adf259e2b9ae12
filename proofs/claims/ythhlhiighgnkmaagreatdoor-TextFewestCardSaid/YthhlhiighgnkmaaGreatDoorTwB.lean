/-
  WALKS: numerals by the library; a time that is written.
-/
import Derived.Test.YthhlhiighgnkmaaGreatDoorTwA
import Derived.Test.YthhlhiighgnkmaaGreatDoorLaid
import Derived.Test.YthhlhiighgnkmaaGreatDoorShelfB
import Derived.WalkSmall
import Derived.Handy
namespace Go.Proofs.YthhlhiighgnkmaaGreatDoor
set_option linter.unusedVariables false
set_option linter.unusedSimpArgs false
open Go.RowKit Go.PlainAid Go.ChangeShapes
/-- the table of powers of ten -/
def PowT (w : World) : Prop := Lib.TabIs Tryz.prog w "internal/strconv.uint64pow10" .u64 Lib.pow10Tab
theorem laid_powT {W : World} (h : laidMetH Tryz.prog laid16 W) : PowT W := by
  obtain ⟨ps, ⟨g', t', cs, fuel, p, q, hg', ht', hv, hd, _, _⟩, _⟩ := one_laid h "internal/strconv.uint64pow10" Rows.laid_internal_strconv_uint64pow10 (by kernel_rfl) (by kernel_rfl)
  obtain rfl := Option.some.inj ((show Tryz.prog.globalNamed "internal/strconv.uint64pow10" = some 2 by kernel_rfl).symm.trans hg')
  obtain rfl := Option.some.inj ((show (Tryz.prog.globals[2]?).map (·.type) = some 212 by kernel_rfl).symm.trans ht')
  have e := Lib.cells_of_tab (t := 212) (e := 22) (n := 20) (k := .u64) (zs := Lib.pow10Tab) (by kernel_rfl) (by kernel_rfl) (by kernel_rfl) (by kernel_rfl) (show DataW.trod (fun _ => ()) Tryz.prog W 0 (fun _ => true) false fuel 212 cs.toList = some (Lib.tabData .u64 Lib.pow10Tab, p) from hd)
  unfold PowT Lib.TabIs
  rw [hv, ← e]
theorem PowT.lt {w : World} (h : PowT w) : 2 < w.heap.size := by
  have := World.var?_cell (show Tryz.prog.globalNamed "internal/strconv.uint64pow10" = some 2 by kernel_rfl) h 0
  exact cell_lt (this.trans rfl)
theorem PowT.below {w w' : World} (h : PowT w) (hb : Below w.heap.size w w') : PowT w' :=
  var?_below hb (show Tryz.prog.globalNamed "internal/strconv.uint64pow10" = some 2 by kernel_rfl) h.lt h
theorem fmt_any (n : Nat) (hn : n < 9223372036854775808) (w : World) (ht : PowT w) : Calls Tryz.prog 52 #[.int .i64 (n : Int), .int .i64 10] w (Gives w (.string (strOf (decN n)))) := by
  refine (Tryz.strconv_FormatInt_10 (n : Int) (by omega) (by omega) w ht).mono ?_
  rintro e w' ⟨h1, k, os, rfl⟩
  exact ⟨by rw [h1, decN_itoa], Lib.below_grow _ w (Nat.le_refl _) k os⟩
theorem u8_smallB {c : Nat} (h : c < 256) : (UInt8.ofNat c).toNat = c := by rw [UInt8.toNat_ofNat', Nat.mod_eq_of_lt h]
/-- without the noughts at its end -/
def trimZ (l : List Nat) : List Nat := (l.reverse.dropWhile (fun c => decide (c = 48))).reverse
theorem trim_map (l : List Nat) (hB : IsB l) : Lib.trimRightB (l.map UInt8.ofNat) 48 = (trimZ l).map UInt8.ofNat := by
  unfold Lib.trimRightB trimZ
  have key : ∀ (m : List Nat), IsB m → (m.map UInt8.ofNat).dropWhile (fun x => x == 48) = (m.dropWhile (fun c => decide (c = 48))).map UInt8.ofNat := by
    intro m
    induction m with
    | nil => intro _; rfl
    | cons c m ih =>
      intro h
      have hc := h c (List.mem_cons_self ..)
      by_cases h48 : c = 48
      · subst h48
        rw [List.map_cons, List.dropWhile_cons_of_pos (by decide), List.dropWhile_cons_of_pos (by decide)]
        exact ih (fun x hx => h x (List.mem_cons_of_mem _ hx))
      · have hne : ¬ ((UInt8.ofNat c == 48) = true) := by
          intro he
          have h1 := congrArg UInt8.toNat (beq_iff_eq.1 he)
          rw [u8_smallB hc] at h1
          exact h48 h1
        rw [List.map_cons, List.dropWhile_cons_of_neg (p := fun x => x == 48) hne, List.dropWhile_cons_of_neg (by simpa using h48), List.map_cons]
  have e1 : (l.map UInt8.ofNat).reverse = l.reverse.map UInt8.ofNat := List.map_reverse.symm
  rw [e1, key _ (fun c hc => hB c (List.mem_reverse.1 hc)), List.map_reverse]
theorem trimright_any (l : List Nat) (hB : IsB l) (hl : l.length ≤ 1000) (w : World) : Calls Tryz.prog 53 #[.string (strOf l), .string { data := #[48] }] w fun e w' => e = .returned (.string (strOf (trimZ l))) ∧ w' = w := by
  have h := Tryz.strings_TrimRight_one (strOf l) 48 (by decide) w (by rw [strOf_size]; omega)
  rw [show (strOf l).data.toList = l.map UInt8.ofNat from rfl, trim_map l hB] at h
  exact h
end Go.Proofs.YthhlhiighgnkmaaGreatDoor
