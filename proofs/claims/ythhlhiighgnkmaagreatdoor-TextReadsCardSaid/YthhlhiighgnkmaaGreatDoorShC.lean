/-
  WALKS: one tenth is shown: its digits as bytes.
-/
import Derived.Test.YthhlhiighgnkmaaGreatDoorShB
import Derived.Lib.ItoaMem
namespace Go.Proofs.YthhlhiighgnkmaaGreatDoor
set_option linter.unusedVariables false
set_option linter.unusedSimpArgs false
open Go.RowKit Go.PlainAid
open Go.Sort (Holds putRow holds_putRow size_putRow)
def encB : UInt8 → Value := fun b => Value.int .u8 (b.toNat : Int)
theorem only_putRow (w : World) (b off : Nat) (d : Array UInt8) (n : Nat) : Only [b] w ((putRow encB w b off d).drewN n) :=
  ⟨rfl, rfl, rfl, by show _ ≤ (putRow encB w b off d).heap.size; rw [size_putRow]; exact Nat.le_refl _, fun k hk hn => by
    show (w.heap.modify b _)[k]? = _
    rw [Array.getElem?_modify, if_neg (by simpa using fun h => hn (by simp [h]))]⟩
theorem dg_first : Lib.dg 1000000000000000 15 = 49 := by decide +kernel
theorem dg_other (j : Nat) (h1 : 1 ≤ j) (h2 : j < 16) : Lib.dg 1000000000000000 (16 - 1 - j) = 48 := by
  have : ∀ j : Fin 16, 1 ≤ j.val → Lib.dg 1000000000000000 (16 - 1 - j.val) = 48 := by decide +kernel
  exact this ⟨j, h2⟩ h1
set_option maxRecDepth 100000 in
set_option maxHeartbeats 1000000 in
theorem setdigits_tenth (b : Nat) (w : World) (H : Holds encB w b 0 (Array.replicate 16 (0 : UInt8))) (hb : b < w.heap.size) :
    Calls Tryz.prog 199 #[.slice (some ⟨b, 0, none⟩) 32 32, .int .u64 1000000000000000, .int .i64 (-16), .int .i64 16] w fun e w' => e = .returned (.tuple #[.int .i64 0, .int .i64 1]) ∧ Only [b] w w' ∧ w'.cell? ⟨b, 0, none⟩ = some (.int .u8 49) := by
  have CF : Hid (Calls Tryz.prog 140 #[.slice (some ⟨b, 0, none⟩) 16 32, .int .u64 1000000000000000] w fun e w' => e = .returned (.tuple #[]) ∧ Only [b] w w' ∧ w'.cell? ⟨b, 0, none⟩ = some (.int .u8 49) ∧ ∀ j, 1 ≤ j → j < 16 → w'.cell? ⟨b, j, none⟩ = some (.int .u8 48)) := by
    refine Lib.hid ?_
    have h := Tryz.internal_strconv_formatBase10 b 0 32 1000000000000000 (Array.replicate 16 (0 : UInt8)) w H (by decide +kernel) (by decide) (by decide)
    rw [Array.size_replicate] at h
    refine h.mono ?_
    rintro e w' ⟨rfl, n, v', dk, rfl, hF⟩
    have hP := holds_putRow encB w b 0 (Array.replicate 16 (0 : UInt8)) dk H (by rw [hF.size, Array.size_replicate])
    refine ⟨rfl, only_putRow w b 0 dk n, ?_, fun j h1 h2 => ?_⟩
    · have h0 := (hP 0 (by rw [hF.size]; decide)).1
      rw [hF.done 0 (Nat.zero_le _) (by decide), dg_first] at h0
      exact h0
    · have h0 := (hP j (by rw [hF.size]; exact h2)).1
      rw [hF.done j (Nat.zero_le _) h2, dg_other j h1 h2, Nat.zero_add] at h0
      exact h0
  clear H
  go_enter Tryz.func199, Tryz.ntmps199
  go_wp2_with fail
  refine CF.out.mono ?_
  rintro e w2 ⟨rfl, ho, h0, hj⟩
  have O2 := Lib.hid ho
  have H0 := Lib.hid h0
  have c1 := hj 1 (by decide) (by decide)
  have c2 := hj 2 (by decide) (by decide)
  have c3 := hj 3 (by decide) (by decide)
  have c4 := hj 4 (by decide) (by decide)
  have c5 := hj 5 (by decide) (by decide)
  have c6 := hj 6 (by decide) (by decide)
  have c7 := hj 7 (by decide) (by decide)
  have c8 := hj 8 (by decide) (by decide)
  have c9 := hj 9 (by decide) (by decide)
  have c10 := hj 10 (by decide) (by decide)
  have c11 := hj 11 (by decide) (by decide)
  have c12 := hj 12 (by decide) (by decide)
  have c13 := hj 13 (by decide) (by decide)
  have c14 := hj 14 (by decide) (by decide)
  have c15 := hj 15 (by decide) (by decide)
  clear ho hj CF
  go_wp2_with fail
  refine wp_loop_rounds 16 ?_
  iterate 15 (rw [rounds_succ]; go_wp2)
  rw [rounds_succ]
  go_wp2
  go_returns
  exact ⟨rfl, O2.out, H0.out⟩
end Go.Proofs.YthhlhiighgnkmaaGreatDoor
