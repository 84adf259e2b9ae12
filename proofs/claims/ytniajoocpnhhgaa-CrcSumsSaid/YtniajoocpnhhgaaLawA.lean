/-
  THE WALK of the statement CrcSums.
-/
import Derived.Test.YtniajoocpnhhgaaOpen
namespace Go.Proofs.Ytniajoocpnhhgaa
open Go.RowKit
set_option maxHeartbeats 400000 in
theorem sums_law (a0 : Int) (a1 : Option Addr) (len1 cap1 : Nat) (z1 : List Int) (w : World) (w0 : (Lit.int .u32 a0).wf = true) (w1 : IsRow .u8 w a1 len1 cap1 z1) :
    Calls Try.prog 3 #[.int .u32 a0, .slice a1 len1 cap1] w fun e w' => e = .returned (.bool true) ∧ Below w.heap.size w w' := by
  obtain ⟨s, rfl⟩ := Int.eq_ofNat_of_zero_le (bounds_u32 w0).1
  have hs : s < 4294967296 := by have := (bounds_u32 w0).2; omega
  obtain ⟨bs, rfl, H, hc0⟩ := bys_of_row w1
  clear w0 w1
  by_cases hbig : 100000 < bs.length
  · go_enter Try.func3, Try.ntmps3
    go_wp2
    go_ret
    exact ⟨rfl, Below.refl _ _⟩
  · have A := Lib.hid H
    have hsm : bs.length ≤ 100000 := by omega
    have hd : decide ((100000 : Int) < (bs.length : Int)) = false := by simp; omega
    have HC := Lib.hid hc0
    clear H hc0 hbig
    go_enter Try.func3, Try.ntmps3
    go_wp2_with fail
    refine (lent_any a1 bs cap1 _ A.out HC.out hsm).mono ?_
    rintro e W1 ⟨g, hg, rfl, L1, hB1⟩
    have HL1 := Lib.hid L1
    have HB1 := Lib.hid hB1
    have A1 := Lib.hid (L1.bytes A.out.1 A.out.2.1)
    have C1 := Lib.hid (A.out.below hB1)
    clear L1 hB1
    go_wp2_with fail
    refine (sum_any _ bs _ _ A1.out).mono ?_
    rintro e W2 ⟨rfl, hB2⟩
    have HL2 := Lib.hid (HL1.out.below hB2)
    have A2 := Lib.hid (A1.out.below hB2)
    have C2 := Lib.hid (C1.out.below hB2)
    have HB2 := Lib.hid (HB1.out.trans (hB2.mono HB1.out.size))
    clear hB2 HL1 A1 C1 HB1
    go_wp2_with fail
    refine (more_any s hs _ bs _ _ A2.out).mono ?_
    rintro e W3 ⟨rfl, hB3⟩
    have HL3 := Lib.hid (HL2.out.below hB3)
    have A3 := Lib.hid (A2.out.below hB3)
    have C3 := Lib.hid (C2.out.below hB3)
    have HB3 := Lib.hid (HB2.out.trans (hB3.mono HB2.out.size))
    clear hB3 HL2 A2 C2 HB2
    go_wp2_with fail
    refine (more_any s hs _ bs _ _ A3.out).mono ?_
    rintro e W4 ⟨rfl, hB4⟩
    have HL4 := Lib.hid (HL3.out.below hB4)
    have C4 := Lib.hid (C3.out.below hB4)
    have HB4 := Lib.hid (HB3.out.trans (hB4.mono HB3.out.size))
    clear hB4 HL3 A3 C3 HB3
    go_wp2_with fail
    refine (whole_any g a1 bs cap1 _ HL4.out C4.out hsm).mono ?_
    rintro e W5 ⟨rfl, hB5⟩
    have C5 := Lib.hid (C4.out.below hB5)
    have HB5 := Lib.hid (HB4.out.trans (hB5.mono HB4.out.size))
    clear hB5 C4 HB4 HL4
    go_wp2_with fail
    refine (known_any _).mono ?_
    rintro e W6 ⟨rfl, hB6⟩
    have C6 := Lib.hid (C5.out.below hB6)
    have HB6 := Lib.hid (HB5.out.trans (hB6.mono HB5.out.size))
    clear hB6 C5 HB5
    go_wp2_with fail
    refine (refsum_any a1 bs cap1 _ C6.out).mono ?_
    rintro e W7 ⟨rfl, rfl⟩
    go_wp2_with fail
    refine (refmore_any s hs a1 bs cap1 _ C6.out).mono ?_
    rintro e W8 ⟨rfl, rfl⟩
    go_wp2
    go_ret
    exact ⟨rfl, HB6.out⟩
end Go.Proofs.Ytniajoocpnhhgaa
