/-
  WALKS: the law of what stands between quotes.
-/
import Derived.Test.YthhlhiighgnkmaaGreatDoorEsU
import Derived.Test.YthhlhiighgnkmaaGreatDoorKno
namespace Go.Proofs.YthhlhiighgnkmaaGreatDoor
set_option linter.unusedVariables false
set_option linter.unusedSimpArgs false
open Go.RowKit Go.PlainAid
set_option maxRecDepth 100000 in
set_option maxHeartbeats 1000000 in
theorem law_unquotes (m : Int) (a o cap : Nat) (s : ByteArray) (w : World) (TT : TenTab w a o cap) (TS : ShTab w m) (hg : w.cell? ⟨0, 0, none⟩ = some (rt 60)) : Calls Tryz.prog 10 #[.string s] w (Gives w (.bool true)) := by
  by_cases h1 : 20000 < s.size
  · have d1 : decide ((s.size : Int) > 20000) = true := decide_eq_true (by omega)
    obtain ⟨L, hL⟩ : ∃ L, s.size = L := ⟨_, rfl⟩
    rw [hL] at d1 h1
    clear TT TS
    go_enter Tryz.func10, Tryz.ntmps10
    go_wp2
    go_ret
    exact ⟨rfl, Below.refl _ _⟩
  have d1 : decide ((s.size : Int) > 20000) = false := decide_eq_false (by omega)
  have hBs := isB_bytesOf s
  have hls := bytesOf_length s
  obtain ⟨r, hr⟩ := isQ_all (bytesOf s)
  have C1 := Lib.hid (fun w hg => unquote_any (bytesOf s) r hBs (by omega) hr w hg)
  have C2 := Lib.hid (fun w => runquote_any (bytesOf s) r hBs (by omega) hr w)
  rw [strOf_bytesOf] at C1 C2
  have CK := Lib.hid (fun w T1 T2 => known_any m a o cap w T1 T2)
  have HT := Lib.hid TT
  have HS := Lib.hid TS
  have HG := Lib.hid hg
  unfold uval at C1
  unfold uvalR at C2
  have he : uErr r ≤ 42 := by cases r <;> simp [uErr]
  obtain ⟨A, hA⟩ : ∃ A, strOf (uStr r) = A := ⟨_, rfl⟩
  obtain ⟨E, hE⟩ : ∃ A, uErr r = A := ⟨_, rfl⟩
  obtain ⟨N, hN⟩ : ∃ A, uPos (bytesOf s) r = A := ⟨_, rfl⟩
  rw [hA, hE, hN] at C1 C2
  rw [hE] at he
  have e1 : IntKind.i64.wrap (E : Int) = (E : Int) := by rw [IntKind.wrap_i64]; omega
  obtain ⟨L, hL⟩ : ∃ L, s.size = L := ⟨_, rfl⟩
  rw [hL] at d1 h1
  clear hBs hls hr hA hE hN TT TS hg
  go_enter Tryz.func10, Tryz.ntmps10
  go_wp2_with fail
  refine (C1.out _ HG.out).mono ?_
  rintro e w1 ⟨rfl, hb⟩
  have B1 := Lib.hid hb
  clear hb
  go_wp2_with fail
  refine (C2.out _).mono ?_
  rintro e w2 ⟨rfl, hb⟩
  have B2 := Lib.hid (B1.out.trans (hb.mono B1.out.size))
  have T2 := Lib.hid (HT.out.stay B2.out)
  have S2 := Lib.hid (HS.out.below B2.out (by have := HS.out.size; omega))
  clear hb
  go_wp2_with fail
  refine (CK.out _ T2.out S2.out).mono ?_
  rintro e w3 ⟨rfl, hb⟩
  have B3 := Lib.hid (B2.out.trans (hb.mono B2.out.size))
  clear hb
  go_wp2
  go_ret
  exact ⟨rfl, B3.out⟩
end Go.Proofs.YthhlhiighgnkmaaGreatDoor
