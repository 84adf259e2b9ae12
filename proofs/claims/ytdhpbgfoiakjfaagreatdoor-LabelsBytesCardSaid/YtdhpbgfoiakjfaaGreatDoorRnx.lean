/-
  WALKS: the reference: a text of bytes from a place on.
-/
import Derived.Test.YtdhpbgfoiakjfaaGreatDoorDec
import Derived.Test.YtdhpbgfoiakjfaaGreatDoorRck
namespace Go.Proofs.YtdhpbgfoiakjfaaGreatDoor
set_option linter.unusedVariables false
set_option linter.unusedSimpArgs false
open Go.RowKit Go.PlainAid Go.Shelf
theorem nx_gt {n m : Nat} (h : n < m) : decide ((m : Int) > (n : Int)) = true ∧ decide ((n : Int) < (m : Int)) = true ∧ decide (n < m) = true :=
  ⟨decide_eq_true (by omega), decide_eq_true (by omega), decide_eq_true h⟩
theorem nx_le {n m : Nat} (h : ¬ n < m) : decide ((m : Int) > (n : Int)) = false ∧ decide ((n : Int) < (m : Int)) = false ∧ decide (n < m) = false :=
  ⟨decide_eq_false (by omega), decide_eq_false (by omega), decide_eq_false h⟩
theorem nx_q {d0 d1 q : Nat} (h : d0 + 256 * d1 = q) : (d0 : Int) + 256 * (d1 : Int) = (q : Int) := by omega
theorem nx_w {x y z : Nat} (h : x + y = z) (hz : z ≤ 2000000000) : wrap64 ((x : Int) + (y : Int)) = (z : Int) ∧ IntKind.i64.wrap ((x : Int) + (y : Int)) = (z : Int) := by
  constructor
  · rw [wrap64_small (by omega) (by omega)]; omega
  · rw [IntKind.wrap_i64]; omega
theorem nx_w2 {x z : Nat} (h : x + 2 = z) (hz : z ≤ 2000000000) : wrap64 ((x : Int) + 2) = (z : Int) ∧ IntKind.i64.wrap ((x : Int) + 2) = (z : Int) := nx_w (y := 2) h hz
theorem nx_w1 {x z : Nat} (h : x + 1 = z) (hz : z ≤ 2000000000) : wrap64 ((x : Int) + 1) = (z : Int) ∧ IntKind.i64.wrap ((x : Int) + 1) = (z : Int) := nx_w (y := 1) h hz
def NextPost (w : World) (bs : List Nat) (p : Nat) (e : Ending) (w' : World) : Prop := Below w.heap.size w w' ∧
  ((cutM (bs.drop p) = none ∧ e = .returned (.tuple #[.string ⟨#[]⟩, .int .i64 (-1)])) ∨ ∃ t r q, cutM (bs.drop p) = some (t, r) ∧ e = .returned (.tuple #[.string (strOf t), .int .i64 ((q : Nat) : Int)]) ∧ q ≤ bs.length ∧ p + 2 ≤ q ∧ r = bs.drop q)
set_option maxRecDepth 100000 in
set_option maxHeartbeats 300000 in
theorem rnext_any (a : Option Addr) (c : Nat) (bs : List Nat) (hB : IsB bs) (hc : bs.length ≤ c) (hl : bs.length ≤ 1000000000) (p : Nat) (hp : p ≤ bs.length) (w : World) (H : Byt w a bs) : Calls Tryz.prog 107 #[.slice a bs.length c, .int .i64 ((p : Nat) : Int)] w (NextPost w bs p) := by
  unfold NextPost
  obtain ⟨m1, hm1⟩ : ∃ m, p + 2 = m := ⟨_, rfl⟩
  obtain ⟨p1, hp1'⟩ : ∃ m, p + 1 = m := ⟨_, rfl⟩
  obtain ⟨w1, w1b⟩ := nx_w2 hm1 (by omega)
  obtain ⟨w2, w2b⟩ := nx_w1 hp1' (by omega)
  by_cases h2 : bs.length < m1
  · have HN := Lib.hid (cutM_short (bs := bs.drop p) (by rw [List.length_drop]; omega))
    obtain ⟨n, hn⟩ : ∃ n, bs.length = n := ⟨_, rfl⟩
    rw [hn] at h2 hc hl hp ⊢
    obtain ⟨d1, d2, d3⟩ := nx_gt h2
    clear hB H hn hm1 hp1'
    go_enter Tryz.func107, Tryz.ntmps107
    go_wp2
    go_returns
    exact ⟨Below.refl _ _, .inl ⟨HN.out, rfl⟩⟩
  · have hp0 : p < bs.length := by omega
    have hp1 : p1 < bs.length := by omega
    obtain ⟨d0, hd0⟩ : ∃ d, bs[p] = d := ⟨_, rfl⟩
    obtain ⟨d1, hd1⟩ : ∃ d, bs[p1] = d := ⟨_, rfl⟩
    have hdr : bs.drop p = d0 :: d1 :: bs.drop m1 := by
      subst hm1 hp1'
      rw [List.drop_eq_getElem_cons hp0, List.drop_eq_getElem_cons hp1, hd0, hd1]
    have g0 : d0 < 256 := by rw [← hd0]; exact hB _ (List.getElem_mem hp0)
    have g1 : d1 < 256 := by rw [← hd1]; exact hB _ (List.getElem_mem hp1)
    obtain ⟨q, hq⟩ : ∃ q, d0 + 256 * d1 = q := ⟨_, rfl⟩
    obtain ⟨m2, hm2⟩ : ∃ m, m1 + q = m := ⟨_, rfl⟩
    have HQ := Lib.hid (nx_q hq)
    have W4 := Lib.hid (nx_w hm2 (by omega))
    have HM := Lib.hid (show cutM (bs.drop p) = if q ≤ (bs.drop m1).length then some ((bs.drop m1).take q, (bs.drop m1).drop q) else none by rw [hdr, ← hq]; rfl)
    rcases H with ⟨_, h⟩ | ⟨b, off, rfl, hlt, hcl⟩
    · rw [h] at hp0; simp at hp0
    have x0 := hcl p hp0
    have x1 := hcl p1 hp1
    rw [hd0] at x0
    rw [hd1] at x1
    have HY := Lib.hid (show Byt w (some ⟨b, off, none⟩) bs from .inr ⟨b, off, rfl, hlt, hcl⟩)
    have HLD := Lib.hid (show (bs.drop m1).length = bs.length - m1 from List.length_drop)
    obtain ⟨n, hn⟩ : ∃ n, bs.length = n := ⟨_, rfl⟩
    have HNN := Lib.hid hn
    rw [hn] at hc hl hp hp0 hp1 h2 HLD ⊢
    obtain ⟨e1, e2, e3⟩ := nx_le h2
    have m0 : IntKind.i64.wrap (d0 : Int) = (d0 : Int) := by rw [IntKind.wrap_i64]; omega
    have m1' : IntKind.i64.wrap (d1 : Int) = (d1 : Int) := by rw [IntKind.wrap_i64]; omega
    have m2' : IntKind.i64.wrap (256 * (d1 : Int)) = 256 * (d1 : Int) := by rw [IntKind.wrap_i64]; omega
    have m3' : IntKind.i64.wrap ((d0 : Int) + 256 * (d1 : Int)) = (d0 : Int) + 256 * (d1 : Int) := by rw [IntKind.wrap_i64]; omega
    have i2 : (p : Int) < (n : Int) := by omega
    have i3 : (p1 : Int) < (n : Int) := by omega
    have HA := Lib.hid (show (m2 ≤ n → q ≤ n - m1 ∧ m2 - m1 = q) ∧ m1 ≤ m2 ∧ p + 2 ≤ m2 ∧ (n < m2 → ¬ q ≤ n - m1) from ⟨fun _ => by omega, by omega, by omega, fun _ => by omega⟩)
    have HM2 := Lib.hid hm2
    clear hcl hB hn hdr hd0 hd1 hq hm2 hm1 hp1' hl hp
    go_enter Tryz.func107, Tryz.ntmps107
    go_wp2_with fail
    go_quiet (fail)
    rw [HQ.out]
    obtain ⟨w4, w4b⟩ := W4.out
    by_cases hmn : n < m2
    · obtain ⟨u1, u2, u3⟩ := nx_gt hmn
      have HX := Lib.hid (show cutM (bs.drop p) = none by rw [HM.out, if_neg (by rw [HLD.out]; exact HA.out.2.2.2 hmn)])
      go_wp2
      go_returns
      exact ⟨below_drewN (Below.refl _ _) _, .inl ⟨HX.out, rfl⟩⟩
    · obtain ⟨u1, u2, u3⟩ := nx_le hmn
      obtain ⟨v1, v2⟩ := HA.out.1 (Nat.le_of_not_lt hmn)
      have HX := Lib.hid (show cutM (bs.drop p) = some ((bs.drop m1).take q, (bs.drop m1).drop q) by rw [HM.out, if_pos (by rw [HLD.out]; exact v1)])
      obtain ⟨a2, hs2, hy2'⟩ := byt_mid (some ⟨b, off, none⟩) bs m1 m2 HA.out.2.1 (by rw [HNN.out]; exact Nat.le_of_not_lt hmn) c (by rw [HNN.out]; exact hc)
      rw [HNN.out] at hs2
      have hy2 := hy2' w HY.out
      rw [v2] at hy2 hs2
      have lm : ((bs.drop m1).take q).length = q := by rw [List.length_take, Nat.min_eq_left (by rw [HLD.out]; exact v1)]
      have hcv : ∀ k, (convert 83 9 (.slice a2 q (c - m1))).run Tryz.prog (w.drewN k) = .ok (.string (strOf ((bs.drop m1).take q))) (w.drewN k) := fun k => by
        have := conv_byt (show Byt (w.drewN k) a2 ((bs.drop m1).take q) from hy2) (c - m1)
        rw [lm] at this
        exact this
      obtain ⟨T, hT⟩ : ∃ T, strOf ((bs.drop m1).take q) = T := ⟨_, rfl⟩
      have HTT := Lib.hid hT
      rw [hT] at hcv
      have V1 := Lib.hid (Nat.le_of_not_lt hmn)
      clear hy2 hy2' lm hT v1 v2 w1b w2b w4b m0 m1' m2' m3' w2 x0 x1 hmn
      go_wp2_with fail
      go_returns
      exact ⟨below_drewN (Below.refl _ _) _, .inr ⟨_, _, m2, HX.out, by rw [HTT.out, ← W4.out.1]; rfl, V1.out, HA.out.2.2.1, by rw [List.drop_drop, HM2.out]⟩⟩
end Go.Proofs.YtdhpbgfoiakjfaaGreatDoor
