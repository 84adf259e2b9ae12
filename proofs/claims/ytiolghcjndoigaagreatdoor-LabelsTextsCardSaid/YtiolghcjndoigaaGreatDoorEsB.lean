/-
  WALKS: the escapes of any text.
-/
import Derived.Test.YtiolghcjndoigaaGreatDoorEsA
import Derived.Test.YtiolghcjndoigaaGreatDoorUnB
import Derived.Test.YtiolghcjndoigaaGreatDoorShelfB
namespace Go.Proofs.YtiolghcjndoigaaGreatDoor
set_option linter.unusedVariables false
set_option linter.unusedSimpArgs false
open Go.RowKit Go.PlainAid
/-- what an escape says -/
inductive EscR where
  | ok (xs : List Nat) (p : Nat)
  | bad
  | ends
def byteR (p : Nat) : DigR → EscR
  | .val v => if v ≤ 255 then .ok [v] p else .bad
  | .bad => .bad
  | .ends => .ends
/-- a rune's bytes -/
def utf8L (v : Nat) : List Nat :=
  if v < 128 then [v] else if v < 2048 then [192 + v / 64, 128 + v % 64] else if v < 65536 then [224 + v / 4096, 128 + v / 64 % 64, 128 + v % 64]
  else [240 + v / 262144, 128 + v / 4096 % 64, 128 + v / 64 % 64, 128 + v % 64]
def runeR (p : Nat) : DigR → EscR
  | .val v => if v < 55296 ∨ (57343 < v ∧ v ≤ 1114111) then .ok (utf8L v) p else .bad
  | .bad => .bad
  | .ends => .ends
def EscPostR (R B : Nat) (bs es : List Nat) (w : World) : EscR → Ending → World → Prop
  | .ok xs p, e, w' => ∃ v, e = .returned (.tuple #[v, .nilIface]) ∧ Own w' B v (es ++ xs) ∧ Kept B R w w' ∧ Rd w' R bs p
  | .bad, e, w' => ∃ v x, e = .returned (.tuple #[v, x]) ∧ Kept B R w w' ∧ BadErr w.heap.size w' x
  | .ends, e, w' => ∃ v x, e = .returned (.tuple #[v, x]) ∧ Kept B R w w' ∧ EndErr w.heap.size w' x bs.length
theorem utf8L_cells {v : Nat} (h : v < 55296 ∨ (57343 < v ∧ v ≤ 1114111)) : Lib.runeCells (v : Int) = cellsOf (utf8L v) := by
  unfold Lib.runeCells cellsOf utf8L
  by_cases h1 : v < 128
  · rw [Lib.encodeRuneZ_one (by omega) (by omega), if_pos h1]; rfl
  · by_cases h2 : v < 2048
    · rw [Lib.encodeRuneZ_two (by omega) (by omega), if_neg h1, if_pos h2]
      simp
    · by_cases h3 : v < 65536
      · rw [Lib.encodeRuneZ_three (by omega), if_neg h1, if_neg h2, if_pos h3]
        simp
      · rw [Lib.encodeRuneZ_four (by omega) (by omega), if_neg h1, if_neg h2, if_neg h3]
        simp
theorem utf8L_len (v : Nat) : (utf8L v).length ≤ 4 := by
  unfold utf8L
  repeat' split
  all_goals simp
theorem utf8L_isB {v : Nat} (h : v ≤ 1114111) : IsB (utf8L v) := by
  unfold utf8L
  repeat' split
  all_goals (intro x hx; simp at hx; omega)
set_option maxRecDepth 100000 in
set_option maxHeartbeats 2000000 in
theorem byteof_any (R B : Nat) (bs : List Nat) (p n base : Nat) (b : Value) (es : List Nat) (hB : IsB bs) (hl : bs.length ≤ 200000) (hn : n ≤ 8) (hbase : base ≤ 16) (hp : p ≤ bs.length)
    (hes : es.length ≤ 200000) (hRB : R < B) (w : World) (hBw : B ≤ w.heap.size) (H : Rd w R bs p) (HO : Own w B b es) :
    Calls Tryz.prog 192 #[.pointer (some ⟨R, 0, none⟩), b, .int .i64 (n : Int), .int .u32 (base : Int)] w (EscPostR R B bs es w (byteR (p + n) (digsN bs base n p 0))) := by
  obtain ⟨i0, hi, hz0, hz1, hz2⟩ := info_parts info5
  obtain ⟨ao, co, rfl⟩ := own_shape HO
  have CD := Lib.hid (digits_any R bs p n base hB hl hn hbase hp w H)
  obtain ⟨T, hT⟩ : ∃ T, digsN bs base n p 0 = T := ⟨_, rfl⟩
  rw [hT] at CD ⊢
  obtain ⟨m, hm⟩ : ∃ m, es.length = m := ⟨_, rfl⟩
  rw [hm] at HO hes ⊢
  have HM := Lib.hid hm
  have HO := Lib.hid HO
  have HRB := Lib.hid hRB
  have HBW := Lib.hid hBw
  obtain ⟨pn, hpn⟩ : ∃ q, p + n = q := ⟨_, rfl⟩
  rw [hpn] at CD ⊢
  clear hT hm hRB hBw hB hl H hn hbase hp hpn
  cases T with
  | val v =>
    by_cases hv : v ≤ 255
    · have e1 : IntKind.u8.wrap (v : Int) = (v : Int) := by rw [IntKind.wrap_u8]; omega
      have dg : decide ((v : Int) > 255) = false := decide_eq_false (by omega)
      have dg2 : decide ((255 : Int) < (v : Int)) = false := decide_eq_false (by omega)
      have dg3 : decide (255 < v) = false := decide_eq_false (by omega)
      rw [show byteR pn (.val v) = .ok [v] pn from if_pos hv]
      clear hv
      go_enter Tryz.func192, Tryz.ntmps192
      go_wp2_with fail
      refine CD.out.mono ?_
      rintro e w1 ⟨rfl, ho, hr, _⟩
      have O1 := Lib.hid (HO.out.only ho (fun k hk hb => by have h1 := own_block HO.out k hb; have h2 := HRB.out; simp at hk; omega))
      have K1 := Lib.hid (Kept.of_only ho HBW.out)
      have S1 := Lib.hid (Nat.le_trans HBW.out ho.size)
      have R1 := Lib.hid hr
      clear ho hr
      go_wp2_with (at_builtin; refine wpList_append_own _ rfl (.tmp 26) (.tmp 29) 83 rfl B 5 i0 (.int .u8 0) 1 1 Tryz.underlying83 hi hz0 hz1 hz2 rfl (by decide) (.slice ao m co) m (cellsOf es) rfl (own_with O1.out HM.out _) ⟨w1.heap.size, 0, none⟩ 1 1 (cellsOf [v]) rfl rfl (alloc_row _ [v]) (cellsOf_one _) (by unfold maxLen; omega) (by omega) (by have := S1.out; simp; omega) ?_; intro v2 w2 hown2 hgr2 hne2)
      obtain ⟨g1, g2⟩ := put_one (c := v) hown2 HM.out O1.out hgr2 S1.out
      have G1 := Lib.hid g1
      have G2 := Lib.hid g2
      clear hown2 hgr2 hne2 g1 g2
      go_wp2
      go_ret2
      exact ⟨_, rfl, G1.out, K1.out.trans (Kept.of_below G2.out), R1.out.below G2.out HRB.out⟩
    · obtain ⟨u, hu⟩ : ∃ u : Nat, IntKind.u8.wrap (v : Int) = (u : Int) := ⟨v % 256, by rw [IntKind.wrap_u8]; omega⟩
      have dg : decide ((v : Int) > 255) = true := decide_eq_true (by omega)
      have dg2 : decide ((255 : Int) < (v : Int)) = true := decide_eq_true (by omega)
      have dg3 : decide (255 < v) = true := decide_eq_true (by omega)
      rw [show byteR pn (.val v) = .bad from if_neg hv]
      clear hv
      go_enter Tryz.func192, Tryz.ntmps192
      go_wp2_with fail
      refine CD.out.mono ?_
      rintro e w1 ⟨rfl, ho, hr, _⟩
      have O1 := Lib.hid (HO.out.only ho (fun k hk hb => by have h1 := own_block HO.out k hb; have h2 := HRB.out; simp at hk; omega))
      have K1 := Lib.hid (Kept.of_only ho HBW.out)
      have S1 := Lib.hid (Nat.le_trans HBW.out ho.size)
      clear ho hr
      go_wp2_with (at_builtin; refine wpList_append_own _ rfl (.tmp 26) (.tmp 29) 83 rfl B 5 i0 (.int .u8 0) 1 1 Tryz.underlying83 hi hz0 hz1 hz2 rfl (by decide) (.slice ao m co) m (cellsOf es) rfl (own_with O1.out HM.out _) ⟨w1.heap.size, 0, none⟩ 1 1 (cellsOf [u]) rfl rfl (alloc_row _ [u]) (cellsOf_one _) (by unfold maxLen; omega) (by omega) (by have := S1.out; simp; omega) ?_; intro v2 w2 hown2 hgr2 hne2)
      obtain ⟨g1, g2⟩ := put_one (c := u) hown2 HM.out O1.out hgr2 S1.out
      have G1 := Lib.hid g1
      have G2 := Lib.hid g2
      clear hown2 hgr2 hne2 g1 g2
      go_wp2
      go_ret2
      exact ⟨_, _, rfl, K1.out.trans (Kept.of_below G2.out), .inl rfl⟩
  | bad =>
    have e0 : IntKind.u8.wrap 0 = ((0 : Nat) : Int) := rfl
    rw [show byteR pn .bad = .bad from rfl]
    go_enter Tryz.func192, Tryz.ntmps192
    go_wp2_with fail
    refine CD.out.mono ?_
    rintro e w1 ⟨x, rfl, ho, he⟩
    have O1 := Lib.hid (HO.out.only ho (fun k hk hb => by have h1 := own_block HO.out k hb; have h2 := HRB.out; simp at hk; omega))
    have K1 := Lib.hid (Kept.of_only ho HBW.out)
    have S1 := Lib.hid (Nat.le_trans HBW.out ho.size)
    have HE := Lib.hid he
    clear ho
    rcases he with rfl | ⟨q, a, rfl, _⟩
    · clear e0
      have e0 : IntKind.u8.wrap 0 = ((0 : Nat) : Int) := rfl
      go_wp2_with (at_builtin; refine wpList_append_own _ rfl (.tmp 26) (.tmp 29) 83 rfl B 5 i0 (.int .u8 0) 1 1 Tryz.underlying83 hi hz0 hz1 hz2 rfl (by decide) (.slice ao m co) m (cellsOf es) rfl (own_with O1.out HM.out _) ⟨w1.heap.size, 0, none⟩ 1 1 (cellsOf [0]) rfl rfl (alloc_row _ [0]) (cellsOf_one _) (by unfold maxLen; omega) (by omega) (by have := S1.out; simp; omega) ?_; intro v2 w2 hown2 hgr2 hne2)
      obtain ⟨g1, g2⟩ := put_one (c := 0) hown2 HM.out O1.out hgr2 S1.out
      have HX := Lib.hid (HE.out.grown hgr2 (fun q hq => own_far HO.out hq))
      have G1 := Lib.hid g1
      have G2 := Lib.hid g2
      clear hown2 hgr2 hne2 g1 g2
      go_wp2
      go_ret2
      exact ⟨_, _, rfl, K1.out.trans (Kept.of_below G2.out), HX.out⟩
    · clear e0
      have e0 : IntKind.u8.wrap 0 = ((0 : Nat) : Int) := rfl
      go_wp2_with (at_builtin; refine wpList_append_own _ rfl (.tmp 26) (.tmp 29) 83 rfl B 5 i0 (.int .u8 0) 1 1 Tryz.underlying83 hi hz0 hz1 hz2 rfl (by decide) (.slice ao m co) m (cellsOf es) rfl (own_with O1.out HM.out _) ⟨w1.heap.size, 0, none⟩ 1 1 (cellsOf [0]) rfl rfl (alloc_row _ [0]) (cellsOf_one _) (by unfold maxLen; omega) (by omega) (by have := S1.out; simp; omega) ?_; intro v2 w2 hown2 hgr2 hne2)
      obtain ⟨g1, g2⟩ := put_one (c := 0) hown2 HM.out O1.out hgr2 S1.out
      have HX := Lib.hid (HE.out.grown hgr2 (fun q hq => own_far HO.out hq))
      have G1 := Lib.hid g1
      have G2 := Lib.hid g2
      clear hown2 hgr2 hne2 g1 g2
      go_wp2
      go_ret2
      exact ⟨_, _, rfl, K1.out.trans (Kept.of_below G2.out), HX.out⟩
  | ends =>
    have e0 : IntKind.u8.wrap 0 = ((0 : Nat) : Int) := rfl
    rw [show byteR pn .ends = .ends from rfl]
    go_enter Tryz.func192, Tryz.ntmps192
    go_wp2_with fail
    refine CD.out.mono ?_
    rintro e w1 ⟨x, rfl, ho, he⟩
    have O1 := Lib.hid (HO.out.only ho (fun k hk hb => by have h1 := own_block HO.out k hb; have h2 := HRB.out; simp at hk; omega))
    have K1 := Lib.hid (Kept.of_only ho HBW.out)
    have S1 := Lib.hid (Nat.le_trans HBW.out ho.size)
    have HE := Lib.hid he
    clear ho
    obtain ⟨q, rfl⟩ := endErr_ne he
    clear he
    go_wp2_with (at_builtin; refine wpList_append_own _ rfl (.tmp 26) (.tmp 29) 83 rfl B 5 i0 (.int .u8 0) 1 1 Tryz.underlying83 hi hz0 hz1 hz2 rfl (by decide) (.slice ao m co) m (cellsOf es) rfl (own_with O1.out HM.out _) ⟨w1.heap.size, 0, none⟩ 1 1 (cellsOf [0]) rfl rfl (alloc_row _ [0]) (cellsOf_one _) (by unfold maxLen; omega) (by omega) (by have := S1.out; simp; omega) ?_; intro v2 w2 hown2 hgr2 hne2)
    obtain ⟨g1, g2⟩ := put_one (c := 0) hown2 HM.out O1.out hgr2 S1.out
    have HX := Lib.hid (HE.out.grown hgr2 (fun q hq => own_far HO.out hq))
    have G1 := Lib.hid g1
    have G2 := Lib.hid g2
    clear hown2 hgr2 hne2 g1 g2
    go_wp2
    go_ret2
    exact ⟨_, _, rfl, K1.out.trans (Kept.of_below G2.out), HX.out⟩
end Go.Proofs.YtiolghcjndoigaaGreatDoor
