/-
  WALKS: escapes; what stands between quotes; Unquote of what is well formed.
-/
import Derived.Test.YtiolghcjndoigaaGreatDoorUnA
namespace Go.Proofs.YtiolghcjndoigaaGreatDoor
set_option linter.unusedVariables false
set_option linter.unusedSimpArgs false
open Go.RowKit Go.PlainAid
/-- what a letter behind the backslash stands for -/
def simpleV (c : Nat) : Option Nat :=
  if c = 92 then some 92 else if c = 39 then some 39 else if c = 34 then some 34 else if c = 97 then some 7 else if c = 98 then some 8 else if c = 102 then some 12
  else if c = 110 then some 10 else if c = 114 then some 13 else if c = 116 then some 9 else if c = 118 then some 11 else none
theorem simple_cases {c v : Nat} (h : simpleV c = some v) : (c = 92 ∧ v = 92) ∨ (c = 39 ∧ v = 39) ∨ (c = 34 ∧ v = 34) ∨ (c = 97 ∧ v = 7) ∨ (c = 98 ∧ v = 8) ∨ (c = 102 ∧ v = 12) ∨ (c = 110 ∧ v = 10) ∨ (c = 114 ∧ v = 13) ∨ (c = 116 ∧ v = 9) ∨ (c = 118 ∧ v = 11) := by
  unfold simpleV at h
  repeat' split at h
  all_goals (try cases h)
  all_goals omega
/-- an escape that stands for bytes: behind the backslash at p -/
inductive Esc (bs : List Nat) (p : Nat) : List Nat → Nat → Prop
  | simple (c v : Nat) : bs[p]? = some c → simpleV c = some v → Esc bs p [v] (p + 1)
  | hex (c d : Nat) : bs[p]? = some 120 → bs[p + 1]? = some c → bs[p + 2]? = some d → hexV c < 16 → hexV d < 16 → Esc bs p [dvl 16 [c, d]] (p + 3)
def EscPost (R B : Nat) (bs : List Nat) (p : Nat) (es : List Nat) (w : World) (e : Ending) (w' : World) : Prop := ∃ v, e = .returned (.tuple #[v, .nilIface]) ∧ Own w' B v es ∧ Kept B R w w' ∧ Rd w' R bs p
set_option maxRecDepth 100000 in
set_option maxHeartbeats 4000000 in
theorem escape_simple (R B : Nat) (bs : List Nat) (p c v : Nat) (b : Value) (es : List Nat) (hB : IsB bs) (hl : bs.length ≤ 200000) (hc : bs[p]? = some c) (hv : simpleV c = some v)
    (hes : es.length ≤ 200000) (hRB : R < B) (w : World) (hBw : B ≤ w.heap.size) (H : Rd w R bs p) (HO : Own w B b es) :
    Calls Tryz.prog 180 #[.pointer (some ⟨R, 0, none⟩), b] w (EscPost R B bs (p + 1) (es ++ [v]) w) := by
  obtain ⟨i0, hi, hz0, hz1, hz2⟩ := info_parts info5
  obtain ⟨ao, co, rfl⟩ := own_shape HO
  have CN := Lib.hid (next_at R bs p c hB hc hl w H)
  obtain ⟨m, hm⟩ : ∃ m, es.length = m := ⟨_, rfl⟩
  rw [hm] at HO hes ⊢
  have HM := Lib.hid hm
  have HO := Lib.hid HO
  have HRB := Lib.hid hRB
  have HBW := Lib.hid hBw
  have hcs := simple_cases hv
  clear hm hRB hBw hB hl hc H hv
  rcases hcs with ⟨rfl, rfl⟩ | ⟨rfl, rfl⟩ | ⟨rfl, rfl⟩ | ⟨rfl, rfl⟩ | ⟨rfl, rfl⟩ | ⟨rfl, rfl⟩ | ⟨rfl, rfl⟩ | ⟨rfl, rfl⟩ | ⟨rfl, rfl⟩ | ⟨rfl, rfl⟩
  · go_enter Tryz.func180, Tryz.ntmps180
    go_wp2_with fail
    refine CN.out.mono ?_
    rintro e w1 ⟨rfl, ho, hr⟩
    have O1 := Lib.hid (HO.out.only ho (fun k hk hb => by have h1 := own_block HO.out k hb; have h2 := HRB.out; simp at hk; omega))
    have K1 := Lib.hid (Kept.of_only ho HBW.out)
    have R1 := Lib.hid hr
    have S1 := Lib.hid (Nat.le_trans HBW.out ho.size)
    clear ho hr
    go_wp2_with (at_builtin; refine wpList_append_own _ rfl (.tmp 82) (.tmp 84) 83 rfl B 5 i0 (.int .u8 0) 1 1 Tryz.underlying83 hi hz0 hz1 hz2 rfl (by decide) (.slice ao m co) m (cellsOf es) rfl (own_with O1.out HM.out _) ⟨w1.heap.size, 0, none⟩ 1 1 (cellsOf [92]) rfl rfl (alloc_row _ [92]) (cellsOf_one _) (by unfold maxLen; omega) (by omega) (by have := S1.out; simp; omega) ?_; intro v2 w2 hown2 hgr2 hne2)
    obtain ⟨g1, g2⟩ := put_one (c := 92) hown2 HM.out O1.out hgr2 S1.out
    have G1 := Lib.hid g1
    have G2 := Lib.hid g2
    clear hown2 hgr2 hne2 g1 g2
    go_wp2
    go_ret2
    exact ⟨_, rfl, G1.out, K1.out.trans (Kept.of_below G2.out), R1.out.below G2.out HRB.out⟩
  · go_enter Tryz.func180, Tryz.ntmps180
    go_wp2_with fail
    refine CN.out.mono ?_
    rintro e w1 ⟨rfl, ho, hr⟩
    have O1 := Lib.hid (HO.out.only ho (fun k hk hb => by have h1 := own_block HO.out k hb; have h2 := HRB.out; simp at hk; omega))
    have K1 := Lib.hid (Kept.of_only ho HBW.out)
    have R1 := Lib.hid hr
    have S1 := Lib.hid (Nat.le_trans HBW.out ho.size)
    clear ho hr
    go_wp2_with (at_builtin; refine wpList_append_own _ rfl (.tmp 82) (.tmp 84) 83 rfl B 5 i0 (.int .u8 0) 1 1 Tryz.underlying83 hi hz0 hz1 hz2 rfl (by decide) (.slice ao m co) m (cellsOf es) rfl (own_with O1.out HM.out _) ⟨w1.heap.size, 0, none⟩ 1 1 (cellsOf [39]) rfl rfl (alloc_row _ [39]) (cellsOf_one _) (by unfold maxLen; omega) (by omega) (by have := S1.out; simp; omega) ?_; intro v2 w2 hown2 hgr2 hne2)
    obtain ⟨g1, g2⟩ := put_one (c := 39) hown2 HM.out O1.out hgr2 S1.out
    have G1 := Lib.hid g1
    have G2 := Lib.hid g2
    clear hown2 hgr2 hne2 g1 g2
    go_wp2
    go_ret2
    exact ⟨_, rfl, G1.out, K1.out.trans (Kept.of_below G2.out), R1.out.below G2.out HRB.out⟩
  · go_enter Tryz.func180, Tryz.ntmps180
    go_wp2_with fail
    refine CN.out.mono ?_
    rintro e w1 ⟨rfl, ho, hr⟩
    have O1 := Lib.hid (HO.out.only ho (fun k hk hb => by have h1 := own_block HO.out k hb; have h2 := HRB.out; simp at hk; omega))
    have K1 := Lib.hid (Kept.of_only ho HBW.out)
    have R1 := Lib.hid hr
    have S1 := Lib.hid (Nat.le_trans HBW.out ho.size)
    clear ho hr
    go_wp2_with (at_builtin; refine wpList_append_own _ rfl (.tmp 82) (.tmp 84) 83 rfl B 5 i0 (.int .u8 0) 1 1 Tryz.underlying83 hi hz0 hz1 hz2 rfl (by decide) (.slice ao m co) m (cellsOf es) rfl (own_with O1.out HM.out _) ⟨w1.heap.size, 0, none⟩ 1 1 (cellsOf [34]) rfl rfl (alloc_row _ [34]) (cellsOf_one _) (by unfold maxLen; omega) (by omega) (by have := S1.out; simp; omega) ?_; intro v2 w2 hown2 hgr2 hne2)
    obtain ⟨g1, g2⟩ := put_one (c := 34) hown2 HM.out O1.out hgr2 S1.out
    have G1 := Lib.hid g1
    have G2 := Lib.hid g2
    clear hown2 hgr2 hne2 g1 g2
    go_wp2
    go_ret2
    exact ⟨_, rfl, G1.out, K1.out.trans (Kept.of_below G2.out), R1.out.below G2.out HRB.out⟩
  · go_enter Tryz.func180, Tryz.ntmps180
    go_wp2_with fail
    refine CN.out.mono ?_
    rintro e w1 ⟨rfl, ho, hr⟩
    have O1 := Lib.hid (HO.out.only ho (fun k hk hb => by have h1 := own_block HO.out k hb; have h2 := HRB.out; simp at hk; omega))
    have K1 := Lib.hid (Kept.of_only ho HBW.out)
    have R1 := Lib.hid hr
    have S1 := Lib.hid (Nat.le_trans HBW.out ho.size)
    clear ho hr
    go_wp2_with (at_builtin; refine wpList_append_own _ rfl (.tmp 82) (.tmp 84) 83 rfl B 5 i0 (.int .u8 0) 1 1 Tryz.underlying83 hi hz0 hz1 hz2 rfl (by decide) (.slice ao m co) m (cellsOf es) rfl (own_with O1.out HM.out _) ⟨w1.heap.size, 0, none⟩ 1 1 (cellsOf [7]) rfl rfl (alloc_row _ [7]) (cellsOf_one _) (by unfold maxLen; omega) (by omega) (by have := S1.out; simp; omega) ?_; intro v2 w2 hown2 hgr2 hne2)
    obtain ⟨g1, g2⟩ := put_one (c := 7) hown2 HM.out O1.out hgr2 S1.out
    have G1 := Lib.hid g1
    have G2 := Lib.hid g2
    clear hown2 hgr2 hne2 g1 g2
    go_wp2
    go_ret2
    exact ⟨_, rfl, G1.out, K1.out.trans (Kept.of_below G2.out), R1.out.below G2.out HRB.out⟩
  · go_enter Tryz.func180, Tryz.ntmps180
    go_wp2_with fail
    refine CN.out.mono ?_
    rintro e w1 ⟨rfl, ho, hr⟩
    have O1 := Lib.hid (HO.out.only ho (fun k hk hb => by have h1 := own_block HO.out k hb; have h2 := HRB.out; simp at hk; omega))
    have K1 := Lib.hid (Kept.of_only ho HBW.out)
    have R1 := Lib.hid hr
    have S1 := Lib.hid (Nat.le_trans HBW.out ho.size)
    clear ho hr
    go_wp2_with (at_builtin; refine wpList_append_own _ rfl (.tmp 82) (.tmp 84) 83 rfl B 5 i0 (.int .u8 0) 1 1 Tryz.underlying83 hi hz0 hz1 hz2 rfl (by decide) (.slice ao m co) m (cellsOf es) rfl (own_with O1.out HM.out _) ⟨w1.heap.size, 0, none⟩ 1 1 (cellsOf [8]) rfl rfl (alloc_row _ [8]) (cellsOf_one _) (by unfold maxLen; omega) (by omega) (by have := S1.out; simp; omega) ?_; intro v2 w2 hown2 hgr2 hne2)
    obtain ⟨g1, g2⟩ := put_one (c := 8) hown2 HM.out O1.out hgr2 S1.out
    have G1 := Lib.hid g1
    have G2 := Lib.hid g2
    clear hown2 hgr2 hne2 g1 g2
    go_wp2
    go_ret2
    exact ⟨_, rfl, G1.out, K1.out.trans (Kept.of_below G2.out), R1.out.below G2.out HRB.out⟩
  · go_enter Tryz.func180, Tryz.ntmps180
    go_wp2_with fail
    refine CN.out.mono ?_
    rintro e w1 ⟨rfl, ho, hr⟩
    have O1 := Lib.hid (HO.out.only ho (fun k hk hb => by have h1 := own_block HO.out k hb; have h2 := HRB.out; simp at hk; omega))
    have K1 := Lib.hid (Kept.of_only ho HBW.out)
    have R1 := Lib.hid hr
    have S1 := Lib.hid (Nat.le_trans HBW.out ho.size)
    clear ho hr
    go_wp2_with (at_builtin; refine wpList_append_own _ rfl (.tmp 82) (.tmp 84) 83 rfl B 5 i0 (.int .u8 0) 1 1 Tryz.underlying83 hi hz0 hz1 hz2 rfl (by decide) (.slice ao m co) m (cellsOf es) rfl (own_with O1.out HM.out _) ⟨w1.heap.size, 0, none⟩ 1 1 (cellsOf [12]) rfl rfl (alloc_row _ [12]) (cellsOf_one _) (by unfold maxLen; omega) (by omega) (by have := S1.out; simp; omega) ?_; intro v2 w2 hown2 hgr2 hne2)
    obtain ⟨g1, g2⟩ := put_one (c := 12) hown2 HM.out O1.out hgr2 S1.out
    have G1 := Lib.hid g1
    have G2 := Lib.hid g2
    clear hown2 hgr2 hne2 g1 g2
    go_wp2
    go_ret2
    exact ⟨_, rfl, G1.out, K1.out.trans (Kept.of_below G2.out), R1.out.below G2.out HRB.out⟩
  · go_enter Tryz.func180, Tryz.ntmps180
    go_wp2_with fail
    refine CN.out.mono ?_
    rintro e w1 ⟨rfl, ho, hr⟩
    have O1 := Lib.hid (HO.out.only ho (fun k hk hb => by have h1 := own_block HO.out k hb; have h2 := HRB.out; simp at hk; omega))
    have K1 := Lib.hid (Kept.of_only ho HBW.out)
    have R1 := Lib.hid hr
    have S1 := Lib.hid (Nat.le_trans HBW.out ho.size)
    clear ho hr
    go_wp2_with (at_builtin; refine wpList_append_own _ rfl (.tmp 82) (.tmp 84) 83 rfl B 5 i0 (.int .u8 0) 1 1 Tryz.underlying83 hi hz0 hz1 hz2 rfl (by decide) (.slice ao m co) m (cellsOf es) rfl (own_with O1.out HM.out _) ⟨w1.heap.size, 0, none⟩ 1 1 (cellsOf [10]) rfl rfl (alloc_row _ [10]) (cellsOf_one _) (by unfold maxLen; omega) (by omega) (by have := S1.out; simp; omega) ?_; intro v2 w2 hown2 hgr2 hne2)
    obtain ⟨g1, g2⟩ := put_one (c := 10) hown2 HM.out O1.out hgr2 S1.out
    have G1 := Lib.hid g1
    have G2 := Lib.hid g2
    clear hown2 hgr2 hne2 g1 g2
    go_wp2
    go_ret2
    exact ⟨_, rfl, G1.out, K1.out.trans (Kept.of_below G2.out), R1.out.below G2.out HRB.out⟩
  · go_enter Tryz.func180, Tryz.ntmps180
    go_wp2_with fail
    refine CN.out.mono ?_
    rintro e w1 ⟨rfl, ho, hr⟩
    have O1 := Lib.hid (HO.out.only ho (fun k hk hb => by have h1 := own_block HO.out k hb; have h2 := HRB.out; simp at hk; omega))
    have K1 := Lib.hid (Kept.of_only ho HBW.out)
    have R1 := Lib.hid hr
    have S1 := Lib.hid (Nat.le_trans HBW.out ho.size)
    clear ho hr
    go_wp2_with (at_builtin; refine wpList_append_own _ rfl (.tmp 82) (.tmp 84) 83 rfl B 5 i0 (.int .u8 0) 1 1 Tryz.underlying83 hi hz0 hz1 hz2 rfl (by decide) (.slice ao m co) m (cellsOf es) rfl (own_with O1.out HM.out _) ⟨w1.heap.size, 0, none⟩ 1 1 (cellsOf [13]) rfl rfl (alloc_row _ [13]) (cellsOf_one _) (by unfold maxLen; omega) (by omega) (by have := S1.out; simp; omega) ?_; intro v2 w2 hown2 hgr2 hne2)
    obtain ⟨g1, g2⟩ := put_one (c := 13) hown2 HM.out O1.out hgr2 S1.out
    have G1 := Lib.hid g1
    have G2 := Lib.hid g2
    clear hown2 hgr2 hne2 g1 g2
    go_wp2
    go_ret2
    exact ⟨_, rfl, G1.out, K1.out.trans (Kept.of_below G2.out), R1.out.below G2.out HRB.out⟩
  · go_enter Tryz.func180, Tryz.ntmps180
    go_wp2_with fail
    refine CN.out.mono ?_
    rintro e w1 ⟨rfl, ho, hr⟩
    have O1 := Lib.hid (HO.out.only ho (fun k hk hb => by have h1 := own_block HO.out k hb; have h2 := HRB.out; simp at hk; omega))
    have K1 := Lib.hid (Kept.of_only ho HBW.out)
    have R1 := Lib.hid hr
    have S1 := Lib.hid (Nat.le_trans HBW.out ho.size)
    clear ho hr
    go_wp2_with (at_builtin; refine wpList_append_own _ rfl (.tmp 82) (.tmp 84) 83 rfl B 5 i0 (.int .u8 0) 1 1 Tryz.underlying83 hi hz0 hz1 hz2 rfl (by decide) (.slice ao m co) m (cellsOf es) rfl (own_with O1.out HM.out _) ⟨w1.heap.size, 0, none⟩ 1 1 (cellsOf [9]) rfl rfl (alloc_row _ [9]) (cellsOf_one _) (by unfold maxLen; omega) (by omega) (by have := S1.out; simp; omega) ?_; intro v2 w2 hown2 hgr2 hne2)
    obtain ⟨g1, g2⟩ := put_one (c := 9) hown2 HM.out O1.out hgr2 S1.out
    have G1 := Lib.hid g1
    have G2 := Lib.hid g2
    clear hown2 hgr2 hne2 g1 g2
    go_wp2
    go_ret2
    exact ⟨_, rfl, G1.out, K1.out.trans (Kept.of_below G2.out), R1.out.below G2.out HRB.out⟩
  · go_enter Tryz.func180, Tryz.ntmps180
    go_wp2_with fail
    refine CN.out.mono ?_
    rintro e w1 ⟨rfl, ho, hr⟩
    have O1 := Lib.hid (HO.out.only ho (fun k hk hb => by have h1 := own_block HO.out k hb; have h2 := HRB.out; simp at hk; omega))
    have K1 := Lib.hid (Kept.of_only ho HBW.out)
    have R1 := Lib.hid hr
    have S1 := Lib.hid (Nat.le_trans HBW.out ho.size)
    clear ho hr
    go_wp2_with (at_builtin; refine wpList_append_own _ rfl (.tmp 82) (.tmp 84) 83 rfl B 5 i0 (.int .u8 0) 1 1 Tryz.underlying83 hi hz0 hz1 hz2 rfl (by decide) (.slice ao m co) m (cellsOf es) rfl (own_with O1.out HM.out _) ⟨w1.heap.size, 0, none⟩ 1 1 (cellsOf [11]) rfl rfl (alloc_row _ [11]) (cellsOf_one _) (by unfold maxLen; omega) (by omega) (by have := S1.out; simp; omega) ?_; intro v2 w2 hown2 hgr2 hne2)
    obtain ⟨g1, g2⟩ := put_one (c := 11) hown2 HM.out O1.out hgr2 S1.out
    have G1 := Lib.hid g1
    have G2 := Lib.hid g2
    clear hown2 hgr2 hne2 g1 g2
    go_wp2
    go_ret2
    exact ⟨_, rfl, G1.out, K1.out.trans (Kept.of_below G2.out), R1.out.below G2.out HRB.out⟩
set_option maxRecDepth 100000 in
set_option maxHeartbeats 4000000 in
theorem escape_hex (R B : Nat) (bs : List Nat) (p c d : Nat) (b : Value) (es : List Nat) (hB : IsB bs) (hl : bs.length ≤ 200000) (hx : bs[p]? = some 120) (hc : bs[p + 1]? = some c) (hd : bs[p + 2]? = some d) (h1 : hexV c < 16) (h2 : hexV d < 16)
    (hes : es.length ≤ 200000) (hRB : R < B) (w : World) (hBw : B ≤ w.heap.size) (H : Rd w R bs p) (HO : Own w B b es) :
    Calls Tryz.prog 180 #[.pointer (some ⟨R, 0, none⟩), b] w (EscPost R B bs (p + 3) (es ++ [dvl 16 [c, d]]) w) := by
  obtain ⟨ao, co, rfl⟩ := own_shape HO
  have CN := Lib.hid (next_at R bs p 120 hB hx hl w H)
  have hd16 : ∀ x ∈ [c, d], hexV x < 16 := by simp; exact ⟨h1, h2⟩
  have hlt := dvl_lt 16 [c, d] hd16
  have CB := Lib.hid (fun (w1 : World) (hBw : B ≤ w1.heap.size) (H : Rd w1 R bs (p + 1)) (HO : Own w1 B (.slice ao es.length co) es) => byteof_ok R B bs (p + 1) 2 16 (.slice ao es.length co) es [c, d] hB hl (by decide) (by decide) rfl (fun k x hk => by
    match k, hk with
    | 0, hk => cases hk; exact hc
    | 1, hk => cases hk; exact hd
    | k + 2, hk => simp at hk) hd16 (by simp at hlt; omega) hes hRB w1 hBw H HO)
  have HO := Lib.hid HO
  have HRB := Lib.hid hRB
  have HBW := Lib.hid hBw
  obtain ⟨v, hv⟩ : ∃ v, dvl 16 [c, d] = v := ⟨_, rfl⟩
  rw [hv] at CB ⊢
  obtain ⟨m, hm⟩ : ∃ m, es.length = m := ⟨_, rfl⟩
  rw [hm] at CB HO ⊢
  clear hRB hBw hB hl hx hc hd h1 h2 H hlt hd16 hv hm hes
  go_enter Tryz.func180, Tryz.ntmps180
  go_wp2_with fail
  refine CN.out.mono ?_
  rintro e w1 ⟨rfl, ho, hr⟩
  have O1 := HO.out.only ho (fun k hk hb => by have h1 := own_block HO.out k hb; have h2 := HRB.out; simp at hk; omega)
  have K1 := Lib.hid (Kept.of_only (B := B) ho HBW.out)
  have CB2 := Lib.hid (CB.out w1 (Nat.le_trans HBW.out ho.size) hr O1)
  clear ho hr O1
  go_wp2_with fail
  refine CB2.out.mono ?_
  rintro e w2 ⟨v2, rfl, g1, g2, g3⟩
  have G1 := Lib.hid g1
  have G2 := Lib.hid g2
  have G3 := Lib.hid g3
  clear g1 g2 g3
  go_wp2
  go_ret2
  exact ⟨_, rfl, G1.out, K1.out.trans G2.out, G3.out⟩
theorem escape_ok (R B : Nat) (bs : List Nat) (p p' : Nat) (b : Value) (es xs : List Nat) (hB : IsB bs) (hl : bs.length ≤ 200000) (hx : Esc bs p xs p') (hes : es.length ≤ 200000) (hRB : R < B) (w : World) (hBw : B ≤ w.heap.size) (H : Rd w R bs p) (HO : Own w B b es) :
    Calls Tryz.prog 180 #[.pointer (some ⟨R, 0, none⟩), b] w (EscPost R B bs p' (es ++ xs) w) := by
  cases hx with
  | simple c v h1 h2 => exact escape_simple R B bs p c v b es hB hl h1 h2 hes hRB w hBw H HO
  | hex c d h1 h2 h3 h4 h5 => exact escape_hex R B bs p c d b es hB hl h1 h2 h3 h4 h5 hes hRB w hBw H HO
/-- a step between the quotes q -/
inductive Tok (q : Nat) (bs : List Nat) (p : Nat) : List Nat → Nat → Prop
  | plain (c : Nat) : bs[p]? = some c → c ≠ q → (q ≠ 96 → c ≠ 10 ∧ c ≠ 92) → Tok q bs p [c] (p + 1)
  | esc (xs : List Nat) (p' : Nat) : q ≠ 96 → q ≠ 92 → bs[p]? = some 92 → Esc bs (p + 1) xs p' → Tok q bs p xs p'
inductive Toks (q : Nat) (bs : List Nat) : Nat → List Nat → Nat → Prop
  | nil (p : Nat) : bs[p]? = some q → Toks q bs p [] p
  | cons (p p' pe : Nat) (xs ys : List Nat) : Tok q bs p xs p' → Toks q bs p' ys pe → Toks q bs p (xs ++ ys) pe
theorem Esc.far {bs : List Nat} {p p' : Nat} {xs : List Nat} (h : Esc bs p xs p') : p < p' ∧ p' ≤ bs.length ∧ xs.length ≤ p' - p := by
  cases h with
  | simple c v h1 h2 => have := (List.getElem?_eq_some_iff.1 h1).1; simp; omega
  | hex c d h1 h2 h3 h4 h5 => have := (List.getElem?_eq_some_iff.1 h3).1; simp; omega
theorem Tok.far {q : Nat} {bs : List Nat} {p p' : Nat} {xs : List Nat} (h : Tok q bs p xs p') : p < p' ∧ p' ≤ bs.length ∧ xs.length ≤ p' - p := by
  cases h with
  | plain c h1 h2 h3 => have := (List.getElem?_eq_some_iff.1 h1).1; simp; omega
  | esc xs p' h1 h2 h3 h4 => have := h4.far; omega
theorem Toks.le {q : Nat} {bs : List Nat} {p pe : Nat} {xs : List Nat} (h : Toks q bs p xs pe) : p ≤ pe := by
  induction h with
  | nil p h => exact Nat.le_refl _
  | cons p p' pe xs ys h1 h2 ih => have := h1.far; omega
theorem Toks.lt {q : Nat} {bs : List Nat} {p pe : Nat} {xs : List Nat} (h : Toks q bs p xs pe) : pe < bs.length := by
  induction h with
  | nil p h => exact (List.getElem?_eq_some_iff.1 h).1
  | cons p p' pe xs ys h1 h2 ih => exact ih
set_option maxRecDepth 100000 in
set_option maxHeartbeats 4000000 in
theorem quoted_ok (R : Nat) (bs : List Nat) (q pe : Nat) (out : List Nat) (hB : IsB bs) (hl : bs.length ≤ 200000) (hq : q = 34 ∨ q = 39 ∨ q = 96) (h0 : bs[0]? = some q) (ht : Toks q bs 1 out pe) (w : World) (H : Rd w R bs 0) :
    Calls Tryz.prog 167 #[.pointer (some ⟨R, 0, none⟩)] w fun e w' => ∃ v, e = .returned (.tuple #[v, .nilIface]) ∧ Own w' w.heap.size v out ∧ Kept w.heap.size R w w' ∧ Rd w' R bs (pe + 1) := by
  obtain ⟨i0, hi, hz0, hz1, hz2⟩ := info_parts info5
  have HRB := Lib.hid H.lt
  have CN := Lib.hid (next_at R bs 0 q hB h0 hl w H)
  have CX := Lib.hid (fun (q c : Nat) (hc : bs[q]? = some c) w H => next_at R bs q c hB hc hl w H)
  have CE := Lib.hid (fun (p p' : Nat) (b : Value) (es xs : List Nat) (hx : Esc bs p xs p') (hes : es.length ≤ 200000) (w1 : World) (hBw : w.heap.size ≤ w1.heap.size) (H1 : Rd w1 R bs p) (HO : Own w1 w.heap.size b es) => escape_ok R w.heap.size bs p p' b es xs hB hl hx hes H.lt w1 hBw H1 HO)
  have HB := Lib.hid hB
  have HT := Lib.hid ht
  have hq1 : (((q : Int) != 34 && (q : Int) != 39) && (q : Int) != 96) = false := by rcases hq with rfl | rfl | rfl <;> rfl
  have HQ := Lib.hid hq
  clear h0 ht H hB
  obtain ⟨B, hBs⟩ : ∃ B, w.heap.size = B := ⟨_, rfl⟩
  rw [hBs] at CE HRB ⊢
  have HBS := Lib.hid hBs
  clear hBs
  rcases HQ.out with rfl | rfl | rfl
  · go_enter Tryz.func167, Tryz.ntmps167
    go_wp2_with fail
    refine CN.out.mono ?_
    rintro e w0 ⟨rfl, ho, hr⟩
    have K0 := Lib.hid (Kept.of_only (B := B) ho (Nat.le_of_eq HBS.out.symm))
    have R0 := Lib.hid hr
    clear ho hr
    go_wp2
    go_loopw [6] (fun b wr => ∃ (p : Nat) (es ys : List Nat), Hid (Toks 34 bs p ys pe) ∧ p ≤ pe ∧ pe < bs.length ∧ Hid (es.length ≤ p ∧ es ++ ys = out) ∧ Hid (Own wr B b es) ∧ Hid (Kept B R w wr) ∧ Hid (Rd wr R bs p)) (fun _ wr => match wr.cell? ⟨R, 1, none⟩ with | some v => (pe + 1 - intOf v).toNat | none => 0)
    case atStart => exact ⟨1, [], out, HT, HT.out.le, HT.out.lt, Lib.hid ⟨by simp, rfl⟩, Lib.hid (Own.nil _ _), K0, R0⟩
    case round =>
      obtain ⟨p, es, ys, HTK, hp1, hp2, HE, HO, HK, HR⟩ := hrel
      have HW := Lib.hid (show B ≤ wr.heap.size by have h1 := HK.out.size; have h2 := HBS.out; omega)
      obtain ⟨ao, co, rfl⟩ := own_shape HO.out
      have hms : wr.cell? ⟨R, 1, none⟩ = some (.int .i64 ((p : Nat) : Int)) := HR.out.c1
      have hes := HE.out.1
      obtain ⟨m, hm⟩ : ∃ m, es.length = m := ⟨_, rfl⟩
      have HM := Lib.hid hm
      rw [hm] at HO hes ⊢
      clear hm
      cases HTK.out with
      | nil _ hpe =>
        have CP := Lib.hid (CX.out pe 34 hpe wr HR.out)
        have HEE := Lib.hid (show es = out by have := HE.out.2; simpa using this)
        clear hpe
        go_wp2_with fail
        refine CP.out.mono ?_
        rintro e w1 ⟨rfl, ho, hr⟩
        have K1 := Lib.hid (HK.out.trans (Kept.of_only (B := B) ho HW.out))
        have O1 := Lib.hid (HO.out.only ho (fun k hk hb => by have h1 := own_block HO.out k hb; have h2 := HRB.out; simp at hk; omega))
        have R1 := Lib.hid hr
        clear ho hr
        go_wp2
        go_ret2
        exact ⟨_, rfl, by rw [← HEE.out]; exact O1.out, K1.out, R1.out⟩
      | cons _ p' _ xs zs htok htoks =>
        have HTT := Lib.hid htoks
        have hfar := htok.far
        have hle := htoks.le
        have hle2 := htoks.lt
        cases htok with
        | plain c hc hcq hc2 =>
          have CP := Lib.hid (CX.out p c hc wr HR.out)
          have hc256 := at_isB HB.out hc
          have n1 : ((c : Int) == 34) = false := by simp; omega
          obtain ⟨hc10, hc92⟩ := hc2 (by decide)
          have n2 : ((c : Int) == 10) = false := by simp; omega
          have n3 : ((c : Int) == 92) = false := by simp; omega
          clear hc hc2 hfar
          go_wp2_with fail
          refine CP.out.mono ?_
          rintro e w1 ⟨rfl, ho, hr⟩
          have K1 := Lib.hid (HK.out.trans (Kept.of_only (B := B) ho HW.out))
          have O1 := Lib.hid (HO.out.only ho (fun k hk hb => by have h1 := own_block HO.out k hb; have h2 := HRB.out; simp at hk; omega))
          have R1 := Lib.hid hr
          have S1 := Lib.hid (Nat.le_trans HW.out ho.size)
          clear ho hr
          go_wp2_with (at_builtin; refine wpList_append_own _ rfl (.tmp 40) (.tmp 42) 83 rfl B 5 i0 (.int .u8 0) 1 1 Tryz.underlying83 hi hz0 hz1 hz2 rfl (by decide) (.slice ao m co) m (cellsOf es) rfl (own_with O1.out HM.out _) ⟨w1.heap.size, 0, none⟩ 1 1 (cellsOf [c]) rfl rfl (alloc_row _ [c]) (cellsOf_one _) (by unfold maxLen; omega) (by omega) (by have := S1.out; simp; omega) ?_; intro v2 w2 hown2 hgr2 hne2)
          obtain ⟨g1, g2⟩ := put_one (c := c) hown2 HM.out O1.out hgr2 S1.out
          have G1 := Lib.hid g1
          have G2 := Lib.hid (K1.out.trans (Kept.of_below g2))
          have G3 := Lib.hid (R1.out.below g2 HRB.out)
          have hms2 : w2.cell? ⟨R, 1, none⟩ = some (.int .i64 ((p + 1 : Nat) : Int)) := G3.out.c1
          clear hown2 hgr2 hne2 g1 g2
          go_wp2
          go_roundw
          case rel => exact ⟨p + 1, es ++ [c], zs, HTT, hle, hle2, Lib.hid ⟨by rw [List.length_append, HM.out, List.length_singleton]; omega, by rw [List.append_assoc]; exact HE.out.2⟩, G1, G2, G3⟩
          case measure => rw [hms, hms2]; simp [intOf]; omega
        | esc _ _ hq96 hq92 h92 hesc =>
          have hf2 := hesc.far
          have CP := Lib.hid (CX.out p 92 h92 wr HR.out)
          have CEE := Lib.hid (fun (w1 : World) (hBw : B ≤ w1.heap.size) (H1 : Rd w1 R bs (p + 1)) (HO1 : Own w1 B (.slice ao es.length co) es) => CE.out (p + 1) p' (.slice ao es.length co) es xs hesc (by rw [HM.out]; omega) w1 hBw H1 HO1)
          rw [HM.out] at CEE
          have HXL := Lib.hid (show m + xs.length ≤ p' by omega)
          have HPP := Lib.hid (show p < p' by omega)
          clear h92 hesc hf2 hfar
          go_wp2_with fail
          refine CP.out.mono ?_
          rintro e w1 ⟨rfl, ho, hr⟩
          have K1 := Lib.hid (HK.out.trans (Kept.of_only (B := B) ho HW.out))
          have O1 := HO.out.only ho (fun k hk hb => by have h1 := own_block HO.out k hb; have h2 := HRB.out; simp at hk; omega)
          have CE2 := Lib.hid (CEE.out w1 (Nat.le_trans HW.out ho.size) hr O1)
          clear ho hr O1
          go_wp2_with fail
          refine CE2.out.mono ?_
          rintro e w2 ⟨v2, rfl, g1, g2, g3⟩
          have G1 := Lib.hid g1
          have G2 := Lib.hid (K1.out.trans g2)
          have G3 := Lib.hid g3
          have hms2 : w2.cell? ⟨R, 1, none⟩ = some (.int .i64 ((p' : Nat) : Int)) := G3.out.c1
          clear g1 g2 g3
          go_wp2
          go_roundw
          case rel => exact ⟨p', es ++ xs, zs, HTT, hle, hle2, Lib.hid ⟨by rw [List.length_append, HM.out]; exact HXL.out, by rw [List.append_assoc]; exact HE.out.2⟩, G1, G2, G3⟩
          case measure => have := HPP.out; rw [hms, hms2]; simp [intOf]; omega
  · go_enter Tryz.func167, Tryz.ntmps167
    go_wp2_with fail
    refine CN.out.mono ?_
    rintro e w0 ⟨rfl, ho, hr⟩
    have K0 := Lib.hid (Kept.of_only (B := B) ho (Nat.le_of_eq HBS.out.symm))
    have R0 := Lib.hid hr
    clear ho hr
    go_wp2
    go_loopw [6] (fun b wr => ∃ (p : Nat) (es ys : List Nat), Hid (Toks 39 bs p ys pe) ∧ p ≤ pe ∧ pe < bs.length ∧ Hid (es.length ≤ p ∧ es ++ ys = out) ∧ Hid (Own wr B b es) ∧ Hid (Kept B R w wr) ∧ Hid (Rd wr R bs p)) (fun _ wr => match wr.cell? ⟨R, 1, none⟩ with | some v => (pe + 1 - intOf v).toNat | none => 0)
    case atStart => exact ⟨1, [], out, HT, HT.out.le, HT.out.lt, Lib.hid ⟨by simp, rfl⟩, Lib.hid (Own.nil _ _), K0, R0⟩
    case round =>
      obtain ⟨p, es, ys, HTK, hp1, hp2, HE, HO, HK, HR⟩ := hrel
      have HW := Lib.hid (show B ≤ wr.heap.size by have h1 := HK.out.size; have h2 := HBS.out; omega)
      obtain ⟨ao, co, rfl⟩ := own_shape HO.out
      have hms : wr.cell? ⟨R, 1, none⟩ = some (.int .i64 ((p : Nat) : Int)) := HR.out.c1
      have hes := HE.out.1
      obtain ⟨m, hm⟩ : ∃ m, es.length = m := ⟨_, rfl⟩
      have HM := Lib.hid hm
      rw [hm] at HO hes ⊢
      clear hm
      cases HTK.out with
      | nil _ hpe =>
        have CP := Lib.hid (CX.out pe 39 hpe wr HR.out)
        have HEE := Lib.hid (show es = out by have := HE.out.2; simpa using this)
        clear hpe
        go_wp2_with fail
        refine CP.out.mono ?_
        rintro e w1 ⟨rfl, ho, hr⟩
        have K1 := Lib.hid (HK.out.trans (Kept.of_only (B := B) ho HW.out))
        have O1 := Lib.hid (HO.out.only ho (fun k hk hb => by have h1 := own_block HO.out k hb; have h2 := HRB.out; simp at hk; omega))
        have R1 := Lib.hid hr
        clear ho hr
        go_wp2
        go_ret2
        exact ⟨_, rfl, by rw [← HEE.out]; exact O1.out, K1.out, R1.out⟩
      | cons _ p' _ xs zs htok htoks =>
        have HTT := Lib.hid htoks
        have hfar := htok.far
        have hle := htoks.le
        have hle2 := htoks.lt
        cases htok with
        | plain c hc hcq hc2 =>
          have CP := Lib.hid (CX.out p c hc wr HR.out)
          have hc256 := at_isB HB.out hc
          have n1 : ((c : Int) == 39) = false := by simp; omega
          obtain ⟨hc10, hc92⟩ := hc2 (by decide)
          have n2 : ((c : Int) == 10) = false := by simp; omega
          have n3 : ((c : Int) == 92) = false := by simp; omega
          clear hc hc2 hfar
          go_wp2_with fail
          refine CP.out.mono ?_
          rintro e w1 ⟨rfl, ho, hr⟩
          have K1 := Lib.hid (HK.out.trans (Kept.of_only (B := B) ho HW.out))
          have O1 := Lib.hid (HO.out.only ho (fun k hk hb => by have h1 := own_block HO.out k hb; have h2 := HRB.out; simp at hk; omega))
          have R1 := Lib.hid hr
          have S1 := Lib.hid (Nat.le_trans HW.out ho.size)
          clear ho hr
          go_wp2_with (at_builtin; refine wpList_append_own _ rfl (.tmp 40) (.tmp 42) 83 rfl B 5 i0 (.int .u8 0) 1 1 Tryz.underlying83 hi hz0 hz1 hz2 rfl (by decide) (.slice ao m co) m (cellsOf es) rfl (own_with O1.out HM.out _) ⟨w1.heap.size, 0, none⟩ 1 1 (cellsOf [c]) rfl rfl (alloc_row _ [c]) (cellsOf_one _) (by unfold maxLen; omega) (by omega) (by have := S1.out; simp; omega) ?_; intro v2 w2 hown2 hgr2 hne2)
          obtain ⟨g1, g2⟩ := put_one (c := c) hown2 HM.out O1.out hgr2 S1.out
          have G1 := Lib.hid g1
          have G2 := Lib.hid (K1.out.trans (Kept.of_below g2))
          have G3 := Lib.hid (R1.out.below g2 HRB.out)
          have hms2 : w2.cell? ⟨R, 1, none⟩ = some (.int .i64 ((p + 1 : Nat) : Int)) := G3.out.c1
          clear hown2 hgr2 hne2 g1 g2
          go_wp2
          go_roundw
          case rel => exact ⟨p + 1, es ++ [c], zs, HTT, hle, hle2, Lib.hid ⟨by rw [List.length_append, HM.out, List.length_singleton]; omega, by rw [List.append_assoc]; exact HE.out.2⟩, G1, G2, G3⟩
          case measure => rw [hms, hms2]; simp [intOf]; omega
        | esc _ _ hq96 hq92 h92 hesc =>
          have hf2 := hesc.far
          have CP := Lib.hid (CX.out p 92 h92 wr HR.out)
          have CEE := Lib.hid (fun (w1 : World) (hBw : B ≤ w1.heap.size) (H1 : Rd w1 R bs (p + 1)) (HO1 : Own w1 B (.slice ao es.length co) es) => CE.out (p + 1) p' (.slice ao es.length co) es xs hesc (by rw [HM.out]; omega) w1 hBw H1 HO1)
          rw [HM.out] at CEE
          have HXL := Lib.hid (show m + xs.length ≤ p' by omega)
          have HPP := Lib.hid (show p < p' by omega)
          clear h92 hesc hf2 hfar
          go_wp2_with fail
          refine CP.out.mono ?_
          rintro e w1 ⟨rfl, ho, hr⟩
          have K1 := Lib.hid (HK.out.trans (Kept.of_only (B := B) ho HW.out))
          have O1 := HO.out.only ho (fun k hk hb => by have h1 := own_block HO.out k hb; have h2 := HRB.out; simp at hk; omega)
          have CE2 := Lib.hid (CEE.out w1 (Nat.le_trans HW.out ho.size) hr O1)
          clear ho hr O1
          go_wp2_with fail
          refine CE2.out.mono ?_
          rintro e w2 ⟨v2, rfl, g1, g2, g3⟩
          have G1 := Lib.hid g1
          have G2 := Lib.hid (K1.out.trans g2)
          have G3 := Lib.hid g3
          have hms2 : w2.cell? ⟨R, 1, none⟩ = some (.int .i64 ((p' : Nat) : Int)) := G3.out.c1
          clear g1 g2 g3
          go_wp2
          go_roundw
          case rel => exact ⟨p', es ++ xs, zs, HTT, hle, hle2, Lib.hid ⟨by rw [List.length_append, HM.out]; exact HXL.out, by rw [List.append_assoc]; exact HE.out.2⟩, G1, G2, G3⟩
          case measure => have := HPP.out; rw [hms, hms2]; simp [intOf]; omega
  · go_enter Tryz.func167, Tryz.ntmps167
    go_wp2_with fail
    refine CN.out.mono ?_
    rintro e w0 ⟨rfl, ho, hr⟩
    have K0 := Lib.hid (Kept.of_only (B := B) ho (Nat.le_of_eq HBS.out.symm))
    have R0 := Lib.hid hr
    clear ho hr
    go_wp2
    go_loopw [6] (fun b wr => ∃ (p : Nat) (es ys : List Nat), Hid (Toks 96 bs p ys pe) ∧ p ≤ pe ∧ pe < bs.length ∧ Hid (es.length ≤ p ∧ es ++ ys = out) ∧ Hid (Own wr B b es) ∧ Hid (Kept B R w wr) ∧ Hid (Rd wr R bs p)) (fun _ wr => match wr.cell? ⟨R, 1, none⟩ with | some v => (pe + 1 - intOf v).toNat | none => 0)
    case atStart => exact ⟨1, [], out, HT, HT.out.le, HT.out.lt, Lib.hid ⟨by simp, rfl⟩, Lib.hid (Own.nil _ _), K0, R0⟩
    case round =>
      obtain ⟨p, es, ys, HTK, hp1, hp2, HE, HO, HK, HR⟩ := hrel
      have HW := Lib.hid (show B ≤ wr.heap.size by have h1 := HK.out.size; have h2 := HBS.out; omega)
      obtain ⟨ao, co, rfl⟩ := own_shape HO.out
      have hms : wr.cell? ⟨R, 1, none⟩ = some (.int .i64 ((p : Nat) : Int)) := HR.out.c1
      have hes := HE.out.1
      obtain ⟨m, hm⟩ : ∃ m, es.length = m := ⟨_, rfl⟩
      have HM := Lib.hid hm
      rw [hm] at HO hes ⊢
      clear hm
      cases HTK.out with
      | nil _ hpe =>
        have CP := Lib.hid (CX.out pe 96 hpe wr HR.out)
        have HEE := Lib.hid (show es = out by have := HE.out.2; simpa using this)
        clear hpe
        go_wp2_with fail
        refine CP.out.mono ?_
        rintro e w1 ⟨rfl, ho, hr⟩
        have K1 := Lib.hid (HK.out.trans (Kept.of_only (B := B) ho HW.out))
        have O1 := Lib.hid (HO.out.only ho (fun k hk hb => by have h1 := own_block HO.out k hb; have h2 := HRB.out; simp at hk; omega))
        have R1 := Lib.hid hr
        clear ho hr
        go_wp2
        go_ret2
        exact ⟨_, rfl, by rw [← HEE.out]; exact O1.out, K1.out, R1.out⟩
      | cons _ p' _ xs zs htok htoks =>
        have HTT := Lib.hid htoks
        have hfar := htok.far
        have hle := htoks.le
        have hle2 := htoks.lt
        cases htok with
        | plain c hc hcq hc2 =>
          have CP := Lib.hid (CX.out p c hc wr HR.out)
          have hc256 := at_isB HB.out hc
          have n1 : ((c : Int) == 96) = false := by simp; omega
          clear hc hc2 hfar
          go_wp2_with fail
          refine CP.out.mono ?_
          rintro e w1 ⟨rfl, ho, hr⟩
          have K1 := Lib.hid (HK.out.trans (Kept.of_only (B := B) ho HW.out))
          have O1 := Lib.hid (HO.out.only ho (fun k hk hb => by have h1 := own_block HO.out k hb; have h2 := HRB.out; simp at hk; omega))
          have R1 := Lib.hid hr
          have S1 := Lib.hid (Nat.le_trans HW.out ho.size)
          clear ho hr
          go_wp2_with (at_builtin; refine wpList_append_own _ rfl (.tmp 56) (.tmp 58) 83 rfl B 5 i0 (.int .u8 0) 1 1 Tryz.underlying83 hi hz0 hz1 hz2 rfl (by decide) (.slice ao m co) m (cellsOf es) rfl (own_with O1.out HM.out _) ⟨w1.heap.size, 0, none⟩ 1 1 (cellsOf [c]) rfl rfl (alloc_row _ [c]) (cellsOf_one _) (by unfold maxLen; omega) (by omega) (by have := S1.out; simp; omega) ?_; intro v2 w2 hown2 hgr2 hne2)
          obtain ⟨g1, g2⟩ := put_one (c := c) hown2 HM.out O1.out hgr2 S1.out
          have G1 := Lib.hid g1
          have G2 := Lib.hid (K1.out.trans (Kept.of_below g2))
          have G3 := Lib.hid (R1.out.below g2 HRB.out)
          have hms2 : w2.cell? ⟨R, 1, none⟩ = some (.int .i64 ((p + 1 : Nat) : Int)) := G3.out.c1
          clear hown2 hgr2 hne2 g1 g2
          go_wp2
          go_roundw
          case rel => exact ⟨p + 1, es ++ [c], zs, HTT, hle, hle2, Lib.hid ⟨by rw [List.length_append, HM.out, List.length_singleton]; omega, by rw [List.append_assoc]; exact HE.out.2⟩, G1, G2, G3⟩
          case measure => rw [hms, hms2]; simp [intOf]; omega
        | esc _ _ hq96 hq92 h92 hesc =>
          exact absurd rfl hq96
end Go.Proofs.YtiolghcjndoigaaGreatDoor
