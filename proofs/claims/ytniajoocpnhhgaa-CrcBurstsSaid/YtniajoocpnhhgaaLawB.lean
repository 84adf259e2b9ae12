/-
  THE WALK of the statement CrcPieces.
-/
import Derived.Test.YtniajoocpnhhgaaOpen
namespace Go.Proofs.Ytniajoocpnhhgaa
open Go.RowKit
/-- the first k pieces, one behind the other -/
def cat (F : Nat → List Nat) : Nat → List Nat
  | 0 => []
  | k + 1 => cat F k ++ F k
theorem cat_succ (F : Nat → List Nat) (k : Nat) : cat F (k + 1) = cat F k ++ F k := rfl
theorem cat_len (F : Nat → List Nat) (k : Nat) : (cat F (k + 1)).length = (cat F k).length + (F k).length := by rw [cat_succ, List.length_append]
theorem cat_lt {F : Nat → List Nat} {n : Nat} (h : ∀ r, r < n → ∀ c ∈ F r, c < 256) : ∀ k, k ≤ n → ∀ c ∈ cat F k, c < 256
  | 0, _, c, hc => absurd hc (by simp [cat])
  | k + 1, hk, c, hc => by
    rw [cat_succ, List.mem_append] at hc
    rcases hc with hc | hc
    · exact cat_lt h k (by omega) c hc
    · exact h k (by omega) c hc
theorem cat_le (F : Nat → List Nat) {k n : Nat} (h : k ≤ n) : (cat F k).length ≤ (cat F n).length := by
  induction n with
  | zero => obtain rfl : k = 0 := by omega
            exact Nat.le_refl _
  | succ n ih =>
    by_cases e : k = n + 1
    · subst e; exact Nat.le_refl _
    · have := ih (by omega); rw [cat_len]; omega
/-- a slice of slices of bytes that came in -/
def Rws (w : World) (a : Option Addr) (n : Nat) (A : Nat → Option Addr) (F : Nat → List Nat) (C : Nat → Nat) : Prop :=
  (∀ r, r < n → Bys w (A r) (F r) ∧ (A r = none → C r = 0)) ∧
  (0 < n → ∃ b off, a = some ⟨b, off, none⟩ ∧ b < w.heap.size ∧ ∀ r, r < n → w.cell? ⟨b, off + r, none⟩ = some (.slice (A r) (F r).length (C r)))
theorem Rws.below {w w' : World} {a : Option Addr} {n : Nat} {A : Nat → Option Addr} {F : Nat → List Nat} {C : Nat → Nat} (h : Rws w a n A F C) (hb : Below w.heap.size w w') : Rws w' a n A F C := by
  refine ⟨fun r hr => ⟨(h.1 r hr).1.below hb, (h.1 r hr).2⟩, fun hn => ?_⟩
  obtain ⟨b, off, e, hlt, hc⟩ := h.2 hn
  exact ⟨b, off, e, Nat.lt_of_lt_of_le hlt hb.size, fun r hr => (hb.cell (p := ⟨b, off + r, none⟩) hlt).trans (hc r hr)⟩
theorem owns_bytes {w : World} {base : Nat} {v : Value} {bs : List Nat} (h : w.ownsRow base 5 1 v bs.length (cellsOf bs)) (h8 : ∀ c ∈ bs, c < 256) (hl : bs.length ≤ maxLen) : ∃ a cap, v = .slice a bs.length cap ∧ Bys w a bs := by
  rcases h.2 with ⟨rfl, h0⟩ | ⟨g, cap, cur, rfl, _, hg, _, _, _, ht⟩
  · have : bs = [] := List.length_eq_zero_iff.1 h0
    subst this
    exact ⟨none, 0, rfl, nil_bytes _ _⟩
  · refine ⟨some ⟨g, 0, none⟩, cap, rfl, hl, h8, fun _ => ⟨g, 0, rfl, (Array.getElem?_eq_some_iff.1 hg).1, fun i hi => ?_⟩⟩
    rw [Nat.zero_add, cell_of_row _ _ _ _ _ _ hg]
    have h1 : (cellsOf bs)[i]? = cur.toList[i]? := by rw [← ht, List.getElem?_take, if_pos (by omega)]
    rw [← Array.getElem?_toList, ← h1]
    simp [cellsOf, hi]
theorem grown_below_own {B : Nat} {w0 w w' : World} {v : Value} {n : Nat} {xs : List Value} (h : Below B w0 w) (hown : w.ownsRow B 5 1 v n xs) (hg : w.grownBy w' v.ownBlock) (hB : B ≤ w.heap.size) : Below B w0 w' :=
  h.grown hg hB (fun k hk => (hown.lt k hk).1)
theorem owns_below {w w' : World} {base : Nat} {v : Value} {n : Nat} {xs : List Value} (h : w.ownsRow base 5 1 v n xs) (hb : Below w.heap.size w w') : w'.ownsRow base 5 1 v n xs := by
  refine ⟨h.1, ?_⟩
  rcases h.2 with h0 | ⟨g, cap, cur, hv, hbg, hg, r⟩
  · exact .inl h0
  · exact .inr ⟨g, cap, cur, hv, hbg, (hb.block g (Array.getElem?_eq_some_iff.1 hg).1).trans hg, r⟩
theorem cells_app (l m : List Nat) : cellsOf l ++ cellsOf m = cellsOf (l ++ m) := by simp [cellsOf]
set_option maxHeartbeats 1000000 in
theorem pieces_law (a : Option Addr) (n cap : Nat) (A : Nat → Option Addr) (F : Nat → List Nat) (C : Nat → Nat) (w : World) (H : Rws w a n A F C) (hn : n ≤ 140737488351232) (hF : ∀ r, r < n → (F r).length ≤ 140737488351232) :
    Calls Try.prog 4 #[.slice a n cap] w fun e w' => e = .returned (.bool true) ∧ Below w.heap.size w w' := by
  have HF := Lib.hid hF
  have HW := Lib.hid H
  clear hF H
  go_enter Try.func4, Try.ntmps4
  go_wp2
  go_loop [3, 4] (fun t i => ∃ k : Nat, k ≤ n ∧ i = .int .i64 k ∧ t = .int .i64 ((n + (cat F k).length : Nat) : Int)) (fun _ i => n - (intOf i).toNat)
  case atStart => exact ⟨0, Nat.zero_le _, rfl, rfl⟩
  case round =>
    obtain ⟨k, hk, rfl, rfl⟩ := hrel
    by_cases hlt : k < n
    · have hf := HF.out k hlt
      obtain ⟨b, off, rfl, hb, hc⟩ := HW.out.2 (by omega)
      have hcell := hc k hlt
      clear hc
      by_cases hsm : n + (cat F k).length ≤ 100000
      · have HL := Lib.hid (cat_len F k)
        go_wp2
        go_round
        case rel => exact ⟨k + 1, by omega, by go_num, by rw [HL.out]; go_num⟩
        case measure => simp [intOf]; omega
      · go_wp2
        go_ret
        exact ⟨rfl, Below.refl _ _⟩
    · obtain rfl : k = n := by omega
      by_cases hsm : k + (cat F k).length ≤ 100000
      · have hd : decide ((100000 : Int) < (k : Int) + ((cat F k).length : Int)) = false := by simp; omega
        obtain ⟨i0, hi, hz0, hz1, hz2⟩ := info_parts info5
        have H8 : Hid (∀ r, r < k → ∀ c ∈ F r, c < 256) := Lib.hid fun r hr => ((HW.out.1 r hr).1).2.1
        go_wp2_with fail
        refine (sum_any none [] 0 _ (nil_bytes _ _)).mono ?_
        rintro e w1 ⟨rfl, hb1⟩
        have HB1 := Lib.hid hb1
        clear hb1
        go_wp2
        go_loopw [5, 6, 7] (fun v s i wr => ∃ m : Nat, m ≤ k ∧ i = .int .i64 m ∧ s = .int .u32 (Crc.More 0 (cat F m) : Nat) ∧ Hid (wr.ownsRow w.heap.size 5 1 v (cat F m).length (cellsOf (cat F m))) ∧ Hid (Below w.heap.size w wr)) (fun _ _ i _ => k - (intOf i).toNat)
        case atStart => exact ⟨0, Nat.zero_le _, rfl, rfl, Lib.hid (World.ownsRow_nil _ _ _ _), HB1⟩
        case round =>
          obtain ⟨m, hm, rfl, rfl, HO, HB⟩ := hrel
          by_cases hl2 : m < k
          · have hown := HO.out
            have hBs : w.heap.size ≤ wr.heap.size := HB.out.size
            obtain ⟨b, off, rfl, hb, hc⟩ := HW.out.2 (by omega)
            have HCW := Lib.hid (hc m hl2)
            have hcell := (HB.out.cell (p := ⟨b, off + m, none⟩) hb).trans (hc m hl2)
            have hrow := HW.out.1 m hl2
            have HL := Lib.hid (cat_le F (show m + 1 ≤ k from hl2))
            have HLm := Lib.hid (cat_len F m)
            have HM := Lib.hid (Crc.More_append 0 (cat F m) (F m) (fun c hc => Nat.lt_of_lt_of_le (cat_lt H8.out m (by omega) c hc) (by decide)))
            have hlt2 := Crc.More_lt 0 (cat F m)
            clear hc HO
            have hT := cat_succ F m
            generalize cat F m = cm at *
            generalize F m = fm at *
            have HT := Lib.hid hT
            clear hT
            generalize A m = am at *
            generalize C m = cc at *
            obtain ⟨hbm, hc0⟩ := hrow
            have HBm := Lib.hid hbm
            cases am with
            | none =>
              obtain rfl : cc = 0 := hc0 rfl
              have hbs : fm = [] := by
                refine Decidable.by_contra fun hne => ?_
                obtain ⟨b, off, e, _⟩ := HBm.out.2.2 hne
                cases e
              subst hbs
              clear hc0 hbm
              generalize Crc.More 0 cm = sm at *
              go_wp2_with (first | (at_builtin; refine wpList_append_own_none rfl (.tmp 36) (.tmp 40) 23 rfl w.heap.size 5 i0 1 Try.underlying23 hi _ _ _ rfl hown rfl ?_) | (go_at_call 9; refine (more_any sm hlt2 none [] 0 _ (nil_bytes _ _)).mono ?_; rintro e w3 ⟨rfl, hb3⟩; have HB3 := Lib.hid hb3; clear hb3))
              go_roundw
              case rel =>
                have hO := owns_below hown HB3.out
                have hT := HT.out
                rw [List.append_nil] at hT
                rw [← hT] at hO
                exact ⟨m + 1, by omega, by go_num, by rw [HM.out, HT.out], Lib.hid hO, Lib.hid (HB.out.trans (HB3.out.mono HB.out.size))⟩
              case measure => simp [intOf]; omega
            | some ad =>
              clear hc0 hbm
              have hfit : cm.length + fm.length ≤ 100000 := by have h1 := HL.out; have h2 := HLm.out; omega
              generalize Crc.More 0 cm = sm at *
              go_wp2_with (first | (at_builtin; refine wpList_append_own _ rfl (.tmp 36) (.tmp 40) 23 rfl w.heap.size 5 i0 (.int .u8 0) 1 1 Try.underlying23 hi hz0 hz1 hz2 rfl (by decide) _ _ _ rfl hown ad fm.length cc (cellsOf fm) rfl (by rw [cellsOf_length]; omega) (cellsOf_at (HBm.out.below HB.out)) (cellsOf_one _) (by unfold maxLen; omega) (by omega) hBs ?_; intro v' w2 hown2 hgr2 _; have HO2 := Lib.hid hown2; have HB2 := Lib.hid (grown_below_own HB.out hown hgr2 hBs); have hcell2 := (HB2.out.cell (p := ⟨b, off + m, none⟩) hb).trans HCW.out; clear hown2 hgr2 hown hcell) | (go_at_call 9; refine (more_any sm hlt2 _ fm cc _ (HBm.out.below HB2.out)).mono ?_; rintro e w3 ⟨rfl, hb3⟩; have HB3 := Lib.hid hb3; clear hb3))
              go_roundw
              case rel =>
                have hO := owns_below HO2.out HB3.out
                rw [cells_app, ← List.length_append, ← HT.out] at hO
                exact ⟨m + 1, by omega, by go_num, by rw [HM.out, HT.out], Lib.hid hO, Lib.hid (HB2.out.trans (HB3.out.mono HB2.out.size))⟩
              case measure => simp [intOf]; omega
          · obtain rfl : m = k := by omega
            obtain ⟨a2, cap2, rfl, hY⟩ := owns_bytes HO.out (cat_lt H8.out m (Nat.le_refl _)) (by unfold maxLen; omega)
            have HY := Lib.hid hY
            clear hY
            go_wp2_with fail
            refine (known_any _).mono ?_
            rintro e w4 ⟨rfl, hb4⟩
            have HB4 := Lib.hid hb4
            clear hb4
            go_wp2_with fail
            refine (sum_any a2 (cat F m) cap2 _ (HY.out.below HB4.out)).mono ?_
            rintro e w5 ⟨rfl, hb5⟩
            have HB5 := Lib.hid hb5
            clear hb5
            go_wp2
            go_ret
            have h4 := HB.out.trans (HB4.out.mono HB.out.size)
            exact ⟨rfl, h4.trans (HB5.out.mono h4.size)⟩
      · go_wp2
        go_ret
        exact ⟨rfl, Below.refl _ _⟩
end Go.Proofs.Ytniajoocpnhhgaa
