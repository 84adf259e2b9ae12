/-
  THE WALK of the statement BitsOne.
-/
import Derived.Test.YtimmlnfoabbbjaaOpen
namespace Go.Proofs.Ytimmlnfoabbbjaa
open Go.RowKit
theorem rv_groups {bs : List Nat} (h8 : ∀ c ∈ bs, c < 256) (h : (Bt.rv (Bt.unpack bs)).2.1 = 0) : (Bt.vg (Bt.rv (Bt.unpack bs)).1).length ≤ bs.length ∧ bs.take (Bt.vg (Bt.rv (Bt.unpack bs)).1).length = Bt.vg (Bt.rv (Bt.unpack bs)).1 := by
  obtain ⟨h1, h2, h3, h4⟩ := Bt.rv_one _ h
  rw [Bt.unpack_length] at h3
  refine ⟨by omega, ?_⟩
  refine Bt.unpack_inj _ _ (fun c hc => h8 c (List.mem_of_mem_take hc)) (Bt.vg_lt _) ?_
  rw [unpack_take]; exact h4
theorem since_below {w wb W w5 : World} (hb : Below w.heap.size w wb) (hs : Since wb W) (h5 : Below W.heap.size W w5) : Below w.heap.size w w5 :=
  (hb.trans (hs.out.mono hb.size)).trans (h5.mono (Nat.le_trans hb.size hs.out.size))
theorem since_le {w wb W : World} {p : Nat} (hb : Below w.heap.size w wb) (hs : Since wb W) (h5 : W.heap.size ≤ p) : w.heap.size ≤ p :=
  Nat.le_trans (Nat.le_trans hb.size hs.out.size) h5
def NewAt (w : World) (e : Ending) (w' : World) : Prop := ∃ p, e = .returned (.pointer (some ⟨p, 0, none⟩)) ∧ Wr w' p p [] ∧ Below w.heap.size w w' ∧ w.heap.size ≤ p ∧ p < w'.heap.size
theorem new_at (w : World) : Calls Try.prog 7 #[] w (NewAt w) :=
  (new_any w).mono fun _ _ ⟨he, hw, hb, _⟩ => ⟨_, he, hw, hb, Nat.le_refl _, hw.lt.1⟩
set_option maxHeartbeats 1000000 in
theorem one_law (a0 : Option Addr) (bs : List Nat) (cap : Nat) (a c : Nat) (w : World) (H : Bys w a0 bs) (hc0 : a0 = none → cap = 0) (hcap : bs.length ≤ cap) (ha : a < 18446744073709551616) (hc : c < 18446744073709551616) :
    Calls Try.prog 6 #[.slice a0 bs.length cap, .int .u64 (a : Nat), .int .u64 (c : Nat)] w fun e w' => e = .returned (.bool true) ∧ Below w.heap.size w w' := by
  have A0 := Lib.hid H
  have C0 := Lib.hid hc0
  have hl := H.1
  unfold maxLen at hl
  have HA := Lib.hid ha
  have HCC := Lib.hid hc
  clear H hc0 ha hc
  by_cases hbig : 100000 < bs.length
  · have hd : decide ((bs.length : Int) > 100000) = true := by simp; omega
    go_enter Try.func6, Try.ntmps6
    go_wp2_with fail
    refine (known_any _).mono ?_
    rintro e w1 ⟨rfl, hb1⟩
    have HB := Lib.hid hb1
    clear hb1
    go_wp2
    go_ret
    exact ⟨rfl, HB.out⟩
  · have hd : decide ((bs.length : Int) > 100000) = false := by simp; omega
    obtain ⟨lo, hi, hlh, hlo, hhi, hmin, hmax⟩ : ∃ lo hi : Nat, lo ≤ hi ∧ Hid (lo < 18446744073709551616) ∧ Hid (hi < 18446744073709551616) ∧ (if c < a then (c : Int) else (a : Int)) = (lo : Int) ∧ (if a < c then (c : Int) else (a : Int)) = (hi : Int) := by
      by_cases h : c < a
      · exact ⟨c, a, by omega, HCC.out, HA.out, by rw [if_pos h], by rw [if_neg (by omega)]⟩
      · by_cases h2 : a < c
        · exact ⟨a, c, by omega, HA.out, HCC.out, by rw [if_neg h], by rw [if_pos h2]⟩
        · exact ⟨a, a, by omega, HA.out, HA.out, by rw [if_neg h], by rw [if_neg h2]⟩
    have hg1 : decide ((Bt.vb lo).length ≤ (Bt.vb hi).length) = true := by
      have := Bt.vg_mono lo hi hlh
      rw [Bt.vb_length, Bt.vb_length]; simp; omega
    have hg2 : decide (((Bt.vb hi).length : Int) ≤ 80) = true := by
      have := Bt.vg_ten hi hhi.out
      rw [Bt.vb_length]; simp; omega
    go_enter Try.func6, Try.ntmps6
    go_wp2_with fail
    refine (known_any _).mono ?_
    rintro e w1 ⟨rfl, hb1⟩
    have B1 := Lib.hid hb1
    clear hb1
    go_wp2_with fail
    refine (read_any a0 bs cap _ (A0.out.below B1.out) C0.out (by omega)).mono ?_
    rintro e w2 ⟨p, g, rfl, hp, hg, hrd, hb2⟩
    have R2 := Lib.hid hrd
    have B2 := Lib.hid (B1.out.trans (hb2.mono (Below.size B1.out)))
    have hp2 : w.heap.size ≤ p := Nat.le_trans (Below.size B1.out) hp
    clear hrd hb2 B1 hp hg
    go_wp2_with fail
    refine (rvarint_any p g bs 0 _ R2.out (by omega)).mono ?_
    rintro e w3 ⟨rfl, ht⟩
    rw [List.drop_zero, Nat.zero_add] at ht
    rw [List.drop_zero] at ⊢
    have R3 := Lib.hid ht.1
    have B3 := Lib.hid (B2.out.trans (ht.2.below (Below.size B2.out) (by intro x hx; simp at hx; omega)))
    clear ht R2 B2
    have h8 := Lib.hid A0.out.2.1
    obtain ⟨v, hv⟩ : ∃ v, (Bt.rv (Bt.unpack bs)).1 = v := ⟨_, rfl⟩
    obtain ⟨er, her⟩ : ∃ er, (Bt.rv (Bt.unpack bs)).2.1 = er := ⟨_, rfl⟩
    have hvl : Hid (v < 18446744073709551616) := by rw [← hv]; exact Bt.rv_lt _
    rcases Bt.rv_err (Bt.unpack bs) with h0 | ⟨h1, h2, h3⟩
    · have hgr := rv_groups h8.out h0
      obtain ⟨_, ht2, _⟩ := Bt.rv_one _ h0
      rw [h0] at ⊢
      rw [ht2] at R3
      rw [hv] at R3 hgr ⊢
      obtain ⟨n, hn⟩ : ∃ n, (Bt.vg v).length = n := ⟨_, rfl⟩
      have hpos := Bt.vg_pos v
      obtain ⟨hn1, hn2⟩ := hgr
      rw [hn] at R3 hn1 hn2 hpos
      have HN := Lib.hid hn
      have HN2 := Lib.hid hn2
      clear ht2 h0 hv her hn hn2
      go_wp2_with fail
      refine (left_any p g bs (8 * n) _ R3.out (by omega)).mono ?_
      rintro e w4 ⟨rfl, hb4⟩
      have B4 := Lib.hid (B3.out.trans (hb4.mono (Below.size B3.out)))
      clear hb4
      have e8 : (8 * (bs.length : Int) - ((8 * bs.length - 8 * n : Nat) : Int)) / 8 = (n : Int) := by omega
      have g1 : decide ((n : Int) < 1) = false := by simp; omega
      have g2 : decide (bs.length < n) = false := by simp; omega
      go_wp2_with fail
      rw [e8]
      refine (new_any _).mono ?_
      rintro e wa ⟨rfl, hwa, hba, _⟩
      have WA := Lib.hid hwa
      have BA := Lib.hid (B4.out.trans (hba.mono (Below.size B4.out)))
      have hszA : w.heap.size ≤ w4.heap.size := Below.size B4.out
      clear hwa hba
      go_wp2_with fail
      refine (wvarint_any _ _ [] v hvl.out _ WA.out (by decide)).mono ?_
      rintro e wb ⟨rfl, db, hwb, hdb, hob⟩
      rw [List.nil_append] at hwb
      have WB := Lib.hid hwb
      have BB := Lib.hid (BA.out.trans (hob.below (Below.size BA.out) (by intro x hx; simp at hx; omega)))
      clear hwb hob hdb WA BA
      obtain ⟨b, off, ea, _, _⟩ := A0.out.2.2 (by intro h; rw [h] at hn1; simp at hn1; omega)
      have YA := Lib.hid ((A0.out.below BB.out).take n)
      rw [ea] at YA ⊢
      rw [HN2.out] at YA
      have hnc : (n : Int) ≤ (cap : Int) := by omega
      have hn0 : (0 : Int) ≤ (n : Int) := by omega
      have hPk := Lib.hid (show Bt.Packs 0 (Bt.vg v) (Bt.vb v) from ⟨Bt.vg_lt v, by simp [Bt.vb]⟩)
      have hl80 : Hid ((Bt.vb v).length ≤ 1000000000) := by rw [Bt.vb_length, HN.out]; show _ ≤ _; omega
      clear hl e8
      go_wp2_with fail
      go_region_held3 (fun w' => Since wb w') ((first | exact Since.start _ | (refine Since.next ?_ (by assumption); assumption)))
        ((first
          | (go_at_call 11; refine (wbytes_known _ db 0 (Bt.vb v) (Bt.vg v) _ (WB.out.below (Since.out (by assumption))) hl80.out (by decide) hPk.out).mono ?_; rintro e w' ⟨ax, cx, rfl, hy, hb⟩; have HY := Lib.hid hy; clear hy)
          | (go_at_call 13; refine (same_n _ _ _ _ (Bt.vg v) _ _ _ rfl HN.out HY.out (YA.out.below (Since.out (by assumption)))).mono ?_; rintro e w' ⟨rfl, hb⟩)))
      all_goals have BZ := Lib.hid BB.out
      all_goals
        go_wp2_with fail
        refine (new_at _).mono ?_
        rintro e w5 ⟨p5, rfl, hw5, hb5, hl5, hs5⟩
        have W5 := Lib.hid hw5
        have B5 := Lib.hid (since_below BZ.out (by assumption) hb5)
        have h5w : w.heap.size ≤ p5 := since_le BZ.out (by assumption) hl5
        clear hw5 hb5 hl5
        go_wp2_with fail
        refine (new_at _).mono ?_
        rintro e w6 ⟨p6, rfl, hw6, hb6, hl6, hs6⟩
        have W6 := Lib.hid hw6
        have X6 := Lib.hid (W5.out.below hb6)
        have B6 := Lib.hid (B5.out.trans (hb6.mono (Below.size B5.out)))
        have h56 : p5 < p6 := by omega
        have h6w : w.heap.size ≤ p6 := by omega
        clear hw6 hb6 hl6
        go_wp2_with fail
        refine (wvarint_any p5 p5 [] lo hlo.out _ X6.out (by decide)).mono ?_
        rintro e w7 ⟨rfl, d7, hw7, hd7, ho7⟩
        rw [List.nil_append] at hw7
        have X7 := Lib.hid hw7
        have W7 := Lib.hid (W6.out.only ho7 (by simp; omega) (by simp; omega))
        have B7 := Lib.hid (B6.out.trans (ho7.below (Below.size B6.out) (by intro x hx; simp at hx; omega)))
        have h67 : d7 ≠ p6 := by rcases hd7 with h | h <;> omega
        clear hw7 ho7 hd7 W6 X6
        go_wp2_with fail
        refine (wvarint_any p6 p6 [] hi hhi.out _ W7.out (by decide)).mono ?_
        rintro e w8 ⟨rfl, d8, hw8, hd8, ho8⟩
        rw [List.nil_append] at hw8
        have W8 := Lib.hid hw8
        have X8 := Lib.hid (X7.out.only ho8 (by simp; omega) (by simp; omega))
        have B8 := Lib.hid (B7.out.trans (ho8.below (Below.size B7.out) (by intro x hx; simp at hx; omega)))
        clear hw8 ho8 hd8 W7 X7
        go_wp2_with fail
        refine (len_any p5 d7 (Bt.vb lo) _ X8.out).mono ?_
        rintro e w9 ⟨rfl, rfl⟩
        go_wp2_with fail
        refine (len_any p6 d8 (Bt.vb hi) _ W8.out).mono ?_
        rintro e w9 ⟨rfl, rfl⟩
        go_wp2_with fail
        refine (len_any p6 d8 (Bt.vb hi) _ W8.out).mono ?_
        rintro e w9 ⟨rfl, rfl⟩
        go_wp2
        go_ret
        exact ⟨rfl, B8.out⟩
    · rw [h2] at R3
      rw [h1]
      have hne : decide ((er : Int) = 0) = false := by simp; omega
      have hne2 : ((er : Int) == 0) = false := by simp; omega
      rw [her]
      clear h1 h2 h3 hv her
      go_wp2_with fail
      refine (left_any p g bs 0 _ R3.out (by omega)).mono ?_
      rintro e w4 ⟨rfl, hb4⟩
      have B4 := Lib.hid (B3.out.trans (hb4.mono (Below.size B3.out)))
      have e8 : ((8 * bs.length - 0 : Nat) : Int) = 8 * (bs.length : Int) := by omega
      clear hb4
      have BZ := Lib.hid B4.out
      have hsince : Since w4 w4 := ⟨Below.refl _ _⟩
      go_wp2_with fail
      refine (new_at _).mono ?_
      rintro e w5 ⟨p5, rfl, hw5, hb5, hl5, hs5⟩
      have W5 := Lib.hid hw5
      have B5 := Lib.hid (since_below BZ.out (by assumption) hb5)
      have h5w : w.heap.size ≤ p5 := since_le BZ.out (by assumption) hl5
      clear hw5 hb5 hl5
      go_wp2_with fail
      refine (new_at _).mono ?_
      rintro e w6 ⟨p6, rfl, hw6, hb6, hl6, hs6⟩
      have W6 := Lib.hid hw6
      have X6 := Lib.hid (W5.out.below hb6)
      have B6 := Lib.hid (B5.out.trans (hb6.mono (Below.size B5.out)))
      have h56 : p5 < p6 := by omega
      have h6w : w.heap.size ≤ p6 := by omega
      clear hw6 hb6 hl6
      go_wp2_with fail
      refine (wvarint_any p5 p5 [] lo hlo.out _ X6.out (by decide)).mono ?_
      rintro e w7 ⟨rfl, d7, hw7, hd7, ho7⟩
      rw [List.nil_append] at hw7
      have X7 := Lib.hid hw7
      have W7 := Lib.hid (W6.out.only ho7 (by simp; omega) (by simp; omega))
      have B7 := Lib.hid (B6.out.trans (ho7.below (Below.size B6.out) (by intro x hx; simp at hx; omega)))
      have h67 : d7 ≠ p6 := by rcases hd7 with h | h <;> omega
      clear hw7 ho7 hd7 W6 X6
      go_wp2_with fail
      refine (wvarint_any p6 p6 [] hi hhi.out _ W7.out (by decide)).mono ?_
      rintro e w8 ⟨rfl, d8, hw8, hd8, ho8⟩
      rw [List.nil_append] at hw8
      have W8 := Lib.hid hw8
      have X8 := Lib.hid (X7.out.only ho8 (by simp; omega) (by simp; omega))
      have B8 := Lib.hid (B7.out.trans (ho8.below (Below.size B7.out) (by intro x hx; simp at hx; omega)))
      clear hw8 ho8 hd8 W7 X7
      go_wp2_with fail
      refine (len_any p5 d7 (Bt.vb lo) _ X8.out).mono ?_
      rintro e w9 ⟨rfl, rfl⟩
      go_wp2_with fail
      refine (len_any p6 d8 (Bt.vb hi) _ W8.out).mono ?_
      rintro e w9 ⟨rfl, rfl⟩
      go_wp2_with fail
      refine (len_any p6 d8 (Bt.vb hi) _ W8.out).mono ?_
      rintro e w9 ⟨rfl, rfl⟩
      go_wp2
      go_ret
      exact ⟨rfl, B8.out⟩
end Go.Proofs.Ytimmlnfoabbbjaa
