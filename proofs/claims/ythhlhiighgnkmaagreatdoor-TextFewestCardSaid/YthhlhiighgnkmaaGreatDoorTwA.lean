/-
  WALKS: the document's own decimal numerals.
-/
import Derived.Test.YthhlhiighgnkmaaGreatDoorBgZ
import Derived.Test.YthhlhiighgnkmaaGreatDoorLawQ
import Derived.Lib.ItoaNum
namespace Go.Proofs.YthhlhiighgnkmaaGreatDoor
set_option linter.unusedVariables false
set_option linter.unusedSimpArgs false
open Go.RowKit Go.PlainAid
/-- a number's decimal digits -/
def decN (u : Nat) : List Nat := if h : u < 10 then [48 + u] else decN (u / 10) ++ [48 + u % 10]
termination_by u
decreasing_by omega
theorem decN_small {u : Nat} (h : u < 10) : decN u = [48 + u] := by rw [decN, dif_pos h]
theorem decN_big {u : Nat} (h : ¬ u < 10) : decN u = decN (u / 10) ++ [48 + u % 10] := by rw [decN, dif_neg h]
theorem decN_digits : ∀ (n u : Nat), u ≤ n → Lib.decDigits u = (decN u).map UInt8.ofNat := by
  intro n
  induction n with
  | zero =>
    intro u h
    obtain rfl : u = 0 := by omega
    rw [decN_small (by decide), Lib.decDigits, dif_pos (by decide)]
    rfl
  | succ n ih =>
    intro u h
    by_cases h10 : u < 10
    · rw [decN_small h10, Lib.decDigits, dif_pos h10]; rfl
    · rw [decN_big h10, Lib.decDigits, dif_neg h10, ih (u / 10) (by omega), List.map_append]; rfl
theorem decN_itoa (u : Nat) : (⟨(Lib.itoa (u : Int)).toArray⟩ : ByteArray) = strOf (decN u) := by
  unfold Lib.itoa strOf
  rw [if_neg (by omega), Int.toNat_natCast, decN_digits u u (Nat.le_refl _)]
theorem decN_dig : ∀ (n u : Nat), u ≤ n → ∀ c ∈ decN u, dig c = true := by
  intro n
  induction n with
  | zero =>
    intro u h c hc
    obtain rfl : u = 0 := by omega
    rw [decN_small (by decide)] at hc
    simp at hc
    subst hc
    rfl
  | succ n ih =>
    intro u h c hc
    by_cases h10 : u < 10
    · rw [decN_small h10] at hc
      simp at hc
      subst hc
      unfold dig
      simp
      omega
    · rw [decN_big h10, List.mem_append] at hc
      rcases hc with hc | hc
      · exact ih (u / 10) (by omega) c hc
      · simp at hc
        subst hc
        unfold dig
        simp
        omega
theorem dig_of (u : Nat) : ∀ c ∈ decN u, dig c = true := decN_dig u u (Nat.le_refl _)
theorem decN_isB (u : Nat) : IsB (decN u) := fun c hc => by
  have h := dig_of u c hc
  unfold dig at h
  simp at h
  omega
theorem decN_len : ∀ (k u : Nat), u < 10 ^ (k + 1) → (decN u).length ≤ k + 1 := by
  intro k
  induction k with
  | zero => intro u h; rw [decN_small (by simpa using h)]; simp
  | succ k ih =>
    intro u h
    by_cases h10 : u < 10
    · rw [decN_small h10]; simp
    · rw [decN_big h10, List.length_append, List.length_singleton]
      have h1 := ih (u / 10) (by rw [Nat.div_lt_iff_lt_mul (by decide), ← Nat.pow_succ]; exact h)
      omega
/-- what is still to be written -/
def pre (m : Nat) : List Nat := if m = 0 then [] else decN m
theorem pre_step {m : Nat} (h : 0 < m) : pre m = pre (m / 10) ++ [48 + m % 10] := by
  unfold pre
  rw [if_neg (by omega)]
  by_cases h10 : m < 10
  · rw [decN_small h10, if_pos (by omega), show m % 10 = m by omega]; rfl
  · rw [decN_big h10, if_neg (by omega)]
def strSize (v : Value) : Nat := match v with | .string s => s.size | _ => 0
theorem laid_ownA (W : World) (ds : List Nat) (hl : ds.length ≤ 100) : Own (W.alloc (.cells (cellsOf ds).toArray 5)) W.heap.size (.slice (some ⟨W.heap.size, 0, none⟩) ds.length ds.length) ds :=
  Own.laid W ds (by unfold maxLen; omega) W.heap.size (Nat.le_refl _)
theorem wds_two {n : Nat} (h : n < 2 ^ 64) : (Nm.wds n).length ≤ 2 := Nm.wds_len2 (by simpa using h)
set_option maxRecDepth 100000 in
set_option maxHeartbeats 2000000 in
theorem show_any (v : Value) (n : Nat) (hn : n < 2 ^ 64) (w : World) (H : Bg.Big w v n) : Calls Tryz.prog 80 #[v] w (Gives w (.string (strOf (decN n)))) := by
  obtain ⟨a, cap, rfl, hcap, hW⟩ := H
  have CF := Lib.hid (fun w => Bg.from_any 10 (by decide) w)
  have CP := Lib.hid (fun (v1 v2 : Value) (x : Nat) (w : World) H1 H2 hx => Bg.parts_any v1 v2 x 10 w H1 H2 hx (by have := wds_two (n := 10) (by decide); omega) (by decide))
  have CL := Lib.hid (fun (v : Nat → Value) (n : Nat) => True.intro)
  have CLow := Lib.hid (fun (v : Value) (n : Nat) (w : World) H => Bg.low_any v n w H)
  have HWn := wds_two hn
  have HN0 := Lib.hid (show (Nm.wds n).length = 0 ↔ n = 0 from Nm.wds_nil)
  have HBIG : Hid (Bg.Big w (.slice a (Nm.wds n).length cap) n) := Lib.hid ⟨a, cap, rfl, hcap, hW⟩
  obtain ⟨L, hL⟩ : ∃ L, (Nm.wds n).length = L := ⟨_, rfl⟩
  rw [hL] at HWn HN0 HBIG ⊢
  have HNN := Lib.hid hn
  clear hW hcap hL hn CL
  by_cases h0 : L = 0
  · have hn0 := HN0.out.1 h0
    subst hn0
    subst h0
    have HV := Lib.hid (show strOf (decN 0) = { data := #[48] } by rw [decN_small (by decide)]; rfl)
    go_enter Tryz.func80, Tryz.ntmps80
    go_wp2
    go_ret
    rw [HV.out]
    exact ⟨rfl, Below.refl _ _⟩
  · have l0 : ((L : Int) == 0) = false := by simp; omega
    have hpos : 0 < n := Nat.pos_of_ne_zero (fun h => h0 (HN0.out.2 h))
    have HS : Hid (pre n ++ [] = decN n) := Lib.hid (by unfold pre; rw [if_neg (by omega), List.append_nil])
    clear h0
    go_enter Tryz.func80, Tryz.ntmps80
    go_wp2
    go_loopw [0, 3] (fun nv ov wr => ∃ (m : Nat) (out : List Nat), Hid (m < 2 ^ 64) ∧ Hid (Bg.Big wr nv m) ∧ ov = .string (strOf out) ∧ Hid (pre m ++ out = decN n) ∧ Hid (Below w.heap.size w wr)) (fun _ ov _ => (decN n).length - strSize ov)
    case atStart => exact ⟨n, [], HNN, HBIG, rfl, HS, Lib.hid (Below.refl _ _)⟩
    case round =>
      obtain ⟨m, out, HM, HB, rfl, HE, HBL⟩ := hrel
      obtain ⟨a2, cap2, rfl, _, _⟩ := HB.out
      have hm2 := Lib.hid (wds_two HM.out)
      have hnil := Lib.hid (show (Nm.wds m).length = 0 ↔ m = 0 from Nm.wds_nil)
      obtain ⟨K, hK⟩ : ∃ L, (Nm.wds m).length = L := ⟨_, rfl⟩
      rw [hK] at HB hm2 hnil ⊢
      by_cases hk0 : K = 0
      · have hm0 := hnil.out.1 hk0
        subst hk0
        have HV := Lib.hid (show strOf out = strOf (decN n) by rw [← HE.out, hm0]; rfl)
        clear hK hm0
        go_wp2
        go_ret
        rw [HV.out]
        exact ⟨rfl, HBL.out⟩
      · have d1 : decide ((K : Int) > 0) = true := decide_eq_true (by omega)
        have d2 : decide ((0 : Int) < (K : Int)) = true := d1
        have d3 : decide (0 < K) = true := decide_eq_true (by omega)
        have hmp : 0 < m := Nat.pos_of_ne_zero (fun h => hk0 (hnil.out.2 h))
        have HSTEP := Lib.hid (show pre (m / 10) ++ ([48 + m % 10] ++ out) = decN n by rw [← List.append_assoc, ← pre_step hmp]; exact HE.out)
        have HLEN := Lib.hid (show out.length + 1 ≤ (decN n).length by
          have := congrArg List.length HE.out
          rw [pre_step hmp, List.length_append, List.length_append, List.length_singleton] at this
          omega)
        have HM2 := Lib.hid (show m / 10 < 2 ^ 64 by have := HM.out; omega)
        have hlow : m % 10 % 2 ^ 64 = m % 10 := Nat.mod_eq_of_lt (by omega)
        have HX := Lib.hid (show K ≤ 300000 by have := hm2.out; omega)
        obtain ⟨d, hd⟩ : ∃ d, 48 + m % 10 = d := ⟨_, rfl⟩
        have hd58 : d < 58 := by omega
        obtain ⟨r, hr⟩ : ∃ r, m % 10 = r := ⟨_, rfl⟩
        have e1 : IntKind.u64.wrap (48 + (r : Int)) = (d : Int) := by rw [IntKind.wrap_u64]; omega
        have e2 : IntKind.u8.wrap (d : Int) = (d : Int) := by rw [IntKind.wrap_u8]; omega
        rw [hr] at hlow
        rw [hd] at HSTEP
        have HR := Lib.hid hr
        have HDB := Lib.hid (show IsB [d] from IsB.cons (by omega) IsB.nil)
        have hKx : Hid ((Nm.wds m).length = K) := Lib.hid hK
        have hos := strOf_size out
        have hds := strOf_size [d]
        have HCAT := Lib.hid (show strOf [d] ++ strOf out = strOf ([d] ++ out) from strOf_append _ _)
        have HDN := Lib.hid (show (decN n).length ≤ 100 from Nat.le_trans (decN_len 19 n (Nat.lt_of_lt_of_le HNN.out (by decide))) (by decide))
        obtain ⟨O, hO⟩ : ∃ O, strOf out = O := ⟨_, rfl⟩
        obtain ⟨D, hD⟩ : ∃ O, strOf [d] = O := ⟨_, rfl⟩
        rw [hO] at hos HCAT
        rw [hD] at hds HCAT
        rw [hO]
        have hcat : D.size + O.size ≤ 9223372036854775807 := by
          have h1 := HLEN.out
          have h2 := HDN.out
          rw [hds, hos, List.length_singleton]
          omega
        have HD := Lib.hid hD
        have HOS := Lib.hid (And.intro hos hds)
        clear hK hk0 hmp hd hr hd58 hO hD hds hos
        go_wp2_with fail
        refine (CF.out _).mono ?_
        rintro e w1 ⟨v10, rfl, hb10, hb⟩
        have CP1 := Lib.hid (CP.out _ v10 m w1 (HB.out.below hb) hb10 (by rw [hKx.out]; exact HX.out))
        have B1 := Lib.hid (HBL.out.trans (hb.mono HBL.out.size))
        clear hb10 hb
        go_wp2_with fail
        refine CP1.out.mono ?_
        rintro e w2 ⟨vq, vr, rfl, hq, hrr, hb⟩
        rw [HR.out] at hrr
        have CL2 := Lib.hid (CLow.out vr r w2 hrr)
        rw [hlow] at CL2
        have B2 := Lib.hid (B1.out.trans (hb.mono B1.out.size))
        have Q2 := Lib.hid hq
        clear hq hrr hb
        go_wp2_with fail
        refine CL2.out.mono ?_
        rintro e w3 ⟨rfl, rfl⟩
        have hcv : (convert 87 9 (.slice (some ⟨w3.heap.size, 0, none⟩) 1 1)).run Tryz.prog (w3.alloc (.cells #[.int .u8 (d : Int)] 5)) = .ok (.string D) (w3.alloc (.cells #[.int .u8 (d : Int)] 5)) := by
          have h := conv_own (laid_ownA w3 [d] (by simp)) HDB.out
          rw [HD.out] at h
          exact h
        have B3 := Lib.hid (B2.out.alloc B2.out.size (.cells (cellsOf [d]).toArray 5))
        have Q3 := Lib.hid (Q2.out.below ((Below.refl w3.heap.size w3).alloc (Nat.le_refl _) (.cells (cellsOf [d]).toArray 5)))
        go_wp2
        go_roundw
        case rel => exact ⟨m / 10, [d] ++ out, HM2, Q3, by rw [← HCAT.out], HSTEP, B3⟩
        case measure =>
          have h1 := HLEN.out
          have h2 := HOS.out.1
          have h3 : D.size = 1 := HOS.out.2
          show (decN n).length - (D ++ O).size < (decN n).length - O.size
          rw [ByteArray.size_append, h2, h3]
          omega
set_option maxRecDepth 100000 in
theorem rwhole_any (n : Nat) (hn : n < 9223372036854775808) (w : World) : Calls Tryz.prog 42 #[.int .i64 (n : Int)] w (Gives w (.string (strOf (decN n)))) := by
  have CF := Lib.hid (fun w => Bg.from_any n (by omega) w)
  have CS := Lib.hid (fun (v : Value) (w : World) H => show_any v n (by omega) w H)
  have d1 : decide ((n : Int) < 0) = false := decide_eq_false (by omega)
  have e1 : IntKind.u64.wrap (n : Int) = (n : Int) := by rw [IntKind.wrap_u64]; omega
  clear hn
  go_enter Tryz.func42, Tryz.ntmps42
  go_wp2_with fail
  refine (CF.out _).mono ?_
  rintro e w1 ⟨v, rfl, hb1, hb⟩
  have B1 := Lib.hid hb
  have CS1 := Lib.hid (CS.out v w1 hb1)
  clear hb1 hb
  go_wp2_with fail
  refine CS1.out.mono ?_
  rintro e w2 ⟨rfl, hb⟩
  have B2 := Lib.hid (B1.out.trans (hb.mono B1.out.size))
  clear hb
  go_wp2
  go_ret
  exact ⟨rfl, B2.out⟩
end Go.Proofs.YthhlhiighgnkmaaGreatDoor
