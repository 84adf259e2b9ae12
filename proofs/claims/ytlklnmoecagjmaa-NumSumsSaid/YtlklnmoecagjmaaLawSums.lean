/-
  WALKS of sums and means, the code's and the document's; THE WALK of NumSums.
-/
import Derived.Test.YtlklnmoecagjmaaRefF
import Derived.Test.YtlklnmoecagjmaaRefC
import Derived.OpenShut
namespace Go.Proofs.Ytlklnmoecagjmaa
set_option linter.unusedVariables false
set_option linter.unusedSimpArgs false
open Go.RowKit
/-- a slice of integers that came in: nil, or a row of 'cap' cells -/
def IsRow (k : IntKind) (w : World) (a : Option Addr) (len cap : Nat) (zs : List Int) : Prop :=
  (a = none ∧ len = 0 ∧ cap = 0 ∧ zs = []) ∨
  ∃ x, a = some x ∧ len ≤ cap ∧ cap ≤ maxLen ∧ zs.length = cap ∧ (∀ i, i < zs.length → w.cell? (x.add i) = some (.int k (zs.getD i 0))) ∧ ∀ n ∈ zs, (Lit.int k n).wf = true
def Us (w : World) (a : Option Addr) (us : List Nat) : Prop :=
  us.length ≤ maxLen ∧ (∀ c ∈ us, c < 2 ^ 64) ∧ (us ≠ [] → ∃ b off, a = some ⟨b, off, none⟩ ∧ b < w.heap.size ∧ ∀ i (h : i < us.length), w.cell? ⟨b, off + i, none⟩ = some (.int .u64 ((us[i] : Nat) : Int)))
theorem Us.below {w w' : World} {a : Option Addr} {us : List Nat} (h : Us w a us) (hb : Below w.heap.size w w') : Us w' a us := by
  obtain ⟨h1, h2, h3⟩ := h
  refine ⟨h1, h2, fun hn => ?_⟩
  obtain ⟨b, off, ha, hlt, hc⟩ := h3 hn
  exact ⟨b, off, ha, Nat.lt_of_lt_of_le hlt hb.size, fun i hi => (hb.cell (p := ⟨b, off + i, none⟩) hlt).trans (hc i hi)⟩
theorem Us.at {w : World} {a : Option Addr} {us : List Nat} (h : Us w a us) (k : Nat) (hk : k < us.length) :
    ∃ b off, a = some ⟨b, off, none⟩ ∧ b < w.heap.size ∧ w.cell? ⟨b, off + k, none⟩ = some (.int .u64 ((us[k] : Nat) : Int)) := by
  obtain ⟨b, off, e, hb, hc⟩ := h.2.2 (by intro h0; rw [h0] at hk; simp at hk)
  exact ⟨b, off, e, hb, hc k hk⟩
theorem word_nat {n : Int} (h : (Lit.int .u64 n).wf = true) : ∃ m : Nat, n = (m : Int) ∧ m < 2 ^ 64 := by
  have hb := bounds_u64 h
  obtain ⟨m, rfl⟩ := Int.eq_ofNat_of_zero_le hb.1
  exact ⟨m, rfl, by omega⟩
theorem words_nat : ∀ (zs : List Int), (∀ n ∈ zs, (Lit.int .u64 n).wf = true) → ∃ bs : List Nat, zs = bs.map (fun c => ((c : Nat) : Int)) ∧ ∀ c ∈ bs, c < 2 ^ 64
  | [], _ => ⟨[], rfl, fun _ h => absurd h (by simp)⟩
  | z :: zs, h => by
    obtain ⟨m, rfl, hm⟩ := word_nat (h z List.mem_cons_self)
    obtain ⟨bs, rfl, hb⟩ := words_nat zs (fun n hn => h n (List.mem_cons_of_mem _ hn))
    refine ⟨m :: bs, rfl, fun c hc => ?_⟩
    rcases List.mem_cons.1 hc with rfl | hc
    · exact hm
    · exact hb c hc
theorem addr_at (g o j : Nat) : (⟨g, o, none⟩ : Addr).add j = ⟨g, o + j, none⟩ := by unfold Addr.add; split <;> simp_all
theorem us_of_row {w : World} {a : Option Addr} {len cap : Nat} {zs : List Int} (h : IsRow .u64 w a len cap zs) : ∃ us : List Nat, us.length = len ∧ Us w a us := by
  rcases h with ⟨rfl, rfl, rfl, rfl⟩ | ⟨x, rfl, hl, hm, hz, hcell, hwz⟩
  · exact ⟨[], rfl, by simp, by simp, fun h => absurd rfl h⟩
  · obtain ⟨bs, rfl, h8⟩ := words_nat zs hwz
    have hz' : bs.length = cap := by simpa using hz
    refine ⟨bs.take len, by simp; omega, by simp; omega, fun c hc => h8 c (List.mem_of_mem_take hc), fun hn => ?_⟩
    have hlen : 0 < len := by
      refine Nat.pos_of_ne_zero fun h0 => hn ?_
      subst h0; simp
    obtain ⟨b, off, spot⟩ := x
    have hc0 := hcell 0 (by simp; omega)
    have hspot : spot = none := by simpa [Addr.add] using World.cell?_spot hc0
    subst hspot
    refine ⟨b, off, rfl, ?_, fun i hi => ?_⟩
    · have := World.block_lt_of_cell? _ _ hc0
      simpa [Addr.add] using this
    · have hi' : i < bs.length := by simp at hi; omega
      have hc := hcell i (by simpa using hi')
      rw [addr_at] at hc
      rw [hc]
      simp [hi']
/-- summed from the first to the last -/
def dSum (us : List Nat) : Nat := us.foldl Nm.dAdd 0
theorem foldl_lt (us : List Nat) (s : Nat) (hs : s < 2 ^ 64) (h : ∀ c ∈ us, c < 2 ^ 64) : us.foldl Nm.dAdd s < 2 ^ 64 := by
  induction us generalizing s with
  | nil => exact hs
  | cons u us ih => exact ih _ (Nm.ok_add s u hs (h u (by simp))).1 (fun c hc => h c (by simp [hc]))
theorem dSum_next (us : List Nat) (j : Nat) (hj : j < us.length) : dSum (us.take (j + 1)) = Nm.dAdd (dSum (us.take j)) us[j] := by
  unfold dSum
  rw [List.take_succ_eq_append_getElem hj, List.foldl_append]
  rfl
theorem dSum_lt (us : List Nat) (h : ∀ c ∈ us, c < 2 ^ 64) (j : Nat) : dSum (us.take j) < 2 ^ 64 := foldl_lt _ 0 (by decide) fun c hc => h c (List.mem_of_mem_take hc)
set_option maxHeartbeats 1000000 in
theorem sum_any (a : Option Addr) (us : List Nat) (cap : Nat) (w : World) (H : Us w a us) (hl : us.length ≤ 10000) : Calls Try.prog 66 #[.slice a us.length cap] w (Gives w (.int .u64 (dSum us : Nat))) := by
  have HU := Lib.hid H
  have B0 := Lib.hid (Below.refl w.heap.size w)
  obtain ⟨n, hn⟩ : ∃ n, us.length = n := ⟨_, rfl⟩
  have HN := Lib.hid hn
  rw [hn] at hl ⊢
  have HE := Lib.hid (show dSum (us.take n) = dSum us by rw [← hn, List.take_length])
  have CA := Lib.hid (fun s u w hs hu => add_any s u hs hu w)
  clear H hn
  go_enter Try.func66, Try.ntmps66
  go_wp2
  go_loopw [3, 5, 8] (fun s _ i wr => ∃ j t : Nat, i = .int .i64 j ∧ s = .int .u64 (t : Nat) ∧ j ≤ n ∧ Hid (t = dSum (us.take j)) ∧ Hid (Below w.heap.size w wr)) (fun _ _ i _ => (n + 1 - intOf i).toNat)
  case atStart => exact ⟨0, 0, rfl, rfl, by omega, Lib.hid (by simp [dSum]), B0⟩
  case round =>
    obtain ⟨j, t, rfl, rfl, hj, HT, HB⟩ := hrel
    by_cases hA : j < n
    · have da : decide ((j : Int) < (n : Int)) = true := decide_eq_true (by omega)
      have da2 : decide (j < n) = true := decide_eq_true hA
      obtain ⟨b, off, rfl, hb, hc⟩ := (HU.out.below HB.out).at j (by have := HN.out; omega)
      have ht : t < 2 ^ 64 := by rw [HT.out]; exact dSum_lt us HU.out.2.1 j
      have hu : us[j]'(by have := HN.out; omega) < 2 ^ 64 := HU.out.2.1 _ (List.getElem_mem _)
      have hnx := dSum_next us j (by have := HN.out; omega)
      obtain ⟨u, hu2⟩ : ∃ u, us[j]'(by have := HN.out; omega) = u := ⟨_, rfl⟩
      rw [hu2] at hc hu hnx
      rw [← HT.out] at hnx
      have HNX := Lib.hid hnx
      have CS := Lib.hid (fun w => CA.out t u w ht hu)
      clear hnx hu2 ht hu
      go_wp2_with fail
      refine (CS.out _).mono ?_
      rintro e' wk ⟨rfl, hbk⟩
      have BK := Lib.hid (HB.out.trans (hbk.mono HB.out.size))
      clear hbk
      go_wp2
      go_roundw
      case rel => exact ⟨j + 1, _, by first | rfl | simp, rfl, by omega, Lib.hid (by rw [HNX.out]), BK⟩
      case measure => simp [intOf]; omega
    · have da : decide ((j : Int) < (n : Int)) = false := decide_eq_false (by omega)
      have da2 : decide (j < n) = false := decide_eq_false hA
      obtain rfl : j = n := by omega
      have ht := HT.out
      rw [HE.out] at ht
      go_wp2
      go_ret
      exact ⟨by rw [ht]; rfl, HB.out⟩
set_option maxHeartbeats 1000000 in
theorem rsum_any (a : Option Addr) (us : List Nat) (cap : Nat) (w : World) (H : Us w a us) (hl : us.length ≤ 10000) : Calls Try.prog 67 #[.slice a us.length cap] w (Gives w (.int .u64 (dSum us : Nat))) := by
  have HU := Lib.hid H
  have B0 := Lib.hid (Below.refl w.heap.size w)
  obtain ⟨n, hn⟩ : ∃ n, us.length = n := ⟨_, rfl⟩
  have HN := Lib.hid hn
  rw [hn] at hl ⊢
  have HE := Lib.hid (show dSum (us.take n) = dSum us by rw [← hn, List.take_length])
  have CA := Lib.hid (fun s u w hs hu => radd_any s u hs hu w)
  clear H hn
  go_enter Try.func67, Try.ntmps67
  go_wp2
  go_loopw [3, 4] (fun s i wr => ∃ j t : Nat, i = .int .i64 j ∧ s = .int .u64 (t : Nat) ∧ j ≤ n ∧ Hid (t = dSum (us.take j)) ∧ Hid (Below w.heap.size w wr)) (fun _ i _ => (n + 1 - intOf i).toNat)
  case atStart => exact ⟨0, 0, rfl, rfl, by omega, Lib.hid (by simp [dSum]), B0⟩
  case round =>
    obtain ⟨j, t, rfl, rfl, hj, HT, HB⟩ := hrel
    by_cases hA : j < n
    · have da : decide ((j : Int) < (n : Int)) = true := decide_eq_true (by omega)
      have da2 : decide (j < n) = true := decide_eq_true hA
      obtain ⟨b, off, rfl, hb, hc⟩ := (HU.out.below HB.out).at j (by have := HN.out; omega)
      have ht : t < 2 ^ 64 := by rw [HT.out]; exact dSum_lt us HU.out.2.1 j
      have hu : us[j]'(by have := HN.out; omega) < 2 ^ 64 := HU.out.2.1 _ (List.getElem_mem _)
      have hnx := dSum_next us j (by have := HN.out; omega)
      obtain ⟨u, hu2⟩ : ∃ u, us[j]'(by have := HN.out; omega) = u := ⟨_, rfl⟩
      rw [hu2] at hc hu hnx
      rw [← HT.out] at hnx
      have HNX := Lib.hid hnx
      have CS := Lib.hid (fun w => CA.out t u w ht hu)
      clear hnx hu2 ht hu
      go_wp2_with fail
      refine (CS.out _).mono ?_
      rintro e' wk ⟨rfl, hbk⟩
      have BK := Lib.hid (HB.out.trans (hbk.mono HB.out.size))
      clear hbk
      go_wp2
      go_roundw
      case rel => exact ⟨j + 1, _, by first | rfl | simp, rfl, by omega, Lib.hid (by rw [HNX.out]), BK⟩
      case measure => simp [intOf]; omega
    · have da : decide ((j : Int) < (n : Int)) = false := decide_eq_false (by omega)
      have da2 : decide (j < n) = false := decide_eq_false hA
      obtain rfl : j = n := by omega
      have ht := HT.out
      rw [HE.out] at ht
      go_wp2
      go_ret
      exact ⟨by rw [ht]; rfl, HB.out⟩
def dMeanmean (us : List Nat) : Nat := if us.length = 0 then Nm.nan else Nm.dDiv (dSum us) (dInt us.length)
theorem mean_any (a : Option Addr) (us : List Nat) (cap : Nat) (w : World) (H : Us w a us) (hl : us.length ≤ 10000) : Calls Try.prog 68 #[.slice a us.length cap] w (Gives w (.int .u64 (dMeanmean us : Nat))) := by
  obtain ⟨M, hM⟩ : ∃ M, dMeanmean us = M := ⟨_, rfl⟩
  rw [hM]
  unfold dMeanmean at hM
  have ls : dSum us < 2 ^ 64 := by have := dSum_lt us H.2.1 us.length; rwa [List.take_length] at this
  have CS := fun w H => sum_any a us cap w H hl
  obtain ⟨n, hn⟩ : ∃ n, us.length = n := ⟨_, rfl⟩
  rw [hn] at hM hl CS ⊢
  by_cases h0 : n = 0
  · have d0 : ((n : Int) == 0) = true := by simpa using h0
    rw [if_pos h0] at hM
    subst hM
    subst h0
    clear CS H hn
    have BB := Lib.hid (Below.refl w.heap.size w)
    go_enter Try.func68, Try.ntmps68
    go_wp2
    go_ret
    exact ⟨rfl, BB.out⟩
  · have d0 : ((n : Int) == 0) = false := by simpa using h0
    rw [if_neg h0] at hM
    have CI := fun w => int_any (n : Int) w
    have li := (ok_int (n : Int)).1
    obtain ⟨I, hI⟩ : ∃ I, dInt (n : Int) = I := ⟨_, rfl⟩
    obtain ⟨S, hS⟩ : ∃ I, dSum us = I := ⟨_, rfl⟩
    rw [hI] at CI li hM
    rw [hS] at CS ls hM
    have CD := fun w => div_any S I ls li w
    rw [hM] at CD
    have HS := Lib.hid CS
    have HI := Lib.hid CI
    have HD := Lib.hid CD
    have HH := Lib.hid H
    clear CS CI CD hI hS hM H hn li ls
    have BB := Lib.hid (Below.refl w.heap.size w)
    go_enter Try.func68, Try.ntmps68
    go_wp2_with fail
    refine (HS.out _ HH.out).mono ?_
    rintro e' wm1 ⟨rfl, hb⟩
    have BB := Lib.hid (BB.out.trans (hb.mono BB.out.size))
    clear hb
    go_wp2_with fail
    refine (HI.out _).mono ?_
    rintro e' wq2 ⟨rfl, rfl⟩
    go_wp2_with fail
    refine (HD.out _).mono ?_
    rintro e' wm3 ⟨rfl, hb⟩
    have BB := Lib.hid (BB.out.trans (hb.mono BB.out.size))
    clear hb
    go_wp2
    go_ret
    exact ⟨rfl, BB.out⟩
def dMeanrmean (us : List Nat) : Nat := if us.length = 0 then Nm.nan else Nm.dDiv (dSum us) (dInt us.length)
theorem rmean_any (a : Option Addr) (us : List Nat) (cap : Nat) (w : World) (H : Us w a us) (hl : us.length ≤ 10000) : Calls Try.prog 69 #[.slice a us.length cap] w (Gives w (.int .u64 (dMeanrmean us : Nat))) := by
  obtain ⟨M, hM⟩ : ∃ M, dMeanrmean us = M := ⟨_, rfl⟩
  rw [hM]
  unfold dMeanrmean at hM
  have ls : dSum us < 2 ^ 64 := by have := dSum_lt us H.2.1 us.length; rwa [List.take_length] at this
  have CS := fun w H => rsum_any a us cap w H hl
  obtain ⟨n, hn⟩ : ∃ n, us.length = n := ⟨_, rfl⟩
  rw [hn] at hM hl CS ⊢
  by_cases h0 : n = 0
  · have d0 : ((n : Int) == 0) = true := by simpa using h0
    rw [if_pos h0] at hM
    subst hM
    subst h0
    clear CS H hn
    have BB := Lib.hid (Below.refl w.heap.size w)
    go_enter Try.func69, Try.ntmps69
    go_wp2
    go_ret
    exact ⟨rfl, BB.out⟩
  · have d0 : ((n : Int) == 0) = false := by simpa using h0
    rw [if_neg h0] at hM
    have CI := fun w => rint_any (n : Int) (by omega) (by omega) w
    have li := (ok_int (n : Int)).1
    obtain ⟨I, hI⟩ : ∃ I, dInt (n : Int) = I := ⟨_, rfl⟩
    obtain ⟨S, hS⟩ : ∃ I, dSum us = I := ⟨_, rfl⟩
    rw [hI] at CI li hM
    rw [hS] at CS ls hM
    have CD := fun w => rdiv_any S I ls li w
    rw [hM] at CD
    have HS := Lib.hid CS
    have HI := Lib.hid CI
    have HD := Lib.hid CD
    have HH := Lib.hid H
    clear CS CI CD hI hS hM H hn li ls
    have BB := Lib.hid (Below.refl w.heap.size w)
    go_enter Try.func69, Try.ntmps69
    go_wp2_with fail
    refine (HS.out _ HH.out).mono ?_
    rintro e' wm1 ⟨rfl, hb⟩
    have BB := Lib.hid (BB.out.trans (hb.mono BB.out.size))
    clear hb
    go_wp2_with fail
    refine (HI.out _).mono ?_
    rintro e' wm2 ⟨rfl, hb⟩
    have BB := Lib.hid (BB.out.trans (hb.mono BB.out.size))
    clear hb
    go_wp2_with fail
    refine (HD.out _).mono ?_
    rintro e' wm3 ⟨rfl, hb⟩
    have BB := Lib.hid (BB.out.trans (hb.mono BB.out.size))
    clear hb
    go_wp2
    go_ret
    exact ⟨rfl, BB.out⟩
set_option maxHeartbeats 1000000 in
theorem numsums_walk (a0 : Option Addr) (len0 cap0 : Nat) (z0 : List Int) (w : World) (w0 : IsRow .u64 w a0 len0 cap0 z0) : Calls Try.prog 7 #[.slice a0 len0 cap0] w (Gives w (.bool true)) := by
  obtain ⟨us, rfl, H⟩ := us_of_row w0
  clear w0
  by_cases hb : 10000 < us.length
  · have d0 : decide ((10000 : Int) < (us.length : Int)) = true := decide_eq_true (by omega)
    have d1 : decide (10000 < us.length) = true := decide_eq_true hb
    clear H
    have BB := Lib.hid (Below.refl w.heap.size w)
    go_enter Try.func7, Try.ntmps7
    go_wp2
    go_ret
    exact ⟨rfl, BB.out⟩
  · have d0 : decide ((10000 : Int) < (us.length : Int)) = false := decide_eq_false (by omega)
    have d1 : decide (10000 < us.length) = false := decide_eq_false hb
    have S1 := fun w H => sum_any a0 us cap0 w H (by omega)
    have S2 := fun w H => rsum_any a0 us cap0 w H (by omega)
    have M1 := fun w H => mean_any a0 us cap0 w H (by omega)
    have M2 := fun w H => rmean_any a0 us cap0 w H (by omega)
    have e : dMeanrmean us = dMeanmean us := rfl
    rw [e] at M2
    obtain ⟨S, hS⟩ : ∃ I, dSum us = I := ⟨_, rfl⟩
    obtain ⟨M, hM⟩ : ∃ I, dMeanmean us = I := ⟨_, rfl⟩
    rw [hS] at S1 S2
    rw [hM] at M1 M2
    obtain ⟨n, hn⟩ : ∃ n, us.length = n := ⟨_, rfl⟩
    rw [hn] at S1 S2 M1 M2 d0 d1 ⊢
    have HU := Lib.hid H
    have HS1 := Lib.hid S1
    have HS2 := Lib.hid S2
    have HM1 := Lib.hid M1
    have HM2 := Lib.hid M2
    have CK := Lib.hid known_any
    clear S1 S2 M1 M2 hS hM H e hn hb
    have BB := Lib.hid (Below.refl w.heap.size w)
    go_enter Try.func7, Try.ntmps7
    go_wp2_with fail
    refine (CK.out _).mono ?_
    rintro e' wm1 ⟨rfl, hb⟩
    have HU := Lib.hid (HU.out.below hb)
    have BB := Lib.hid (BB.out.trans (hb.mono BB.out.size))
    clear hb
    go_wp2_with fail
    refine (HS1.out _ HU.out).mono ?_
    rintro e' wm2 ⟨rfl, hb⟩
    have HU := Lib.hid (HU.out.below hb)
    have BB := Lib.hid (BB.out.trans (hb.mono BB.out.size))
    clear hb
    go_wp2_with fail
    refine (HS2.out _ HU.out).mono ?_
    rintro e' wm3 ⟨rfl, hb⟩
    have HU := Lib.hid (HU.out.below hb)
    have BB := Lib.hid (BB.out.trans (hb.mono BB.out.size))
    clear hb
    go_wp2_with fail
    refine (HM1.out _ HU.out).mono ?_
    rintro e' wm4 ⟨rfl, hb⟩
    have HU := Lib.hid (HU.out.below hb)
    have BB := Lib.hid (BB.out.trans (hb.mono BB.out.size))
    clear hb
    go_wp2_with fail
    refine (HM2.out _ HU.out).mono ?_
    rintro e' wm5 ⟨rfl, hb⟩
    have HU := Lib.hid (HU.out.below hb)
    have BB := Lib.hid (BB.out.trans (hb.mono BB.out.size))
    clear hb
    go_wp2
    go_ret
    exact ⟨rfl, BB.out⟩
end Go.Proofs.Ytlklnmoecagjmaa
