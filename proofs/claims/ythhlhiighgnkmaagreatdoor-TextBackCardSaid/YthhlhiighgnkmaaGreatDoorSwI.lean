/-
  WALKS: Go's ftoa64 and FormatFloat in the e form, of any finite number above nought.
-/
import Derived.Test.YthhlhiighgnkmaaGreatDoorSwH
import Derived.Test.YthhlhiighgnkmaaGreatDoorMaX
import Derived.Test.YthhlhiighgnkmaaGreatDoorTnA
namespace Go.Proofs.YthhlhiighgnkmaaGreatDoor
set_option linter.unusedVariables false
set_option linter.unusedSimpArgs false
open Go.RowKit Go.PlainAid
open Go.Sort (Holds putRow holds_putRow size_putRow)
/-- Go's e form of digits, the point behind so many of them -/
theorem efmt_any (g b c x : Nat) (tl : List Nat) (neg : Bool) (dp : Int) (ht2 : tl.length ≤ 17) (w : World) (hB : Buf w g []) (hgl : g < w.heap.size) (hbl : b < w.heap.size) (hne : b ≠ g)
    (hcs : ∀ j u, (cellsOf (c :: tl))[j]? = some u → w.cell? ⟨b, j, none⟩ = some u) (hdp : dp - 1 = if neg then -(x : Int) else (x : Int)) (hneg : neg = true → 1 ≤ x) (hx : x < 1000) :
    Calls Tryz.prog 197 #[.slice (some ⟨g, 0, none⟩) 0 24, .bool false, .slice (some ⟨b, 0, none⟩) 32 32, .int .i64 dp, .int .i64 ((tl.length : Int) + 1), .int .i64 (tl.length : Int), .int .u8 101, .bool true] w
      fun e w' => e = .returned (.slice (some ⟨g, 0, none⟩) (eText c tl neg x).length 24) ∧ Buf w' g (eText c tl neg x) ∧ Only [g] w w' := by
  have hc : w.cell? ⟨b, 0, none⟩ = some (.int .u8 (c : Int)) := hcs 0 _ rfl
  have hct : ∀ j u, (cellsOf tl)[j]? = some u → w.cell? ⟨b, 1 + j, none⟩ = some u := fun j u hu => by
    have h := hcs (j + 1) u (by rw [← hu]; simp [cellsOf])
    rw [show 1 + j = j + 1 by omega]; exact h
  rcases List.eq_nil_or_concat tl with rfl | hcc
  · cases neg with
    | false =>
      rw [if_neg (by decide)] at hdp
      by_cases h1 : x < 10
      · have he : eText c [] false x = [c] ++ [101] ++ [43] ++ [48, 48 + x] := by simp [eText, expL, h1]
        rw [he]; exact fmt_op1 g b c x dp w hB hgl hbl hne hc hdp h1
      · by_cases h2 : x < 100
        · have he : eText c [] false x = [c] ++ [101] ++ [43] ++ [48 + x / 10, 48 + x % 10] := by simp [eText, expL, h1, h2]
          rw [he]; exact fmt_op2 g b c x dp w hB hgl hbl hne hc hdp _ _ rfl rfl (by omega) h2
        · have he : eText c [] false x = [c] ++ [101] ++ [43] ++ [48 + x / 100, 48 + x / 10 % 10, 48 + x % 10] := by simp [eText, expL, h1, h2]
          rw [he]; exact fmt_op3 g b c x dp w hB hgl hbl hne hc hdp (x / 10) _ _ _ rfl rfl rfl rfl (by omega) hx
    | true =>
      rw [if_pos rfl] at hdp
      have hx1 := hneg rfl
      by_cases h1 : x < 10
      · have he : eText c [] true x = [c] ++ [101] ++ [45] ++ [48, 48 + x] := by simp [eText, expL, h1]
        rw [he]; exact fmt_on1 g b c x dp w hB hgl hbl hne hc hdp hx1 h1
      · by_cases h2 : x < 100
        · have he : eText c [] true x = [c] ++ [101] ++ [45] ++ [48 + x / 10, 48 + x % 10] := by simp [eText, expL, h1, h2]
          rw [he]; exact fmt_on2 g b c x dp w hB hgl hbl hne hc hdp hx1 _ _ rfl rfl (by omega) h2
        · have he : eText c [] true x = [c] ++ [101] ++ [45] ++ [48 + x / 100, 48 + x / 10 % 10, 48 + x % 10] := by simp [eText, expL, h1, h2]
          rw [he]; exact fmt_on3 g b c x dp w hB hgl hbl hne hc hdp hx1 (x / 10) _ _ _ rfl rfl rfl rfl (by omega) hx
  · have ht1 : 1 ≤ tl.length := by
      obtain ⟨l, d, rfl⟩ := hcc; simp
    have hn : tl ≠ [] := by intro h; rw [h] at ht1; simp at ht1
    have hlen2 : ∀ (s : Nat) (E : List Nat) (t : Nat), E.length = 2 → tl.length = t → 2 + t + 1 + 1 + 2 = (([c, 46] ++ tl ++ [101] ++ [s] ++ E)).length := fun s E t h1 h2 => by simp [h1]; omega
    have hlen3 : ∀ (s : Nat) (E : List Nat) (t : Nat), E.length = 3 → tl.length = t → 2 + t + 1 + 1 + 3 = (([c, 46] ++ tl ++ [101] ++ [s] ++ E)).length := fun s E t h1 h2 => by simp [h1]; omega
    cases neg with
    | false =>
      rw [if_neg (by decide)] at hdp
      by_cases h1 : x < 10
      · have he : eText c tl false x = [c, 46] ++ tl ++ [101] ++ [43] ++ [48, 48 + x] := by simp [eText, expL, h1, hn]
        have h := fmt_tp1 g b c x tl _ rfl ht1 ht2 dp w hB hgl hbl hne hc hct hdp h1
        rw [hlen2 43 [48, 48 + x] _ rfl rfl] at h
        rw [he]; exact h
      · by_cases h2 : x < 100
        · have he : eText c tl false x = [c, 46] ++ tl ++ [101] ++ [43] ++ [48 + x / 10, 48 + x % 10] := by simp [eText, expL, h1, h2, hn]
          have h := fmt_tp2 g b c x tl _ rfl ht1 ht2 dp w hB hgl hbl hne hc hct hdp _ _ rfl rfl (by omega) h2
          rw [hlen2 43 [48 + x / 10, 48 + x % 10] _ rfl rfl] at h
          rw [he]; exact h
        · have he : eText c tl false x = [c, 46] ++ tl ++ [101] ++ [43] ++ [48 + x / 100, 48 + x / 10 % 10, 48 + x % 10] := by simp [eText, expL, h1, h2, hn]
          have h := fmt_tp3 g b c x tl _ rfl ht1 ht2 dp w hB hgl hbl hne hc hct hdp (x / 10) _ _ _ rfl rfl rfl rfl (by omega) hx
          rw [hlen3 43 [48 + x / 100, 48 + x / 10 % 10, 48 + x % 10] _ rfl rfl] at h
          rw [he]; exact h
    | true =>
      rw [if_pos rfl] at hdp
      have hx1 := hneg rfl
      by_cases h1 : x < 10
      · have he : eText c tl true x = [c, 46] ++ tl ++ [101] ++ [45] ++ [48, 48 + x] := by simp [eText, expL, h1, hn]
        have h := fmt_tn1 g b c x tl _ rfl ht1 ht2 dp w hB hgl hbl hne hc hct hdp hx1 h1
        rw [hlen2 45 [48, 48 + x] _ rfl rfl] at h
        rw [he]; exact h
      · by_cases h2 : x < 100
        · have he : eText c tl true x = [c, 46] ++ tl ++ [101] ++ [45] ++ [48 + x / 10, 48 + x % 10] := by simp [eText, expL, h1, h2, hn]
          have h := fmt_tn2 g b c x tl _ rfl ht1 ht2 dp w hB hgl hbl hne hc hct hdp hx1 _ _ rfl rfl (by omega) h2
          rw [hlen2 45 [48 + x / 10, 48 + x % 10] _ rfl rfl] at h
          rw [he]; exact h
        · have he : eText c tl true x = [c, 46] ++ tl ++ [101] ++ [45] ++ [48 + x / 100, 48 + x / 10 % 10, 48 + x % 10] := by simp [eText, expL, h1, h2, hn]
          have h := fmt_tn3 g b c x tl _ rfl ht1 ht2 dp w hB hgl hbl hne hc hct hdp hx1 (x / 10) _ _ _ rfl rfl rfl rfl (by omega) hx
          rw [hlen3 45 [48 + x / 100, 48 + x / 10 % 10, 48 + x % 10] _ rfl rfl] at h
          rw [he]; exact h
/-- a word's parts: the exponent's bits, the fraction's -/
theorem parts_word {M sh : Nat} (hn : Nr.Norm M sh) (hM : 1 ≤ M) (hsh : sh ≤ 2045) : sh * 2 ^ 52 + M < 2047 * 2 ^ 52 ∧
    (M < 2 ^ 52 → sh = 0 ∧ (sh * 2 ^ 52 + M) / 2 ^ 52 = 0 ∧ (sh * 2 ^ 52 + M) % 2 ^ 52 = M) ∧
    (2 ^ 52 ≤ M → (sh * 2 ^ 52 + M) / 2 ^ 52 = sh + 1 ∧ (sh * 2 ^ 52 + M) % 2 ^ 52 = M - 2 ^ 52) := by
  obtain ⟨h1, h2⟩ := hn
  refine ⟨by omega, fun h => ⟨by omega, by omega, by omega⟩, fun h => ⟨by omega, by omega⟩⟩
set_option maxRecDepth 100000 in
set_option maxHeartbeats 4000000 in
theorem ftoa_any (g : Nat) (m : Int) (M sh y : Nat) (k : Int) (c x : Nat) (tl : List Nat) (neg : Bool) (w : World) (hB : Buf w g []) (hgl : g < w.heap.size) (T : Tabs w m)
    (hn : Nr.Norm M sh) (hM : 1 ≤ M) (hsh : sh ≤ 2045) (ht : Nr.Told M sh y k) (hct : Nr.dd y = c :: tl) (hkx : k - 1 = if neg then -(x : Int) else (x : Int)) (hneg : neg = true → 1 ≤ x) :
    Calls Tryz.prog 164 #[.slice (some ⟨g, 0, none⟩) 0 24, .float .f64 (sh * 2 ^ 52 + M), .int .u8 101, .int .i64 (-1)] w
      fun e w' => e = .returned (.slice (some ⟨g, 0, none⟩) (eText c tl neg x).length 24) ∧ Buf w' g (eText c tl neg x) ∧ Below g w w' := by
  obtain ⟨⟨u, p⟩, hup⟩ : ∃ q, Nr.shortN (Nr.skew M sh) M (Nr.aE (Nr.skew M sh) sh) (Nr.bE (Nr.skew M sh) sh) (Nr.pE (Nr.skew M sh) ((sh : Int) - 1074)) = q := ⟨_, rfl⟩
  obtain ⟨hcan, hu0, hu60, hp1, hp2⟩ := Nr.short_shown hn hM hsh u p hup
  rw [ht.e] at hcan
  have hst : Nr.strip (Nr.dd u) = c :: tl := by
    have := congrArg Prod.fst hcan
    rw [← hct]; exact this
  have hkp : ((Nr.dd u).length : Int) + p = k := congrArg Prod.snd hcan
  have htl : tl.length ≤ 17 := by
    have := ht.len; rw [hct, List.length_cons] at this; omega
  have hxx : x < 1000 := by
    have h1 := ht.k1; have h2 := ht.k2
    cases neg
    · rw [if_neg (by decide)] at hkx; omega
    · rw [if_pos rfl] at hkx; omega
  obtain ⟨hw1, hw2, hw3⟩ := parts_word hn hM hsh
  have hnb := (Nr.nb_le_iff M 53).2 hn.1
  have hnb0 : 1 ≤ Nr.nb M := by
    have := Nr.nb_ge (k := 0) (n := M) hM
    omega
  have hnbl : 2 ^ (Nr.nb M - 1) ≤ M := Nr.nb_le (by omega)
  have hnbu : M < 2 ^ Nr.nb M := Nr.nb_lt M
  obtain ⟨z, hz⟩ : ∃ z, 64 - Nr.nb M = z := ⟨_, rfl⟩
  have hMz : M < 2 ^ (64 - z) := by rw [show 64 - z = Nr.nb M by omega]; exact hnbu
  have hMz2 : 2 ^ 63 ≤ M * 2 ^ z := by
    rw [show (2 : Nat) ^ 63 = 2 ^ (Nr.nb M - 1) * 2 ^ z by rw [← Nat.pow_add]; congr 1; omega]
    exact Nat.mul_le_mul_right _ hnbl
  have hMz3 : M * 2 ^ z < 2 ^ 64 := by
    have h1 : M * 2 ^ z < 2 ^ (64 - z) * 2 ^ z := Nat.mul_lt_mul_of_pos_right hMz (Nat.two_pow_pos z)
    rw [← Nat.pow_add, show 64 - z + z = 64 by omega] at h1; exact h1
  have hz3 : 1 ≤ sh → z = 11 := fun h => by
    have h52 : 2 ^ 52 ≤ M := by rcases hn.2 with h' | h' <;> omega
    have := Nr.nb_ge h52
    omega
  have C1 := Lib.hid (fun w => Tryz.bits_Len64 (M : Int) w (by omega) (by have := hn.1; omega))
  rw [Int.toNat_natCast, Nr.bitLen_nb (Nat.lt_trans hn.1 (by decide))] at C1
  have CS := Lib.hid (fun w1 (T : Tabs w1 m) => short_any M sh z w1 hn hM hsh (by omega) (by omega) hMz hMz2 hz3 T.pw T.size)
  rw [show shortR (Nr.skew M sh) M (Nr.aE (Nr.skew M sh) sh) (Nr.bE (Nr.skew M sh) sh) (Nr.pE (Nr.skew M sh) ((sh : Int) - 1074)) = (u, p) from hup] at CS
  have CN := Lib.hid (fun w1 (T : Tabs w1 m) => ndigits_any u hu0 (Nat.lt_trans hu60 (by decide)) w1 T.ten)
  have CD := Lib.hid (fun w1 H h => setdigits_any w.heap.size u p hu0 (Nat.lt_trans hu60 (by decide)) hp1 hp2 w1 H h)
  rw [hkp, hst] at CD
  have hlen : (c :: tl).length ≤ (Nr.dd u).length := by rw [← hst]; exact Nr.strip_len_le _
  have htake : (Nr.dd u).take (c :: tl).length = c :: tl := by
    have := Nr.strip_take _ (Nr.dd u) rfl
    rw [hst] at this; exact this.symm
  obtain ⟨n, hnn⟩ : ∃ n, (Nr.dd u).length = n := ⟨_, rfl⟩
  have hn32 : n ≤ 32 := by
    rw [← hnn]
    have := Nr.dd_ge u u (Nat.le_refl _) hu0
    apply Classical.byContradiction
    intro h
    have : 10 ^ 32 ≤ 10 ^ ((Nr.dd u).length - 1) := Nat.pow_le_pow_right (by decide) (by omega)
    omega
  have HCS : Hid (∀ (w1 : World), (∀ j c, (Nr.dd u)[j]? = some c → w1.cell? ⟨w.heap.size, j, none⟩ = some (.int .u8 ((c : Nat) : Int))) → ∀ j v, (cellsOf (c :: tl))[j]? = some v → w1.cell? ⟨w.heap.size, j, none⟩ = some v) := Lib.hid (fun w1 h j v hv => by
    unfold cellsOf at hv
    rw [List.getElem?_map] at hv
    obtain ⟨d, hd, rfl⟩ := Option.map_eq_some_iff.1 hv
    rw [← htake] at hd
    have hj : j < (c :: tl).length := by
      have := (List.getElem?_eq_some_iff.1 hd).1
      rw [List.length_take] at this; omega
    rw [List.getElem?_take_of_lt hj] at hd
    exact h j d hd)
  have CF := Lib.hid (fun (w1 : World) (h1 : Buf w1 g []) h2 h3 h4 h5 => efmt_any g w.heap.size c x tl neg k htl w1 h1 h2 h3 h4 h5 hkx hneg hxx)
  rw [hnn] at CN CD
  obtain ⟨A, hA⟩ : ∃ A, sh * 2 ^ 52 + M = A := ⟨_, rfl⟩
  rw [hA] at hw1 hw2 hw3 ⊢
  have hxb := bits194 A
  have b2 := Tn.frac_bits A (by omega)
  obtain ⟨F, hF⟩ : ∃ F, A % 2 ^ 52 = F := ⟨_, rfl⟩
  obtain ⟨E, hE⟩ : ∃ E, A / 2 ^ 52 = E := ⟨_, rfl⟩
  have b1 : bits .and .i64 (E : Int) 2047 = (E : Int) := by
    have hE2 : E < 2048 := by omega
    have h1 : (BitVec.ofInt 64 2047).toNat = 2 ^ 11 - 1 := by decide
    have key : (BitVec.ofInt 64 (E : Int) &&& BitVec.ofInt 64 2047).toNat = ((E : Int) % ((2 ^ 64 : Nat) : Int)).toNat % 2 ^ 11 := by
      rw [BitVec.toNat_and, BitVec.toNat_ofInt, h1, Nat.and_two_pow_sub_one_eq_mod]
    show IntKind.i64.wrap ((BitVec.ofInt 64 (E : Int) &&& BitVec.ofInt 64 2047).toNat : Nat) = (E : Int)
    rw [key, IntKind.wrap_i64]
    omega
  have a1 : (A : Int) / 4503599627370496 = (E : Int) := by omega
  have a2 : (A : Int) / 9223372036854775808 = 0 := by omega
  have a3 : IntKind.i64.wrap (E : Int) = (E : Int) := by rw [IntKind.wrap_i64]; omega
  have a4 : ((E : Int) == 2047) = false := by rw [beq_eq_false_iff_ne]; omega
  have m0 : ((M : Int) == 0) = false := by rw [beq_eq_false_iff_ne]; omega
  have z1 : IntKind.i64.wrap (64 - ((Nr.nb M : Nat) : Int)) = (z : Int) := by rw [IntKind.wrap_i64]; omega
  have z2 : IntKind.u64.wrap ((M : Int) * 2 ^ z) = ((M * 2 ^ z : Nat) : Int) := by
    rw [IntKind.wrap_u64]
    rw [show (M : Int) * 2 ^ z = ((M * 2 ^ z : Nat) : Int) by simp]
    omega
  have z3 : (z : Int) < 64 := by omega
  have z4 : z < 64 := by omega
  rw [hF] at b2 hw2 hw3
  rw [hE] at hw2 hw3
  have HBu := Lib.hid hB
  have HG := Lib.hid hgl
  have HT := Lib.hid T
  have hsz := T.size
  have KB : Hid (∀ n o, Below w.heap.size w ((w.drewN n).alloc o)) := Lib.hid (fun n o => (below_drewN (Below.refl w.heap.size w) n).alloc (Nat.le_refl _) o)
  have KH : Hid (∀ q, Holds encB ((w.drewN q).alloc (.cells (Array.replicate 32 (.int .u8 0)) 227)) w.heap.size 0 (Array.replicate n (0 : UInt8))) := Lib.hid (fun q j hj => by
    have hj' : j < n := by simpa using hj
    refine ⟨?_, World.frozen?_alloc_new (w.drewN q) _ _ _⟩
    rw [show w.heap.size = (w.drewN q).heap.size from rfl, World.cell?_alloc_new, Nat.zero_add, Array.getElem?_replicate, if_pos (by omega), getElem!_pos _ j hj, Array.getElem_replicate]
    rfl)
  have hmx : max ((tl.length : Int) + 1 - 1) 0 = (tl.length : Int) := by omega
  obtain ⟨Z, hZ⟩ : ∃ Z, M * 2 ^ z = Z := ⟨_, rfl⟩
  rw [hZ] at z2 CS
  have hlc : (c :: tl).length = tl.length + 1 := List.length_cons
  rw [hlc] at CD
  obtain ⟨t, htt⟩ : ∃ t, tl.length = t := ⟨_, rfl⟩
  rw [htt] at CD CF hmx htl
  have q1 : IntKind.i64.wrap (((t + 1 : Nat) : Int) - 1) = (t : Int) := by rw [IntKind.wrap_i64]; omega
  have q2 : max (t : Int) 0 = (t : Int) := by omega
  have q3 : (if (t : Int) < 0 then (0 : Int) else (t : Int)) = (t : Int) := by rw [if_neg (by omega)]
  have q4 : ((t + 1 : Nat) : Int) = (t : Int) + 1 := by omega
  rw [q4] at CD q1
  obtain ⟨Y, hY⟩ : ∃ Y, (sh : Int) - 1074 - (z : Int) = Y := ⟨_, rfl⟩
  rw [hY] at CS
  by_cases h52 : M < 2 ^ 52
  · obtain ⟨hs0, hE0, hFM⟩ := hw2 h52
    subst hE0
    subst hFM
    subst hs0
    have b1' : bits .and .i64 0 2047 = 0 := by decide +kernel
    have y3 : IntKind.i64.wrap (-1022 - (z : Int)) = -1022 - (z : Int) := by rw [IntKind.wrap_i64]; omega
    have y4 : IntKind.i64.wrap (-1022 - (z : Int) - 52) = Y := by rw [IntKind.wrap_i64]; omega
    clear hY hw2 hw3 h52 hnbl hnbu hMz hMz2 hMz3 hz hz3 hn hM hsh ht hct hkx hneg hup hcan hst hkp hxx hnb hnb0 hB hgl T hsz hlen htake hnn hF hE hA hw1 hu0 hu60 hp1 hp2 hZ hlc htt hn32 a4
    go_enter Tryz.func164, Tryz.ntmps164
    go_wp2_with fail
    go_quiet (fail)
    go_wp2_with fail
    refine (C1.out _).mono ?_
    rintro e w1 ⟨rfl, hw1⟩
    have hw1' : w1 = (w.drewN nq).alloc (.cells (Array.replicate 32 (.int .u8 0)) 227) := hw1
    have B1 : Hid (Below w.heap.size w w1) := Lib.hid (by rw [hw1']; exact KB.out nq _)
    have H1 : Hid (Holds encB w1 w.heap.size 0 (Array.replicate n (0 : UInt8))) := Lib.hid (by rw [hw1']; exact KH.out nq)
    have L1 : Hid (w.heap.size < w1.heap.size) := Lib.hid (by rw [hw1']; simp)
    have T1 : Hid (Tabs w1 m) := Lib.hid (HT.out.below B1.out (by have := HT.out.size; omega))
    clear hw1 hw1' KH KB
    go_wp2_with fail
    refine (CS.out _ T1.out).mono ?_
    rintro e w2 ⟨rfl, hb⟩
    have B2 := Lib.hid (B1.out.trans (hb.mono (by have := L1.out; omega)))
    have H2 : Hid (Holds encB w2 w.heap.size 0 (Array.replicate n (0 : UInt8))) := Lib.hid (fun j hj => by
      have h := H1.out j hj
      exact ⟨(hb.cell (p := ⟨w.heap.size, 0 + j, none⟩) L1.out).trans h.1, (hb.frozen (p := ⟨w.heap.size, 0 + j, none⟩) L1.out).trans h.2⟩)
    have L2 : Hid (w.heap.size < w2.heap.size) := Lib.hid (Nat.lt_of_lt_of_le L1.out hb.size)
    have T2 : Hid (Tabs w2 m) := Lib.hid (T1.out.below hb (by have := T1.out.size; omega))
    clear hb H1 B1 L1 T1
    have CN2 := Lib.hid (CN.out w2.drew (T2.out.below (below_drewN (Below.refl w2.heap.size w2) 1) (by have := T2.out.size; omega)))
    have CD2 := Lib.hid (CD.out w2.drew (fun j hj => H2.out j hj) L2.out)
    clear CN CD H2
    go_wp2_with fail
    go_region_law (first
      | (go_simp; go_at_call 139; refine CN2.out.mono ?_; rintro e w3 ⟨rfl, rfl⟩; go_simp)
      | (go_simp; go_at_call 199; refine CD2.out.mono ?_; rintro e w3 ⟨rfl, ho, hc⟩; go_simp))
    all_goals
      have hgw := HG.out
      have O3 : Hid (Buf w3 g []) := Lib.hid ((HBu.out.only (w' := w2.drew) (below_drewN B2.out 1 |>.block g hgw)).only (ho.block g (by have := L2.out; have h4 : w2.drew.heap.size = w2.heap.size := rfl; omega) (by simp; omega)))
      have L3 : Hid (w.heap.size < w3.heap.size) := Lib.hid (by have h2 := L2.out; have h3 := ho.size; have h4 : w2.drew.heap.size = w2.heap.size := rfl; omega)
      have B3 : Hid (Below w.heap.size w w3) := Lib.hid (Below.trans (b := w2.drew) (below_drewN B2.out 1) (ho.below (B := w.heap.size) (by have h2 := L2.out; have h4 : w2.drew.heap.size = w2.heap.size := rfl; omega) (fun x hx => by rw [List.mem_singleton] at hx; omega)))
      have C3 := Lib.hid (CF.out w3 O3.out (by have := L3.out; omega) L3.out (by omega) (HCS.out w3 hc))
      clear ho hc hgw
      go_wp2_with fail
      refine C3.out.mono ?_
      rintro e w4 ⟨rfl, hb4, ho4⟩
      have O4 := Lib.hid hb4
      have B4 : Hid (Below g w w4) := Lib.hid (Below.trans (b := w3) (B3.out.mono (by have := HG.out; omega)) (ho4.below (B := g) (by have := L3.out; have := HG.out; omega) (fun x hx => by rw [List.mem_singleton] at hx; omega)))
      clear hb4 ho4
      go_wp2
      go_returns
      exact ⟨rfl, O4.out, B4.out⟩
  · obtain ⟨hE1, hFM⟩ := hw3 (by omega)
    have b3 : bits .or .u64 (F : Int) 4503599627370496 = (M : Int) := by
      have := u64_or_nat F 4503599627370496 (by omega) (by decide)
      rw [show ((4503599627370496 : Nat) : Int) = 4503599627370496 from rfl] at this
      rw [this, Nat.or_comm, nat_join 52 4503599627370496 F (by decide) (by have := hn.1; omega)]
      omega
    have y0 : ((E : Int) == 0) = false := by rw [beq_eq_false_iff_ne]; omega
    obtain ⟨X, hX⟩ : ∃ X : Int, (E : Int) - 1023 = X := ⟨_, rfl⟩
    have y2 : IntKind.i64.wrap ((E : Int) + -1023) = X := by rw [IntKind.wrap_i64]; omega
    obtain ⟨X2, hX2⟩ : ∃ X2 : Int, X - (z : Int) = X2 := ⟨_, rfl⟩
    have y3 : IntKind.i64.wrap (X - (z : Int)) = X2 := by rw [IntKind.wrap_i64]; omega
    have y4 : IntKind.i64.wrap (X2 - 52) = Y := by rw [IntKind.wrap_i64]; omega
    clear hX hX2 hE1
    clear hY hw2 hw3 h52 hnbl hnbu hMz hMz2 hMz3 hz hz3 hn hM hsh ht hct hkx hneg hup hcan hst hkp hxx hnb hnb0 hB hgl T hsz hlen htake hnn hF hE hA hw1 hu0 hu60 hp1 hp2 hZ hlc htt hn32 hFM
    go_enter Tryz.func164, Tryz.ntmps164
    go_wp2_with fail
    go_quiet (fail)
    go_wp2_with fail
    refine (C1.out _).mono ?_
    rintro e w1 ⟨rfl, hw1⟩
    have hw1' : w1 = (w.drewN nq).alloc (.cells (Array.replicate 32 (.int .u8 0)) 227) := hw1
    have B1 : Hid (Below w.heap.size w w1) := Lib.hid (by rw [hw1']; exact KB.out nq _)
    have H1 : Hid (Holds encB w1 w.heap.size 0 (Array.replicate n (0 : UInt8))) := Lib.hid (by rw [hw1']; exact KH.out nq)
    have L1 : Hid (w.heap.size < w1.heap.size) := Lib.hid (by rw [hw1']; simp)
    have T1 : Hid (Tabs w1 m) := Lib.hid (HT.out.below B1.out (by have := HT.out.size; omega))
    clear hw1 hw1' KH KB
    go_wp2_with fail
    refine (CS.out _ T1.out).mono ?_
    rintro e w2 ⟨rfl, hb⟩
    have B2 := Lib.hid (B1.out.trans (hb.mono (by have := L1.out; omega)))
    have H2 : Hid (Holds encB w2 w.heap.size 0 (Array.replicate n (0 : UInt8))) := Lib.hid (fun j hj => by
      have h := H1.out j hj
      exact ⟨(hb.cell (p := ⟨w.heap.size, 0 + j, none⟩) L1.out).trans h.1, (hb.frozen (p := ⟨w.heap.size, 0 + j, none⟩) L1.out).trans h.2⟩)
    have L2 : Hid (w.heap.size < w2.heap.size) := Lib.hid (Nat.lt_of_lt_of_le L1.out hb.size)
    have T2 : Hid (Tabs w2 m) := Lib.hid (T1.out.below hb (by have := T1.out.size; omega))
    clear hb H1 B1 L1 T1
    have CN2 := Lib.hid (CN.out w2.drew (T2.out.below (below_drewN (Below.refl w2.heap.size w2) 1) (by have := T2.out.size; omega)))
    have CD2 := Lib.hid (CD.out w2.drew (fun j hj => H2.out j hj) L2.out)
    clear CN CD H2
    go_wp2_with fail
    go_region_law (first
      | (go_simp; go_at_call 139; refine CN2.out.mono ?_; rintro e w3 ⟨rfl, rfl⟩; go_simp)
      | (go_simp; go_at_call 199; refine CD2.out.mono ?_; rintro e w3 ⟨rfl, ho, hc⟩; go_simp))
    all_goals
      have hgw := HG.out
      have O3 : Hid (Buf w3 g []) := Lib.hid ((HBu.out.only (w' := w2.drew) (below_drewN B2.out 1 |>.block g hgw)).only (ho.block g (by have := L2.out; have h4 : w2.drew.heap.size = w2.heap.size := rfl; omega) (by simp; omega)))
      have L3 : Hid (w.heap.size < w3.heap.size) := Lib.hid (by have h2 := L2.out; have h3 := ho.size; have h4 : w2.drew.heap.size = w2.heap.size := rfl; omega)
      have B3 : Hid (Below w.heap.size w w3) := Lib.hid (Below.trans (b := w2.drew) (below_drewN B2.out 1) (ho.below (B := w.heap.size) (by have h2 := L2.out; have h4 : w2.drew.heap.size = w2.heap.size := rfl; omega) (fun x hx => by rw [List.mem_singleton] at hx; omega)))
      have C3 := Lib.hid (CF.out w3 O3.out (by have := L3.out; omega) L3.out (by omega) (HCS.out w3 hc))
      clear ho hc hgw
      go_wp2_with fail
      refine C3.out.mono ?_
      rintro e w4 ⟨rfl, hb4, ho4⟩
      have O4 := Lib.hid hb4
      have B4 : Hid (Below g w w4) := Lib.hid (Below.trans (b := w3) (B3.out.mono (by have := HG.out; omega)) (ho4.below (B := g) (by have := L3.out; have := HG.out; omega) (fun x hx => by rw [List.mem_singleton] at hx; omega)))
      clear hb4 ho4
      go_wp2
      go_returns
      exact ⟨rfl, O4.out, B4.out⟩
end Go.Proofs.YthhlhiighgnkmaaGreatDoor
