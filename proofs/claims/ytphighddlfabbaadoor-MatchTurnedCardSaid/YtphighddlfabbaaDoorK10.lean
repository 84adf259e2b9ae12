/-
  PACKED: WbB, WbC, WbD, WbE, WbF, WbG, RxI, WbH, WbI, WbJ
-/
import Derived.Test.YtphighddlfabbaaDoorK09
import Derived.Test.YtphighddlfabbaaDoorK02
import Derived.BigRegion
namespace Go.Proofs.YtphighddlfabbaaDoor
set_option linter.unusedVariables false
set_option linter.unusedSimpArgs false
open Go.RowKit Go.PlainAid Go.Shelf
open Rx (Set4 RS Instr)
theorem sizeAll_snoc : ∀ (ds : List Rx.Node) (t : Rx.Node), Rx.sizeAll (ds ++ [t]) = Rx.sizeAll ds + Rx.size t
  | [], t => by simp [Rx.sizeAll]
  | u :: us, t => by rw [List.cons_append, Rx.sizeAll, sizeAll_snoc us, Rx.sizeAll]; omega
theorem wfAll_take : ∀ (ks : List Rx.Node), Rx.WfAll ks → ∀ k, Rx.WfAll (ks.take k)
  | [], _, k => by simp; unfold Rx.WfAll; trivial
  | t :: ts, h, 0 => by simp; unfold Rx.WfAll; trivial
  | t :: ts, h, k + 1 => by
    unfold Rx.WfAll at h
    rw [List.take_succ_cons]
    unfold Rx.WfAll
    exact ⟨h.1, wfAll_take ts h.2 k⟩
theorem altLen_mono (ks : List Rx.Node) (k : Nat) (hk : k < ks.length) : altLen (ks.take k) + Rx.size ks[k] + 2 = altLen (ks.take (k + 1)) := by
  rw [List.take_succ_eq_append_getElem hk]
  unfold altLen
  rw [sizeAll_snoc]
  simp
  omega
theorem altLen_le (ks : List Rx.Node) : ∀ j k, k + j ≤ ks.length → altLen (ks.take k) ≤ altLen (ks.take (k + j))
  | 0, k, _ => Nat.le_refl _
  | j + 1, k, h => by
    have h1 := altLen_le ks j k (by omega)
    have h2 := altLen_mono ks (k + j) (by omega)
    rw [show k + (j + 1) = k + j + 1 by omega]
    omega
set_option maxHeartbeats 4000000 in
set_option maxRecDepth 100000 in
theorem br_any (w0 : World) (P : Nat) (S : Nat → Prop) (ks : List Rx.Node) (kv : Value) (hkv : KidV w0 S ks kv) (hlen : ks.length ≤ 1000) (hw : Rx.WfAll ks) (n : Nat) (hn : ks.length = n + 1) (CK : ∀ k (hk : k < ks.length) i, IsN w0 S ks[k] i → AddC w0 P ks[k] i)
    (is : List Instr) (w : World) (hs : is.length + (Rx.sizeAll ks + 2 * n) ≤ 100000) (HP : PR w0 w P is) :
    Calls Tryd.prog 39 #[ptr P, kv] w fun e w' => e = .returned (.tuple #[]) ∧ PR w0 w' P (is ++ Rx.codeAlt ks is.length (is.length + (Rx.sizeAll ks + 2 * n))) ∧ K3 w w' := by
  obtain ⟨a, c, rfl, hcap, HK⟩ := kid_shape hkv
  obtain ⟨i0, hi0, hz0, hz1, hz2⟩ := info_parts infoI
  have hn1 : n < ks.length := by omega
  have hEn : altLen (ks.take n) + Rx.size ks[n] = Rx.sizeAll ks + 2 * n := by
    have h1 := altLen_mono ks n hn1
    rw [List.take_of_length_le (show ks.length ≤ n + 1 by omega)] at h1
    have h2 : altLen ks = Rx.sizeAll ks + 2 * ks.length := rfl
    omega
  obtain ⟨N, hN⟩ : ∃ N, is.length = N := ⟨_, rfl⟩
  rw [hN] at hs ⊢
  obtain ⟨E, hE⟩ : ∃ E, N + (Rx.sizeAll ks + 2 * n) = E := ⟨_, rfl⟩
  rw [hE] at hs ⊢
  have hks : ks.take n ++ [ks[n]] = ks := by rw [← List.take_succ_eq_append_getElem hn1, List.take_of_length_le (by omega)]
  have HTT := Lib.hid (show is ++ mixAlt E n (ks.take n) N ++ Rx.code ks[n] (N + altLen (ks.take n)) = is ++ Rx.codeAlt ks N E by
    rw [List.append_assoc, mixAlt_code E (ks.take n) ks[n] N n (by rw [List.length_take]; omega), hks])
  obtain ⟨TT, hTT⟩ : ∃ T, is ++ Rx.codeAlt ks N E = T := ⟨_, rfl⟩
  rw [hTT] at HTT ⊢
  have HCE := Lib.hid (fun (is' : List Instr) (A : Nat) (hA : is'.length = A) (hl : A ≤ 100000) (w : World) (HP : PR w0 w P is') => by
    have := emit_any w0 P is' (Rx.iChoice (is'.length + 1) 0) none rfl (.inl ⟨rfl, rfl⟩) (by omega) w HP
    rw [hA] at this
    exact this)
  have HCJ := Lib.hid (fun (is' : List Instr) (A : Nat) (hA : is'.length = A) (hl : A ≤ 100000) (w : World) (HP : PR w0 w P is') => by
    have := emit_any w0 P is' (Rx.iJump (is'.length + 1)) none rfl (.inl ⟨rfl, rfl⟩) (by omega) w HP
    rw [hA] at this
    exact this)
  have HLEN := Lib.hid (fun k => show (is ++ mixAlt E 0 (ks.take k) N).length = N + altLen (ks.take k) by rw [List.length_append, mixAlt_length E 0 _ _ (wfAll_take ks hw k), hN])
  have HSN := Lib.hid (fun k (hk : k < ks.length) => show is ++ mixAlt E 0 (ks.take (k + 1)) N = (is ++ mixAlt E 0 (ks.take k) N) ++ (Rx.iChoice (N + altLen (ks.take k) + 1) (N + altLen (ks.take k) + 1 + Rx.size ks[k] + 1) :: (Rx.code ks[k] (N + altLen (ks.take k) + 1) ++ [Rx.iJump (N + altLen (ks.take k) + 1 + Rx.size ks[k] + 1)])) by
    rw [List.take_succ_eq_append_getElem hk, mixAlt_snoc, List.append_assoc])
  have HJS := Lib.hid (fun k (hk : k < ks.length) => show jidx (ks.take (k + 1)) N = jidx (ks.take k) N ++ [N + altLen (ks.take k) + 1 + Rx.size ks[k]] by
    rw [List.take_succ_eq_append_getElem hk, jidx_snoc])
  have HJL := Lib.hid (fun k (hk : k ≤ n) => show (jidx (ks.take k) N).length = k by rw [jidx_length, List.length_take]; omega)
  have HB := Lib.hid (fun k (hk : k < n) => show N + altLen (ks.take k) + Rx.size ks[k] + 2 ≤ E from by
    have h1 := altLen_mono ks k (by omega)
    have h2 := altLen_le ks (n - (k + 1)) (k + 1) (by omega)
    rw [show k + 1 + (n - (k + 1)) = n by omega] at h2
    omega)
  have HFL := Lib.hid (fun k (hk : k < ks.length) b => Rx.code_length ks[k] (wfAll_mem ks hw k hk) b)
  have HST := Lib.hid (fun q (hq : q < n) => mixAlt_step E q (ks.take n) N (wfAll_take ks hw n) (by rw [List.length_take]; omega))
  have HEL := Lib.hid (fun q => show (is ++ mixAlt E q (ks.take n) N ++ Rx.code ks[n] (N + altLen (ks.take n))).length = E by
    rw [List.length_append, List.length_append, mixAlt_length E q _ _ (wfAll_take ks hw n), Rx.code_length ks[n] (wfAll_mem ks hw n hn1), hN]; omega)
  have HAE := Lib.hid (show N + altLen (ks.take n) + Rx.size ks[n] = E by omega)
  obtain ⟨g, i9, rfl, hx9⟩ := HK 0 (by omega)
  clear hx9
  have HK := Lib.hid (fun k (hk : k < ks.length) => show ∃ i, g < w0.heap.size ∧ w0.cell? ⟨g, k, none⟩ = some (ptr i) ∧ IsN w0 S ks[k] i from by
    obtain ⟨g', i, e, r⟩ := HK k hk
    injection e with e
    injection e with e
    subst e
    exact ⟨i, r⟩)
  have CK := Lib.hid CK
  have HS := Lib.hid hs
  have HB0 := Lib.hid HP.below.size
  have HNN := Lib.hid hN
  have P0 := Lib.hid (show PR w0 w P (is ++ mixAlt E 0 (ks.take 0) N) by rw [List.take_zero, mixAlt, List.append_nil]; exact HP)
  have OS0 := Lib.hid (show OwnI w w.heap.size (.slice none 0 0) (jidx (ks.take 0) N) by rw [List.take_zero, jidx]; exact OwnI.nil w w.heap.size)
  have hNL := Lib.hid hn
  rw [hn] at hcap ⊢
  have hn5 : n ≤ 1000 := by omega
  have e1 : (((n + 1 : Nat) : Int) - 1) = (n : Int) := by omega
  have hcap2 : n ≤ c := by omega
  have hE5 : E ≤ 100000 := hs
  unfold ptr
  clear HP hkv hw hEn hN hE hks hTT hs hlen
  go_enter Tryd.func39, Tryd.ntmps39
  go_wp2
  go_loopw [4, 6, 7, 16] (fun v4 _ _ i wr => ∃ (k : Nat), k ≤ n ∧ i = .int .i64 ((k : Nat) : Int) ∧ Hid (PR w0 wr P (is ++ mixAlt E 0 (ks.take k) N)) ∧ Hid (K3 w wr) ∧ Hid (OwnI wr w.heap.size v4 (jidx (ks.take k) N))) (fun _ _ _ i _ => n - (intOf i).toNat)
  case atStart => exact ⟨0, Nat.zero_le _, rfl, P0, Lib.hid (K3.refl w), OS0⟩
  case round =>
    obtain ⟨k, hk, rfl, HP, HK3, HO⟩ := hrel
    obtain ⟨a8, c8, hv8⟩ := HO.out.shape
    rw [HJL.out k hk] at hv8
    subst hv8
    by_cases hlt : k < n
    · have hd : decide (k < n) = true := decide_eq_true hlt
      have hkl : k < ks.length := by first | exact hn1 | exact Nat.lt_trans hlt hn1 | omega
      obtain ⟨i, hg, h1, h2⟩ := HK.out k hkl
      have h1' : wr.cell? ⟨g, k, none⟩ = some (.pointer (some ⟨i, 0, none⟩)) := (HP.out.below.cell (p := ⟨g, k, none⟩) hg).trans h1
      have hb := HB.out k hlt
      have hl0 := HLEN.out k
      have hsn := HSN.out k hkl
      have hjs := HJS.out k hkl
      have hfl := HFL.out k hkl
      have ca := CK.out k hkl i h2
      obtain ⟨A, hA⟩ : ∃ A, N + altLen (ks.take k) = A := ⟨_, rfl⟩
      rw [hA] at hb hl0 hsn hjs
      obtain ⟨t, ht⟩ : ∃ t, ks[k] = t := ⟨_, rfl⟩
      rw [ht] at hb hsn hjs hfl ca
      obtain ⟨L0, hL0⟩ : ∃ L, is ++ mixAlt E 0 (ks.take k) N = L := ⟨_, rfl⟩
      rw [hL0] at HP hl0 hsn
      have CE1 := Lib.hid (HCE.out L0 A hl0 (by omega) wr HP.out)
      obtain ⟨L1, hL1⟩ : ∃ L, L0 ++ [Rx.iChoice (A + 1) 0] = L := ⟨_, rfl⟩
      rw [hL1] at CE1
      have hl1 : L1.length = A + 1 := by rw [← hL1]; simp [hl0]
      have CA1 := Lib.hid (fun w HP => ca L1 w (by omega) HP)
      rw [hl1] at CA1
      obtain ⟨L2, hL2⟩ : ∃ L, L1 ++ Rx.code t (A + 1) = L := ⟨_, rfl⟩
      rw [hL2] at CA1
      obtain ⟨J, hJ⟩ : ∃ J, A + 1 + Rx.size t = J := ⟨_, rfl⟩
      have hl2 : L2.length = J := by rw [← hL2, List.length_append, hl1, hfl, hJ]
      have CJ1 := Lib.hid (fun w HP => HCJ.out L2 J hl2 (by omega) w HP)
      obtain ⟨L3, hL3⟩ : ∃ L, L2 ++ [Rx.iJump (J + 1)] = L := ⟨_, rfl⟩
      rw [hL3] at CJ1
      have hl3 : L3.length = J + 1 := by rw [← hL3]; simp [hl2]
      have h3 : L3 = L0 ++ Rx.iChoice (A + 1) 0 :: (Rx.code t (A + 1) ++ [Rx.iJump (J + 1)]) := by rw [← hL3, ← hL2, ← hL1]; simp
      rw [hJ] at hsn hjs
      have HN4 := Lib.hid hsn
      have H3 := Lib.hid h3
      have HL3 := Lib.hid hl3
      have HL0 := Lib.hid hl0
      have HI := Lib.hid hjs
      have hAJ : A < J := by omega
      have hJ5 : J + 1 ≤ 100000 := by omega
      have HGL := Lib.hid (HJL.out k hk)
      have HMX := Lib.hid (show (jidx (ks.take k) N).length + 1 ≤ maxLen ∧ ((jidx (ks.take k) N).length + 1) * 8 ≤ 140737488355328 from ⟨by rw [HGL.out]; unfold maxLen; omega, by rw [HGL.out]; omega⟩)
      simp only [Rx.iChoice, Rx.iJump, Set4.none] at CE1 CJ1
      unfold ptr at CE1 CA1 CJ1
      clear h1 h2 hg hb hl0 hsn hjs hfl ca hA ht hL0 hL1 hl1 hL2 hl2 hL3 hl3 h3 hJ hkl
      go_wp2_with fail
      refine CE1.out.mono ?_
      rintro e w2 ⟨rfl, h2, k2⟩
      have P2 := Lib.hid h2
      have KK2 := Lib.hid (HK3.out.trans k2)
      have O2 := Lib.hid (HO.out.k3 k2)
      clear h2 k2
      go_wp2_with fail
      refine (CA1.out _ P2.out).mono ?_
      rintro e w3 ⟨rfl, h3, k3⟩
      have P3 := Lib.hid h3
      have KK3 := Lib.hid (KK2.out.trans k3)
      have O3 := Lib.hid (O2.out.k3 k3)
      clear h3 k3
      go_wp2_with fail
      refine (CJ1.out _ P3.out).mono ?_
      rintro e w4 ⟨rfl, h4, k4⟩
      have hbw : Below w4.heap.size w4 (w4.alloc (.cells #[.int .i64 ((J : Nat) : Int)] 3)) := (Below.refl _ _).alloc (Nat.le_refl _) _
      have P4 := Lib.hid (h4.move hbw)
      have KK4 := Lib.hid (KK3.out.trans (k4.trans (K3.below hbw)))
      have O4 := Lib.hid (O3.out.k3 (k4.trans (K3.below hbw)))
      have HSZ := Lib.hid KK4.out.size
      have HFIN := Lib.hid (fun (v2 : Value) w5 (h1 : w5.ownsRow w.heap.size 3 1 v2 ((jidx (ks.take k) N).length + 1) (cellsI (jidx (ks.take k) N) ++ [.int .i64 ((J : Nat) : Int)])) (hg : World.grownBy _ w5 _) => show OwnI w5 w.heap.size v2 (jidx (ks.take (k + 1)) N) ∧ K3 w w5 ∧ PR w0 w5 P L3 from ⟨by rw [HI.out]; exact ownI_grow (es := [J]) h1, KK4.out.grown O4.out hg, P4.out.grown O4.out (HB0.out) hg⟩)
      clear h4 k4 hbw
      go_wp2_with (at_builtin; refine wpList_append_own _ rfl (.tmp 26) (.tmp 30) 85 rfl w.heap.size 3 i0 (.int .i64 0) 1 8 Tryd.underlying85 hi0 hz0 hz1 hz2 rfl (by decide) (.slice a8 k c8) (jidx (ks.take k) N).length (cellsI (jidx (ks.take k) N)) rfl O4.out ⟨w4.heap.size, 0, none⟩ 1 1 [.int .i64 ((J : Nat) : Int)] rfl rfl (one_new w4 _ 3) (by simp [Value.oneCell']) HMX.out.1 HMX.out.2 HSZ.out ?_; intro v5 w5 h1 h2 h3; obtain ⟨o5, k5, p5⟩ := HFIN.out v5 w5 h1 h2; have O5 := Lib.hid o5; have K5 := Lib.hid k5; have P5 := Lib.hid p5; clear h1 h2 h3 o5 k5 p5)
      rw [H3.out] at P5
      have hkx : A < (L0 ++ Rx.iChoice (A + 1) 0 :: (Rx.code t (A + 1) ++ [Rx.iJump (J + 1)])).length := by rw [← H3.out, HL3.out]; omega
      obtain ⟨g5, c5, ep5, q1, hgP, q2, kk, p9, p8⟩ := P5.out.put5 A hkx
      have p9' := p9 (J + 1)
      rw [get_at L0 _ _ A HL0.out hkx] at q2 p9'
      rw [set_at L0 _ _ _ A HL0.out, show ((J + 1 : Nat) : Int) = (J : Int) + 1 by omega] at p9'
      have HP9 := Lib.hid (show PR w0 (w5.drew.setCell ⟨g5, A * 11 + 9, none⟩ (.int .i64 ((J : Int) + 1))) P (is ++ mixAlt E 0 (ks.take (k + 1)) N) from by rw [HN4.out]; exact p9')
      have HK9 := Lib.hid (K5.out.trans (kk 9 (.int .i64 ((J : Int) + 1))))
      have HO9 := Lib.hid (O5.out.k3 (kk 9 (.int .i64 ((J : Int) + 1))))
      have s9 := q2 9 (by decide)
      have c9 := s9.1
      have f9 := s9.2
      simp only [icells, List.getElem?_cons_succ, List.getElem?_cons_zero, Rx.iChoice] at c9
      rw [← H3.out, HL3.out] at q1
      have hbI : (A : Int) < (J : Int) + 1 := by omega
      have hbN : A < J + 1 := by omega
      clear q2 p8 p9 p9' kk s9 hkx
      go_region
      all_goals go_wp2
      all_goals go_roundw
      all_goals first
        | exact ⟨k + 1, by omega, by go_num, HP9, HK9, HO9⟩
        | (simp [intOf]; omega)
    · obtain rfl : k = n := by omega
      have hd : decide (k < k) = false := decide_eq_false (by omega)
      have hkl : k < ks.length := by first | exact hn1 | exact Nat.lt_trans hlt hn1 | omega
      obtain ⟨i, hg, h1, h2⟩ := HK.out k hkl
      have h1' : wr.cell? ⟨g, k, none⟩ = some (.pointer (some ⟨i, 0, none⟩)) := (HP.out.below.cell (p := ⟨g, k, none⟩) hg).trans h1
      have CA1 := Lib.hid (CK.out k hkl i h2 _ wr (by rw [HLEN.out k]; have := HAE.out; omega) HP.out)
      rw [HLEN.out k] at CA1
      unfold ptr at CA1
      clear h1 h2 hg
      go_wp2_with fail
      refine CA1.out.mono ?_
      rintro e w3 ⟨rfl, h3, k3⟩
      have P3 := Lib.hid h3
      have KK3 := Lib.hid (HK3.out.trans k3)
      have O3 := Lib.hid (HO.out.k3 k3)
      have KW := Lib.hid (K3.refl w3)
      clear h3 k3
      go_wp2
      go_loopw [9, 53] (fun _ i w2 => ∃ (q : Nat), q ≤ k ∧ i = .int .i64 ((q : Nat) : Int) ∧ Hid (PR w0 w2 P (is ++ mixAlt E q (ks.take k) N ++ Rx.code ks[k] (N + altLen (ks.take k)))) ∧ Hid (K3 w3 w2)) (fun _ i _ => k - (intOf i).toNat)
      case atStart => exact ⟨0, Nat.zero_le _, rfl, P3, KW⟩
      case round =>
        obtain ⟨q, hq, rfl, HP2, HK2⟩ := hrel
        by_cases hql : q < k
        · have hd2 : decide (q < k) = true := decide_eq_true hql
          obtain ⟨A, R, j, hj1, hj2, hj3, hj4, hj5⟩ := HST.out q hql
          have hel := HEL.out q
          have he9 := HAE.out
          obtain ⟨CD, hCD⟩ : ∃ C, Rx.code ks[k] (N + altLen (ks.take k)) = C := ⟨_, rfl⟩
          rw [hCD] at hel HP2
          have x1 : is ++ mixAlt E q (ks.take k) N ++ CD = (is ++ A) ++ Rx.iJump (j + 1) :: (R ++ CD) := by rw [hj4]; simp
          have x2 : is ++ mixAlt E (q + 1) (ks.take k) N ++ CD = (is ++ A) ++ Rx.iJump E :: (R ++ CD) := by rw [hj5]; simp
          have hAl : (is ++ A).length = j := by rw [List.length_append, HNN.out]; exact hj2
          rw [x1] at hel HP2
          have hkx : j < ((is ++ A) ++ Rx.iJump (j + 1) :: (R ++ CD)).length := by rw [hel]; omega
          obtain ⟨g5, c5, ep5, q1, hgP, q2, kk, p9, p8⟩ := HP2.out.put5 j hkx
          have p8' := p8 E
          rw [get_at _ _ _ j hAl hkx] at q2 p8'
          rw [set_at _ _ _ _ j hAl] at p8'
          have HP9 := Lib.hid (fun w' (h : PR w0 w' P ((is ++ A) ++ Rx.iJump E :: (R ++ CD))) => show PR w0 w' P (is ++ mixAlt E (q + 1) (ks.take k) N ++ Rx.code ks[k] (N + altLen (ks.take k))) from by rw [hCD, x2]; exact h)
          have HP8 := Lib.hid p8'
          have HK9 := Lib.hid (HK2.out.trans (kk 8 (.int .i64 ((E : Nat) : Int))))
          have s8 := q2 8 (by decide)
          have c8' := s8.1
          have f8 := s8.2
          simp only [icells, List.getElem?_cons_succ, List.getElem?_cons_zero, Rx.iJump] at c8'
          rw [hel] at q1
          obtain ⟨g9, c9', hv9, hsrc⟩ := (O3.out.k3 HK2.out).src (by intro e; have := congrArg List.length e; rw [HJL.out k (Nat.le_refl _)] at this; simp at this; omega)
          injection hv9 with hv9 hv92 hv93
          subst hv9
          clear hv92 hv93
          have y := hsrc q (.int .i64 ((j : Nat) : Int)) (by unfold cellsI; rw [List.getElem?_map, hj1]; rfl)
          rw [add_here] at y
          have hbI : (j : Int) < (E : Int) := by omega
          have hbN : j < E := by omega
          clear q2 p8 p9 p8' kk s8 hkx hsrc hj1 hj2 hj3 hj4 hj5 hel he9 x1 x2 hAl hCD
          go_wp2
          go_region
          all_goals go_wp2
          all_goals go_roundw
          all_goals first
            | exact ⟨q + 1, by omega, by go_num, Lib.hid (HP9.out _ HP8.out), HK9⟩
            | (simp [intOf]; omega)
        · obtain rfl : q = k := by omega
          have hd2 : decide (q < q) = false := decide_eq_false (by omega)
          have P9 := Lib.hid (show PR w0 _ P TT from by rw [← HTT.out]; exact HP2.out)
          have K9 := Lib.hid (KK3.out.trans HK2.out)
          go_wp2
          exact bodyPost_end (results_none rfl _ _ _) rfl ⟨rfl, P9.out, K9.out⟩
end Go.Proofs.YtphighddlfabbaaDoor
namespace Go.Proofs.YtphighddlfabbaaDoor
set_option linter.unusedVariables false
set_option linter.unusedSimpArgs false
open Go.RowKit Go.PlainAid Go.Shelf
open Rx (Set4 RS Instr)
set_option maxHeartbeats 4000000 in
set_option maxRecDepth 100000 in
theorem add_alt (w0 : World) (P : Nat) (S : Nat → Prop) (ks : List Rx.Node) (b : Nat) (H0 : IsN w0 S (.alt ks) b) (hw : Rx.Wf (.alt ks)) (hlen : ks.length ≤ 1000) (CK : ∀ k (hk : k < ks.length) i, IsN w0 S ks[k] i → AddC w0 P ks[k] i) : AddC w0 P (.alt ks) b := by
  intro is w hs HP
  unfold IsN at H0
  unfold Rx.Wf at hw
  obtain ⟨hS, kv, hrow, hkv⟩ := H0
  have hkv : KidV w0 S ks kv := .inr hkv
  have hpos : 0 < ks.length := List.length_pos_iff.2 hw.1
  unfold Rx.size at hs
  have CB := Lib.hid (br_any w0 P S ks kv hkv hlen hw.2 (ks.length - 1) (by omega) CK is w hs HP)
  obtain ⟨a, c, rfl, _, _⟩ := kid_shape hkv
  have hN : NodeAt w b 3 Set4.none 0 0 0 0 false false nilP _ _ := ⟨HP.node hrow⟩
  have c0 : w.cell? ⟨b, 0, none⟩ = some (.int .u8 3) := hN.c 0
  have cc : w.cell? ⟨b, 12, none⟩ = some (.slice a ks.length c) := hN.c 12
  unfold Rx.code
  obtain ⟨TT, hTT⟩ : ∃ T, is ++ Rx.codeAlt ks is.length (is.length + (Rx.sizeAll ks + 2 * (ks.length - 1))) = T := ⟨_, rfl⟩
  rw [hTT] at CB ⊢
  unfold ptr at CB ⊢
  clear hN hrow hkv hw hTT hs hS HP CK hlen hpos
  go_enter Tryd.func32, Tryd.ntmps32
  go_wp2_with fail
  refine CB.out.mono ?_
  rintro e w2 ⟨rfl, h2⟩
  have P2 := Lib.hid h2
  clear h2
  go_wp2
  exact bodyPost_end (results_none rfl _ _ _) rfl ⟨rfl, P2.out⟩
set_option maxHeartbeats 4000000 in
set_option maxRecDepth 100000 in
theorem add_cnt (w0 : World) (P : Nat) (S : Nat → Prop) (l : Nat) (m : Option Nat) (p z : Bool) (t : Rx.Node) (b : Nat) (H0 : IsN w0 S (.count l m p z t) b) (hw : Rx.Wf t) (hl : l ≤ 1000) (hm : ∀ M, m = some M → l ≤ M ∧ M ≤ 1000) (CK : ∀ i, IsN w0 S t i → AddC w0 P t i) : AddC w0 P (.count l m p z t) b := by
  intro is w hs HP
  have CB := Lib.hid (cnt_any w0 P S l m p z t b H0 hw hl hm CK is w hs HP)
  unfold IsN at H0
  obtain ⟨hS, em, g, cur, i, hrow, hem, hSg, hg, hcc, hi⟩ := H0
  have hN : NodeAt w b 5 Set4.none 0 0 l (mostI m) p z em (.slice (some ⟨g, 0, none⟩) 1 1) (Rx.states (.count l m p z t)) := ⟨HP.node hrow⟩
  have c0 : w.cell? ⟨b, 0, none⟩ = some (.int .u8 5) := hN.c 0
  obtain ⟨TT, hTT⟩ : ∃ T, is ++ Rx.code (.count l m p z t) is.length = T := ⟨_, rfl⟩
  rw [hTT] at CB ⊢
  unfold ptr at CB ⊢
  clear hN hrow hem hg hcc hi hS hSg hTT hs HP CK hw
  go_enter Tryd.func32, Tryd.ntmps32
  go_wp2_with fail
  refine CB.out.mono ?_
  rintro e w2 ⟨rfl, h2⟩
  have P2 := Lib.hid h2
  clear h2
  go_wp2
  exact bodyPost_end (results_none rfl _ _ _) rfl ⟨rfl, P2.out⟩
theorem numAll_mem : ∀ ks, NumBAll ks → ∀ t ∈ ks, NumB t
  | [], _, t, ht => by simp at ht
  | u :: us, h, t, ht => by
    unfold NumBAll at h
    rcases List.mem_cons.1 ht with rfl | ht
    · exact h.1
    · exact numAll_mem us h.2 t ht
theorem bdAll_mem : ∀ ks, BdAll ks → ∀ t ∈ ks, Bd t
  | [], _, t, ht => by simp at ht
  | u :: us, h, t, ht => by
    unfold BdAll at h
    rcases List.mem_cons.1 ht with rfl | ht
    · exact h.1
    · exact bdAll_mem us h.2 t ht
theorem add_any (w0 : World) (P : Nat) (S : Nat → Prop) : ∀ t, Rx.Wf t → Bd t → NumB t → sizeOk t → ∀ b, IsN w0 S t b → AddC w0 P t b := by
  intro t
  induction t using Rx.Node.ind with
  | h1 x => intro _ _ _ _ b H; exact add_byte w0 P S x b H
  | h2 e => intro _ _ _ _ b H; exact add_edge w0 P S e b H
  | h3 ks ih =>
    intro hw hb hn hz b H
    have hw2 := hw
    unfold Rx.Wf at hw2
    unfold Bd at hb
    unfold NumB at hn
    unfold sizeOk at hz
    exact add_seq w0 P S ks b H hw hz.1 fun k hk i hi => ih ks[k] (List.getElem_mem hk) (wfAll_mem ks hw2 k hk) (bdAll_mem ks hb _ (List.getElem_mem hk)) (numAll_mem ks hn _ (List.getElem_mem hk)) (sizeAll_mem ks hz.2.2 _ (List.getElem_mem hk)) i hi
  | h4 ks ih =>
    intro hw hb hn hz b H
    have hw2 := hw
    unfold Rx.Wf at hw2
    unfold Bd at hb
    unfold NumB at hn
    unfold sizeOk at hz
    exact add_alt w0 P S ks b H hw hz.1 fun k hk i hi => ih ks[k] (List.getElem_mem hk) (wfAll_mem ks hw2.2 k hk) (bdAll_mem ks hb _ (List.getElem_mem hk)) (numAll_mem ks hn _ (List.getElem_mem hk)) (sizeAll_mem ks hz.2.2 _ (List.getElem_mem hk)) i hi
  | h5 n t ih =>
    intro hw hb hn hz b H
    unfold Rx.Wf at hw
    unfold Bd at hb
    unfold NumB at hn
    unfold sizeOk at hz
    exact add_group w0 P S n t b H hw hn.1 fun i hi => ih hw hb hn.2 hz.2 i hi
  | h6 l m p z t ih =>
    intro hw hb hn hz b H
    unfold Rx.Wf at hw
    unfold Bd at hb
    unfold NumB at hn
    unfold sizeOk at hz
    exact add_cnt w0 P S l m p z t b H (by first | exact hw | exact hw.1 | exact hw.2 | exact hw.2.2) hb.1 hb.2.1 fun i hi => ih (by first | exact hw | exact hw.1 | exact hw.2 | exact hw.2.2) hb.2.2 hn hz i hi
set_option maxHeartbeats 4000000 in
set_option maxRecDepth 100000 in
/-- the program that build gives: its row, its steps -/
theorem build_any (S : Nat → Prop) (t : Rx.Node) (b : Nat) (w : World) (hw : Rx.Wf t) (hb : Bd t) (hn : NumB t) (hz : sizeOk t) (hs : Rx.size t ≤ 99999) (H : IsN w S t b) :
    Calls Tryd.prog 27 #[ptr b] w fun e w' => ∃ v P, e = .returned v ∧ PRv w w' P v (Rx.prog t) := by
  have hl := Rx.code_length t hw 0
  have P0 : PR w (w.alloc (.cells #[.slice none 0 0] 73)) w.heap.size [] := ⟨.slice none 0 0, (Below.refl _ _).alloc (Nat.le_refl _) _, Nat.le_refl _, heap_alloc_new w _, [], rfl, World.ownsRow_nil _ _ 83 11, fun k hk => by simp at hk⟩
  have CA := Lib.hid (add_any w w.heap.size S t hw hb hn hz b H [] _ (by simpa using (by omega : Rx.size t ≤ 100000)) P0)
  have CE := Lib.hid (fun w1 (HP : PR w w1 w.heap.size (Rx.code t 0)) => emit_any w w.heap.size (Rx.code t 0) (Rx.iFitted (Rx.size t)) none (by rw [hl]; rfl) (.inl ⟨rfl, rfl⟩) (by omega) w1 HP)
  simp only [List.nil_append, List.length_nil] at CA
  have hp : Rx.code t 0 ++ [Rx.iFitted (Rx.size t)] = Rx.prog t := rfl
  rw [hp] at CE
  simp only [Rx.iFitted, Set4.none] at CE
  unfold ptr at CA CE ⊢
  clear hl P0 hw hb hn hz hs H hp
  go_enter Tryd.func27, Tryd.ntmps27
  go_wp2_with fail
  refine CA.out.mono ?_
  rintro e w2 ⟨rfl, h2, k2⟩
  have P2 := Lib.hid h2
  clear h2 k2
  go_wp2_with fail
  refine (CE.out _ P2.out).mono ?_
  rintro e w3 ⟨rfl, h3, k3⟩
  obtain ⟨v, hv⟩ := h3
  obtain ⟨a, c, hv2⟩ := hv.shape
  subst hv2
  have HV := Lib.hid hv
  have c0 := cell_of_row _ _ 0 _ _ _ hv.cell
  clear hv k3
  go_wp2
  go_ret
  exact ⟨_, _, rfl, HV.out⟩
end Go.Proofs.YtphighddlfabbaaDoor
namespace Go.Proofs.YtphighddlfabbaaDoor
set_option linter.unusedVariables false
set_option linter.unusedSimpArgs false
open Go.RowKit Go.PlainAid Go.Shelf
open Rx (Set4 RS Instr Rec MS)
theorem lt_of_row {w : World} {k : Nat} {o : Obj} (h : w.heap[k]? = some o) : k < w.heap.size := (Array.getElem?_eq_some_iff.1 h).1
/-- records lie there -/
def RecAt (w : World) : List Rec → Value → Prop
  | [], v => v = nilP
  | .mark s i :: p, v => ∃ b u, v = ptr b ∧ w.heap[b]? = some (.cells #[.int .i64 ((s : Nat) : Int), nilP, .int .i64 ((i : Nat) : Int), u] 104 (0, 0)) ∧ RecAt w p u
  | .void g i :: p, v => ∃ b e u, v = ptr b ∧ w.heap[b]? = some (.cells #[.int .i64 0, e, .int .i64 ((i : Nat) : Int), u] 104 (0, 0)) ∧ RecAt w p u
/-- records stay -/
structure K85 (w w' : World) : Prop where
  size : w.heap.size ≤ w'.heap.size
  rows : ∀ (k : Nat) (cs : Array Value), w.heap[k]? = some (.cells cs 104 (0, 0)) → w'.heap[k]? = some (.cells cs 104 (0, 0))
theorem K85.refl (w : World) : K85 w w := ⟨Nat.le_refl _, fun _ _ h => h⟩
theorem K85.trans {a b c : World} (h : K85 a b) (k : K85 b c) : K85 a c := ⟨Nat.le_trans h.size k.size, fun i cs e => k.rows i cs (h.rows i cs e)⟩
theorem K85.below {w w' : World} (h : Below w.heap.size w w') : K85 w w' := ⟨h.size, fun i cs e => (h.block i (lt_of_row e)).trans e⟩
theorem K85.set {w : World} {g : Nat} {cs : Array Value} {t : TypeId} (h : w.heap[g]? = some (.cells cs t (0, 0))) (ht : t ≠ 104) (j : Nat) (v : Value) : K85 w (w.setCell ⟨g, j, none⟩ v) := ⟨by rw [size_setCell]; exact Nat.le_refl _, fun k ds e => by
  have hne : k ≠ g := by
    intro hk
    subst hk
    rw [h] at e
    cases e
    exact ht rfl
  rw [heap_setCell_other _ _ _ _ hne]
  exact e⟩
theorem RecAt.keep {w w' : World} (k : K85 w w') : ∀ (p : List Rec) (v : Value), RecAt w p v → RecAt w' p v
  | [], v, h => h
  | .mark s i :: p, v, ⟨b, u, h1, h2, h3⟩ => ⟨b, u, h1, k.rows _ _ h2, RecAt.keep k p u h3⟩
  | .void g i :: p, v, ⟨b, e, u, h1, h2, h3⟩ => ⟨b, e, u, h1, k.rows _ _ h2, RecAt.keep k p u h3⟩
theorem RecAt.ptr {w : World} : ∀ (p : List Rec) (v : Value), RecAt w p v → ∃ a, v = .pointer a
  | [], v, h => ⟨none, h⟩
  | .mark s i :: p, v, ⟨b, u, h1, h2, h3⟩ => ⟨_, h1⟩
  | .void g i :: p, v, ⟨b, e, u, h1, h2, h3⟩ => ⟨_, h1⟩
/-- a list of threads lies there -/
def Thr (w : World) (base : Nat) (v : Value) (l : List (Nat × List Rec)) : Prop :=
  ∃ xs : List (List Value), xs.length = l.length ∧ w.ownsRow base 92 2 v l.length xs.flatten ∧ ∀ k (hk : k < l.length), ∃ u, xs[k]? = some [.int .i64 ((l[k].1 : Nat) : Int), u] ∧ RecAt w l[k].2 u
theorem Thr.nil (w : World) (base : Nat) : Thr w base nilS [] := ⟨[], rfl, World.ownsRow_nil _ _ _ _, fun k hk => by simp at hk⟩
theorem own78_block {w : World} {base : Nat} {v : Value} {n : Nat} {xs : List Value} (h : w.ownsRow base 92 2 v n xs) : ∀ k, v.ownBlock = some k → base ≤ k ∧ ∃ cur, w.heap[k]? = some (.cells cur 92 (0, 0)) := by
  intro k hk
  rcases h.2 with ⟨rfl, _⟩ | ⟨g, cap, cur, rfl, hg, hc, _⟩
  · cases hk
  · simp only [Value.ownBlock, Option.some.injEq] at hk
    subst hk
    exact ⟨hg, cur, hc⟩
theorem own78_move {w w' : World} {base : Nat} {v : Value} {n : Nat} {xs : List Value} (h : w.ownsRow base 92 2 v n xs) (hm : ∀ k, v.ownBlock = some k → w'.heap[k]? = w.heap[k]?) : w'.ownsRow base 92 2 v n xs := by
  obtain ⟨h1, h2⟩ := h
  refine ⟨h1, ?_⟩
  rcases h2 with h2 | ⟨g, cap, cur, hv, hg, hc, h3⟩
  · exact .inl h2
  · exact .inr ⟨g, cap, cur, hv, hg, (hm g (by rw [hv]; rfl)).trans hc, h3⟩
theorem Thr.block {w : World} {base : Nat} {v : Value} {l : List (Nat × List Rec)} (h : Thr w base v l) : ∀ k, v.ownBlock = some k → base ≤ k ∧ ∃ cur, w.heap[k]? = some (.cells cur 92 (0, 0)) := by
  obtain ⟨xs, _, h1, _⟩ := h
  exact own78_block h1
theorem Thr.shape {w : World} {base : Nat} {v : Value} {l : List (Nat × List Rec)} (h : Thr w base v l) : ∃ a c, v = .slice a l.length c := by
  obtain ⟨xs, _, h1, _⟩ := h
  rcases h1.2 with ⟨rfl, h0⟩ | ⟨g, cap, cur, rfl, _⟩
  · exact ⟨none, 0, by rw [h0]⟩
  · exact ⟨_, _, rfl⟩
theorem Thr.move {w w' : World} {base : Nat} {v : Value} {l : List (Nat × List Rec)} (h : Thr w base v l) (k : K85 w w') (hm : ∀ k, v.ownBlock = some k → w'.heap[k]? = w.heap[k]?) : Thr w' base v l := by
  obtain ⟨xs, h1, h2, h3⟩ := h
  refine ⟨xs, h1, own78_move h2 hm, fun j hj => ?_⟩
  obtain ⟨u, h4, h5⟩ := h3 j hj
  exact ⟨u, h4, h5.keep k⟩
/-- marks -/
def seenC (f : Nat → Nat) (n : Nat) : Array Value := ((List.range n).map fun c => Value.int .i64 ((f c : Nat) : Int)).toArray
theorem seenC_get (f : Nat → Nat) (n c : Nat) (h : c < n) : (seenC f n)[c]? = some (.int .i64 ((f c : Nat) : Int)) := by
  unfold seenC
  simp [List.getElem?_range h]
theorem seenC_set (f : Nat → Nat) (n s v : Nat) : (seenC f n).setIfInBounds s (.int .i64 ((v : Nat) : Int)) = seenC (fun c => if c = s then v else f c) n := by
  apply Array.ext'
  unfold seenC
  simp only [Array.toList_setIfInBounds]
  apply List.ext_getElem?
  intro i
  rw [List.getElem?_set]
  by_cases hi : i < n
  · by_cases he : s = i
    · subst he
      simp [List.getElem?_range hi, hi]
    · rw [if_neg he]
      have h2 : ¬ i = s := fun h => he h.symm
      simp [List.getElem?_range hi, h2]
  · have h0 : (List.range n)[i]? = none := List.getElem?_eq_none (by simp; omega)
    by_cases he : s = i
    · subst he
      simp [hi]
    · rw [if_neg he]
      simp [h0]
def sl (g n : Nat) : Value := .slice (some ⟨g, 0, none⟩) n n
def mcC (n : Nat) (pv : Value) (T : List Nat) (keeps : Bool) (i : Nat) (nv : Value) (g : Nat → Nat) (fits : Bool) (xv fv : Value) : Array Value :=
  #[pv, .string (strOf T), .int .i64 ((i : Nat) : Int), nv, xv, sl (g 0) n, sl (g 1) n, sl (g 2) n, .bool keeps, .bool fits, fv]
/-- the machine lies there -/
structure McV (W1 w : World) (M n : Nat) (pv : Value) (T : List Nat) (keeps : Bool) (i : Nat) (nv : Value) (nl : List (Nat × List Rec)) (st : MS) (g : Nat → Nat) (xv fv : Value) : Prop where
  below : Below W1.heap.size W1 w
  ge : W1.heap.size ≤ M
  cell : w.heap[M]? = some (.cells (mcC n pv T keeps i nv g st.fits xv fv) 89 (0, 0))
  path : RecAt w st.path fv
  row : ∀ a, a < 3 → W1.heap.size ≤ g a ∧ w.heap[g a]? = some (.cells (seenC (st.seen a) n) 3 (0, 0))
  apart : ∀ a b, a < 3 → b < 3 → a ≠ b → g a ≠ g b
  next : Thr w W1.heap.size xv st.next
  now : Thr w W1.heap.size nv nl
  two : ∀ k, xv.ownBlock = some k → nv.ownBlock ≠ some k
def Mc (W1 w : World) (M n : Nat) (pv : Value) (T : List Nat) (keeps : Bool) (i : Nat) (nv : Value) (nl : List (Nat × List Rec)) (st : MS) : Prop := ∃ g xv fv, McV W1 w M n pv T keeps i nv nl st g xv fv
section
variable {W1 w : World} {M n : Nat} {pv : Value} {T : List Nat} {keeps : Bool} {i : Nat} {nv : Value} {nl : List (Nat × List Rec)} {st : MS} {g : Nat → Nat} {xv fv : Value}
theorem McV.lt (h : McV W1 w M n pv T keeps i nv nl st g xv fv) : M < w.heap.size := lt_of_row h.cell
theorem McV.c (h : McV W1 w M n pv T keeps i nv nl st g xv fv) (j : Nat) : w.cell? ⟨M, j, none⟩ = (mcC n pv T keeps i nv g st.fits xv fv)[j]? := cell_of_row _ _ _ _ _ _ h.cell
theorem McV.fz (h : McV W1 w M n pv T keeps i nv nl st g xv fv) (j : Nat) : w.frozen? ⟨M, j, none⟩ = false := frozen_of_row _ _ _ _ _ h.cell
theorem McV.mark_c (h : McV W1 w M n pv T keeps i nv nl st g xv fv) (a c : Nat) (ha : a < 3) (hc : c < n) : w.cell? ⟨g a, c, none⟩ = some (.int .i64 ((st.seen a c : Nat) : Int)) := by rw [cell_of_row _ _ _ _ _ _ (h.row a ha).2, seenC_get _ _ _ hc]
theorem McV.mark_fz (h : McV W1 w M n pv T keeps i nv nl st g xv fv) (a c : Nat) (ha : a < 3) : w.frozen? ⟨g a, c, none⟩ = false := frozen_of_row _ _ _ _ _ (h.row a ha).2
theorem McV.sc (h : McV W1 w M n pv T keeps i nv nl st g xv fv) (a : Nat) (ha : a < 3) : w.cell? ⟨M, 5 + a, none⟩ = some (sl (g a) n) := by
  rw [h.c]
  rcases (by omega : a = 0 ∨ a = 1 ∨ a = 2) with rfl | rfl | rfl <;> rfl
/-- what is new turns nothing -/
theorem McV.move (h : McV W1 w M n pv T keeps i nv nl st g xv fv) {w' : World} (hb : Below w.heap.size w w') : McV W1 w' M n pv T keeps i nv nl st g xv fv := by
  have k := K85.below hb
  have mv : ∀ {x : Nat} {o : Obj}, w.heap[x]? = some o → w'.heap[x]? = some o := fun e => (hb.block _ (lt_of_row e)).trans e
  exact ⟨h.below.trans (hb.mono h.below.size), h.ge, mv h.cell, h.path.keep k, fun a ha => ⟨(h.row a ha).1, mv (h.row a ha).2⟩, h.apart,
    h.next.move k (fun x hx => by obtain ⟨_, cur, hc⟩ := h.next.block x hx; exact hb.block x (lt_of_row hc)), h.now.move k (fun x hx => by obtain ⟨_, cur, hc⟩ := h.now.block x hx; exact hb.block x (lt_of_row hc)), h.two⟩
/-- a mark is put -/
theorem McV.mark (h : McV W1 w M n pv T keeps i nv nl st g xv fv) (a s v : Nat) (ha : a < 3) : McV W1 (w.setCell ⟨g a, s, none⟩ (.int .i64 ((v : Nat) : Int))) M n pv T keeps i nv nl (st.mark a s v) g xv fv ∧ K85 w (w.setCell ⟨g a, s, none⟩ (.int .i64 ((v : Nat) : Int))) := by
  have k := K85.set (h.row a ha).2 (by decide) s (.int .i64 ((v : Nat) : Int))
  have ne : ∀ {x : Nat} {cs : Array Value} {t : TypeId}, w.heap[x]? = some (.cells cs t (0, 0)) → t ≠ 3 → x ≠ g a := by
    intro x cs t hx ht e
    subst e
    rw [(h.row a ha).2] at hx
    cases hx
    exact ht rfl
  have mv : ∀ {x : Nat}, x ≠ g a → (w.setCell ⟨g a, s, none⟩ (.int .i64 ((v : Nat) : Int))).heap[x]? = w.heap[x]? := fun hx => heap_setCell_other _ _ _ _ hx
  refine ⟨⟨h.below.setCell (h.row a ha).1 _, h.ge, (mv (ne h.cell (by decide))).trans h.cell, h.path.keep k, fun b hb => ⟨(h.row b hb).1, ?_⟩, h.apart,
    h.next.move k (fun x hx => by obtain ⟨_, cur, hc⟩ := h.next.block x hx; exact mv (ne hc (by decide))), h.now.move k (fun x hx => by obtain ⟨_, cur, hc⟩ := h.now.block x hx; exact mv (ne hc (by decide))), h.two⟩, k⟩
  by_cases e : b = a
  · subst e
    rw [heap_setCell_same _ _ _ _ _ _ (h.row b hb).2, seenC_set]
    unfold MS.mark
    simp
  · rw [mv (h.apart b a hb ha e)]
    have : (st.mark a s v).seen b = st.seen b := by
      unfold MS.mark
      simp [e]
    rw [this]
    exact (h.row b hb).2
/-- a cell of the machine itself -/
theorem McV.put (h : McV W1 w M n pv T keeps i nv nl st g xv fv) (j : Nat) (u : Value) (i2 : Nat) (nv2 : Value) (nl2 : List (Nat × List Rec)) (st2 : MS) (xv2 fv2 : Value)
    (hc : (mcC n pv T keeps i nv g st.fits xv fv).setIfInBounds j u = mcC n pv T keeps i2 nv2 g st2.fits xv2 fv2) (hs : st2.seen = st.seen) (hp : RecAt w st2.path fv2) (hx : Thr w W1.heap.size xv2 st2.next) (hn : Thr w W1.heap.size nv2 nl2) (h2 : ∀ k, xv2.ownBlock = some k → nv2.ownBlock ≠ some k) :
    McV W1 (w.setCell ⟨M, j, none⟩ u) M n pv T keeps i2 nv2 nl2 st2 g xv2 fv2 ∧ K85 w (w.setCell ⟨M, j, none⟩ u) := by
  have k := K85.set h.cell (by decide) j u
  have ne : ∀ {x : Nat} {cs : Array Value} {t : TypeId}, w.heap[x]? = some (.cells cs t (0, 0)) → t ≠ 89 → x ≠ M := by
    intro x cs t hx ht e
    subst e
    rw [h.cell] at hx
    cases hx
    exact ht rfl
  have mv : ∀ {x : Nat}, x ≠ M → (w.setCell ⟨M, j, none⟩ u).heap[x]? = w.heap[x]? := fun hx => heap_setCell_other _ _ _ _ hx
  exact ⟨⟨h.below.setCell h.ge _, h.ge, by rw [heap_setCell_same _ _ _ _ _ _ h.cell, hc], hp.keep k, fun b hb => ⟨(h.row b hb).1, (mv (ne (h.row b hb).2 (by decide))).trans (by rw [hs]; exact (h.row b hb).2)⟩, h.apart,
    hx.move k (fun x hx2 => by obtain ⟨_, cur, hc⟩ := hx.block x hx2; exact mv (ne hc (by decide))), hn.move k (fun x hx2 => by obtain ⟨_, cur, hc⟩ := hn.block x hx2; exact mv (ne hc (by decide))), h2⟩, k⟩
theorem McV.path_to (h : McV W1 w M n pv T keeps i nv nl st g xv fv) (p : List Rec) (u : Value) (hu : RecAt w p u) : McV W1 ((w.setCell ⟨M, 9, none⟩ (.bool true)).setCell ⟨M, 10, none⟩ u) M n pv T keeps i nv nl { st with fits := true, path := p } g xv u ∧ K85 w ((w.setCell ⟨M, 9, none⟩ (.bool true)).setCell ⟨M, 10, none⟩ u) := by
  obtain ⟨h1, k1⟩ := h.put 9 (.bool true) i nv nl { st with fits := true } xv fv rfl rfl h.path h.next h.now h.two
  obtain ⟨h2, k2⟩ := h1.put 10 u i nv nl { st with fits := true, path := p } xv u rfl rfl (hu.keep k1) h1.next h1.now h1.two
  exact ⟨h2, k1.trans k2⟩
/-- a thread appended -/
theorem McV.snoc (h : McV W1 w M n pv T keeps i nv nl st g xv fv) (s : Nat) (p : List Rec) (u : Value) (hu : RecAt w p u) : ∃ xs : List Value, ∀ w2, Below w.heap.size w w2 → w2.ownsRow W1.heap.size 92 2 xv st.next.length xs ∧
    ∀ q cap w1, w1.ownsRow W1.heap.size 92 2 (.slice (some ⟨q, 0, none⟩) (st.next.length + 1) cap) (st.next.length + 1) (xs ++ [.int .i64 ((s : Nat) : Int), u]) → w2.grownBy w1 xv.ownBlock → (xv.ownBlock = some q ∨ q = w2.heap.size) →
      w1.heap[M]? = some (.cells (mcC n pv T keeps i nv g st.fits xv fv) 89 (0, 0)) ∧ Mc W1 (w1.setCell ⟨M, 4, none⟩ (.slice (some ⟨q, 0, none⟩) (st.next.length + 1) cap)) M n pv T keeps i nv nl { st with next := st.next ++ [(s, p)] } ∧ K85 w (w1.setCell ⟨M, 4, none⟩ (.slice (some ⟨q, 0, none⟩) (st.next.length + 1) cap)) := by
  obtain ⟨xs, h4, h5, h6⟩ := h.next
  refine ⟨xs.flatten, fun w2 hb => ?_⟩
  have h2 := h.move hb
  have hu2 := hu.keep (K85.below hb)
  have h5' : w2.ownsRow W1.heap.size 92 2 xv st.next.length xs.flatten := own78_move h5 (fun k hk => by
    obtain ⟨_, cur, hc⟩ := own78_block h5 k hk
    exact hb.block k (lt_of_row hc))
  refine ⟨h5', fun q cap w1 k1 k2 hq => ?_⟩
  have ne : ∀ {x : Nat} {cs : Array Value} {t : TypeId}, w2.heap[x]? = some (.cells cs t (0, 0)) → t ≠ 92 → some x ≠ xv.ownBlock := by
    intro x cs t hx ht e
    obtain ⟨_, cur, hc⟩ := own78_block h5' x e.symm
    rw [hc] at hx
    cases hx
    exact ht rfl
  have mv : ∀ {x : Nat} {cs : Array Value} {t : TypeId}, w2.heap[x]? = some (.cells cs t (0, 0)) → t ≠ 92 → w1.heap[x]? = some (.cells cs t (0, 0)) := fun hx ht => (k2.block _ (lt_of_row hx) (ne hx ht)).trans hx
  have kk : K85 w2 w1 := ⟨k2.size, fun k cs e => mv e (by decide)⟩
  have hM := mv h2.cell (by decide)
  have hnb : ∀ x, nv.ownBlock = some x → w1.heap[x]? = w2.heap[x]? := fun x hx => by
    obtain ⟨_, cur, hc⟩ := h2.now.block x hx
    exact k2.block x (lt_of_row hc) (fun e => h.two x e.symm hx)
  have hA : McV W1 w1 M n pv T keeps i nv nl { st with next := [] } g nilS fv → True := fun _ => trivial
  have hnx : Thr w1 W1.heap.size (.slice (some ⟨q, 0, none⟩) (st.next.length + 1) cap) (st.next ++ [(s, p)]) := by
    refine ⟨xs ++ [[.int .i64 ((s : Nat) : Int), u]], by simp [h4], ?_, fun k hk => ?_⟩
    · rw [List.length_append, List.flatten_append]
      have hfl : [[Value.int .i64 ((s : Nat) : Int), u]].flatten = [.int .i64 ((s : Nat) : Int), u] := by simp
      rw [hfl]
      exact k1
    · by_cases hlt : k < st.next.length
      · obtain ⟨u', h7, h8⟩ := h6 k hlt
        rw [List.getElem_append_left hlt]
        exact ⟨u', by rw [List.getElem?_append_left (by omega)]; exact h7, (h8.keep (K85.below hb)).keep kk⟩
      · have hke : k = st.next.length := by rw [List.length_append] at hk; simp at hk; omega
        subst hke
        rw [List.getElem_append_right (by omega)]
        simp only [Nat.sub_self, List.getElem_cons_zero]
        exact ⟨u, by rw [List.getElem?_append_right (by omega)]; simp [h4], hu2.keep kk⟩
  have hw1 : McV W1 w1 M n pv T keeps i nv nl st g xv fv → True := fun _ => trivial
  have hbw : Below W1.heap.size W1 w1 := h2.below.grown k2 h2.below.size (fun k hk => (own78_block h5' k hk).1)
  have htwo : ∀ k, (Value.slice (some ⟨q, 0, none⟩) (st.next.length + 1) cap).ownBlock = some k → nv.ownBlock ≠ some k := by
    intro k hk hk2
    simp only [Value.ownBlock, Option.some.injEq] at hk
    subst hk
    rcases hq with hq | hq
    · exact h.two _ hq hk2
    · obtain ⟨_, cur, hc⟩ := h2.now.block _ hk2
      have := lt_of_row hc
      omega
  have k3 := K85.set hM (by decide) 4 (.slice (some ⟨q, 0, none⟩) (st.next.length + 1) cap)
  have ne3 : ∀ {x : Nat} {cs : Array Value} {t : TypeId}, w1.heap[x]? = some (.cells cs t (0, 0)) → t ≠ 89 → x ≠ M := by
    intro x cs t hx ht e
    subst e
    rw [hM] at hx
    cases hx
    exact ht rfl
  have mv3 : ∀ {x : Nat}, x ≠ M → (w1.setCell ⟨M, 4, none⟩ (.slice (some ⟨q, 0, none⟩) (st.next.length + 1) cap)).heap[x]? = w1.heap[x]? := fun hx => heap_setCell_other _ _ _ _ hx
  refine ⟨hM, ⟨g, .slice (some ⟨q, 0, none⟩) (st.next.length + 1) cap, fv, hbw.setCell h.ge _, h.ge, by rw [heap_setCell_same _ _ _ _ _ _ hM]; rfl, (h2.path.keep kk).keep k3, fun a ha => ⟨(h.row a ha).1, (mv3 (ne3 (mv (h2.row a ha).2 (by decide)) (by decide))).trans (mv (h2.row a ha).2 (by decide))⟩, h.apart, ?_, ?_, htwo⟩, (K85.below hb).trans (kk.trans k3)⟩
  · exact hnx.move k3 (fun x hx => by obtain ⟨_, cur, hc⟩ := hnx.block x hx; exact mv3 (ne3 hc (by decide)))
  · have hn1 : Thr w1 W1.heap.size nv nl := h2.now.move kk hnb
    exact hn1.move k3 (fun x hx => by obtain ⟨_, cur, hc⟩ := hn1.block x hx; exact mv3 (ne3 hc (by decide)))
end
end Go.Proofs.YtphighddlfabbaaDoor
namespace Go.Proofs.YtphighddlfabbaaDoor
set_option linter.unusedVariables false
set_option linter.unusedSimpArgs false
open Go.RowKit Go.PlainAid Go.Shelf
open Rx (Set4 RS Instr Rec MS)
set_option maxHeartbeats 4000000 in
set_option maxRecDepth 100000 in
theorem edges_any {W1 : World} {M n : Nat} {pv : Value} {T : List Nat} {keeps : Bool} {i : Nat} {nv : Value} {nl : List (Nat × List Rec)} {st : MS} (w : World) (H : Mc W1 w M n pv T keeps i nv nl st) :
    Calls Tryd.prog 44 #[ptr M] w fun e w' => e = .returned (.int .u8 ((Rx.edgesAt T.length i : Nat) : Int)) ∧ ∃ m, w' = w.drewN m := by
  obtain ⟨g, xv, fv, H⟩ := H
  have c1 : w.cell? ⟨M, 1, none⟩ = some (.string (strOf T)) := H.c 1
  have c2 : w.cell? ⟨M, 2, none⟩ = some (.int .i64 ((i : Nat) : Int)) := H.c 2
  have hs := strOf_size T
  obtain ⟨D, hD⟩ : ∃ D, strOf T = D := ⟨_, rfl⟩
  rw [hD] at c1 hs
  unfold ptr
  clear H hD
  unfold Rx.edgesAt
  rw [← hs]
  clear hs
  have o1 : bits .or .u8 0 1 = 1 := by decide +kernel
  have o2 : bits .or .u8 0 2 = 2 := by decide +kernel
  have o3 : bits .or .u8 1 2 = 3 := by decide +kernel
  obtain ⟨Q, hQ⟩ : ∃ Q, D.size = Q := ⟨_, rfl⟩
  rw [hQ]
  obtain ⟨b0, h0⟩ : ∃ b, (((i : Nat) : Int) == 0) = b := ⟨_, rfl⟩
  obtain ⟨b1, h1⟩ : ∃ b, (((i : Nat) : Int) == ((Q : Nat) : Int)) = b := ⟨_, rfl⟩
  have HR0 : (if i = 0 then 1 else 0 : Nat) = if b0 then 1 else 0 := by
    subst h0
    by_cases e : i = 0
    · simp [e]
    · simp [e]
  have HR1 : (if i = Q then 2 else 0 : Nat) = if b1 then 2 else 0 := by
    subst h1
    by_cases e : i = Q
    · simp [e]
    · simp [e, Int.natCast_inj]
  rw [HR0, HR1]
  clear HR0 HR1
  cases b0 <;> cases b1
  all_goals
    go_enter Tryd.func44, Tryd.ntmps44
    go_wp2
    go_quiet (fail)
    go_wp2
    go_ret
    exact ⟨rfl, nq, rfl⟩
end Go.Proofs.YtphighddlfabbaaDoor
namespace Go.Proofs.YtphighddlfabbaaDoor
set_option linter.unusedVariables false
set_option linter.unusedSimpArgs false
open Go.RowKit Go.PlainAid Go.Shelf
open Rx (Set4 RS Instr Rec MS)
theorem below_drewM (w : World) (m : Nat) : Below w.heap.size w (w.drewN m) := ⟨rfl, rfl, rfl, Nat.le_refl _, fun _ _ => rfl⟩
set_option maxHeartbeats 4000000 in
set_option maxRecDepth 100000 in
theorem isNew_no {W1 : World} {M n : Nat} {pv : Value} {T : List Nat} {keeps : Bool} {i : Nat} {nv : Value} {nl : List (Nat × List Rec)} {st : MS} (s a : Nat) (hs : s < n) (ha : a < 3) (hn : n ≤ 100000) (hi : i ≤ 100000000000) (hm : st.seen a s = i + 1) (w : World) (H : Mc W1 w M n pv T keeps i nv nl st) :
    Calls Tryd.prog 43 #[ptr M, .int .i64 ((s : Nat) : Int), .int .i64 ((a : Nat) : Int)] w fun e w' => e = .returned (.bool false) ∧ Mc W1 w' M n pv T keeps i nv nl st ∧ K85 w w' := by
  obtain ⟨g, xv, fv, H⟩ := H
  have c2 : w.cell? ⟨M, 2, none⟩ = some (.int .i64 ((i : Nat) : Int)) := H.c 2
  have c5 := H.sc a ha
  have cm := H.mark_c a s ha hs
  rw [hm] at cm
  have HH := Lib.hid H
  obtain ⟨G, hG⟩ : ∃ G, g a = G := ⟨_, rfl⟩
  rw [hG] at c5 cm
  unfold sl at c5
  have h1 : ((i + 1 : Nat) : Int) = (i : Int) + 1 := by omega
  rw [h1] at cm
  have hw : RowKit.wrap64 ((i : Int) + 1) = (i : Int) + 1 := IntWalk.wrap64_in _ ⟨by omega, by omega⟩
  have h3 : ((a : Nat) : Int) < 3 := by omega
  have hsn : ((s : Nat) : Int) < ((n : Nat) : Int) := by omega
  unfold ptr
  clear H hm h1 hG
  go_enter Tryd.func43, Tryd.ntmps43
  go_wp2
  go_quiet (fail)
  go_wp2
  go_ret
  exact ⟨rfl, ⟨g, xv, fv, HH.out.move (below_drewM w nq)⟩, K85.below (below_drewM w nq)⟩
set_option maxHeartbeats 4000000 in
set_option maxRecDepth 100000 in
theorem isNew_yes {W1 : World} {M n : Nat} {pv : Value} {T : List Nat} {keeps : Bool} {i : Nat} {nv : Value} {nl : List (Nat × List Rec)} {st : MS} (s a : Nat) (hs : s < n) (ha : a < 3) (hn : n ≤ 100000) (hi : i ≤ 100000000000) (hm : st.seen a s ≠ i + 1) (w : World) (H : Mc W1 w M n pv T keeps i nv nl st) :
    Calls Tryd.prog 43 #[ptr M, .int .i64 ((s : Nat) : Int), .int .i64 ((a : Nat) : Int)] w fun e w' => e = .returned (.bool true) ∧ Mc W1 w' M n pv T keeps i nv nl (st.mark a s (i + 1)) ∧ K85 w w' := by
  obtain ⟨g, xv, fv, H⟩ := H
  have c2 : w.cell? ⟨M, 2, none⟩ = some (.int .i64 ((i : Nat) : Int)) := H.c 2
  have c5 := H.sc a ha
  have cm := H.mark_c a s ha hs
  have cf := H.mark_fz a s ha
  obtain ⟨V, hV⟩ : ∃ V, st.seen a s = V := ⟨_, rfl⟩
  rw [hV] at cm hm
  have hne : (((V : Nat) : Int) == ((i : Nat) : Int) + 1) = false := by simp; omega
  have hw : RowKit.wrap64 ((i : Int) + 1) = (i : Int) + 1 := IntWalk.wrap64_in _ ⟨by omega, by omega⟩
  have h3 : ((a : Nat) : Int) < 3 := by omega
  have hsn : ((s : Nat) : Int) < ((n : Nat) : Int) := by omega
  have HH := Lib.hid (fun m => (H.move (below_drewM w m)).mark a s (i + 1) ha)
  have HB := Lib.hid (fun m => K85.below (below_drewM w m))
  obtain ⟨G, hG⟩ : ∃ G, g a = G := ⟨_, rfl⟩
  rw [hG] at c5 cm cf HH
  have h1 : ((i + 1 : Nat) : Int) = (i : Int) + 1 := by omega
  rw [h1] at HH
  unfold sl at c5
  unfold ptr
  clear H hm h1 hG hV
  go_enter Tryd.func43, Tryd.ntmps43
  go_wp2
  go_quiet (fail)
  go_wp2
  go_region
  go_wp2
  go_ret
  exact ⟨rfl, ⟨g, xv, fv, (HH.out _).1⟩, (HB.out _).trans (HH.out _).2⟩
end Go.Proofs.YtphighddlfabbaaDoor
namespace Go.Proofs.YtphighddlfabbaaDoor
set_option linter.unusedVariables false
set_option linter.unusedSimpArgs false
open Go.RowKit Go.PlainAid Go.Shelf
open Rx (Set4 RS Instr Rec MS)
def recC (s : Nat) (e : Option Addr) (i : Nat) (q : Option Addr) : Array Value := #[.int .i64 ((s : Nat) : Int), .pointer e, .int .i64 ((i : Nat) : Int), .pointer q]
theorem recC_one (s : Nat) (e : Option Addr) (i : Nat) (q : Option Addr) : ∀ u ∈ (recC s e i q).toList, u.oneCell' = true := by
  intro u hu
  simp [recC] at hu
  rcases hu with rfl | rfl | rfl | rfl <;> rfl
set_option maxHeartbeats 4000000 in
set_option maxRecDepth 100000 in
theorem note_no (M : Nat) (s : Nat) (e : Option Addr) (at1 : Nat) (q : Option Addr) (w : World) (hM : M < w.heap.size) (c8 : w.cell? ⟨M, 8, none⟩ = some (.bool false)) :
    Calls Tryd.prog 45 #[ptr M, .agg (recC s e at1 q)] w fun r w' => r = .returned nilP ∧ Below w.heap.size w w' := by
  have hb : Below w.heap.size w (w.alloc (.cells (recC s e at1 q) 104)) := (Below.refl _ _).alloc (Nat.le_refl _) _
  have c8' := (hb.cell (p := ⟨M, 8, none⟩) hM).trans c8
  have HB := Lib.hid hb
  unfold ptr
  unfold recC at *
  clear hb c8
  go_enter Tryd.func45, Tryd.ntmps45
  go_wp2
  go_ret
  exact ⟨rfl, HB.out⟩
set_option maxHeartbeats 4000000 in
set_option maxRecDepth 100000 in
theorem note_yes (M : Nat) (s : Nat) (e : Option Addr) (at1 : Nat) (q : Option Addr) (w : World) (hM : M < w.heap.size) (c8 : w.cell? ⟨M, 8, none⟩ = some (.bool true)) :
    Calls Tryd.prog 45 #[ptr M, .agg (recC s e at1 q)] w fun r w' => ∃ b, r = .returned (ptr b) ∧ w'.heap[b]? = some (.cells (recC s e at1 q) 104 (0, 0)) ∧ Below w.heap.size w w' := by
  have hb : Below w.heap.size w (w.alloc (.cells (recC s e at1 q) 104)) := (Below.refl _ _).alloc (Nat.le_refl _) _
  have c8' := (hb.cell (p := ⟨M, 8, none⟩) hM).trans c8
  have HB := Lib.hid hb
  unfold ptr
  unfold recC at *
  clear hb c8
  go_enter Tryd.func45, Tryd.ntmps45
  go_wp2
  go_ret
  refine ⟨w.heap.size + 1, rfl, ?_, HB.out.alloc (by simp) _⟩
  have hN := heap_alloc_new (w.alloc (.cells #[.int .i64 ((s : Nat) : Int), .pointer e, .int .i64 ((at1 : Nat) : Int), .pointer q] 104)) (.cells #[.int .i64 ((s : Nat) : Int), .pointer e, .int .i64 ((at1 : Nat) : Int), .pointer q] 104)
  rw [show (w.alloc (.cells #[.int .i64 ((s : Nat) : Int), .pointer e, .int .i64 ((at1 : Nat) : Int), .pointer q] 104)).heap.size = w.heap.size + 1 by simp] at hN
  exact hN
/-- a record noted on the way -/
theorem note_mark {W1 : World} {M n : Nat} {pv : Value} {T : List Nat} {keeps : Bool} {i : Nat} {nv : Value} {nl : List (Nat × List Rec)} {st : MS} (s : Nat) (p : List Rec) (q : Option Addr) (w : World) (H : Mc W1 w M n pv T keeps i nv nl st) (hp : RecAt w p (.pointer q)) :
    Calls Tryd.prog 45 #[ptr M, .agg (recC s none i q)] w fun r w' => ∃ q', r = .returned (.pointer q') ∧ Mc W1 w' M n pv T keeps i nv nl st ∧ K85 w w' ∧ RecAt w' (Rx.note keeps (.mark s i) p) (.pointer q') := by
  obtain ⟨g, xv, fv, H⟩ := H
  have c8 : w.cell? ⟨M, 8, none⟩ = some (.bool keeps) := H.c 8
  cases keeps
  · refine (note_no M s none i q w H.lt c8).mono ?_
    rintro r w' ⟨rfl, hb⟩
    exact ⟨none, rfl, ⟨g, xv, fv, H.move hb⟩, K85.below hb, rfl⟩
  · refine (note_yes M s none i q w H.lt c8).mono ?_
    rintro r w' ⟨b, rfl, h1, hb⟩
    exact ⟨_, rfl, ⟨g, xv, fv, H.move hb⟩, K85.below hb, b, .pointer q, rfl, h1, hp.keep (K85.below hb)⟩
theorem note_void {W1 : World} {M n : Nat} {pv : Value} {T : List Nat} {keeps : Bool} {i : Nat} {nv : Value} {nl : List (Nat × List Rec)} {st : MS} (gs : List Nat) (e : Option Addr) (p : List Rec) (q : Option Addr) (w : World) (H : Mc W1 w M n pv T keeps i nv nl st) (hp : RecAt w p (.pointer q)) :
    Calls Tryd.prog 45 #[ptr M, .agg (recC 0 e i q)] w fun r w' => ∃ q', r = .returned (.pointer q') ∧ Mc W1 w' M n pv T keeps i nv nl st ∧ K85 w w' ∧ RecAt w' (Rx.note keeps (.void gs i) p) (.pointer q') := by
  obtain ⟨g, xv, fv, H⟩ := H
  have c8 : w.cell? ⟨M, 8, none⟩ = some (.bool keeps) := H.c 8
  cases keeps
  · refine (note_no M 0 e i q w H.lt c8).mono ?_
    rintro r w' ⟨rfl, hb⟩
    exact ⟨none, rfl, ⟨g, xv, fv, H.move hb⟩, K85.below hb, rfl⟩
  · refine (note_yes M 0 e i q w H.lt c8).mono ?_
    rintro r w' ⟨b, rfl, h1, hb⟩
    exact ⟨_, rfl, ⟨g, xv, fv, H.move hb⟩, K85.below hb, b, .pointer e, .pointer q, rfl, h1, hp.keep (K85.below hb)⟩
end Go.Proofs.YtphighddlfabbaaDoor
namespace Go.Proofs.YtphighddlfabbaaDoor
namespace Rx
set_option linter.unusedVariables false
set_option linter.unusedSimpArgs false
/-- marks grow, and what is listed with them -/
structure Dn (v L : Nat) (a b : MS) : Prop where
  unm : unm b.seen v L ≤ unm a.seen v L
  len : b.next.length + Rx.unm b.seen v L ≤ a.next.length + Rx.unm a.seen v L
theorem Dn.refl (v L : Nat) (a : MS) : Dn v L a a := ⟨Nat.le_refl _, Nat.le_refl _⟩
theorem Dn.trans {v L : Nat} {a b c : MS} (h : Dn v L a b) (k : Dn v L b c) : Dn v L a c := ⟨Nat.le_trans k.unm h.unm, Nat.le_trans k.len h.len⟩
def DnF (v L : Nat) (f : Fol) : Prop := ∀ st s w p, w < 3 → Dn v L st (f st s w p).1
theorem rpt_dn {v L : Nat} {f : Fol} (hf : DnF v L f) (x : Instr) (st : MS) (w : Nat) (p : List Rec) (hw : w < 3) : Dn v L st (rpt f x st w p).1 := by
  unfold rpt
  split
  · split
    · exact hf _ _ _ _ hw
    · exact (hf _ _ _ _ hw).trans (hf _ _ _ _ (by omega))
  · exact (hf _ _ _ _ (by omega)).trans (hf _ _ _ _ hw)
theorem bgn_dn {v L : Nat} {f : Fol} (hf : DnF v L f) (N : Nat) (keeps : Bool) (i : Nat) (x : Instr) (st : MS) (w : Nat) (p : List Rec) (hw : w < 3) : Dn v L st (bgn N keeps i f x st w p).1 := by
  unfold bgn
  split
  · exact (hf _ _ _ _ (by omega)).trans (rpt_dn hf _ _ _ _ hw)
  · exact hf _ _ _ _ (by omega)
theorem act_dn {v L : Nat} {f : Fol} (hf : DnF v L f) (N : Nat) (keeps : Bool) (i : Nat) (x : Instr) (st : MS) (s w : Nat) (p : List Rec) (hw : w < 3) :
    Rx.unm (act N keeps i f x st s w p).1.seen v L ≤ Rx.unm st.seen v L ∧ (act N keeps i f x st s w p).1.next.length + Rx.unm (act N keeps i f x st s w p).1.seen v L ≤ st.next.length + 1 + Rx.unm st.seen v L := by
  have up : ∀ {r : MS}, Dn v L st r → Rx.unm r.seen v L ≤ Rx.unm st.seen v L ∧ r.next.length + Rx.unm r.seen v L ≤ st.next.length + 1 + Rx.unm st.seen v L := fun h => ⟨h.unm, by have := h.len; omega⟩
  unfold act
  split
  · exact ⟨Nat.le_refl _, by simp⟩
  split
  · split
    · exact ⟨Nat.le_refl _, by simp⟩
    · exact up (Dn.refl _ _ _)
  split
  · split
    · exact up (Dn.refl _ _ _)
    · exact up (hf _ _ _ _ hw)
  split
  · exact up (hf _ _ _ _ hw)
  split
  · exact up (hf _ _ _ _ hw)
  split
  · split
    · exact up (hf _ _ _ _ hw)
    · exact up ((hf _ _ _ _ hw).trans (hf _ _ _ _ hw))
  split
  · exact up (bgn_dn hf _ _ _ _ _ _ _ hw)
  split
  · exact up (Dn.refl _ _ _)
  · exact up (rpt_dn hf _ _ _ _ hw)
theorem follow_dn (P : List Instr) (L : Nat) (keeps : Bool) (i : Nat) : ∀ n, DnF (i + 1) P.length (follow P L keeps i n)
  | 0 => fun st s w p _ => Dn.refl _ _ _
  | n + 1 => fun st s w p hw => by
    unfold follow
    split
    · exact Dn.refl _ _ _
    · rename_i h
      cases hs : P[s]? with
      | none => exact Dn.refl _ _ _
      | some x =>
        simp only
        have hlt : s < P.length := (List.getElem?_eq_some_iff.1 hs).1
        have h1 := unm_mark st w s (i + 1) P.length hw hlt h
        have h2 := act_dn (follow_dn P L keeps i n) L keeps i x (st.mark w s (i + 1)) s w p hw
        have h3 : (st.mark w s (i + 1)).next = st.next := rfl
        rw [h3] at h2
        exact ⟨by omega, by omega⟩
/-- what is so of each step of a tree -/
theorem rep_for {f : Nat → List Instr} {s : Nat} {p : Instr → Prop} (hp : ∀ b x, x ∈ f b → p x) : ∀ n b x, x ∈ repCode f s n b → p x
  | 0, b, x, h => by cases h
  | n + 1, b, x, h => by
    unfold repCode at h
    rcases List.mem_append.1 h with h | h
    · exact hp b x h
    · exact rep_for hp n _ x h
theorem opt_for {f : Nat → List Instr} {s : Nat} {z : Bool} {E : Nat} {p : Instr → Prop} (hp : ∀ b x, x ∈ f b → p x) (hc : ∀ a b, p (iChoice a b)) : ∀ n b x, x ∈ optCode f s z E n b → p x
  | 0, b, x, h => by cases h
  | n + 1, b, x, h => by
    unfold optCode at h
    rcases List.mem_cons.1 h with rfl | h
    · split
      · exact hc _ _
      · exact hc _ _
    · rcases List.mem_append.1 h with h | h
      · exact hp _ x h
      · exact opt_for hp hc n _ x h
mutual
/-- sets are words of 64 bits, edges a byte -/
def Fit : Node → Prop
  | .byte x => x.Ok
  | .edge e => e < 256
  | .seq ks => FitAll ks
  | .alt ks => FitAll ks
  | .group _ t => Fit t
  | .count _ _ _ _ t => Fit t
def FitAll : List Node → Prop
  | [] => True
  | t :: ts => Fit t ∧ FitAll ts
end
theorem fitAll_mem : ∀ ks, FitAll ks → ∀ t ∈ ks, Fit t
  | [], _, _, h => by cases h
  | t :: ts, h, u, hu => by
    unfold FitAll at h
    rcases List.mem_cons.1 hu with rfl | hu
    · exact h.1
    · exact fitAll_mem ts h.2 u hu
theorem fitAll_of : ∀ ks : List Node, (∀ t ∈ ks, Fit t) → FitAll ks
  | [], _ => by unfold FitAll; trivial
  | t :: ts, h => by
    unfold FitAll
    exact ⟨h t (by simp), fitAll_of ts fun u hu => h u (by simp [hu])⟩
def InC (x : Instr) : Prop := x.bytes.Ok ∧ x.edge < 256 ∧ (x.kind = 6 → ∃ t, x.empty = emptiesOf t)
theorem none_ok : Set4.none.Ok := by unfold Set4.Ok Set4.none; decide
theorem code_fit : ∀ t, Fit t → ∀ b x, x ∈ code t b → InC x := by
  have h0 : ∀ {k e s z n o}, e < 256 → k ≠ 6 → InC (⟨k, Set4.none, e, s, z, n, o, []⟩ : Instr) := fun he hk => ⟨none_ok, he, fun h => absurd h hk⟩
  intro t
  induction t using Node.ind with
  | h1 y => intro hf b x h; unfold Fit at hf; unfold code at h; rw [List.mem_singleton.1 h]; exact ⟨hf, (by decide : 0 < 256), fun h => by cases h⟩
  | h2 e => intro hf b x h; unfold Fit at hf; unfold code at h; rw [List.mem_singleton.1 h]; exact h0 hf (by decide)
  | h3 ks ih =>
    intro hf b x h
    unfold Fit at hf
    unfold code at h
    induction ks generalizing b with
    | nil => unfold codeSeq at h; cases h
    | cons t ts k =>
      unfold FitAll at hf
      unfold codeSeq at h
      rcases List.mem_append.1 h with h | h
      · exact ih t (by simp) hf.1 b x h
      · exact k (fun u hu => ih u (by simp [hu])) _ hf.2 h
  | h4 ks ih =>
    intro hf b x h
    unfold Fit at hf
    unfold code at h
    generalize b + (sizeAll ks + 2 * (ks.length - 1)) = E at h
    induction ks generalizing b with
    | nil => unfold codeAlt at h; cases h
    | cons t ts k =>
      unfold FitAll at hf
      cases ts with
      | nil => unfold codeAlt at h; exact ih t (by simp) hf.1 b x h
      | cons u us =>
        unfold codeAlt at h
        rcases List.mem_cons.1 h with rfl | h
        · exact h0 (by decide) (by decide)
        rcases List.mem_append.1 h with h | h
        · exact ih t (by simp) hf.1 _ x h
        rcases List.mem_cons.1 h with rfl | h
        · exact h0 (by decide) (by decide)
        · exact k (fun u hu => ih u (by simp [hu])) _ hf.2 h
  | h5 n t ih =>
    intro hf b x h
    unfold Fit at hf
    rw [code] at h
    rcases List.mem_cons.1 h with rfl | h
    · exact h0 (by decide) (by decide)
    rcases List.mem_append.1 h with h | h
    · exact ih hf _ x h
    · rw [List.mem_singleton.1 h]; exact h0 (by decide) (by decide)
  | h6 l m p z t ih =>
    intro hf b x h
    unfold Fit at hf
    rw [code] at h
    have hi := ih hf
    cases p
    · simp only [Bool.false_eq_true, if_false] at h
      rcases List.mem_append.1 h with h | h
      · exact rep_for (p := InC) hi _ b x h
      · cases m with
        | none =>
          simp only at h
          rcases List.mem_cons.1 h with rfl | h
          · exact h0 (by decide) (by decide)
          rcases List.mem_append.1 h with h | h
          · exact hi _ x h
          · rw [List.mem_singleton.1 h]; exact h0 (by decide) (by decide)
        | some M =>
          simp only at h
          exact opt_for (p := InC) hi (fun a b => h0 (by decide) (by decide)) _ _ x h
    · simp only [if_true] at h
      rcases List.mem_cons.1 h with rfl | h
      · exact ⟨none_ok, (by decide : 0 < 256), fun _ => ⟨t, rfl⟩⟩
      rcases List.mem_append.1 h with h | h
      · exact hi _ x h
      · rw [List.mem_singleton.1 h]; exact h0 (by decide) (by decide)
theorem prog_fit (t : Node) (h : Fit t) : ∀ x ∈ prog t, InC x := by
  intro x hx
  unfold prog at hx
  rcases List.mem_append.1 hx with hx | hx
  · exact code_fit t h 0 x hx
  · rw [List.mem_singleton.1 hx]; exact ⟨none_ok, (by decide : 0 < 256), fun h => by cases h⟩
end Rx
end Go.Proofs.YtphighddlfabbaaDoor
namespace Go.Proofs.YtphighddlfabbaaDoor
set_option linter.unusedVariables false
set_option linter.unusedSimpArgs false
open Go.RowKit Go.PlainAid Go.Shelf
open Rx (Set4 RS Instr Rec MS)
theorem fit_of {w : World} {S : Nat → Prop} : ∀ t b, IsN w S t b → Rx.Fit t := by
  intro t
  induction t using Rx.Node.ind with
  | h1 x => intro b H; unfold IsN at H; unfold Rx.Fit; exact H.2.1
  | h2 e => intro b H; unfold IsN at H; unfold Rx.Fit; exact H.2.1
  | h3 ks ih =>
    intro b H; unfold IsN at H; unfold Rx.Fit
    obtain ⟨_, kv, _, h⟩ := H
    refine Rx.fitAll_of ks fun t ht => ?_
    rcases h with ⟨rfl, _⟩ | ⟨g, c, cur, _, _, _, hk⟩
    · cases ht
    · obtain ⟨k, hk1, rfl⟩ := List.getElem_of_mem ht
      obtain ⟨c, _, hc⟩ := KidsIn.get _ _ _ hk k hk1
      exact ih _ ht c hc
  | h4 ks ih =>
    intro b H; unfold IsN at H; unfold Rx.Fit
    obtain ⟨_, kv, _, h⟩ := H
    refine Rx.fitAll_of ks fun t ht => ?_
    obtain ⟨g, c, cur, _, _, _, hk⟩ := h
    obtain ⟨k, hk1, rfl⟩ := List.getElem_of_mem ht
    obtain ⟨c, _, hc⟩ := KidsIn.get _ _ _ hk k hk1
    exact ih _ ht c hc
  | h5 n t ih => intro b H; unfold IsN at H; unfold Rx.Fit; obtain ⟨_, g, cur, i, _, _, _, _, h⟩ := H; exact ih i h
  | h6 l m p z t ih => intro b H; unfold IsN at H; unfold Rx.Fit; obtain ⟨_, em, g, cur, i, _, _, _, _, _, h⟩ := H; exact ih i h
/-- the program as it is read -/
structure Pg (W1 : World) (pv : Value) (is : List Instr) (gp cap : Nat) : Prop where
  val : pv = .slice (some ⟨gp, 0, none⟩) is.length cap
  lt : gp < W1.heap.size
  at' : ∀ k (hk : k < is.length), ∃ ep, (∀ j, j < 11 → W1.cell? ⟨gp, k * 11 + j, none⟩ = (icells is[k] ep)[j]?) ∧
    (is[k].kind = 6 → ∃ (t : Rx.Node) (eb : Nat) (ec : Array Value), is[k].empty = Rx.emptiesOf t ∧ ep = some ⟨eb, 0, none⟩ ∧ eb < W1.heap.size ∧ (∀ q, W1.cell? ⟨eb, q, none⟩ = ec[q]?) ∧ ∀ q, q < 4 → ec[2 * q]? = some (.bool (Rx.emptyAt t q).1) ∧ ∃ a c, ec[2 * q + 1]? = some (.slice a (Rx.emptyAt t q).2.length c))
  fit : ∀ k (hk : k < is.length), Rx.InC is[k]
theorem PRv.pg {w0 w : World} {P : Nat} {v : Value} {is : List Instr} (h : PRv w0 w P v is) (hpos : 0 < is.length) (hf : ∀ x ∈ is, Rx.InC x) : ∃ gp cap, Pg w v is gp cap := by
  obtain ⟨g, c, _, hv, ⟨cur, hcur⟩, _⟩ := h.put 0 hpos
  refine ⟨g, c, hv, lt_of_row hcur, fun k hk => ?_, fun k hk => hf _ (List.getElem_mem hk)⟩
  have hb := h.below
  obtain ⟨xs, h4, h5, h6⟩ := h.row
  have hlen := flat_len xs is h4 (fun k hk => by obtain ⟨ep, h, _⟩ := h6 k hk; exact ⟨ep, h⟩)
  have hkx : k < xs.length := by omega
  obtain ⟨ep, hxk, hek⟩ := h6 k hk
  have hxk' : xs[k] = icells is[k] ep := by rw [List.getElem?_eq_getElem hkx, Option.some.injEq] at hxk; exact hxk
  refine ⟨ep, fun j hj => ?_, fun hk6 => ?_⟩
  · rw [hv] at h5
    rw [h5.cellAt (k * 11 + j) (by omega), flat_get xs k j hlen hj hkx, hxk']
  · obtain ⟨t, ht⟩ := (hf _ (List.getElem_mem hk)).2.2 hk6
    rcases hek with ⟨e1, _⟩ | ⟨t', S, e1, eb, ec, e2, e3, e4, e5⟩
    · rw [ht] at e1; cases e1
    · have e6 : w.heap[eb]? = some (.cells ec 124 (0, 0)) := (hb.block eb (lt_of_row e4)).trans e4
      refine ⟨t', eb, ec, e1, ?_, lt_of_row e6, fun q => cell_of_row _ _ _ _ _ _ e6, e5⟩
      unfold ptr at e2
      simpa using e2
/-- cells of the program in a later world -/
structure At (w : World) (gp : Nat) (x : Instr) (k : Nat) (ep : Option Addr) : Prop where
  c : ∀ j, j < 11 → w.cell? ⟨gp, k * 11 + j, none⟩ = (icells x ep)[j]?
section
variable {w : World} {gp k : Nat} {x : Instr} {ep : Option Addr}
theorem At.kd (h : At w gp x k ep) : w.cell? ⟨gp, k * 11, none⟩ = some (.int .u8 ((x.kind : Nat) : Int)) := h.c 0 (by decide)
theorem At.ed (h : At w gp x k ep) : w.cell? ⟨gp, k * 11 + 5, none⟩ = some (.int .u8 ((x.edge : Nat) : Int)) := h.c 5 (by decide)
theorem At.sl (h : At w gp x k ep) : w.cell? ⟨gp, k * 11 + 6, none⟩ = some (.int .i64 ((x.slot : Nat) : Int)) := h.c 6 (by decide)
theorem At.lz (h : At w gp x k ep) : w.cell? ⟨gp, k * 11 + 7, none⟩ = some (.bool x.lazy) := h.c 7 (by decide)
theorem At.nx (h : At w gp x k ep) : w.cell? ⟨gp, k * 11 + 8, none⟩ = some (.int .i64 ((x.next : Nat) : Int)) := h.c 8 (by decide)
theorem At.ot (h : At w gp x k ep) : w.cell? ⟨gp, k * 11 + 9, none⟩ = some (.int .i64 ((x.other : Nat) : Int)) := h.c 9 (by decide)
theorem At.em (h : At w gp x k ep) : w.cell? ⟨gp, k * 11 + 10, none⟩ = some (.pointer ep) := h.c 10 (by decide)
end
end Go.Proofs.YtphighddlfabbaaDoor
namespace Go.Proofs.YtphighddlfabbaaDoor
set_option linter.unusedVariables false
set_option linter.unusedSimpArgs false
open Go.RowKit Go.PlainAid Go.Shelf
open Rx (Set4 RS Instr Rec MS)
/-- what following owes -/
structure FP (W1 w w' : World) (M n : Nat) (pv : Value) (T : List Nat) (keeps : Bool) (i : Nat) (nv : Value) (nl : List (Nat × List Rec)) (r : MS × Bool) (e : Ending) : Prop where
  val : e = .returned (.bool r.2)
  mc : Mc W1 w' M n pv T keeps i nv nl r.1
  k : K85 w w'
def FolC (W1 : World) (M : Nat) (pv : Value) (is : List Instr) (T : List Nat) (keeps : Bool) (i : Nat) (nv : Value) (nl : List (Nat × List Rec)) (m : Nat) : Prop :=
  ∀ (st : MS) (s a : Nat) (p : List Rec) (q : Option Addr) (w : World), s < is.length → a < 3 → Rx.unm st.seen (i + 1) is.length < m → st.next.length + Rx.unm st.seen (i + 1) is.length ≤ 300000 → Mc W1 w M is.length pv T keeps i nv nl st → RecAt w p (.pointer q) →
    Calls Tryd.prog 34 #[ptr M, .int .i64 ((s : Nat) : Int), .int .i64 ((a : Nat) : Int), .pointer q] w fun e w' => FP W1 w w' M is.length pv T keeps i nv nl (Rx.follow is T.length keeps i m st s a p) e
/-- the program's cells in the machine's worlds -/
theorem Pg.here {W1 : World} {pv : Value} {is : List Instr} {gp cap : Nat} (h : Pg W1 pv is gp cap) (s : Nat) (hs : s < is.length) : ∃ ep, (∀ w, Below W1.heap.size W1 w → At w gp is[s] s ep) ∧
    (is[s].kind = 6 → ∃ (t : Rx.Node) (eb : Nat), is[s].empty = Rx.emptiesOf t ∧ ep = some ⟨eb, 0, none⟩ ∧ ∀ w, Below W1.heap.size W1 w → ∀ q, q < 4 → w.cell? ⟨eb, 2 * q, none⟩ = some (.bool (Rx.emptyAt t q).1) ∧ ∃ a c, w.cell? ⟨eb, 2 * q + 1, none⟩ = some (.slice a (Rx.emptyAt t q).2.length c)) := by
  obtain ⟨ep, h1, h2⟩ := h.at' s hs
  refine ⟨ep, fun w hb => ⟨fun j hj => (hb.cell (p := ⟨gp, s * 11 + j, none⟩) h.lt).trans (h1 j hj)⟩, fun h6 => ?_⟩
  obtain ⟨t, eb, ec, e1, e2, e3, e4, e5⟩ := h2 h6
  refine ⟨t, eb, e1, e2, fun w hb q hq => ⟨(hb.cell (p := ⟨eb, 2 * q, none⟩) e3).trans ((e4 _).trans (e5 q hq).1), ?_⟩⟩
  obtain ⟨a, c, hac⟩ := (e5 q hq).2
  exact ⟨a, c, (hb.cell (p := ⟨eb, 2 * q + 1, none⟩) e3).trans ((e4 _).trans hac)⟩
theorem Mc.below {W1 w : World} {M n : Nat} {pv : Value} {T : List Nat} {keeps : Bool} {i : Nat} {nv : Value} {nl : List (Nat × List Rec)} {st : MS} (h : Mc W1 w M n pv T keeps i nv nl st) : Below W1.heap.size W1 w := by
  obtain ⟨g, xv, fv, h⟩ := h
  exact h.below
set_option maxHeartbeats 4000000 in
set_option maxRecDepth 100000 in
theorem repeat_any {W1 : World} {M : Nat} {pv : Value} {is : List Instr} {T : List Nat} {keeps : Bool} {i : Nat} {nv : Value} {nl : List (Nat × List Rec)} {m gp cap : Nat} (CF : FolC W1 M pv is T keeps i nv nl m) (G : Pg W1 pv is gp cap)
    (s : Nat) (hs : s < is.length) (hn : is[s].next < is.length) (ho : is[s].other < is.length) (st : MS) (a : Nat) (ha : a < 3) (p : List Rec) (q : Option Addr) (w : World) (hu : Rx.unm st.seen (i + 1) is.length < m) (hl : st.next.length + Rx.unm st.seen (i + 1) is.length ≤ 300000) (H : Mc W1 w M is.length pv T keeps i nv nl st) (hp : RecAt w p (.pointer q)) :
    Calls Tryd.prog 47 #[ptr M, .pointer (some ⟨gp, s * 11, none⟩), .int .i64 ((a : Nat) : Int), .pointer q] w fun e w' => FP W1 w w' M is.length pv T keeps i nv nl (Rx.rpt (Rx.follow is T.length keeps i m) is[s] st a p) e := by
  obtain ⟨ep, hat, _⟩ := G.here s hs
  have HA := Lib.hid hat
  have a0 := hat w H.below
  have z0 := a0.lz
  have n0 := a0.nx
  have o0 := a0.ot
  have hf := Rx.follow_dn is T.length keeps i m
  unfold Rx.rpt
  cases hz : is[s].lazy
  · rw [hz] at z0
    simp only [Bool.false_eq_true, if_false]
    have C1 := Lib.hid (CF st is[s].other 1 p q w ho (by decide) hu hl H hp)
    have d1 := hf st is[s].other 1 p (by decide)
    obtain ⟨R1, hR1⟩ : ∃ r, Rx.follow is T.length keeps i m st is[s].other 1 p = r := ⟨_, rfl⟩
    rw [hR1] at C1 d1 ⊢
    have C2 := Lib.hid (fun w1 (h1 : Mc W1 w1 M is.length pv T keeps i nv nl R1.1) (hp1 : RecAt w1 p (.pointer q)) => CF R1.1 is[s].next a p q w1 hn ha (by have := d1.unm; omega) (by have := d1.len; omega) h1 hp1)
    obtain ⟨R2, hR2⟩ : ∃ r, Rx.follow is T.length keeps i m R1.1 is[s].next a p = r := ⟨_, rfl⟩
    rw [hR2] at C2 ⊢
    have HP := Lib.hid hp
    have HZ := Lib.hid (fun w1 (h : Mc W1 w1 M is.length pv T keeps i nv nl R1.1) => show w1.cell? ⟨gp, s * 11 + 7, none⟩ = some (.bool false) from by have := (hat w1 h.below).lz; rw [hz] at this; exact this)
    have HN := Lib.hid (fun w1 (h : Mc W1 w1 M is.length pv T keeps i nv nl R1.1) => (hat w1 h.below).nx)
    obtain ⟨NX, hNX⟩ : ∃ x, is[s].next = x := ⟨_, rfl⟩
    obtain ⟨OT, hOT⟩ : ∃ x, is[s].other = x := ⟨_, rfl⟩
    rw [hNX] at C2 HN n0
    rw [hOT] at C1 o0
    unfold ptr at C1 C2 ⊢
    clear a0 hat hz H hp hf d1 hR1 hR2 CF hn ho hu hl HA hNX hOT
    go_enter Tryd.func47, Tryd.ntmps47
    go_wp2_with fail
    refine C1.out.mono ?_
    rintro e w1 ⟨rfl, h1, k1⟩
    have HP1 := Lib.hid (HP.out.keep k1)
    have z1 := HZ.out w1 h1
    have n1 := HN.out w1 h1
    have C3 := Lib.hid (C2.out w1 h1 HP1.out)
    have K1 := Lib.hid k1
    clear h1 k1 C2 HZ HN
    go_wp2_with fail
    refine C3.out.mono ?_
    rintro e w2 ⟨rfl, h2, k2⟩
    have M2 := Lib.hid h2
    have K2 := Lib.hid (K1.out.trans k2)
    clear h2 k2
    go_wp2
    go_ret
    exact ⟨rfl, M2.out, K2.out⟩
  · rw [hz] at z0
    simp only [if_true]
    have C1 := Lib.hid (CF st is[s].next a p q w hn ha hu hl H hp)
    have d1 := hf st is[s].next a p ha
    obtain ⟨R1, hR1⟩ : ∃ r, Rx.follow is T.length keeps i m st is[s].next a p = r := ⟨_, rfl⟩
    rw [hR1] at C1 d1 ⊢
    have C2 := Lib.hid (fun w1 (h1 : Mc W1 w1 M is.length pv T keeps i nv nl R1.1) (hp1 : RecAt w1 p (.pointer q)) => CF R1.1 is[s].other 1 p q w1 ho (by decide) (by have := d1.unm; omega) (by have := d1.len; omega) h1 hp1)
    obtain ⟨R2, hR2⟩ : ∃ r, Rx.follow is T.length keeps i m R1.1 is[s].other 1 p = r := ⟨_, rfl⟩
    rw [hR2] at C2 ⊢
    have HP := Lib.hid hp
    have HZ := Lib.hid (fun w1 (h : Mc W1 w1 M is.length pv T keeps i nv nl R2.1) => show w1.cell? ⟨gp, s * 11 + 7, none⟩ = some (.bool true) from by have := (hat w1 h.below).lz; rw [hz] at this; exact this)
    have HO := Lib.hid (fun w1 (h : Mc W1 w1 M is.length pv T keeps i nv nl R1.1) => (hat w1 h.below).ot)
    obtain ⟨NX, hNX⟩ : ∃ x, is[s].next = x := ⟨_, rfl⟩
    obtain ⟨OT, hOT⟩ : ∃ x, is[s].other = x := ⟨_, rfl⟩
    rw [hNX] at C1 n0
    rw [hOT] at C2 HO o0
    obtain ⟨Q1, B1⟩ := R1
    cases B1
    · simp only [Bool.false_eq_true, if_false] at *
      unfold ptr at C1 C2 ⊢
      clear a0 hat hz H hp hf d1 hR1 hR2 CF hn ho hu hl HA hNX hOT
      go_enter Tryd.func47, Tryd.ntmps47
      go_wp2_with fail
      refine C1.out.mono ?_
      rintro e w1 ⟨rfl, h1, k1⟩
      have HP1 := Lib.hid (HP.out.keep k1)
      have o1 := HO.out w1 h1
      have C3 := Lib.hid (C2.out w1 h1 HP1.out)
      have K1 := Lib.hid k1
      clear h1 k1 C2 HO
      go_wp2_with fail
      refine C3.out.mono ?_
      rintro e w2 ⟨rfl, h2, k2⟩
      have z2 := HZ.out w2 h2
      have M2 := Lib.hid h2
      have K2 := Lib.hid (K1.out.trans k2)
      clear h2 k2 HZ
      go_wp2
      go_ret
      exact ⟨rfl, M2.out, K2.out⟩
    · simp only [if_true] at *
      unfold ptr at C1 C2 ⊢
      clear a0 hat hz H hp hf d1 hR1 hR2 CF hn ho hu hl HA hNX hOT
      go_enter Tryd.func47, Tryd.ntmps47
      go_wp2_with fail
      refine C1.out.mono ?_
      rintro e w1 ⟨rfl, h1, k1⟩
      have M1 := Lib.hid h1
      have K1 := Lib.hid k1
      clear h1 k1
      go_wp2
      go_ret
      exact ⟨rfl, M1.out, K1.out⟩
end Go.Proofs.YtphighddlfabbaaDoor
namespace Go.Proofs.YtphighddlfabbaaDoor
set_option linter.unusedVariables false
set_option linter.unusedSimpArgs false
open Go.RowKit Go.PlainAid Go.Shelf
open Rx (Set4 RS Instr Rec MS)
theorem edges_lt (L i : Nat) : Rx.edgesAt L i < 4 := by
  unfold Rx.edgesAt
  split <;> split <;> decide
theorem void_of {x : Instr} {t : Rx.Node} (h : x.empty = Rx.emptiesOf t) (L i : Nat) : Rx.voidOf x L i = Rx.emptyAt t (Rx.edgesAt L i) := by
  unfold Rx.voidOf
  rw [h]
  have := edges_lt L i
  generalize Rx.edgesAt L i = E at *
  rcases (by omega : E = 0 ∨ E = 1 ∨ E = 2 ∨ E = 3) with rfl | rfl | rfl | rfl <;> rfl
theorem Mc.move {W1 w : World} {M n : Nat} {pv : Value} {T : List Nat} {keeps : Bool} {i : Nat} {nv : Value} {nl : List (Nat × List Rec)} {st : MS} (h : Mc W1 w M n pv T keeps i nv nl st) {w' : World} (hb : Below w.heap.size w w') : Mc W1 w' M n pv T keeps i nv nl st := by
  obtain ⟨g, xv, fv, h⟩ := h
  exact ⟨g, xv, fv, h.move hb⟩
theorem Mc.drew {W1 w : World} {M n : Nat} {pv : Value} {T : List Nat} {keeps : Bool} {i : Nat} {nv : Value} {nl : List (Nat × List Rec)} {st : MS} (h : Mc W1 w M n pv T keeps i nv nl st) (m : Nat) : Mc W1 (w.drewN m) M n pv T keeps i nv nl st := h.move (below_drewM w m)
theorem RecAt.drew {w : World} {p : List Rec} {v : Value} (h : RecAt w p v) (m : Nat) : RecAt (w.drewN m) p v := h.keep (K85.below (below_drewM w m))
theorem K85.drew (w : World) (m : Nat) : K85 w (w.drewN m) := K85.below (below_drewM w m)
set_option maxHeartbeats 4000000 in
set_option maxRecDepth 100000 in
theorem begin_any {W1 : World} {M : Nat} {pv : Value} {is : List Instr} {T : List Nat} {keeps : Bool} {i : Nat} {nv : Value} {nl : List (Nat × List Rec)} {m gp cap : Nat} (CF : FolC W1 M pv is T keeps i nv nl m) (G : Pg W1 pv is gp cap)
    (s : Nat) (hs : s < is.length) (h6 : is[s].kind = 6) (hn : is[s].next < is.length) (ho : is[s].other < is.length) (st : MS) (a : Nat) (ha : a < 3) (p : List Rec) (q : Option Addr) (w : World) (hu : Rx.unm st.seen (i + 1) is.length < m) (hl : st.next.length + Rx.unm st.seen (i + 1) is.length ≤ 300000) (H : Mc W1 w M is.length pv T keeps i nv nl st) (hp : RecAt w p (.pointer q)) :
    Calls Tryd.prog 46 #[ptr M, .pointer (some ⟨gp, s * 11, none⟩), .int .i64 ((a : Nat) : Int), .pointer q] w fun e w' => FP W1 w w' M is.length pv T keeps i nv nl (Rx.bgn T.length keeps i (Rx.follow is T.length keeps i m) is[s] st a p) e := by
  obtain ⟨ep, hat, hem⟩ := G.here s hs
  obtain ⟨t, eb, ht, hep, hcv⟩ := hem h6
  have a0 := hat w H.below
  have e0 := a0.em
  rw [hep] at e0
  have o0 := a0.ot
  have hE := edges_lt T.length i
  have CE := Lib.hid (fun m => edges_any (w.drewN m) (H.drew m))
  unfold Rx.bgn
  rw [void_of ht]
  obtain ⟨E, hE0⟩ : ∃ E, Rx.edgesAt T.length i = E := ⟨_, rfl⟩
  rw [hE0] at hE CE ⊢
  have hf := Rx.follow_dn is T.length keeps i m
  have hE4 : ((E : Nat) : Int) < 4 := by omega
  have b0 : w.cell? ⟨eb, E * 2, none⟩ = some (.bool (Rx.emptyAt t E).1) := by rw [Nat.mul_comm]; exact (hcv w H.below E hE).1
  have HV := Lib.hid (fun w1 (hb : Below W1.heap.size W1 w1) => show ∃ a c, w1.cell? ⟨eb, E * 2 + 1, none⟩ = some (.slice a (Rx.emptyAt t E).2.length c) from by rw [Nat.mul_comm]; exact (hcv w1 hb E hE).2)
  have CR := Lib.hid (fun (st : MS) (p : List Rec) (q : Option Addr) (w : World) hu hl H hp => repeat_any CF G s hs hn ho st a ha p q w hu hl H hp)
  have HP := Lib.hid hp
  cases hb0 : (Rx.emptyAt t E).1
  · rw [hb0] at b0
    simp only [Bool.false_eq_true, if_false]
    have C1 := Lib.hid (fun w1 H hp => CF st is[s].other 1 p q w1 ho (by decide) hu hl H hp)
    obtain ⟨R1, hR1⟩ : ∃ r, Rx.follow is T.length keeps i m st is[s].other 1 p = r := ⟨_, rfl⟩
    rw [hR1] at C1 ⊢
    obtain ⟨OT, hOT⟩ : ∃ x, is[s].other = x := ⟨_, rfl⟩
    rw [hOT] at C1 o0
    have HH := Lib.hid H
    unfold ptr at C1 CE ⊢
    clear a0 hat H hp hf hR1 CF hn ho hu hl hOT hem hep hcv hE0 hb0 HV CR ht h6
    go_enter Tryd.func46, Tryd.ntmps46
    go_wp2
    go_quiet ((go_at_call 44; exact Calls.quiet_of (CE.out _)))
    have M1 := Lib.hid (HH.out.drew nq)
    have P1 := Lib.hid (HP.out.drew nq)
    go_wp2_with fail
    refine (C1.out _ M1.out P1.out).mono ?_
    rintro e w2 ⟨rfl, h2, k2⟩
    have M2 := Lib.hid h2
    have K2 := Lib.hid ((K85.drew w nq).trans k2)
    clear h2 k2
    go_wp2
    go_ret
    exact ⟨rfl, M2.out, K2.out⟩
  · rw [hb0] at b0
    simp only [if_true]
    have C1 := Lib.hid (fun w1 H hp => CF st is[s].other 2 p q w1 ho (by decide) hu hl H hp)
    have d1 := hf st is[s].other 2 p (by decide)
    obtain ⟨R1, hR1⟩ : ∃ r, Rx.follow is T.length keeps i m st is[s].other 2 p = r := ⟨_, rfl⟩
    rw [hR1] at C1 d1 ⊢
    have CR2 := Lib.hid (fun (p' : List Rec) (q' : Option Addr) (w1 : World) H hp' => CR.out R1.1 p' q' w1 (by have := d1.unm; omega) (by have := d1.len; omega) H hp')
    obtain ⟨OT, hOT⟩ : ∃ x, is[s].other = x := ⟨_, rfl⟩
    rw [hOT] at C1 o0
    have CN := Lib.hid (fun (w1 : World) (H : Mc W1 w1 M is.length pv T keeps i nv nl R1.1) (hp : RecAt w1 p (.pointer q)) => note_void (Rx.emptyAt t E).2 (some ⟨eb, E * 2, none⟩) p q w1 H hp)
    unfold Rx.voidPath
    have HC2 := Lib.hid (fun w1 (h1 : Mc W1 w1 M is.length pv T keeps i nv nl R1.1) => show w1.cell? ⟨M, 2, none⟩ = some (.int .i64 ((i : Nat) : Int)) from by obtain ⟨g, xv, fv, h⟩ := h1; exact h.c 2)
    have HH := Lib.hid H
    obtain ⟨GS, hGS⟩ : ∃ x, (Rx.emptyAt t E).2 = x := ⟨_, rfl⟩
    rw [hGS] at HV CN ⊢
    by_cases hgs : GS.length = 0
    · rw [if_pos hgs]
      have hd : decide ((0 : Int) < ((GS.length : Nat) : Int)) = false := by rw [hgs]; rfl
      have hd2 : decide (0 < GS.length) = false := by rw [hgs]; rfl
      obtain ⟨NL, hNL⟩ : ∃ x, GS.length = x := ⟨_, rfl⟩
      rw [hNL] at HV hd hd2
      unfold ptr at C1 CE CR2 ⊢
      clear a0 hat H hp hf hR1 CF hn ho hu hl hOT hem hep hcv hE0 hb0 CR ht h6 hGS CN d1 hgs hNL
      go_enter Tryd.func46, Tryd.ntmps46
      go_wp2
      go_quiet ((go_at_call 44; exact Calls.quiet_of (CE.out _)))
      have M1 := Lib.hid (HH.out.drew nq)
      have P1 := Lib.hid (HP.out.drew nq)
      go_wp2_with fail
      refine (C1.out _ M1.out P1.out).mono ?_
      rintro e w2 ⟨rfl, h2, k2⟩
      have M2 := Lib.hid h2
      have K2 := Lib.hid ((K85.drew w nq).trans k2)
      have P2 := Lib.hid (P1.out.keep k2)
      obtain ⟨va, vc, hv⟩ := HV.out _ h2.below
      have CR3 := Lib.hid (CR2.out p q w2 h2 P2.out)
      clear h2 k2 HV CR2
      go_wp2_with fail
      refine CR3.out.mono ?_
      rintro e w3 ⟨rfl, h3, k3⟩
      have M3 := Lib.hid h3
      have K3 := Lib.hid (K2.out.trans k3)
      clear h3 k3
      go_wp2
      go_ret
      exact ⟨rfl, M3.out, K3.out⟩
    · rw [if_neg hgs]
      have hd : decide ((0 : Int) < ((GS.length : Nat) : Int)) = true := by simp; omega
      have hd2 : decide (0 < GS.length) = true := by simp; omega
      obtain ⟨NL, hNL⟩ : ∃ x, GS.length = x := ⟨_, rfl⟩
      rw [hNL] at HV hd hd2
      unfold ptr at C1 CE CR2 CN ⊢
      unfold recC at CN
      clear a0 hat H hp hf hR1 CF hn ho hu hl hOT hem hep hcv hE0 hb0 CR ht h6 hGS d1 hgs hNL
      go_enter Tryd.func46, Tryd.ntmps46
      go_wp2
      go_quiet ((go_at_call 44; exact Calls.quiet_of (CE.out _)))
      have M1 := Lib.hid (HH.out.drew nq)
      have P1 := Lib.hid (HP.out.drew nq)
      go_wp2_with fail
      refine (C1.out _ M1.out P1.out).mono ?_
      rintro e w2 ⟨rfl, h2, k2⟩
      have M2 := Lib.hid h2
      have K2 := Lib.hid ((K85.drew w nq).trans k2)
      have P2 := Lib.hid (P1.out.keep k2)
      obtain ⟨va, vc, hv⟩ := HV.out _ h2.below
      have c2 := HC2.out w2 h2
      have CN2 := Lib.hid (CN.out w2 h2 P2.out)
      clear h2 k2 HV CN
      go_wp2_with fail
      refine CN2.out.mono ?_
      rintro e w3 ⟨q3, rfl, h3, k3, p3⟩
      have CR3 := Lib.hid (CR2.out _ q3 w3 h3 p3)
      have K3 := Lib.hid (K2.out.trans k3)
      clear h3 k3 p3 CR2
      go_wp2_with fail
      refine CR3.out.mono ?_
      rintro e w4 ⟨rfl, h4, k4⟩
      have M4 := Lib.hid h4
      have K4 := Lib.hid (K3.out.trans k4)
      clear h4 k4
      go_wp2
      go_ret
      exact ⟨rfl, M4.out, K4.out⟩
end Go.Proofs.YtphighddlfabbaaDoor
