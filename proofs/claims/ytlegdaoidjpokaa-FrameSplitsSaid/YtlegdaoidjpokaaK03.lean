/-
  PACKED: FrJ
-/
import Derived.Test.YtlegdaoidjpokaaK02
namespace Go.Proofs.Ytlegdaoidjpokaa
set_option linter.unusedVariables false
set_option linter.unusedSimpArgs false
open Go.RowKit
open B2 (Only Row)
theorem zero199 : Try.zeroCells199 = (cellsOf (List.replicate 256 0)).toArray := by kernel_rfl
theorem readS_eq {seg i x2 x10 x11 pl : Nat} {bs : List Nat} (hn : bs.length = 256) (hi : i ≤ 65535) (h2 : bs[2]? = some x2) (h10 : bs[10]? = some x10) (h11 : bs[11]? = some x11) (hpl : x10 + 256 * x11 = pl) (hs : pl ≤ 240) :
    Fr.readS seg i bs = if Fr.sizeOk (Fr.kinds x2) pl = true ∧ bs = Fr.sec (Fr.kinds x2) seg i ((bs.drop 12).take pl) then some (Fr.kinds x2, (bs.drop 12).take pl) else none := by
  unfold Fr.readS
  have e2 : bs.getD 2 0 = x2 := by rw [List.getD, h2]; rfl
  have e10 : bs.getD 10 0 = x10 := by rw [List.getD, h10]; rfl
  have e11 : bs.getD 11 0 = x11 := by rw [List.getD, h11]; rfl
  rw [e2, e10, e11, hpl, if_pos ⟨hn, hi, hs⟩]
/-- a piece's bytes within the sector -/
theorem piece_bys {b off pl : Nat} {bs : List Nat} (hn : bs.length = 256) (hp : pl ≤ 240) (W : World) (H : Bys W (some ⟨b, off, none⟩) bs) : Bys W (some ⟨b, off + 12, none⟩) ((bs.drop 12).take pl) := by
  obtain ⟨h1, h2, h3⟩ := H
  refine ⟨by rw [List.length_take]; unfold maxLen; omega, fun c hc => h2 c (List.mem_of_mem_drop (List.mem_of_mem_take hc)), fun _ => ?_⟩
  obtain ⟨b', off', e, h4, h5⟩ := h3 (by intro h; rw [h] at hn; simp at hn)
  cases e
  refine ⟨b, off + 12, rfl, h4, fun j hj => ?_⟩
  have hj2 : j < pl := by rw [List.length_take] at hj; omega
  have hg : ((bs.drop 12).take pl)[j] = bs[12 + j]'(by omega) := by simp
  rw [hg, show off + 12 + j = off + (12 + j) by omega, h5 (12 + j) (by omega)]
set_option maxHeartbeats 8000000 in
set_option maxRecDepth 100000 in
theorem read_a1 (b off cap seg i : Nat) (bs : List Nat) (hn : bs.length = 256) (hcap : 256 ≤ cap) (hi : i ≤ 65535) (hs : seg < 4294967296) (x2 x10 x11 pl : Nat) (h2 : bs[2]? = some x2) (h10 : bs[10]? = some x10) (h11 : bs[11]? = some x11) (hpl : x10 + 256 * x11 = pl) (hsmall : pl ≤ 240) (w : World) (H : Bys w (some ⟨b, off, none⟩) bs) (hx : x2 = 1) (h0 : 0 < pl) :
    Calls Try.prog 69 #[.slice (some ⟨b, off, none⟩) 256 cap, .int .u32 seg, .int .i64 i] w (ReadPost (some ⟨b, off, none⟩) bs (Fr.readS seg i bs) w) := by
  have hRS := readS_eq (seg := seg) hn hi h2 h10 h11 hpl hsmall
  have hkk : Fr.kinds x2 = kd true true := by unfold Fr.kinds kd; subst hx; rfl
  rw [hkk] at hRS
  have hsz : Fr.sizeOk (kd true true) pl = sz true true pl := by simp [Fr.sizeOk, kd, sz]
  rw [hsz] at hRS
  have hkb : kb (kd true true) = true := by decide
  have hke : ke (kd true true) = true := by decide
  have HKK := Lib.hid (And.intro hkb hke)
  have HPB := Lib.hid (fun W h => piece_bys (b := b) (off := off) (pl := pl) hn hsmall W h)
  obtain ⟨PC, hPC⟩ : ∃ PC, (bs.drop 12).take pl = PC := ⟨_, rfl⟩
  have hpcl : PC.length = pl := by rw [← hPC, List.length_take, List.length_drop]; omega
  rw [hPC] at hRS HPB
  have HRS := Lib.hid hRS
  have HPL := Lib.hid hpcl
  have HA := Lib.hid ((Below.refl w.heap.size w).alloc (Nat.le_refl _) (.cells #[.bool false, .bool false, .slice none 0 0] 84))
  have hr := heap_alloc_new w (.cells #[.bool false, .bool false, .slice none 0 0] 84)
  obtain ⟨c10, l10⟩ := H.cell 10 x10 h10
  obtain ⟨c11, l11⟩ := H.cell 11 x11 h11
  obtain ⟨c2, l2⟩ := H.cell 2 x2 h2
  have d10 := cell_below c10 HA.out
  have d11 := cell_below c11 HA.out
  have d2 := cell_below c2 HA.out
  have d1 : decide ((65535 : Int) < (i : Int)) = false := by simp; omega
  have HR := Lib.hid hr
  have hbw : b < w.heap.size := World.block_lt_of_cell? _ _ c2
  have HBY := Lib.hid (And.intro H (And.intro hn (And.intro hcap hbw)))
  clear hRS hkk hsz hkb hke hPC hpcl
  have hsum : (12 : Int) + (x10 : Int) + (x11 : Int) * 256 = ((12 + pl : Nat) : Int) := by omega
  obtain ⟨en, hen⟩ : ∃ en, 12 + pl = en := ⟨_, rfl⟩
  rw [hen] at hsum
  have hen1 : en ≤ 252 := by omega
  have hen2 : ¬ en = 12 := by omega
  have hen3 : 12 ≤ en := by omega
  have hen4 : en - 12 = pl := by omega
  have hdd : decide ((252 : Int) < (en : Int)) = false := by simp; omega
  clear c10 c11 c2 hr H h10 h11 h2 hn hbw hpl hen
  go_enter Try.func69, Try.ntmps69
  go_upto_region 1 with (fail)
  generalize w.alloc (.cells #[.bool false, .bool false, .slice none 0 0] 84) = W1 at *
  go_wp2_with fail
  go_quiet (fail)
  have hB2 := HA.out.trans ((drewN_below W1 nq).mono HA.out.size)
  have HR2 : Hid ((W1.drewN nq).heap[w.heap.size]? = some (.cells #[.bool false, .bool false, .slice none 0 0] 84 (0, 0))) := HR
  have e2 : (W1.drewN nq).cell? ⟨b, off + 2, none⟩ = some (.int .u8 ((x2 : Nat) : Int)) := d2
  generalize W1.drewN nq = W2 at *
  clear d10 d11 d2
  subst hx
  have e3 := fun o => cell_below e2 ((Below.refl W2.heap.size W2).alloc (Nat.le_refl _) o)
  clear e2
  go_upto_region 14 with (fail)
  have hrowP := heap_alloc_new W2 (.cells #[.bool true, .bool true, .slice (some ⟨b, off + 12, none⟩) pl pl] 84)
  have hbP := (Below.refl W2.heap.size W2).alloc (Nat.le_refl _) (.cells #[.bool true, .bool true, .slice (some ⟨b, off + 12, none⟩) pl pl] 84)
  have hB3 := hB2.trans (hbP.mono hB2.size)
  have HR3 := Lib.hid ((hbP.block _ (Array.getElem?_eq_some_iff.1 HR2.out).1).trans HR2.out)
  have hpw : w.heap.size < W2.heap.size := (Array.getElem?_eq_some_iff.1 HR2.out).1
  obtain ⟨pb, hpb⟩ : ∃ pb, W2.heap.size = pb := ⟨_, rfl⟩
  rw [hpb] at hrowP hpw ⊢
  clear hpb hbP e3 HR2 hB2 HA HR
  generalize W2.alloc (.cells #[.bool true, .bool true, .slice (some ⟨b, off + 12, none⟩) pl pl] 84) = W3 at *
  go_upto_region 15 with (fail)
  have hM : (W3.alloc (.cells Try.zeroCells199 199)).heap[W3.heap.size]? = some (.cells (cellsOf (List.replicate 256 0)).toArray 199 (0, 0)) := (heap_alloc_new W3 (.cells Try.zeroCells199 199)).trans (by rw [zero199])
  have hb4 := (Below.refl W3.heap.size W3).alloc (Nat.le_refl _) (.cells Try.zeroCells199 199)
  have hpl3 : pb < W3.heap.size := (Array.getElem?_eq_some_iff.1 hrowP).1
  have hrow4 := (hb4.block pb hpl3).trans hrowP
  have hR4 := (hb4.block _ (Array.getElem?_eq_some_iff.1 HR3.out).1).trans HR3.out
  have hB4 := hB3.trans (hb4.mono hB3.size)
  have hsz3 := hB3.size
  obtain ⟨sb, hsb⟩ : ∃ sb, W3.heap.size = sb := ⟨_, rfl⟩
  rw [hsb] at hM hpl3 hsz3 ⊢
  clear hsb hb4 hB3 HR3 hrowP
  generalize W3.alloc (.cells Try.zeroCells199 199) = W4 at *
  have p0 : W4.cell? ⟨pb, 0, none⟩ = some (.bool true) := (cell_of_row _ _ 0 _ _ _ hrow4).trans rfl
  have p1 : W4.cell? ⟨pb, 1, none⟩ = some (.bool true) := (cell_of_row _ _ 1 _ _ _ hrow4).trans rfl
  have p2 : W4.cell? ⟨pb, 2, none⟩ = some (.slice (some ⟨b, off + 12, none⟩) pl pl) := (cell_of_row _ _ 2 _ _ _ hrow4).trans rfl
  have HH4 := Lib.hid (And.intro hM (And.intro hrow4 (And.intro hR4 hB4)))
  have HLT := Lib.hid (And.intro hpw (And.intro hpl3 hsz3))
  clear hM hrow4 hR4 hB4 hpw hpl3 hsz3
  go_still_tail 4, (by kernel_rfl)
  change wpList _ _ _ _ _ (World.drew _)
  have hD := drew_below W4
  have CW := Lib.hid (show Calls Try.prog 26 #[pcV true true (.slice (some ⟨b, off + 12, none⟩) pl pl), .slice (some ⟨sb, 0, none⟩) 256 256, .int .u32 seg, .int .i64 i] W4.drew fun r w' => r = .returned (.tuple #[]) ∧ Mem w' sb 199 ([] ++ (Fr.sec (kd true true) seg i PC ++ [])) ∧ Only [sb] W4.drew w' from by
    have hBY := HBY.out.1.below (HH4.out.2.2.2.trans (hD.mono HH4.out.2.2.2.size))
    have h := write_any true true (some ⟨b, off + 12, none⟩) PC pl sb 199 0 seg i [] [] rfl (by decide) (by rw [HPL.out]; omega) hs (by omega) W4.drew (by rw [List.nil_append, List.append_nil]; exact HH4.out.1) (HPB.out _ hBY) (.inl fun x hx => by injection hx with hx; subst hx; have := HBY.out.2.2.2; have := HLT.out; show b ≠ sb; omega)
    rw [HPL.out] at h
    exact h)
  have HD4 := Lib.hid hD
  unfold pcV at CW
  clear p0 p1 p2 hD
  go_wp2_with fail
  go_at_call 26
  refine CW.out.mono ?_
  rintro e w5 ⟨rfl, hm5, ho5⟩
  simp only [List.nil_append, List.append_nil] at hm5
  have ho5' := (Only.of_below HD4.out [sb]).trans ho5 (fun x hx => .inl hx)
  have hrow5 := (ho5'.block pb (Array.getElem?_eq_some_iff.1 HH4.out.2.1).1 (by have := HLT.out; simp; omega)).trans HH4.out.2.1
  have hR5 := (ho5'.block _ (Array.getElem?_eq_some_iff.1 HH4.out.2.2.1).1 (by have := HLT.out; simp; omega)).trans HH4.out.2.2.1
  have hB5 := HH4.out.2.2.2.trans (ho5'.below HH4.out.2.2.2.size (by have := HLT.out; simp; omega))
  have HH5 := Lib.hid (And.intro hm5 (And.intro hrow5 (And.intro hR5 hB5)))
  have r0 : w5.cell? ⟨pb, 0, none⟩ = some (.bool true) := (cell_of_row _ _ 0 _ _ _ hrow5).trans rfl
  have r1 : w5.cell? ⟨pb, 1, none⟩ = some (.bool true) := (cell_of_row _ _ 1 _ _ _ hrow5).trans rfl
  have r2 : w5.cell? ⟨pb, 2, none⟩ = some (.slice (some ⟨b, off + 12, none⟩) pl pl) := (cell_of_row _ _ 2 _ _ _ hrow5).trans rfl
  clear hm5 ho5 ho5' hrow5 hR5 hB5 HH4 CW HD4
  have CZ := Lib.hid (size_any true true (some ⟨b, off + 12, none⟩) pl pl (by omega) w5)
  obtain ⟨Z, hZ⟩ : ∃ Z, sz true true pl = Z := ⟨_, rfl⟩
  rw [hZ] at CZ HRS
  unfold pcV at CZ
  clear hZ
  cases Z
  · go_wp2_with fail
    go_at_call 72
    refine CZ.out.mono ?_
    rintro e w6 ⟨rfl, hb6⟩
    have hR6 := (hb6.block _ (Array.getElem?_eq_some_iff.1 HH5.out.2.2.1).1).trans HH5.out.2.2.1
    have hB6 := HH5.out.2.2.2.trans (hb6.mono HH5.out.2.2.2.size)
    have hn := setRow_heap w6 w.heap.size #[.bool false, .bool false, .slice none 0 0] #[.bool false, .bool false, .slice none 0 0] 84 (0, 0) hR6
    have HB9 := Lib.hid (below_setRow hB6 (Nat.le_refl _) #[.bool false, .bool false, .slice none 0 0])
    clear hb6 hB6 r0 r1 r2
    go_wp2_with (refine wpList_store_row rfl 84 (.tmp 6) (.tmp 64) rfl w.heap.size #[.bool false, .bool false, .slice none 0 0] rfl rfl 84 #[.bool false, .bool false, .slice none 0 0] hR6 (by kernel_rfl) (by kernel_rfl) (by kernel_rfl) ?_)
    refine bodyPost_ret (v := .tuple #[.agg #[.bool false, .bool false, .slice none 0 0], .bool false]) ?_ ?_ ?_
    · exact results_cell_tmp (p := 6) (q := 7) rfl _ _ w.heap.size 84 _ (0, 0) _ rfl hn Try.underlying84 rfl (by kernel_rfl)
    · rfl
    · rw [HRS.out, if_neg (by simp)]
      exact ⟨HB9.out, rfl⟩
  · have hsl : (Fr.sec (kd true true) seg i PC).length = 256 := Fr.sec_len _ _ _ _ (by rw [HPL.out]; omega)
    have hs8 : ∀ c ∈ Fr.sec (kd true true) seg i PC, c < 256 := Fr.sec_lt _ _ _ _ (by decide) (by
      have := (HPB.out _ HBY.out.1).2.1
      exact this)
    have CE := Lib.hid (fun W (h1 : Bys W (some ⟨b, off, none⟩) bs) (h2 : Bys W (some ⟨sb, 0, none⟩) (Fr.sec (kd true true) seg i PC)) => equal_any (some ⟨b, off, none⟩) (some ⟨sb, 0, none⟩) bs (Fr.sec (kd true true) seg i PC) 256 256 cap 256 HBY.out.2.1 hsl (by intro h; have := HBY.out.2.1; rw [h] at this; simp at this) (by intro h; rw [h] at hsl; simp at hsl) W h1 h2)
    have HSB := Lib.hid (fun W (h : Mem W sb 199 (Fr.sec (kd true true) seg i PC)) => h.bys 0 _ (fun j hj => by rw [Nat.zero_add, List.getElem?_eq_getElem hj]) hs8 (by rw [hsl]; decide))
    obtain ⟨X, hX⟩ : ∃ X, decide (bs = Fr.sec (kd true true) seg i PC) = X := ⟨_, rfl⟩
    rw [hX] at CE
    have HX9 := Lib.hid hX
    clear hX hsl hs8
    go_wp2_with fail
    go_at_call 72
    refine CZ.out.mono ?_
    rintro e w6 ⟨rfl, hb6⟩
    have hR6 := (hb6.block _ (Array.getElem?_eq_some_iff.1 HH5.out.2.2.1).1).trans HH5.out.2.2.1
    have hB6 := HH5.out.2.2.2.trans (hb6.mono HH5.out.2.2.2.size)
    have hrow6 := (hb6.block _ (Array.getElem?_eq_some_iff.1 HH5.out.2.1).1).trans HH5.out.2.1
    have hm6 := HH5.out.1.below hb6
    have CE6 := Lib.hid (CE.out w6 (HBY.out.1.below hB6) (HSB.out w6 hm6))
    have HH6 := Lib.hid (And.intro hrow6 (And.intro hR6 hB6))
    clear hb6 hB6 hrow6 hm6 hR6 r0 r1 r2 CE HSB CZ HH5
    go_wp2_with fail
    go_at_call 73
    refine CE6.out.mono ?_
    rintro e w7 ⟨rfl, hw7⟩
    obtain rfl : w6 = w7 := hw7.symm
    clear CE6
    have hrow6 := HH6.out.1
    have hR6 := HH6.out.2.1
    have s0 : w6.cell? ⟨pb, 0, none⟩ = some (.bool true) := (cell_of_row _ _ 0 _ _ _ hrow6).trans rfl
    have s1 : w6.cell? ⟨pb, 1, none⟩ = some (.bool true) := (cell_of_row _ _ 1 _ _ _ hrow6).trans rfl
    have s2 : w6.cell? ⟨pb, 2, none⟩ = some (.slice (some ⟨b, off + 12, none⟩) pl pl) := (cell_of_row _ _ 2 _ _ _ hrow6).trans rfl
    cases X
    · have hn := setRow_heap w6 w.heap.size #[.bool false, .bool false, .slice none 0 0] #[.bool false, .bool false, .slice none 0 0] 84 (0, 0) hR6
      have HB9 := Lib.hid (below_setRow HH6.out.2.2 (Nat.le_refl _) #[.bool false, .bool false, .slice none 0 0])
      clear s0 s1 s2 hrow6
      go_wp2_with (refine wpList_store_row rfl 84 (.tmp 6) (.tmp 64) rfl w.heap.size #[.bool false, .bool false, .slice none 0 0] rfl rfl 84 #[.bool false, .bool false, .slice none 0 0] hR6 (by kernel_rfl) (by kernel_rfl) (by kernel_rfl) ?_)
      refine bodyPost_ret (v := .tuple #[.agg #[.bool false, .bool false, .slice none 0 0], .bool false]) ?_ ?_ ?_
      · exact results_cell_tmp (p := 6) (q := 7) rfl _ _ w.heap.size 84 _ (0, 0) _ rfl hn Try.underlying84 rfl (by kernel_rfl)
      · rfl
      · rw [HRS.out, if_neg (fun h => absurd (decide_eq_true h.2) (by rw [HX9.out]; decide))]
        exact ⟨HB9.out, rfl⟩
    · have hn := setRow_heap w6 w.heap.size #[.bool false, .bool false, .slice none 0 0] #[.bool true, .bool true, .slice (some ⟨b, off + 12, none⟩) pl pl] 84 (0, 0) hR6
      have HB9 := Lib.hid (below_setRow HH6.out.2.2 (Nat.le_refl _) #[.bool true, .bool true, .slice (some ⟨b, off + 12, none⟩) pl pl])
      clear hrow6
      have hsz9 : (#[Value.bool false, .bool false, .slice none 0 0] : Array Value).size = (#[Value.bool true, .bool true, .slice (some ⟨b, off + 12, none⟩) pl pl] : Array Value).size := rfl
      have ho9 : (#[Value.bool true, .bool true, .slice (some ⟨b, off + 12, none⟩) pl pl] : Array Value).all (·.oneCell') = true := by simp [Value.oneCell']
      have HS9 := Lib.hid (And.intro hsz9 ho9)
      clear hsz9 ho9
      go_wp2_with (refine wpList_store_row rfl 84 (.tmp 6) (.tmp 65) rfl w.heap.size #[.bool true, .bool true, .slice (some ⟨b, off + 12, none⟩) pl pl] rfl rfl 84 #[.bool false, .bool false, .slice none 0 0] hR6 (by kernel_rfl) HS9.out.1 HS9.out.2 ?_)
      refine bodyPost_ret (v := .tuple #[.agg #[.bool true, .bool true, .slice (some ⟨b, off + 12, none⟩) pl pl], .bool true]) ?_ ?_ ?_
      · exact results_cell_tmp (p := 6) (q := 7) rfl _ _ w.heap.size 84 _ (0, 0) _ rfl hn Try.underlying84 rfl (by kernel_rfl)
      · rfl
      · rw [HRS.out, if_pos ⟨by simp, of_decide_eq_true HX9.out⟩]
        refine ⟨HB9.out, some ⟨b, off + 12, none⟩, pl, ?_, by rw [HPL.out]; exact Nat.le_refl _, ⟨_, rfl⟩, fun W h => HPB.out W h, fun x hx => ⟨_, rfl, by injection hx with hx; subst hx; rfl⟩⟩
        rw [HKK.out.1, HKK.out.2, HPL.out]
set_option maxHeartbeats 8000000 in
set_option maxRecDepth 100000 in
theorem read_a0 (b off cap seg i : Nat) (bs : List Nat) (hn : bs.length = 256) (hcap : 256 ≤ cap) (hi : i ≤ 65535) (hs : seg < 4294967296) (x2 x10 x11 pl : Nat) (h2 : bs[2]? = some x2) (h10 : bs[10]? = some x10) (h11 : bs[11]? = some x11) (hpl : x10 + 256 * x11 = pl) (hsmall : pl ≤ 240) (w : World) (H : Bys w (some ⟨b, off, none⟩) bs) (hx : x2 = 1) (h0 : pl = 0) :
    Calls Try.prog 69 #[.slice (some ⟨b, off, none⟩) 256 cap, .int .u32 seg, .int .i64 i] w (ReadPost (some ⟨b, off, none⟩) bs (Fr.readS seg i bs) w) := by
  have hRS := readS_eq (seg := seg) hn hi h2 h10 h11 hpl hsmall
  have hkk : Fr.kinds x2 = kd true true := by unfold Fr.kinds kd; subst hx; rfl
  rw [hkk] at hRS
  have hsz : Fr.sizeOk (kd true true) pl = sz true true pl := by simp [Fr.sizeOk, kd, sz]
  rw [hsz] at hRS
  have hkb : kb (kd true true) = true := by decide
  have hke : ke (kd true true) = true := by decide
  have HKK := Lib.hid (And.intro hkb hke)
  have HPB := Lib.hid (fun W h => piece_bys (b := b) (off := off) (pl := pl) hn hsmall W h)
  obtain ⟨PC, hPC⟩ : ∃ PC, (bs.drop 12).take pl = PC := ⟨_, rfl⟩
  have hpcl : PC.length = pl := by rw [← hPC, List.length_take, List.length_drop]; omega
  rw [hPC] at hRS HPB
  have HRS := Lib.hid hRS
  have HPL := Lib.hid hpcl
  have HA := Lib.hid ((Below.refl w.heap.size w).alloc (Nat.le_refl _) (.cells #[.bool false, .bool false, .slice none 0 0] 84))
  have hr := heap_alloc_new w (.cells #[.bool false, .bool false, .slice none 0 0] 84)
  obtain ⟨c10, l10⟩ := H.cell 10 x10 h10
  obtain ⟨c11, l11⟩ := H.cell 11 x11 h11
  obtain ⟨c2, l2⟩ := H.cell 2 x2 h2
  have d10 := cell_below c10 HA.out
  have d11 := cell_below c11 HA.out
  have d2 := cell_below c2 HA.out
  have d1 : decide ((65535 : Int) < (i : Int)) = false := by simp; omega
  have HR := Lib.hid hr
  have hbw : b < w.heap.size := World.block_lt_of_cell? _ _ c2
  have HBY := Lib.hid (And.intro H (And.intro hn (And.intro hcap hbw)))
  clear hRS hkk hsz hkb hke hPC hpcl
  obtain rfl : x10 = 0 := by omega
  obtain rfl : x11 = 0 := by omega
  obtain rfl : pl = 0 := by omega
  clear c10 c11 c2 hr H h10 h11 h2 hn hbw 
  go_enter Try.func69, Try.ntmps69
  go_upto_region 1 with (fail)
  generalize w.alloc (.cells #[.bool false, .bool false, .slice none 0 0] 84) = W1 at *
  go_wp2_with fail
  go_quiet (fail)
  have hB2 := HA.out.trans ((drewN_below W1 nq).mono HA.out.size)
  have HR2 : Hid ((W1.drewN nq).heap[w.heap.size]? = some (.cells #[.bool false, .bool false, .slice none 0 0] 84 (0, 0))) := HR
  have e2 : (W1.drewN nq).cell? ⟨b, off + 2, none⟩ = some (.int .u8 ((x2 : Nat) : Int)) := d2
  generalize W1.drewN nq = W2 at *
  clear d10 d11 d2
  subst hx
  have e3 := fun o => cell_below e2 ((Below.refl W2.heap.size W2).alloc (Nat.le_refl _) o)
  clear e2
  go_upto_region 14 with (fail)
  have hrowP := heap_alloc_new W2 (.cells #[.bool true, .bool true, .slice (some ⟨b, off, none⟩) 0 0] 84)
  have hbP := (Below.refl W2.heap.size W2).alloc (Nat.le_refl _) (.cells #[.bool true, .bool true, .slice (some ⟨b, off, none⟩) 0 0] 84)
  have hB3 := hB2.trans (hbP.mono hB2.size)
  have HR3 := Lib.hid ((hbP.block _ (Array.getElem?_eq_some_iff.1 HR2.out).1).trans HR2.out)
  have hpw : w.heap.size < W2.heap.size := (Array.getElem?_eq_some_iff.1 HR2.out).1
  obtain ⟨pb, hpb⟩ : ∃ pb, W2.heap.size = pb := ⟨_, rfl⟩
  rw [hpb] at hrowP hpw ⊢
  clear hpb hbP e3 HR2 hB2 HA HR
  generalize W2.alloc (.cells #[.bool true, .bool true, .slice (some ⟨b, off, none⟩) 0 0] 84) = W3 at *
  go_upto_region 15 with (fail)
  have hM : (W3.alloc (.cells Try.zeroCells199 199)).heap[W3.heap.size]? = some (.cells (cellsOf (List.replicate 256 0)).toArray 199 (0, 0)) := (heap_alloc_new W3 (.cells Try.zeroCells199 199)).trans (by rw [zero199])
  have hb4 := (Below.refl W3.heap.size W3).alloc (Nat.le_refl _) (.cells Try.zeroCells199 199)
  have hpl3 : pb < W3.heap.size := (Array.getElem?_eq_some_iff.1 hrowP).1
  have hrow4 := (hb4.block pb hpl3).trans hrowP
  have hR4 := (hb4.block _ (Array.getElem?_eq_some_iff.1 HR3.out).1).trans HR3.out
  have hB4 := hB3.trans (hb4.mono hB3.size)
  have hsz3 := hB3.size
  obtain ⟨sb, hsb⟩ : ∃ sb, W3.heap.size = sb := ⟨_, rfl⟩
  rw [hsb] at hM hpl3 hsz3 ⊢
  clear hsb hb4 hB3 HR3 hrowP
  generalize W3.alloc (.cells Try.zeroCells199 199) = W4 at *
  have p0 : W4.cell? ⟨pb, 0, none⟩ = some (.bool true) := (cell_of_row _ _ 0 _ _ _ hrow4).trans rfl
  have p1 : W4.cell? ⟨pb, 1, none⟩ = some (.bool true) := (cell_of_row _ _ 1 _ _ _ hrow4).trans rfl
  have p2 : W4.cell? ⟨pb, 2, none⟩ = some (.slice (some ⟨b, off, none⟩) 0 0) := (cell_of_row _ _ 2 _ _ _ hrow4).trans rfl
  have HH4 := Lib.hid (And.intro hM (And.intro hrow4 (And.intro hR4 hB4)))
  have HLT := Lib.hid (And.intro hpw (And.intro hpl3 hsz3))
  clear hM hrow4 hR4 hB4 hpw hpl3 hsz3
  go_still_tail 4, (by kernel_rfl)
  change wpList _ _ _ _ _ (World.drew _)
  have hD := drew_below W4
  have CW := Lib.hid (show Calls Try.prog 26 #[pcV true true (.slice (some ⟨b, off, none⟩) 0 0), .slice (some ⟨sb, 0, none⟩) 256 256, .int .u32 seg, .int .i64 i] W4.drew fun r w' => r = .returned (.tuple #[]) ∧ Mem w' sb 199 ([] ++ (Fr.sec (kd true true) seg i PC ++ [])) ∧ Only [sb] W4.drew w' from by
    have hBY := HBY.out.1.below (HH4.out.2.2.2.trans (hD.mono HH4.out.2.2.2.size))
    have h := write_any true true (some ⟨b, off, none⟩) PC 0 sb 199 0 seg i [] [] rfl (by decide) (by rw [HPL.out]; omega) hs (by omega) W4.drew (by rw [List.nil_append, List.append_nil]; exact HH4.out.1) (by rw [show PC = [] from List.eq_nil_of_length_eq_zero HPL.out]; exact nil_bytes _ _) (.inl fun x hx => by injection hx with hx; subst hx; have := HBY.out.2.2.2; have := HLT.out; show b ≠ sb; omega)
    rw [HPL.out] at h
    exact h)
  have HD4 := Lib.hid hD
  unfold pcV at CW
  clear p0 p1 p2 hD
  go_wp2_with fail
  go_at_call 26
  refine CW.out.mono ?_
  rintro e w5 ⟨rfl, hm5, ho5⟩
  simp only [List.nil_append, List.append_nil] at hm5
  have ho5' := (Only.of_below HD4.out [sb]).trans ho5 (fun x hx => .inl hx)
  have hrow5 := (ho5'.block pb (Array.getElem?_eq_some_iff.1 HH4.out.2.1).1 (by have := HLT.out; simp; omega)).trans HH4.out.2.1
  have hR5 := (ho5'.block _ (Array.getElem?_eq_some_iff.1 HH4.out.2.2.1).1 (by have := HLT.out; simp; omega)).trans HH4.out.2.2.1
  have hB5 := HH4.out.2.2.2.trans (ho5'.below HH4.out.2.2.2.size (by have := HLT.out; simp; omega))
  have HH5 := Lib.hid (And.intro hm5 (And.intro hrow5 (And.intro hR5 hB5)))
  have r0 : w5.cell? ⟨pb, 0, none⟩ = some (.bool true) := (cell_of_row _ _ 0 _ _ _ hrow5).trans rfl
  have r1 : w5.cell? ⟨pb, 1, none⟩ = some (.bool true) := (cell_of_row _ _ 1 _ _ _ hrow5).trans rfl
  have r2 : w5.cell? ⟨pb, 2, none⟩ = some (.slice (some ⟨b, off, none⟩) 0 0) := (cell_of_row _ _ 2 _ _ _ hrow5).trans rfl
  clear hm5 ho5 ho5' hrow5 hR5 hB5 HH4 CW HD4
  have CZ := Lib.hid (size_any true true (some ⟨b, off, none⟩) 0 0 (by omega) w5)
  obtain ⟨Z, hZ⟩ : ∃ Z, sz true true 0 = Z := ⟨_, rfl⟩
  rw [hZ] at CZ HRS
  unfold pcV at CZ
  clear hZ
  cases Z
  · go_wp2_with fail
    go_at_call 72
    refine CZ.out.mono ?_
    rintro e w6 ⟨rfl, hb6⟩
    have hR6 := (hb6.block _ (Array.getElem?_eq_some_iff.1 HH5.out.2.2.1).1).trans HH5.out.2.2.1
    have hB6 := HH5.out.2.2.2.trans (hb6.mono HH5.out.2.2.2.size)
    have hn := setRow_heap w6 w.heap.size #[.bool false, .bool false, .slice none 0 0] #[.bool false, .bool false, .slice none 0 0] 84 (0, 0) hR6
    have HB9 := Lib.hid (below_setRow hB6 (Nat.le_refl _) #[.bool false, .bool false, .slice none 0 0])
    clear hb6 hB6 r0 r1 r2
    go_wp2_with (refine wpList_store_row rfl 84 (.tmp 6) (.tmp 64) rfl w.heap.size #[.bool false, .bool false, .slice none 0 0] rfl rfl 84 #[.bool false, .bool false, .slice none 0 0] hR6 (by kernel_rfl) (by kernel_rfl) (by kernel_rfl) ?_)
    refine bodyPost_ret (v := .tuple #[.agg #[.bool false, .bool false, .slice none 0 0], .bool false]) ?_ ?_ ?_
    · exact results_cell_tmp (p := 6) (q := 7) rfl _ _ w.heap.size 84 _ (0, 0) _ rfl hn Try.underlying84 rfl (by kernel_rfl)
    · rfl
    · rw [HRS.out, if_neg (by simp)]
      exact ⟨HB9.out, rfl⟩
  · have hsl : (Fr.sec (kd true true) seg i PC).length = 256 := Fr.sec_len _ _ _ _ (by rw [HPL.out]; omega)
    have hs8 : ∀ c ∈ Fr.sec (kd true true) seg i PC, c < 256 := Fr.sec_lt _ _ _ _ (by decide) (by
      have := (HPB.out _ HBY.out.1).2.1
      exact this)
    have CE := Lib.hid (fun W (h1 : Bys W (some ⟨b, off, none⟩) bs) (h2 : Bys W (some ⟨sb, 0, none⟩) (Fr.sec (kd true true) seg i PC)) => equal_any (some ⟨b, off, none⟩) (some ⟨sb, 0, none⟩) bs (Fr.sec (kd true true) seg i PC) 256 256 cap 256 HBY.out.2.1 hsl (by intro h; have := HBY.out.2.1; rw [h] at this; simp at this) (by intro h; rw [h] at hsl; simp at hsl) W h1 h2)
    have HSB := Lib.hid (fun W (h : Mem W sb 199 (Fr.sec (kd true true) seg i PC)) => h.bys 0 _ (fun j hj => by rw [Nat.zero_add, List.getElem?_eq_getElem hj]) hs8 (by rw [hsl]; decide))
    obtain ⟨X, hX⟩ : ∃ X, decide (bs = Fr.sec (kd true true) seg i PC) = X := ⟨_, rfl⟩
    rw [hX] at CE
    have HX9 := Lib.hid hX
    clear hX hsl hs8
    go_wp2_with fail
    go_at_call 72
    refine CZ.out.mono ?_
    rintro e w6 ⟨rfl, hb6⟩
    have hR6 := (hb6.block _ (Array.getElem?_eq_some_iff.1 HH5.out.2.2.1).1).trans HH5.out.2.2.1
    have hB6 := HH5.out.2.2.2.trans (hb6.mono HH5.out.2.2.2.size)
    have hrow6 := (hb6.block _ (Array.getElem?_eq_some_iff.1 HH5.out.2.1).1).trans HH5.out.2.1
    have hm6 := HH5.out.1.below hb6
    have CE6 := Lib.hid (CE.out w6 (HBY.out.1.below hB6) (HSB.out w6 hm6))
    have HH6 := Lib.hid (And.intro hrow6 (And.intro hR6 hB6))
    clear hb6 hB6 hrow6 hm6 hR6 r0 r1 r2 CE HSB CZ HH5
    go_wp2_with fail
    go_at_call 73
    refine CE6.out.mono ?_
    rintro e w7 ⟨rfl, hw7⟩
    obtain rfl : w6 = w7 := hw7.symm
    clear CE6
    have hrow6 := HH6.out.1
    have hR6 := HH6.out.2.1
    have s0 : w6.cell? ⟨pb, 0, none⟩ = some (.bool true) := (cell_of_row _ _ 0 _ _ _ hrow6).trans rfl
    have s1 : w6.cell? ⟨pb, 1, none⟩ = some (.bool true) := (cell_of_row _ _ 1 _ _ _ hrow6).trans rfl
    have s2 : w6.cell? ⟨pb, 2, none⟩ = some (.slice (some ⟨b, off, none⟩) 0 0) := (cell_of_row _ _ 2 _ _ _ hrow6).trans rfl
    cases X
    · have hn := setRow_heap w6 w.heap.size #[.bool false, .bool false, .slice none 0 0] #[.bool false, .bool false, .slice none 0 0] 84 (0, 0) hR6
      have HB9 := Lib.hid (below_setRow HH6.out.2.2 (Nat.le_refl _) #[.bool false, .bool false, .slice none 0 0])
      clear s0 s1 s2 hrow6
      go_wp2_with (refine wpList_store_row rfl 84 (.tmp 6) (.tmp 64) rfl w.heap.size #[.bool false, .bool false, .slice none 0 0] rfl rfl 84 #[.bool false, .bool false, .slice none 0 0] hR6 (by kernel_rfl) (by kernel_rfl) (by kernel_rfl) ?_)
      refine bodyPost_ret (v := .tuple #[.agg #[.bool false, .bool false, .slice none 0 0], .bool false]) ?_ ?_ ?_
      · exact results_cell_tmp (p := 6) (q := 7) rfl _ _ w.heap.size 84 _ (0, 0) _ rfl hn Try.underlying84 rfl (by kernel_rfl)
      · rfl
      · rw [HRS.out, if_neg (fun h => absurd (decide_eq_true h.2) (by rw [HX9.out]; decide))]
        exact ⟨HB9.out, rfl⟩
    · have hn := setRow_heap w6 w.heap.size #[.bool false, .bool false, .slice none 0 0] #[.bool true, .bool true, .slice (some ⟨b, off, none⟩) 0 0] 84 (0, 0) hR6
      have HB9 := Lib.hid (below_setRow HH6.out.2.2 (Nat.le_refl _) #[.bool true, .bool true, .slice (some ⟨b, off, none⟩) 0 0])
      clear hrow6
      have hsz9 : (#[Value.bool false, .bool false, .slice none 0 0] : Array Value).size = (#[Value.bool true, .bool true, .slice (some ⟨b, off, none⟩) 0 0] : Array Value).size := rfl
      have ho9 : (#[Value.bool true, .bool true, .slice (some ⟨b, off, none⟩) 0 0] : Array Value).all (·.oneCell') = true := by simp [Value.oneCell']
      have HS9 := Lib.hid (And.intro hsz9 ho9)
      clear hsz9 ho9
      go_wp2_with (refine wpList_store_row rfl 84 (.tmp 6) (.tmp 65) rfl w.heap.size #[.bool true, .bool true, .slice (some ⟨b, off, none⟩) 0 0] rfl rfl 84 #[.bool false, .bool false, .slice none 0 0] hR6 (by kernel_rfl) HS9.out.1 HS9.out.2 ?_)
      refine bodyPost_ret (v := .tuple #[.agg #[.bool true, .bool true, .slice (some ⟨b, off, none⟩) 0 0], .bool true]) ?_ ?_ ?_
      · exact results_cell_tmp (p := 6) (q := 7) rfl _ _ w.heap.size 84 _ (0, 0) _ rfl hn Try.underlying84 rfl (by kernel_rfl)
      · rfl
      · rw [HRS.out, if_pos ⟨by simp, of_decide_eq_true HX9.out⟩]
        refine ⟨HB9.out, some ⟨b, off, none⟩, 0, ?_, by rw [HPL.out]; exact Nat.le_refl _, ⟨_, rfl⟩, fun W h => by rw [show PC = [] from List.eq_nil_of_length_eq_zero HPL.out]; exact nil_bytes _ _, fun x hx => ⟨_, rfl, by injection hx with hx; subst hx; rfl⟩⟩
        rw [HKK.out.1, HKK.out.2, HPL.out]
set_option maxHeartbeats 8000000 in
set_option maxRecDepth 100000 in
theorem read_c1 (b off cap seg i : Nat) (bs : List Nat) (hn : bs.length = 256) (hcap : 256 ≤ cap) (hi : i ≤ 65535) (hs : seg < 4294967296) (x2 x10 x11 pl : Nat) (h2 : bs[2]? = some x2) (h10 : bs[10]? = some x10) (h11 : bs[11]? = some x11) (hpl : x10 + 256 * x11 = pl) (hsmall : pl ≤ 240) (w : World) (H : Bys w (some ⟨b, off, none⟩) bs) (hx : x2 = 4) (h0 : 0 < pl) :
    Calls Try.prog 69 #[.slice (some ⟨b, off, none⟩) 256 cap, .int .u32 seg, .int .i64 i] w (ReadPost (some ⟨b, off, none⟩) bs (Fr.readS seg i bs) w) := by
  have hRS := readS_eq (seg := seg) hn hi h2 h10 h11 hpl hsmall
  have hkk : Fr.kinds x2 = kd false true := by unfold Fr.kinds kd; subst hx; rfl
  rw [hkk] at hRS
  have hsz : Fr.sizeOk (kd false true) pl = sz false true pl := by simp [Fr.sizeOk, kd, sz]
  rw [hsz] at hRS
  have hkb : kb (kd false true) = false := by decide
  have hke : ke (kd false true) = true := by decide
  have HKK := Lib.hid (And.intro hkb hke)
  have HPB := Lib.hid (fun W h => piece_bys (b := b) (off := off) (pl := pl) hn hsmall W h)
  obtain ⟨PC, hPC⟩ : ∃ PC, (bs.drop 12).take pl = PC := ⟨_, rfl⟩
  have hpcl : PC.length = pl := by rw [← hPC, List.length_take, List.length_drop]; omega
  rw [hPC] at hRS HPB
  have HRS := Lib.hid hRS
  have HPL := Lib.hid hpcl
  have HA := Lib.hid ((Below.refl w.heap.size w).alloc (Nat.le_refl _) (.cells #[.bool false, .bool false, .slice none 0 0] 84))
  have hr := heap_alloc_new w (.cells #[.bool false, .bool false, .slice none 0 0] 84)
  obtain ⟨c10, l10⟩ := H.cell 10 x10 h10
  obtain ⟨c11, l11⟩ := H.cell 11 x11 h11
  obtain ⟨c2, l2⟩ := H.cell 2 x2 h2
  have d10 := cell_below c10 HA.out
  have d11 := cell_below c11 HA.out
  have d2 := cell_below c2 HA.out
  have d1 : decide ((65535 : Int) < (i : Int)) = false := by simp; omega
  have HR := Lib.hid hr
  have hbw : b < w.heap.size := World.block_lt_of_cell? _ _ c2
  have HBY := Lib.hid (And.intro H (And.intro hn (And.intro hcap hbw)))
  clear hRS hkk hsz hkb hke hPC hpcl
  have hsum : (12 : Int) + (x10 : Int) + (x11 : Int) * 256 = ((12 + pl : Nat) : Int) := by omega
  obtain ⟨en, hen⟩ : ∃ en, 12 + pl = en := ⟨_, rfl⟩
  rw [hen] at hsum
  have hen1 : en ≤ 252 := by omega
  have hen2 : ¬ en = 12 := by omega
  have hen3 : 12 ≤ en := by omega
  have hen4 : en - 12 = pl := by omega
  have hdd : decide ((252 : Int) < (en : Int)) = false := by simp; omega
  clear c10 c11 c2 hr H h10 h11 h2 hn hbw hpl hen
  go_enter Try.func69, Try.ntmps69
  go_upto_region 1 with (fail)
  generalize w.alloc (.cells #[.bool false, .bool false, .slice none 0 0] 84) = W1 at *
  go_wp2_with fail
  go_quiet (fail)
  have hB2 := HA.out.trans ((drewN_below W1 nq).mono HA.out.size)
  have HR2 : Hid ((W1.drewN nq).heap[w.heap.size]? = some (.cells #[.bool false, .bool false, .slice none 0 0] 84 (0, 0))) := HR
  have e2 : (W1.drewN nq).cell? ⟨b, off + 2, none⟩ = some (.int .u8 ((x2 : Nat) : Int)) := d2
  generalize W1.drewN nq = W2 at *
  clear d10 d11 d2
  subst hx
  have e3 := fun o => cell_below e2 ((Below.refl W2.heap.size W2).alloc (Nat.le_refl _) o)
  clear e2
  go_upto_region 14 with (fail)
  have hrowP := heap_alloc_new W2 (.cells #[.bool false, .bool true, .slice (some ⟨b, off + 12, none⟩) pl pl] 84)
  have hbP := (Below.refl W2.heap.size W2).alloc (Nat.le_refl _) (.cells #[.bool false, .bool true, .slice (some ⟨b, off + 12, none⟩) pl pl] 84)
  have hB3 := hB2.trans (hbP.mono hB2.size)
  have HR3 := Lib.hid ((hbP.block _ (Array.getElem?_eq_some_iff.1 HR2.out).1).trans HR2.out)
  have hpw : w.heap.size < W2.heap.size := (Array.getElem?_eq_some_iff.1 HR2.out).1
  obtain ⟨pb, hpb⟩ : ∃ pb, W2.heap.size = pb := ⟨_, rfl⟩
  rw [hpb] at hrowP hpw ⊢
  clear hpb hbP e3 HR2 hB2 HA HR
  generalize W2.alloc (.cells #[.bool false, .bool true, .slice (some ⟨b, off + 12, none⟩) pl pl] 84) = W3 at *
  go_upto_region 15 with (fail)
  have hM : (W3.alloc (.cells Try.zeroCells199 199)).heap[W3.heap.size]? = some (.cells (cellsOf (List.replicate 256 0)).toArray 199 (0, 0)) := (heap_alloc_new W3 (.cells Try.zeroCells199 199)).trans (by rw [zero199])
  have hb4 := (Below.refl W3.heap.size W3).alloc (Nat.le_refl _) (.cells Try.zeroCells199 199)
  have hpl3 : pb < W3.heap.size := (Array.getElem?_eq_some_iff.1 hrowP).1
  have hrow4 := (hb4.block pb hpl3).trans hrowP
  have hR4 := (hb4.block _ (Array.getElem?_eq_some_iff.1 HR3.out).1).trans HR3.out
  have hB4 := hB3.trans (hb4.mono hB3.size)
  have hsz3 := hB3.size
  obtain ⟨sb, hsb⟩ : ∃ sb, W3.heap.size = sb := ⟨_, rfl⟩
  rw [hsb] at hM hpl3 hsz3 ⊢
  clear hsb hb4 hB3 HR3 hrowP
  generalize W3.alloc (.cells Try.zeroCells199 199) = W4 at *
  have p0 : W4.cell? ⟨pb, 0, none⟩ = some (.bool false) := (cell_of_row _ _ 0 _ _ _ hrow4).trans rfl
  have p1 : W4.cell? ⟨pb, 1, none⟩ = some (.bool true) := (cell_of_row _ _ 1 _ _ _ hrow4).trans rfl
  have p2 : W4.cell? ⟨pb, 2, none⟩ = some (.slice (some ⟨b, off + 12, none⟩) pl pl) := (cell_of_row _ _ 2 _ _ _ hrow4).trans rfl
  have HH4 := Lib.hid (And.intro hM (And.intro hrow4 (And.intro hR4 hB4)))
  have HLT := Lib.hid (And.intro hpw (And.intro hpl3 hsz3))
  clear hM hrow4 hR4 hB4 hpw hpl3 hsz3
  go_still_tail 4, (by kernel_rfl)
  change wpList _ _ _ _ _ (World.drew _)
  have hD := drew_below W4
  have CW := Lib.hid (show Calls Try.prog 26 #[pcV false true (.slice (some ⟨b, off + 12, none⟩) pl pl), .slice (some ⟨sb, 0, none⟩) 256 256, .int .u32 seg, .int .i64 i] W4.drew fun r w' => r = .returned (.tuple #[]) ∧ Mem w' sb 199 ([] ++ (Fr.sec (kd false true) seg i PC ++ [])) ∧ Only [sb] W4.drew w' from by
    have hBY := HBY.out.1.below (HH4.out.2.2.2.trans (hD.mono HH4.out.2.2.2.size))
    have h := write_any false true (some ⟨b, off + 12, none⟩) PC pl sb 199 0 seg i [] [] rfl (by decide) (by rw [HPL.out]; omega) hs (by omega) W4.drew (by rw [List.nil_append, List.append_nil]; exact HH4.out.1) (HPB.out _ hBY) (.inl fun x hx => by injection hx with hx; subst hx; have := HBY.out.2.2.2; have := HLT.out; show b ≠ sb; omega)
    rw [HPL.out] at h
    exact h)
  have HD4 := Lib.hid hD
  unfold pcV at CW
  clear p0 p1 p2 hD
  go_wp2_with fail
  go_at_call 26
  refine CW.out.mono ?_
  rintro e w5 ⟨rfl, hm5, ho5⟩
  simp only [List.nil_append, List.append_nil] at hm5
  have ho5' := (Only.of_below HD4.out [sb]).trans ho5 (fun x hx => .inl hx)
  have hrow5 := (ho5'.block pb (Array.getElem?_eq_some_iff.1 HH4.out.2.1).1 (by have := HLT.out; simp; omega)).trans HH4.out.2.1
  have hR5 := (ho5'.block _ (Array.getElem?_eq_some_iff.1 HH4.out.2.2.1).1 (by have := HLT.out; simp; omega)).trans HH4.out.2.2.1
  have hB5 := HH4.out.2.2.2.trans (ho5'.below HH4.out.2.2.2.size (by have := HLT.out; simp; omega))
  have HH5 := Lib.hid (And.intro hm5 (And.intro hrow5 (And.intro hR5 hB5)))
  have r0 : w5.cell? ⟨pb, 0, none⟩ = some (.bool false) := (cell_of_row _ _ 0 _ _ _ hrow5).trans rfl
  have r1 : w5.cell? ⟨pb, 1, none⟩ = some (.bool true) := (cell_of_row _ _ 1 _ _ _ hrow5).trans rfl
  have r2 : w5.cell? ⟨pb, 2, none⟩ = some (.slice (some ⟨b, off + 12, none⟩) pl pl) := (cell_of_row _ _ 2 _ _ _ hrow5).trans rfl
  clear hm5 ho5 ho5' hrow5 hR5 hB5 HH4 CW HD4
  have CZ := Lib.hid (size_any false true (some ⟨b, off + 12, none⟩) pl pl (by omega) w5)
  obtain ⟨Z, hZ⟩ : ∃ Z, sz false true pl = Z := ⟨_, rfl⟩
  rw [hZ] at CZ HRS
  unfold pcV at CZ
  clear hZ
  cases Z
  · go_wp2_with fail
    go_at_call 72
    refine CZ.out.mono ?_
    rintro e w6 ⟨rfl, hb6⟩
    have hR6 := (hb6.block _ (Array.getElem?_eq_some_iff.1 HH5.out.2.2.1).1).trans HH5.out.2.2.1
    have hB6 := HH5.out.2.2.2.trans (hb6.mono HH5.out.2.2.2.size)
    have hn := setRow_heap w6 w.heap.size #[.bool false, .bool false, .slice none 0 0] #[.bool false, .bool false, .slice none 0 0] 84 (0, 0) hR6
    have HB9 := Lib.hid (below_setRow hB6 (Nat.le_refl _) #[.bool false, .bool false, .slice none 0 0])
    clear hb6 hB6 r0 r1 r2
    go_wp2_with (refine wpList_store_row rfl 84 (.tmp 6) (.tmp 64) rfl w.heap.size #[.bool false, .bool false, .slice none 0 0] rfl rfl 84 #[.bool false, .bool false, .slice none 0 0] hR6 (by kernel_rfl) (by kernel_rfl) (by kernel_rfl) ?_)
    refine bodyPost_ret (v := .tuple #[.agg #[.bool false, .bool false, .slice none 0 0], .bool false]) ?_ ?_ ?_
    · exact results_cell_tmp (p := 6) (q := 7) rfl _ _ w.heap.size 84 _ (0, 0) _ rfl hn Try.underlying84 rfl (by kernel_rfl)
    · rfl
    · rw [HRS.out, if_neg (by simp)]
      exact ⟨HB9.out, rfl⟩
  · have hsl : (Fr.sec (kd false true) seg i PC).length = 256 := Fr.sec_len _ _ _ _ (by rw [HPL.out]; omega)
    have hs8 : ∀ c ∈ Fr.sec (kd false true) seg i PC, c < 256 := Fr.sec_lt _ _ _ _ (by decide) (by
      have := (HPB.out _ HBY.out.1).2.1
      exact this)
    have CE := Lib.hid (fun W (h1 : Bys W (some ⟨b, off, none⟩) bs) (h2 : Bys W (some ⟨sb, 0, none⟩) (Fr.sec (kd false true) seg i PC)) => equal_any (some ⟨b, off, none⟩) (some ⟨sb, 0, none⟩) bs (Fr.sec (kd false true) seg i PC) 256 256 cap 256 HBY.out.2.1 hsl (by intro h; have := HBY.out.2.1; rw [h] at this; simp at this) (by intro h; rw [h] at hsl; simp at hsl) W h1 h2)
    have HSB := Lib.hid (fun W (h : Mem W sb 199 (Fr.sec (kd false true) seg i PC)) => h.bys 0 _ (fun j hj => by rw [Nat.zero_add, List.getElem?_eq_getElem hj]) hs8 (by rw [hsl]; decide))
    obtain ⟨X, hX⟩ : ∃ X, decide (bs = Fr.sec (kd false true) seg i PC) = X := ⟨_, rfl⟩
    rw [hX] at CE
    have HX9 := Lib.hid hX
    clear hX hsl hs8
    go_wp2_with fail
    go_at_call 72
    refine CZ.out.mono ?_
    rintro e w6 ⟨rfl, hb6⟩
    have hR6 := (hb6.block _ (Array.getElem?_eq_some_iff.1 HH5.out.2.2.1).1).trans HH5.out.2.2.1
    have hB6 := HH5.out.2.2.2.trans (hb6.mono HH5.out.2.2.2.size)
    have hrow6 := (hb6.block _ (Array.getElem?_eq_some_iff.1 HH5.out.2.1).1).trans HH5.out.2.1
    have hm6 := HH5.out.1.below hb6
    have CE6 := Lib.hid (CE.out w6 (HBY.out.1.below hB6) (HSB.out w6 hm6))
    have HH6 := Lib.hid (And.intro hrow6 (And.intro hR6 hB6))
    clear hb6 hB6 hrow6 hm6 hR6 r0 r1 r2 CE HSB CZ HH5
    go_wp2_with fail
    go_at_call 73
    refine CE6.out.mono ?_
    rintro e w7 ⟨rfl, hw7⟩
    obtain rfl : w6 = w7 := hw7.symm
    clear CE6
    have hrow6 := HH6.out.1
    have hR6 := HH6.out.2.1
    have s0 : w6.cell? ⟨pb, 0, none⟩ = some (.bool false) := (cell_of_row _ _ 0 _ _ _ hrow6).trans rfl
    have s1 : w6.cell? ⟨pb, 1, none⟩ = some (.bool true) := (cell_of_row _ _ 1 _ _ _ hrow6).trans rfl
    have s2 : w6.cell? ⟨pb, 2, none⟩ = some (.slice (some ⟨b, off + 12, none⟩) pl pl) := (cell_of_row _ _ 2 _ _ _ hrow6).trans rfl
    cases X
    · have hn := setRow_heap w6 w.heap.size #[.bool false, .bool false, .slice none 0 0] #[.bool false, .bool false, .slice none 0 0] 84 (0, 0) hR6
      have HB9 := Lib.hid (below_setRow HH6.out.2.2 (Nat.le_refl _) #[.bool false, .bool false, .slice none 0 0])
      clear s0 s1 s2 hrow6
      go_wp2_with (refine wpList_store_row rfl 84 (.tmp 6) (.tmp 64) rfl w.heap.size #[.bool false, .bool false, .slice none 0 0] rfl rfl 84 #[.bool false, .bool false, .slice none 0 0] hR6 (by kernel_rfl) (by kernel_rfl) (by kernel_rfl) ?_)
      refine bodyPost_ret (v := .tuple #[.agg #[.bool false, .bool false, .slice none 0 0], .bool false]) ?_ ?_ ?_
      · exact results_cell_tmp (p := 6) (q := 7) rfl _ _ w.heap.size 84 _ (0, 0) _ rfl hn Try.underlying84 rfl (by kernel_rfl)
      · rfl
      · rw [HRS.out, if_neg (fun h => absurd (decide_eq_true h.2) (by rw [HX9.out]; decide))]
        exact ⟨HB9.out, rfl⟩
    · have hn := setRow_heap w6 w.heap.size #[.bool false, .bool false, .slice none 0 0] #[.bool false, .bool true, .slice (some ⟨b, off + 12, none⟩) pl pl] 84 (0, 0) hR6
      have HB9 := Lib.hid (below_setRow HH6.out.2.2 (Nat.le_refl _) #[.bool false, .bool true, .slice (some ⟨b, off + 12, none⟩) pl pl])
      clear hrow6
      have hsz9 : (#[Value.bool false, .bool false, .slice none 0 0] : Array Value).size = (#[Value.bool false, .bool true, .slice (some ⟨b, off + 12, none⟩) pl pl] : Array Value).size := rfl
      have ho9 : (#[Value.bool false, .bool true, .slice (some ⟨b, off + 12, none⟩) pl pl] : Array Value).all (·.oneCell') = true := by simp [Value.oneCell']
      have HS9 := Lib.hid (And.intro hsz9 ho9)
      clear hsz9 ho9
      go_wp2_with (refine wpList_store_row rfl 84 (.tmp 6) (.tmp 65) rfl w.heap.size #[.bool false, .bool true, .slice (some ⟨b, off + 12, none⟩) pl pl] rfl rfl 84 #[.bool false, .bool false, .slice none 0 0] hR6 (by kernel_rfl) HS9.out.1 HS9.out.2 ?_)
      refine bodyPost_ret (v := .tuple #[.agg #[.bool false, .bool true, .slice (some ⟨b, off + 12, none⟩) pl pl], .bool true]) ?_ ?_ ?_
      · exact results_cell_tmp (p := 6) (q := 7) rfl _ _ w.heap.size 84 _ (0, 0) _ rfl hn Try.underlying84 rfl (by kernel_rfl)
      · rfl
      · rw [HRS.out, if_pos ⟨by simp, of_decide_eq_true HX9.out⟩]
        refine ⟨HB9.out, some ⟨b, off + 12, none⟩, pl, ?_, by rw [HPL.out]; exact Nat.le_refl _, ⟨_, rfl⟩, fun W h => HPB.out W h, fun x hx => ⟨_, rfl, by injection hx with hx; subst hx; rfl⟩⟩
        rw [HKK.out.1, HKK.out.2, HPL.out]
set_option maxHeartbeats 8000000 in
set_option maxRecDepth 100000 in
theorem read_c0 (b off cap seg i : Nat) (bs : List Nat) (hn : bs.length = 256) (hcap : 256 ≤ cap) (hi : i ≤ 65535) (hs : seg < 4294967296) (x2 x10 x11 pl : Nat) (h2 : bs[2]? = some x2) (h10 : bs[10]? = some x10) (h11 : bs[11]? = some x11) (hpl : x10 + 256 * x11 = pl) (hsmall : pl ≤ 240) (w : World) (H : Bys w (some ⟨b, off, none⟩) bs) (hx : x2 = 4) (h0 : pl = 0) :
    Calls Try.prog 69 #[.slice (some ⟨b, off, none⟩) 256 cap, .int .u32 seg, .int .i64 i] w (ReadPost (some ⟨b, off, none⟩) bs (Fr.readS seg i bs) w) := by
  have hRS := readS_eq (seg := seg) hn hi h2 h10 h11 hpl hsmall
  have hkk : Fr.kinds x2 = kd false true := by unfold Fr.kinds kd; subst hx; rfl
  rw [hkk] at hRS
  have hsz : Fr.sizeOk (kd false true) pl = sz false true pl := by simp [Fr.sizeOk, kd, sz]
  rw [hsz] at hRS
  have hkb : kb (kd false true) = false := by decide
  have hke : ke (kd false true) = true := by decide
  have HKK := Lib.hid (And.intro hkb hke)
  have HPB := Lib.hid (fun W h => piece_bys (b := b) (off := off) (pl := pl) hn hsmall W h)
  obtain ⟨PC, hPC⟩ : ∃ PC, (bs.drop 12).take pl = PC := ⟨_, rfl⟩
  have hpcl : PC.length = pl := by rw [← hPC, List.length_take, List.length_drop]; omega
  rw [hPC] at hRS HPB
  have HRS := Lib.hid hRS
  have HPL := Lib.hid hpcl
  have HA := Lib.hid ((Below.refl w.heap.size w).alloc (Nat.le_refl _) (.cells #[.bool false, .bool false, .slice none 0 0] 84))
  have hr := heap_alloc_new w (.cells #[.bool false, .bool false, .slice none 0 0] 84)
  obtain ⟨c10, l10⟩ := H.cell 10 x10 h10
  obtain ⟨c11, l11⟩ := H.cell 11 x11 h11
  obtain ⟨c2, l2⟩ := H.cell 2 x2 h2
  have d10 := cell_below c10 HA.out
  have d11 := cell_below c11 HA.out
  have d2 := cell_below c2 HA.out
  have d1 : decide ((65535 : Int) < (i : Int)) = false := by simp; omega
  have HR := Lib.hid hr
  have hbw : b < w.heap.size := World.block_lt_of_cell? _ _ c2
  have HBY := Lib.hid (And.intro H (And.intro hn (And.intro hcap hbw)))
  clear hRS hkk hsz hkb hke hPC hpcl
  obtain rfl : x10 = 0 := by omega
  obtain rfl : x11 = 0 := by omega
  obtain rfl : pl = 0 := by omega
  clear c10 c11 c2 hr H h10 h11 h2 hn hbw 
  go_enter Try.func69, Try.ntmps69
  go_upto_region 1 with (fail)
  generalize w.alloc (.cells #[.bool false, .bool false, .slice none 0 0] 84) = W1 at *
  go_wp2_with fail
  go_quiet (fail)
  have hB2 := HA.out.trans ((drewN_below W1 nq).mono HA.out.size)
  have HR2 : Hid ((W1.drewN nq).heap[w.heap.size]? = some (.cells #[.bool false, .bool false, .slice none 0 0] 84 (0, 0))) := HR
  have e2 : (W1.drewN nq).cell? ⟨b, off + 2, none⟩ = some (.int .u8 ((x2 : Nat) : Int)) := d2
  generalize W1.drewN nq = W2 at *
  clear d10 d11 d2
  subst hx
  have e3 := fun o => cell_below e2 ((Below.refl W2.heap.size W2).alloc (Nat.le_refl _) o)
  clear e2
  go_upto_region 14 with (fail)
  have hrowP := heap_alloc_new W2 (.cells #[.bool false, .bool true, .slice (some ⟨b, off, none⟩) 0 0] 84)
  have hbP := (Below.refl W2.heap.size W2).alloc (Nat.le_refl _) (.cells #[.bool false, .bool true, .slice (some ⟨b, off, none⟩) 0 0] 84)
  have hB3 := hB2.trans (hbP.mono hB2.size)
  have HR3 := Lib.hid ((hbP.block _ (Array.getElem?_eq_some_iff.1 HR2.out).1).trans HR2.out)
  have hpw : w.heap.size < W2.heap.size := (Array.getElem?_eq_some_iff.1 HR2.out).1
  obtain ⟨pb, hpb⟩ : ∃ pb, W2.heap.size = pb := ⟨_, rfl⟩
  rw [hpb] at hrowP hpw ⊢
  clear hpb hbP e3 HR2 hB2 HA HR
  generalize W2.alloc (.cells #[.bool false, .bool true, .slice (some ⟨b, off, none⟩) 0 0] 84) = W3 at *
  go_upto_region 15 with (fail)
  have hM : (W3.alloc (.cells Try.zeroCells199 199)).heap[W3.heap.size]? = some (.cells (cellsOf (List.replicate 256 0)).toArray 199 (0, 0)) := (heap_alloc_new W3 (.cells Try.zeroCells199 199)).trans (by rw [zero199])
  have hb4 := (Below.refl W3.heap.size W3).alloc (Nat.le_refl _) (.cells Try.zeroCells199 199)
  have hpl3 : pb < W3.heap.size := (Array.getElem?_eq_some_iff.1 hrowP).1
  have hrow4 := (hb4.block pb hpl3).trans hrowP
  have hR4 := (hb4.block _ (Array.getElem?_eq_some_iff.1 HR3.out).1).trans HR3.out
  have hB4 := hB3.trans (hb4.mono hB3.size)
  have hsz3 := hB3.size
  obtain ⟨sb, hsb⟩ : ∃ sb, W3.heap.size = sb := ⟨_, rfl⟩
  rw [hsb] at hM hpl3 hsz3 ⊢
  clear hsb hb4 hB3 HR3 hrowP
  generalize W3.alloc (.cells Try.zeroCells199 199) = W4 at *
  have p0 : W4.cell? ⟨pb, 0, none⟩ = some (.bool false) := (cell_of_row _ _ 0 _ _ _ hrow4).trans rfl
  have p1 : W4.cell? ⟨pb, 1, none⟩ = some (.bool true) := (cell_of_row _ _ 1 _ _ _ hrow4).trans rfl
  have p2 : W4.cell? ⟨pb, 2, none⟩ = some (.slice (some ⟨b, off, none⟩) 0 0) := (cell_of_row _ _ 2 _ _ _ hrow4).trans rfl
  have HH4 := Lib.hid (And.intro hM (And.intro hrow4 (And.intro hR4 hB4)))
  have HLT := Lib.hid (And.intro hpw (And.intro hpl3 hsz3))
  clear hM hrow4 hR4 hB4 hpw hpl3 hsz3
  go_still_tail 4, (by kernel_rfl)
  change wpList _ _ _ _ _ (World.drew _)
  have hD := drew_below W4
  have CW := Lib.hid (show Calls Try.prog 26 #[pcV false true (.slice (some ⟨b, off, none⟩) 0 0), .slice (some ⟨sb, 0, none⟩) 256 256, .int .u32 seg, .int .i64 i] W4.drew fun r w' => r = .returned (.tuple #[]) ∧ Mem w' sb 199 ([] ++ (Fr.sec (kd false true) seg i PC ++ [])) ∧ Only [sb] W4.drew w' from by
    have hBY := HBY.out.1.below (HH4.out.2.2.2.trans (hD.mono HH4.out.2.2.2.size))
    have h := write_any false true (some ⟨b, off, none⟩) PC 0 sb 199 0 seg i [] [] rfl (by decide) (by rw [HPL.out]; omega) hs (by omega) W4.drew (by rw [List.nil_append, List.append_nil]; exact HH4.out.1) (by rw [show PC = [] from List.eq_nil_of_length_eq_zero HPL.out]; exact nil_bytes _ _) (.inl fun x hx => by injection hx with hx; subst hx; have := HBY.out.2.2.2; have := HLT.out; show b ≠ sb; omega)
    rw [HPL.out] at h
    exact h)
  have HD4 := Lib.hid hD
  unfold pcV at CW
  clear p0 p1 p2 hD
  go_wp2_with fail
  go_at_call 26
  refine CW.out.mono ?_
  rintro e w5 ⟨rfl, hm5, ho5⟩
  simp only [List.nil_append, List.append_nil] at hm5
  have ho5' := (Only.of_below HD4.out [sb]).trans ho5 (fun x hx => .inl hx)
  have hrow5 := (ho5'.block pb (Array.getElem?_eq_some_iff.1 HH4.out.2.1).1 (by have := HLT.out; simp; omega)).trans HH4.out.2.1
  have hR5 := (ho5'.block _ (Array.getElem?_eq_some_iff.1 HH4.out.2.2.1).1 (by have := HLT.out; simp; omega)).trans HH4.out.2.2.1
  have hB5 := HH4.out.2.2.2.trans (ho5'.below HH4.out.2.2.2.size (by have := HLT.out; simp; omega))
  have HH5 := Lib.hid (And.intro hm5 (And.intro hrow5 (And.intro hR5 hB5)))
  have r0 : w5.cell? ⟨pb, 0, none⟩ = some (.bool false) := (cell_of_row _ _ 0 _ _ _ hrow5).trans rfl
  have r1 : w5.cell? ⟨pb, 1, none⟩ = some (.bool true) := (cell_of_row _ _ 1 _ _ _ hrow5).trans rfl
  have r2 : w5.cell? ⟨pb, 2, none⟩ = some (.slice (some ⟨b, off, none⟩) 0 0) := (cell_of_row _ _ 2 _ _ _ hrow5).trans rfl
  clear hm5 ho5 ho5' hrow5 hR5 hB5 HH4 CW HD4
  have CZ := Lib.hid (size_any false true (some ⟨b, off, none⟩) 0 0 (by omega) w5)
  obtain ⟨Z, hZ⟩ : ∃ Z, sz false true 0 = Z := ⟨_, rfl⟩
  rw [hZ] at CZ HRS
  unfold pcV at CZ
  clear hZ
  cases Z
  · go_wp2_with fail
    go_at_call 72
    refine CZ.out.mono ?_
    rintro e w6 ⟨rfl, hb6⟩
    have hR6 := (hb6.block _ (Array.getElem?_eq_some_iff.1 HH5.out.2.2.1).1).trans HH5.out.2.2.1
    have hB6 := HH5.out.2.2.2.trans (hb6.mono HH5.out.2.2.2.size)
    have hn := setRow_heap w6 w.heap.size #[.bool false, .bool false, .slice none 0 0] #[.bool false, .bool false, .slice none 0 0] 84 (0, 0) hR6
    have HB9 := Lib.hid (below_setRow hB6 (Nat.le_refl _) #[.bool false, .bool false, .slice none 0 0])
    clear hb6 hB6 r0 r1 r2
    go_wp2_with (refine wpList_store_row rfl 84 (.tmp 6) (.tmp 64) rfl w.heap.size #[.bool false, .bool false, .slice none 0 0] rfl rfl 84 #[.bool false, .bool false, .slice none 0 0] hR6 (by kernel_rfl) (by kernel_rfl) (by kernel_rfl) ?_)
    refine bodyPost_ret (v := .tuple #[.agg #[.bool false, .bool false, .slice none 0 0], .bool false]) ?_ ?_ ?_
    · exact results_cell_tmp (p := 6) (q := 7) rfl _ _ w.heap.size 84 _ (0, 0) _ rfl hn Try.underlying84 rfl (by kernel_rfl)
    · rfl
    · rw [HRS.out, if_neg (by simp)]
      exact ⟨HB9.out, rfl⟩
  · have hsl : (Fr.sec (kd false true) seg i PC).length = 256 := Fr.sec_len _ _ _ _ (by rw [HPL.out]; omega)
    have hs8 : ∀ c ∈ Fr.sec (kd false true) seg i PC, c < 256 := Fr.sec_lt _ _ _ _ (by decide) (by
      have := (HPB.out _ HBY.out.1).2.1
      exact this)
    have CE := Lib.hid (fun W (h1 : Bys W (some ⟨b, off, none⟩) bs) (h2 : Bys W (some ⟨sb, 0, none⟩) (Fr.sec (kd false true) seg i PC)) => equal_any (some ⟨b, off, none⟩) (some ⟨sb, 0, none⟩) bs (Fr.sec (kd false true) seg i PC) 256 256 cap 256 HBY.out.2.1 hsl (by intro h; have := HBY.out.2.1; rw [h] at this; simp at this) (by intro h; rw [h] at hsl; simp at hsl) W h1 h2)
    have HSB := Lib.hid (fun W (h : Mem W sb 199 (Fr.sec (kd false true) seg i PC)) => h.bys 0 _ (fun j hj => by rw [Nat.zero_add, List.getElem?_eq_getElem hj]) hs8 (by rw [hsl]; decide))
    obtain ⟨X, hX⟩ : ∃ X, decide (bs = Fr.sec (kd false true) seg i PC) = X := ⟨_, rfl⟩
    rw [hX] at CE
    have HX9 := Lib.hid hX
    clear hX hsl hs8
    go_wp2_with fail
    go_at_call 72
    refine CZ.out.mono ?_
    rintro e w6 ⟨rfl, hb6⟩
    have hR6 := (hb6.block _ (Array.getElem?_eq_some_iff.1 HH5.out.2.2.1).1).trans HH5.out.2.2.1
    have hB6 := HH5.out.2.2.2.trans (hb6.mono HH5.out.2.2.2.size)
    have hrow6 := (hb6.block _ (Array.getElem?_eq_some_iff.1 HH5.out.2.1).1).trans HH5.out.2.1
    have hm6 := HH5.out.1.below hb6
    have CE6 := Lib.hid (CE.out w6 (HBY.out.1.below hB6) (HSB.out w6 hm6))
    have HH6 := Lib.hid (And.intro hrow6 (And.intro hR6 hB6))
    clear hb6 hB6 hrow6 hm6 hR6 r0 r1 r2 CE HSB CZ HH5
    go_wp2_with fail
    go_at_call 73
    refine CE6.out.mono ?_
    rintro e w7 ⟨rfl, hw7⟩
    obtain rfl : w6 = w7 := hw7.symm
    clear CE6
    have hrow6 := HH6.out.1
    have hR6 := HH6.out.2.1
    have s0 : w6.cell? ⟨pb, 0, none⟩ = some (.bool false) := (cell_of_row _ _ 0 _ _ _ hrow6).trans rfl
    have s1 : w6.cell? ⟨pb, 1, none⟩ = some (.bool true) := (cell_of_row _ _ 1 _ _ _ hrow6).trans rfl
    have s2 : w6.cell? ⟨pb, 2, none⟩ = some (.slice (some ⟨b, off, none⟩) 0 0) := (cell_of_row _ _ 2 _ _ _ hrow6).trans rfl
    cases X
    · have hn := setRow_heap w6 w.heap.size #[.bool false, .bool false, .slice none 0 0] #[.bool false, .bool false, .slice none 0 0] 84 (0, 0) hR6
      have HB9 := Lib.hid (below_setRow HH6.out.2.2 (Nat.le_refl _) #[.bool false, .bool false, .slice none 0 0])
      clear s0 s1 s2 hrow6
      go_wp2_with (refine wpList_store_row rfl 84 (.tmp 6) (.tmp 64) rfl w.heap.size #[.bool false, .bool false, .slice none 0 0] rfl rfl 84 #[.bool false, .bool false, .slice none 0 0] hR6 (by kernel_rfl) (by kernel_rfl) (by kernel_rfl) ?_)
      refine bodyPost_ret (v := .tuple #[.agg #[.bool false, .bool false, .slice none 0 0], .bool false]) ?_ ?_ ?_
      · exact results_cell_tmp (p := 6) (q := 7) rfl _ _ w.heap.size 84 _ (0, 0) _ rfl hn Try.underlying84 rfl (by kernel_rfl)
      · rfl
      · rw [HRS.out, if_neg (fun h => absurd (decide_eq_true h.2) (by rw [HX9.out]; decide))]
        exact ⟨HB9.out, rfl⟩
    · have hn := setRow_heap w6 w.heap.size #[.bool false, .bool false, .slice none 0 0] #[.bool false, .bool true, .slice (some ⟨b, off, none⟩) 0 0] 84 (0, 0) hR6
      have HB9 := Lib.hid (below_setRow HH6.out.2.2 (Nat.le_refl _) #[.bool false, .bool true, .slice (some ⟨b, off, none⟩) 0 0])
      clear hrow6
      have hsz9 : (#[Value.bool false, .bool false, .slice none 0 0] : Array Value).size = (#[Value.bool false, .bool true, .slice (some ⟨b, off, none⟩) 0 0] : Array Value).size := rfl
      have ho9 : (#[Value.bool false, .bool true, .slice (some ⟨b, off, none⟩) 0 0] : Array Value).all (·.oneCell') = true := by simp [Value.oneCell']
      have HS9 := Lib.hid (And.intro hsz9 ho9)
      clear hsz9 ho9
      go_wp2_with (refine wpList_store_row rfl 84 (.tmp 6) (.tmp 65) rfl w.heap.size #[.bool false, .bool true, .slice (some ⟨b, off, none⟩) 0 0] rfl rfl 84 #[.bool false, .bool false, .slice none 0 0] hR6 (by kernel_rfl) HS9.out.1 HS9.out.2 ?_)
      refine bodyPost_ret (v := .tuple #[.agg #[.bool false, .bool true, .slice (some ⟨b, off, none⟩) 0 0], .bool true]) ?_ ?_ ?_
      · exact results_cell_tmp (p := 6) (q := 7) rfl _ _ w.heap.size 84 _ (0, 0) _ rfl hn Try.underlying84 rfl (by kernel_rfl)
      · rfl
      · rw [HRS.out, if_pos ⟨by simp, of_decide_eq_true HX9.out⟩]
        refine ⟨HB9.out, some ⟨b, off, none⟩, 0, ?_, by rw [HPL.out]; exact Nat.le_refl _, ⟨_, rfl⟩, fun W h => by rw [show PC = [] from List.eq_nil_of_length_eq_zero HPL.out]; exact nil_bytes _ _, fun x hx => ⟨_, rfl, by injection hx with hx; subst hx; rfl⟩⟩
        rw [HKK.out.1, HKK.out.2, HPL.out]
set_option maxHeartbeats 8000000 in
set_option maxRecDepth 100000 in
theorem read_d1 (b off cap seg i : Nat) (bs : List Nat) (hn : bs.length = 256) (hcap : 256 ≤ cap) (hi : i ≤ 65535) (hs : seg < 4294967296) (x2 x10 x11 pl : Nat) (h2 : bs[2]? = some x2) (h10 : bs[10]? = some x10) (h11 : bs[11]? = some x11) (hpl : x10 + 256 * x11 = pl) (hsmall : pl ≤ 240) (w : World) (H : Bys w (some ⟨b, off, none⟩) bs) (hx : x2 = 2) (h0 : 0 < pl) :
    Calls Try.prog 69 #[.slice (some ⟨b, off, none⟩) 256 cap, .int .u32 seg, .int .i64 i] w (ReadPost (some ⟨b, off, none⟩) bs (Fr.readS seg i bs) w) := by
  have hRS := readS_eq (seg := seg) hn hi h2 h10 h11 hpl hsmall
  have hkk : Fr.kinds x2 = kd true false := by unfold Fr.kinds kd; subst hx; rfl
  rw [hkk] at hRS
  have hsz : Fr.sizeOk (kd true false) pl = sz true false pl := by simp [Fr.sizeOk, kd, sz]
  rw [hsz] at hRS
  have hkb : kb (kd true false) = true := by decide
  have hke : ke (kd true false) = false := by decide
  have HKK := Lib.hid (And.intro hkb hke)
  have HPB := Lib.hid (fun W h => piece_bys (b := b) (off := off) (pl := pl) hn hsmall W h)
  obtain ⟨PC, hPC⟩ : ∃ PC, (bs.drop 12).take pl = PC := ⟨_, rfl⟩
  have hpcl : PC.length = pl := by rw [← hPC, List.length_take, List.length_drop]; omega
  rw [hPC] at hRS HPB
  have HRS := Lib.hid hRS
  have HPL := Lib.hid hpcl
  have HA := Lib.hid ((Below.refl w.heap.size w).alloc (Nat.le_refl _) (.cells #[.bool false, .bool false, .slice none 0 0] 84))
  have hr := heap_alloc_new w (.cells #[.bool false, .bool false, .slice none 0 0] 84)
  obtain ⟨c10, l10⟩ := H.cell 10 x10 h10
  obtain ⟨c11, l11⟩ := H.cell 11 x11 h11
  obtain ⟨c2, l2⟩ := H.cell 2 x2 h2
  have d10 := cell_below c10 HA.out
  have d11 := cell_below c11 HA.out
  have d2 := cell_below c2 HA.out
  have d1 : decide ((65535 : Int) < (i : Int)) = false := by simp; omega
  have HR := Lib.hid hr
  have hbw : b < w.heap.size := World.block_lt_of_cell? _ _ c2
  have HBY := Lib.hid (And.intro H (And.intro hn (And.intro hcap hbw)))
  clear hRS hkk hsz hkb hke hPC hpcl
  have hsum : (12 : Int) + (x10 : Int) + (x11 : Int) * 256 = ((12 + pl : Nat) : Int) := by omega
  obtain ⟨en, hen⟩ : ∃ en, 12 + pl = en := ⟨_, rfl⟩
  rw [hen] at hsum
  have hen1 : en ≤ 252 := by omega
  have hen2 : ¬ en = 12 := by omega
  have hen3 : 12 ≤ en := by omega
  have hen4 : en - 12 = pl := by omega
  have hdd : decide ((252 : Int) < (en : Int)) = false := by simp; omega
  clear c10 c11 c2 hr H h10 h11 h2 hn hbw hpl hen
  go_enter Try.func69, Try.ntmps69
  go_upto_region 1 with (fail)
  generalize w.alloc (.cells #[.bool false, .bool false, .slice none 0 0] 84) = W1 at *
  go_wp2_with fail
  go_quiet (fail)
  have hB2 := HA.out.trans ((drewN_below W1 nq).mono HA.out.size)
  have HR2 : Hid ((W1.drewN nq).heap[w.heap.size]? = some (.cells #[.bool false, .bool false, .slice none 0 0] 84 (0, 0))) := HR
  have e2 : (W1.drewN nq).cell? ⟨b, off + 2, none⟩ = some (.int .u8 ((x2 : Nat) : Int)) := d2
  generalize W1.drewN nq = W2 at *
  clear d10 d11 d2
  subst hx
  have e3 := fun o => cell_below e2 ((Below.refl W2.heap.size W2).alloc (Nat.le_refl _) o)
  clear e2
  go_upto_region 14 with (fail)
  have hrowP := heap_alloc_new W2 (.cells #[.bool true, .bool false, .slice (some ⟨b, off + 12, none⟩) pl pl] 84)
  have hbP := (Below.refl W2.heap.size W2).alloc (Nat.le_refl _) (.cells #[.bool true, .bool false, .slice (some ⟨b, off + 12, none⟩) pl pl] 84)
  have hB3 := hB2.trans (hbP.mono hB2.size)
  have HR3 := Lib.hid ((hbP.block _ (Array.getElem?_eq_some_iff.1 HR2.out).1).trans HR2.out)
  have hpw : w.heap.size < W2.heap.size := (Array.getElem?_eq_some_iff.1 HR2.out).1
  obtain ⟨pb, hpb⟩ : ∃ pb, W2.heap.size = pb := ⟨_, rfl⟩
  rw [hpb] at hrowP hpw ⊢
  clear hpb hbP e3 HR2 hB2 HA HR
  generalize W2.alloc (.cells #[.bool true, .bool false, .slice (some ⟨b, off + 12, none⟩) pl pl] 84) = W3 at *
  go_upto_region 15 with (fail)
  have hM : (W3.alloc (.cells Try.zeroCells199 199)).heap[W3.heap.size]? = some (.cells (cellsOf (List.replicate 256 0)).toArray 199 (0, 0)) := (heap_alloc_new W3 (.cells Try.zeroCells199 199)).trans (by rw [zero199])
  have hb4 := (Below.refl W3.heap.size W3).alloc (Nat.le_refl _) (.cells Try.zeroCells199 199)
  have hpl3 : pb < W3.heap.size := (Array.getElem?_eq_some_iff.1 hrowP).1
  have hrow4 := (hb4.block pb hpl3).trans hrowP
  have hR4 := (hb4.block _ (Array.getElem?_eq_some_iff.1 HR3.out).1).trans HR3.out
  have hB4 := hB3.trans (hb4.mono hB3.size)
  have hsz3 := hB3.size
  obtain ⟨sb, hsb⟩ : ∃ sb, W3.heap.size = sb := ⟨_, rfl⟩
  rw [hsb] at hM hpl3 hsz3 ⊢
  clear hsb hb4 hB3 HR3 hrowP
  generalize W3.alloc (.cells Try.zeroCells199 199) = W4 at *
  have p0 : W4.cell? ⟨pb, 0, none⟩ = some (.bool true) := (cell_of_row _ _ 0 _ _ _ hrow4).trans rfl
  have p1 : W4.cell? ⟨pb, 1, none⟩ = some (.bool false) := (cell_of_row _ _ 1 _ _ _ hrow4).trans rfl
  have p2 : W4.cell? ⟨pb, 2, none⟩ = some (.slice (some ⟨b, off + 12, none⟩) pl pl) := (cell_of_row _ _ 2 _ _ _ hrow4).trans rfl
  have HH4 := Lib.hid (And.intro hM (And.intro hrow4 (And.intro hR4 hB4)))
  have HLT := Lib.hid (And.intro hpw (And.intro hpl3 hsz3))
  clear hM hrow4 hR4 hB4 hpw hpl3 hsz3
  go_still_tail 4, (by kernel_rfl)
  change wpList _ _ _ _ _ (World.drew _)
  have hD := drew_below W4
  have CW := Lib.hid (show Calls Try.prog 26 #[pcV true false (.slice (some ⟨b, off + 12, none⟩) pl pl), .slice (some ⟨sb, 0, none⟩) 256 256, .int .u32 seg, .int .i64 i] W4.drew fun r w' => r = .returned (.tuple #[]) ∧ Mem w' sb 199 ([] ++ (Fr.sec (kd true false) seg i PC ++ [])) ∧ Only [sb] W4.drew w' from by
    have hBY := HBY.out.1.below (HH4.out.2.2.2.trans (hD.mono HH4.out.2.2.2.size))
    have h := write_any true false (some ⟨b, off + 12, none⟩) PC pl sb 199 0 seg i [] [] rfl (by decide) (by rw [HPL.out]; omega) hs (by omega) W4.drew (by rw [List.nil_append, List.append_nil]; exact HH4.out.1) (HPB.out _ hBY) (.inl fun x hx => by injection hx with hx; subst hx; have := HBY.out.2.2.2; have := HLT.out; show b ≠ sb; omega)
    rw [HPL.out] at h
    exact h)
  have HD4 := Lib.hid hD
  unfold pcV at CW
  clear p0 p1 p2 hD
  go_wp2_with fail
  go_at_call 26
  refine CW.out.mono ?_
  rintro e w5 ⟨rfl, hm5, ho5⟩
  simp only [List.nil_append, List.append_nil] at hm5
  have ho5' := (Only.of_below HD4.out [sb]).trans ho5 (fun x hx => .inl hx)
  have hrow5 := (ho5'.block pb (Array.getElem?_eq_some_iff.1 HH4.out.2.1).1 (by have := HLT.out; simp; omega)).trans HH4.out.2.1
  have hR5 := (ho5'.block _ (Array.getElem?_eq_some_iff.1 HH4.out.2.2.1).1 (by have := HLT.out; simp; omega)).trans HH4.out.2.2.1
  have hB5 := HH4.out.2.2.2.trans (ho5'.below HH4.out.2.2.2.size (by have := HLT.out; simp; omega))
  have HH5 := Lib.hid (And.intro hm5 (And.intro hrow5 (And.intro hR5 hB5)))
  have r0 : w5.cell? ⟨pb, 0, none⟩ = some (.bool true) := (cell_of_row _ _ 0 _ _ _ hrow5).trans rfl
  have r1 : w5.cell? ⟨pb, 1, none⟩ = some (.bool false) := (cell_of_row _ _ 1 _ _ _ hrow5).trans rfl
  have r2 : w5.cell? ⟨pb, 2, none⟩ = some (.slice (some ⟨b, off + 12, none⟩) pl pl) := (cell_of_row _ _ 2 _ _ _ hrow5).trans rfl
  clear hm5 ho5 ho5' hrow5 hR5 hB5 HH4 CW HD4
  have CZ := Lib.hid (size_any true false (some ⟨b, off + 12, none⟩) pl pl (by omega) w5)
  obtain ⟨Z, hZ⟩ : ∃ Z, sz true false pl = Z := ⟨_, rfl⟩
  rw [hZ] at CZ HRS
  unfold pcV at CZ
  clear hZ
  cases Z
  · go_wp2_with fail
    go_at_call 72
    refine CZ.out.mono ?_
    rintro e w6 ⟨rfl, hb6⟩
    have hR6 := (hb6.block _ (Array.getElem?_eq_some_iff.1 HH5.out.2.2.1).1).trans HH5.out.2.2.1
    have hB6 := HH5.out.2.2.2.trans (hb6.mono HH5.out.2.2.2.size)
    have hn := setRow_heap w6 w.heap.size #[.bool false, .bool false, .slice none 0 0] #[.bool false, .bool false, .slice none 0 0] 84 (0, 0) hR6
    have HB9 := Lib.hid (below_setRow hB6 (Nat.le_refl _) #[.bool false, .bool false, .slice none 0 0])
    clear hb6 hB6 r0 r1 r2
    go_wp2_with (refine wpList_store_row rfl 84 (.tmp 6) (.tmp 64) rfl w.heap.size #[.bool false, .bool false, .slice none 0 0] rfl rfl 84 #[.bool false, .bool false, .slice none 0 0] hR6 (by kernel_rfl) (by kernel_rfl) (by kernel_rfl) ?_)
    refine bodyPost_ret (v := .tuple #[.agg #[.bool false, .bool false, .slice none 0 0], .bool false]) ?_ ?_ ?_
    · exact results_cell_tmp (p := 6) (q := 7) rfl _ _ w.heap.size 84 _ (0, 0) _ rfl hn Try.underlying84 rfl (by kernel_rfl)
    · rfl
    · rw [HRS.out, if_neg (by simp)]
      exact ⟨HB9.out, rfl⟩
  · have hsl : (Fr.sec (kd true false) seg i PC).length = 256 := Fr.sec_len _ _ _ _ (by rw [HPL.out]; omega)
    have hs8 : ∀ c ∈ Fr.sec (kd true false) seg i PC, c < 256 := Fr.sec_lt _ _ _ _ (by decide) (by
      have := (HPB.out _ HBY.out.1).2.1
      exact this)
    have CE := Lib.hid (fun W (h1 : Bys W (some ⟨b, off, none⟩) bs) (h2 : Bys W (some ⟨sb, 0, none⟩) (Fr.sec (kd true false) seg i PC)) => equal_any (some ⟨b, off, none⟩) (some ⟨sb, 0, none⟩) bs (Fr.sec (kd true false) seg i PC) 256 256 cap 256 HBY.out.2.1 hsl (by intro h; have := HBY.out.2.1; rw [h] at this; simp at this) (by intro h; rw [h] at hsl; simp at hsl) W h1 h2)
    have HSB := Lib.hid (fun W (h : Mem W sb 199 (Fr.sec (kd true false) seg i PC)) => h.bys 0 _ (fun j hj => by rw [Nat.zero_add, List.getElem?_eq_getElem hj]) hs8 (by rw [hsl]; decide))
    obtain ⟨X, hX⟩ : ∃ X, decide (bs = Fr.sec (kd true false) seg i PC) = X := ⟨_, rfl⟩
    rw [hX] at CE
    have HX9 := Lib.hid hX
    clear hX hsl hs8
    go_wp2_with fail
    go_at_call 72
    refine CZ.out.mono ?_
    rintro e w6 ⟨rfl, hb6⟩
    have hR6 := (hb6.block _ (Array.getElem?_eq_some_iff.1 HH5.out.2.2.1).1).trans HH5.out.2.2.1
    have hB6 := HH5.out.2.2.2.trans (hb6.mono HH5.out.2.2.2.size)
    have hrow6 := (hb6.block _ (Array.getElem?_eq_some_iff.1 HH5.out.2.1).1).trans HH5.out.2.1
    have hm6 := HH5.out.1.below hb6
    have CE6 := Lib.hid (CE.out w6 (HBY.out.1.below hB6) (HSB.out w6 hm6))
    have HH6 := Lib.hid (And.intro hrow6 (And.intro hR6 hB6))
    clear hb6 hB6 hrow6 hm6 hR6 r0 r1 r2 CE HSB CZ HH5
    go_wp2_with fail
    go_at_call 73
    refine CE6.out.mono ?_
    rintro e w7 ⟨rfl, hw7⟩
    obtain rfl : w6 = w7 := hw7.symm
    clear CE6
    have hrow6 := HH6.out.1
    have hR6 := HH6.out.2.1
    have s0 : w6.cell? ⟨pb, 0, none⟩ = some (.bool true) := (cell_of_row _ _ 0 _ _ _ hrow6).trans rfl
    have s1 : w6.cell? ⟨pb, 1, none⟩ = some (.bool false) := (cell_of_row _ _ 1 _ _ _ hrow6).trans rfl
    have s2 : w6.cell? ⟨pb, 2, none⟩ = some (.slice (some ⟨b, off + 12, none⟩) pl pl) := (cell_of_row _ _ 2 _ _ _ hrow6).trans rfl
    cases X
    · have hn := setRow_heap w6 w.heap.size #[.bool false, .bool false, .slice none 0 0] #[.bool false, .bool false, .slice none 0 0] 84 (0, 0) hR6
      have HB9 := Lib.hid (below_setRow HH6.out.2.2 (Nat.le_refl _) #[.bool false, .bool false, .slice none 0 0])
      clear s0 s1 s2 hrow6
      go_wp2_with (refine wpList_store_row rfl 84 (.tmp 6) (.tmp 64) rfl w.heap.size #[.bool false, .bool false, .slice none 0 0] rfl rfl 84 #[.bool false, .bool false, .slice none 0 0] hR6 (by kernel_rfl) (by kernel_rfl) (by kernel_rfl) ?_)
      refine bodyPost_ret (v := .tuple #[.agg #[.bool false, .bool false, .slice none 0 0], .bool false]) ?_ ?_ ?_
      · exact results_cell_tmp (p := 6) (q := 7) rfl _ _ w.heap.size 84 _ (0, 0) _ rfl hn Try.underlying84 rfl (by kernel_rfl)
      · rfl
      · rw [HRS.out, if_neg (fun h => absurd (decide_eq_true h.2) (by rw [HX9.out]; decide))]
        exact ⟨HB9.out, rfl⟩
    · have hn := setRow_heap w6 w.heap.size #[.bool false, .bool false, .slice none 0 0] #[.bool true, .bool false, .slice (some ⟨b, off + 12, none⟩) pl pl] 84 (0, 0) hR6
      have HB9 := Lib.hid (below_setRow HH6.out.2.2 (Nat.le_refl _) #[.bool true, .bool false, .slice (some ⟨b, off + 12, none⟩) pl pl])
      clear hrow6
      have hsz9 : (#[Value.bool false, .bool false, .slice none 0 0] : Array Value).size = (#[Value.bool true, .bool false, .slice (some ⟨b, off + 12, none⟩) pl pl] : Array Value).size := rfl
      have ho9 : (#[Value.bool true, .bool false, .slice (some ⟨b, off + 12, none⟩) pl pl] : Array Value).all (·.oneCell') = true := by simp [Value.oneCell']
      have HS9 := Lib.hid (And.intro hsz9 ho9)
      clear hsz9 ho9
      go_wp2_with (refine wpList_store_row rfl 84 (.tmp 6) (.tmp 65) rfl w.heap.size #[.bool true, .bool false, .slice (some ⟨b, off + 12, none⟩) pl pl] rfl rfl 84 #[.bool false, .bool false, .slice none 0 0] hR6 (by kernel_rfl) HS9.out.1 HS9.out.2 ?_)
      refine bodyPost_ret (v := .tuple #[.agg #[.bool true, .bool false, .slice (some ⟨b, off + 12, none⟩) pl pl], .bool true]) ?_ ?_ ?_
      · exact results_cell_tmp (p := 6) (q := 7) rfl _ _ w.heap.size 84 _ (0, 0) _ rfl hn Try.underlying84 rfl (by kernel_rfl)
      · rfl
      · rw [HRS.out, if_pos ⟨by simp, of_decide_eq_true HX9.out⟩]
        refine ⟨HB9.out, some ⟨b, off + 12, none⟩, pl, ?_, by rw [HPL.out]; exact Nat.le_refl _, ⟨_, rfl⟩, fun W h => HPB.out W h, fun x hx => ⟨_, rfl, by injection hx with hx; subst hx; rfl⟩⟩
        rw [HKK.out.1, HKK.out.2, HPL.out]
set_option maxHeartbeats 8000000 in
set_option maxRecDepth 100000 in
theorem read_d0 (b off cap seg i : Nat) (bs : List Nat) (hn : bs.length = 256) (hcap : 256 ≤ cap) (hi : i ≤ 65535) (hs : seg < 4294967296) (x2 x10 x11 pl : Nat) (h2 : bs[2]? = some x2) (h10 : bs[10]? = some x10) (h11 : bs[11]? = some x11) (hpl : x10 + 256 * x11 = pl) (hsmall : pl ≤ 240) (w : World) (H : Bys w (some ⟨b, off, none⟩) bs) (hx : x2 = 2) (h0 : pl = 0) :
    Calls Try.prog 69 #[.slice (some ⟨b, off, none⟩) 256 cap, .int .u32 seg, .int .i64 i] w (ReadPost (some ⟨b, off, none⟩) bs (Fr.readS seg i bs) w) := by
  have hRS := readS_eq (seg := seg) hn hi h2 h10 h11 hpl hsmall
  have hkk : Fr.kinds x2 = kd true false := by unfold Fr.kinds kd; subst hx; rfl
  rw [hkk] at hRS
  have hsz : Fr.sizeOk (kd true false) pl = sz true false pl := by simp [Fr.sizeOk, kd, sz]
  rw [hsz] at hRS
  have hkb : kb (kd true false) = true := by decide
  have hke : ke (kd true false) = false := by decide
  have HKK := Lib.hid (And.intro hkb hke)
  have HPB := Lib.hid (fun W h => piece_bys (b := b) (off := off) (pl := pl) hn hsmall W h)
  obtain ⟨PC, hPC⟩ : ∃ PC, (bs.drop 12).take pl = PC := ⟨_, rfl⟩
  have hpcl : PC.length = pl := by rw [← hPC, List.length_take, List.length_drop]; omega
  rw [hPC] at hRS HPB
  have HRS := Lib.hid hRS
  have HPL := Lib.hid hpcl
  have HA := Lib.hid ((Below.refl w.heap.size w).alloc (Nat.le_refl _) (.cells #[.bool false, .bool false, .slice none 0 0] 84))
  have hr := heap_alloc_new w (.cells #[.bool false, .bool false, .slice none 0 0] 84)
  obtain ⟨c10, l10⟩ := H.cell 10 x10 h10
  obtain ⟨c11, l11⟩ := H.cell 11 x11 h11
  obtain ⟨c2, l2⟩ := H.cell 2 x2 h2
  have d10 := cell_below c10 HA.out
  have d11 := cell_below c11 HA.out
  have d2 := cell_below c2 HA.out
  have d1 : decide ((65535 : Int) < (i : Int)) = false := by simp; omega
  have HR := Lib.hid hr
  have hbw : b < w.heap.size := World.block_lt_of_cell? _ _ c2
  have HBY := Lib.hid (And.intro H (And.intro hn (And.intro hcap hbw)))
  clear hRS hkk hsz hkb hke hPC hpcl
  obtain rfl : x10 = 0 := by omega
  obtain rfl : x11 = 0 := by omega
  obtain rfl : pl = 0 := by omega
  clear c10 c11 c2 hr H h10 h11 h2 hn hbw 
  go_enter Try.func69, Try.ntmps69
  go_upto_region 1 with (fail)
  generalize w.alloc (.cells #[.bool false, .bool false, .slice none 0 0] 84) = W1 at *
  go_wp2_with fail
  go_quiet (fail)
  have hB2 := HA.out.trans ((drewN_below W1 nq).mono HA.out.size)
  have HR2 : Hid ((W1.drewN nq).heap[w.heap.size]? = some (.cells #[.bool false, .bool false, .slice none 0 0] 84 (0, 0))) := HR
  have e2 : (W1.drewN nq).cell? ⟨b, off + 2, none⟩ = some (.int .u8 ((x2 : Nat) : Int)) := d2
  generalize W1.drewN nq = W2 at *
  clear d10 d11 d2
  subst hx
  have e3 := fun o => cell_below e2 ((Below.refl W2.heap.size W2).alloc (Nat.le_refl _) o)
  clear e2
  go_upto_region 14 with (fail)
  have hrowP := heap_alloc_new W2 (.cells #[.bool true, .bool false, .slice (some ⟨b, off, none⟩) 0 0] 84)
  have hbP := (Below.refl W2.heap.size W2).alloc (Nat.le_refl _) (.cells #[.bool true, .bool false, .slice (some ⟨b, off, none⟩) 0 0] 84)
  have hB3 := hB2.trans (hbP.mono hB2.size)
  have HR3 := Lib.hid ((hbP.block _ (Array.getElem?_eq_some_iff.1 HR2.out).1).trans HR2.out)
  have hpw : w.heap.size < W2.heap.size := (Array.getElem?_eq_some_iff.1 HR2.out).1
  obtain ⟨pb, hpb⟩ : ∃ pb, W2.heap.size = pb := ⟨_, rfl⟩
  rw [hpb] at hrowP hpw ⊢
  clear hpb hbP e3 HR2 hB2 HA HR
  generalize W2.alloc (.cells #[.bool true, .bool false, .slice (some ⟨b, off, none⟩) 0 0] 84) = W3 at *
  go_upto_region 15 with (fail)
  have hM : (W3.alloc (.cells Try.zeroCells199 199)).heap[W3.heap.size]? = some (.cells (cellsOf (List.replicate 256 0)).toArray 199 (0, 0)) := (heap_alloc_new W3 (.cells Try.zeroCells199 199)).trans (by rw [zero199])
  have hb4 := (Below.refl W3.heap.size W3).alloc (Nat.le_refl _) (.cells Try.zeroCells199 199)
  have hpl3 : pb < W3.heap.size := (Array.getElem?_eq_some_iff.1 hrowP).1
  have hrow4 := (hb4.block pb hpl3).trans hrowP
  have hR4 := (hb4.block _ (Array.getElem?_eq_some_iff.1 HR3.out).1).trans HR3.out
  have hB4 := hB3.trans (hb4.mono hB3.size)
  have hsz3 := hB3.size
  obtain ⟨sb, hsb⟩ : ∃ sb, W3.heap.size = sb := ⟨_, rfl⟩
  rw [hsb] at hM hpl3 hsz3 ⊢
  clear hsb hb4 hB3 HR3 hrowP
  generalize W3.alloc (.cells Try.zeroCells199 199) = W4 at *
  have p0 : W4.cell? ⟨pb, 0, none⟩ = some (.bool true) := (cell_of_row _ _ 0 _ _ _ hrow4).trans rfl
  have p1 : W4.cell? ⟨pb, 1, none⟩ = some (.bool false) := (cell_of_row _ _ 1 _ _ _ hrow4).trans rfl
  have p2 : W4.cell? ⟨pb, 2, none⟩ = some (.slice (some ⟨b, off, none⟩) 0 0) := (cell_of_row _ _ 2 _ _ _ hrow4).trans rfl
  have HH4 := Lib.hid (And.intro hM (And.intro hrow4 (And.intro hR4 hB4)))
  have HLT := Lib.hid (And.intro hpw (And.intro hpl3 hsz3))
  clear hM hrow4 hR4 hB4 hpw hpl3 hsz3
  go_still_tail 4, (by kernel_rfl)
  change wpList _ _ _ _ _ (World.drew _)
  have hD := drew_below W4
  have CW := Lib.hid (show Calls Try.prog 26 #[pcV true false (.slice (some ⟨b, off, none⟩) 0 0), .slice (some ⟨sb, 0, none⟩) 256 256, .int .u32 seg, .int .i64 i] W4.drew fun r w' => r = .returned (.tuple #[]) ∧ Mem w' sb 199 ([] ++ (Fr.sec (kd true false) seg i PC ++ [])) ∧ Only [sb] W4.drew w' from by
    have hBY := HBY.out.1.below (HH4.out.2.2.2.trans (hD.mono HH4.out.2.2.2.size))
    have h := write_any true false (some ⟨b, off, none⟩) PC 0 sb 199 0 seg i [] [] rfl (by decide) (by rw [HPL.out]; omega) hs (by omega) W4.drew (by rw [List.nil_append, List.append_nil]; exact HH4.out.1) (by rw [show PC = [] from List.eq_nil_of_length_eq_zero HPL.out]; exact nil_bytes _ _) (.inl fun x hx => by injection hx with hx; subst hx; have := HBY.out.2.2.2; have := HLT.out; show b ≠ sb; omega)
    rw [HPL.out] at h
    exact h)
  have HD4 := Lib.hid hD
  unfold pcV at CW
  clear p0 p1 p2 hD
  go_wp2_with fail
  go_at_call 26
  refine CW.out.mono ?_
  rintro e w5 ⟨rfl, hm5, ho5⟩
  simp only [List.nil_append, List.append_nil] at hm5
  have ho5' := (Only.of_below HD4.out [sb]).trans ho5 (fun x hx => .inl hx)
  have hrow5 := (ho5'.block pb (Array.getElem?_eq_some_iff.1 HH4.out.2.1).1 (by have := HLT.out; simp; omega)).trans HH4.out.2.1
  have hR5 := (ho5'.block _ (Array.getElem?_eq_some_iff.1 HH4.out.2.2.1).1 (by have := HLT.out; simp; omega)).trans HH4.out.2.2.1
  have hB5 := HH4.out.2.2.2.trans (ho5'.below HH4.out.2.2.2.size (by have := HLT.out; simp; omega))
  have HH5 := Lib.hid (And.intro hm5 (And.intro hrow5 (And.intro hR5 hB5)))
  have r0 : w5.cell? ⟨pb, 0, none⟩ = some (.bool true) := (cell_of_row _ _ 0 _ _ _ hrow5).trans rfl
  have r1 : w5.cell? ⟨pb, 1, none⟩ = some (.bool false) := (cell_of_row _ _ 1 _ _ _ hrow5).trans rfl
  have r2 : w5.cell? ⟨pb, 2, none⟩ = some (.slice (some ⟨b, off, none⟩) 0 0) := (cell_of_row _ _ 2 _ _ _ hrow5).trans rfl
  clear hm5 ho5 ho5' hrow5 hR5 hB5 HH4 CW HD4
  have CZ := Lib.hid (size_any true false (some ⟨b, off, none⟩) 0 0 (by omega) w5)
  obtain ⟨Z, hZ⟩ : ∃ Z, sz true false 0 = Z := ⟨_, rfl⟩
  rw [hZ] at CZ HRS
  unfold pcV at CZ
  clear hZ
  cases Z
  · go_wp2_with fail
    go_at_call 72
    refine CZ.out.mono ?_
    rintro e w6 ⟨rfl, hb6⟩
    have hR6 := (hb6.block _ (Array.getElem?_eq_some_iff.1 HH5.out.2.2.1).1).trans HH5.out.2.2.1
    have hB6 := HH5.out.2.2.2.trans (hb6.mono HH5.out.2.2.2.size)
    have hn := setRow_heap w6 w.heap.size #[.bool false, .bool false, .slice none 0 0] #[.bool false, .bool false, .slice none 0 0] 84 (0, 0) hR6
    have HB9 := Lib.hid (below_setRow hB6 (Nat.le_refl _) #[.bool false, .bool false, .slice none 0 0])
    clear hb6 hB6 r0 r1 r2
    go_wp2_with (refine wpList_store_row rfl 84 (.tmp 6) (.tmp 64) rfl w.heap.size #[.bool false, .bool false, .slice none 0 0] rfl rfl 84 #[.bool false, .bool false, .slice none 0 0] hR6 (by kernel_rfl) (by kernel_rfl) (by kernel_rfl) ?_)
    refine bodyPost_ret (v := .tuple #[.agg #[.bool false, .bool false, .slice none 0 0], .bool false]) ?_ ?_ ?_
    · exact results_cell_tmp (p := 6) (q := 7) rfl _ _ w.heap.size 84 _ (0, 0) _ rfl hn Try.underlying84 rfl (by kernel_rfl)
    · rfl
    · rw [HRS.out, if_neg (by simp)]
      exact ⟨HB9.out, rfl⟩
  · have hsl : (Fr.sec (kd true false) seg i PC).length = 256 := Fr.sec_len _ _ _ _ (by rw [HPL.out]; omega)
    have hs8 : ∀ c ∈ Fr.sec (kd true false) seg i PC, c < 256 := Fr.sec_lt _ _ _ _ (by decide) (by
      have := (HPB.out _ HBY.out.1).2.1
      exact this)
    have CE := Lib.hid (fun W (h1 : Bys W (some ⟨b, off, none⟩) bs) (h2 : Bys W (some ⟨sb, 0, none⟩) (Fr.sec (kd true false) seg i PC)) => equal_any (some ⟨b, off, none⟩) (some ⟨sb, 0, none⟩) bs (Fr.sec (kd true false) seg i PC) 256 256 cap 256 HBY.out.2.1 hsl (by intro h; have := HBY.out.2.1; rw [h] at this; simp at this) (by intro h; rw [h] at hsl; simp at hsl) W h1 h2)
    have HSB := Lib.hid (fun W (h : Mem W sb 199 (Fr.sec (kd true false) seg i PC)) => h.bys 0 _ (fun j hj => by rw [Nat.zero_add, List.getElem?_eq_getElem hj]) hs8 (by rw [hsl]; decide))
    obtain ⟨X, hX⟩ : ∃ X, decide (bs = Fr.sec (kd true false) seg i PC) = X := ⟨_, rfl⟩
    rw [hX] at CE
    have HX9 := Lib.hid hX
    clear hX hsl hs8
    go_wp2_with fail
    go_at_call 72
    refine CZ.out.mono ?_
    rintro e w6 ⟨rfl, hb6⟩
    have hR6 := (hb6.block _ (Array.getElem?_eq_some_iff.1 HH5.out.2.2.1).1).trans HH5.out.2.2.1
    have hB6 := HH5.out.2.2.2.trans (hb6.mono HH5.out.2.2.2.size)
    have hrow6 := (hb6.block _ (Array.getElem?_eq_some_iff.1 HH5.out.2.1).1).trans HH5.out.2.1
    have hm6 := HH5.out.1.below hb6
    have CE6 := Lib.hid (CE.out w6 (HBY.out.1.below hB6) (HSB.out w6 hm6))
    have HH6 := Lib.hid (And.intro hrow6 (And.intro hR6 hB6))
    clear hb6 hB6 hrow6 hm6 hR6 r0 r1 r2 CE HSB CZ HH5
    go_wp2_with fail
    go_at_call 73
    refine CE6.out.mono ?_
    rintro e w7 ⟨rfl, hw7⟩
    obtain rfl : w6 = w7 := hw7.symm
    clear CE6
    have hrow6 := HH6.out.1
    have hR6 := HH6.out.2.1
    have s0 : w6.cell? ⟨pb, 0, none⟩ = some (.bool true) := (cell_of_row _ _ 0 _ _ _ hrow6).trans rfl
    have s1 : w6.cell? ⟨pb, 1, none⟩ = some (.bool false) := (cell_of_row _ _ 1 _ _ _ hrow6).trans rfl
    have s2 : w6.cell? ⟨pb, 2, none⟩ = some (.slice (some ⟨b, off, none⟩) 0 0) := (cell_of_row _ _ 2 _ _ _ hrow6).trans rfl
    cases X
    · have hn := setRow_heap w6 w.heap.size #[.bool false, .bool false, .slice none 0 0] #[.bool false, .bool false, .slice none 0 0] 84 (0, 0) hR6
      have HB9 := Lib.hid (below_setRow HH6.out.2.2 (Nat.le_refl _) #[.bool false, .bool false, .slice none 0 0])
      clear s0 s1 s2 hrow6
      go_wp2_with (refine wpList_store_row rfl 84 (.tmp 6) (.tmp 64) rfl w.heap.size #[.bool false, .bool false, .slice none 0 0] rfl rfl 84 #[.bool false, .bool false, .slice none 0 0] hR6 (by kernel_rfl) (by kernel_rfl) (by kernel_rfl) ?_)
      refine bodyPost_ret (v := .tuple #[.agg #[.bool false, .bool false, .slice none 0 0], .bool false]) ?_ ?_ ?_
      · exact results_cell_tmp (p := 6) (q := 7) rfl _ _ w.heap.size 84 _ (0, 0) _ rfl hn Try.underlying84 rfl (by kernel_rfl)
      · rfl
      · rw [HRS.out, if_neg (fun h => absurd (decide_eq_true h.2) (by rw [HX9.out]; decide))]
        exact ⟨HB9.out, rfl⟩
    · have hn := setRow_heap w6 w.heap.size #[.bool false, .bool false, .slice none 0 0] #[.bool true, .bool false, .slice (some ⟨b, off, none⟩) 0 0] 84 (0, 0) hR6
      have HB9 := Lib.hid (below_setRow HH6.out.2.2 (Nat.le_refl _) #[.bool true, .bool false, .slice (some ⟨b, off, none⟩) 0 0])
      clear hrow6
      have hsz9 : (#[Value.bool false, .bool false, .slice none 0 0] : Array Value).size = (#[Value.bool true, .bool false, .slice (some ⟨b, off, none⟩) 0 0] : Array Value).size := rfl
      have ho9 : (#[Value.bool true, .bool false, .slice (some ⟨b, off, none⟩) 0 0] : Array Value).all (·.oneCell') = true := by simp [Value.oneCell']
      have HS9 := Lib.hid (And.intro hsz9 ho9)
      clear hsz9 ho9
      go_wp2_with (refine wpList_store_row rfl 84 (.tmp 6) (.tmp 65) rfl w.heap.size #[.bool true, .bool false, .slice (some ⟨b, off, none⟩) 0 0] rfl rfl 84 #[.bool false, .bool false, .slice none 0 0] hR6 (by kernel_rfl) HS9.out.1 HS9.out.2 ?_)
      refine bodyPost_ret (v := .tuple #[.agg #[.bool true, .bool false, .slice (some ⟨b, off, none⟩) 0 0], .bool true]) ?_ ?_ ?_
      · exact results_cell_tmp (p := 6) (q := 7) rfl _ _ w.heap.size 84 _ (0, 0) _ rfl hn Try.underlying84 rfl (by kernel_rfl)
      · rfl
      · rw [HRS.out, if_pos ⟨by simp, of_decide_eq_true HX9.out⟩]
        refine ⟨HB9.out, some ⟨b, off, none⟩, 0, ?_, by rw [HPL.out]; exact Nat.le_refl _, ⟨_, rfl⟩, fun W h => by rw [show PC = [] from List.eq_nil_of_length_eq_zero HPL.out]; exact nil_bytes _ _, fun x hx => ⟨_, rfl, by injection hx with hx; subst hx; rfl⟩⟩
        rw [HKK.out.1, HKK.out.2, HPL.out]
set_option maxHeartbeats 8000000 in
set_option maxRecDepth 100000 in
theorem read_e1 (b off cap seg i : Nat) (bs : List Nat) (hn : bs.length = 256) (hcap : 256 ≤ cap) (hi : i ≤ 65535) (hs : seg < 4294967296) (x2 x10 x11 pl : Nat) (h2 : bs[2]? = some x2) (h10 : bs[10]? = some x10) (h11 : bs[11]? = some x11) (hpl : x10 + 256 * x11 = pl) (hsmall : pl ≤ 240) (w : World) (H : Bys w (some ⟨b, off, none⟩) bs) (hx : x2 ≠ 1 ∧ x2 ≠ 2 ∧ x2 ≠ 4) (h0 : 0 < pl) :
    Calls Try.prog 69 #[.slice (some ⟨b, off, none⟩) 256 cap, .int .u32 seg, .int .i64 i] w (ReadPost (some ⟨b, off, none⟩) bs (Fr.readS seg i bs) w) := by
  have hRS := readS_eq (seg := seg) hn hi h2 h10 h11 hpl hsmall
  have hkk : Fr.kinds x2 = kd false false := by unfold Fr.kinds kd; rw [if_neg (by omega)]; rfl
  rw [hkk] at hRS
  have hsz : Fr.sizeOk (kd false false) pl = sz false false pl := by simp [Fr.sizeOk, kd, sz]
  rw [hsz] at hRS
  have hkb : kb (kd false false) = false := by decide
  have hke : ke (kd false false) = false := by decide
  have HKK := Lib.hid (And.intro hkb hke)
  have HPB := Lib.hid (fun W h => piece_bys (b := b) (off := off) (pl := pl) hn hsmall W h)
  obtain ⟨PC, hPC⟩ : ∃ PC, (bs.drop 12).take pl = PC := ⟨_, rfl⟩
  have hpcl : PC.length = pl := by rw [← hPC, List.length_take, List.length_drop]; omega
  rw [hPC] at hRS HPB
  have HRS := Lib.hid hRS
  have HPL := Lib.hid hpcl
  have HA := Lib.hid ((Below.refl w.heap.size w).alloc (Nat.le_refl _) (.cells #[.bool false, .bool false, .slice none 0 0] 84))
  have hr := heap_alloc_new w (.cells #[.bool false, .bool false, .slice none 0 0] 84)
  obtain ⟨c10, l10⟩ := H.cell 10 x10 h10
  obtain ⟨c11, l11⟩ := H.cell 11 x11 h11
  obtain ⟨c2, l2⟩ := H.cell 2 x2 h2
  have d10 := cell_below c10 HA.out
  have d11 := cell_below c11 HA.out
  have d2 := cell_below c2 HA.out
  have d1 : decide ((65535 : Int) < (i : Int)) = false := by simp; omega
  have HR := Lib.hid hr
  have hbw : b < w.heap.size := World.block_lt_of_cell? _ _ c2
  have HBY := Lib.hid (And.intro H (And.intro hn (And.intro hcap hbw)))
  clear hRS hkk hsz hkb hke hPC hpcl
  have hsum : (12 : Int) + (x10 : Int) + (x11 : Int) * 256 = ((12 + pl : Nat) : Int) := by omega
  obtain ⟨en, hen⟩ : ∃ en, 12 + pl = en := ⟨_, rfl⟩
  rw [hen] at hsum
  have hen1 : en ≤ 252 := by omega
  have hen2 : ¬ en = 12 := by omega
  have hen3 : 12 ≤ en := by omega
  have hen4 : en - 12 = pl := by omega
  have hdd : decide ((252 : Int) < (en : Int)) = false := by simp; omega
  have hx1 : ((x2 : Int) == 1) = false := by simp; omega
  have hx2 : ((x2 : Int) == 2) = false := by simp; omega
  have hx4 : ((x2 : Int) == 4) = false := by simp; omega
  have hy1 : ¬ x2 = 1 := hx.1
  have hy2 : ¬ x2 = 2 := hx.2.1
  have hy4 : ¬ x2 = 4 := hx.2.2
  clear c10 c11 c2 hr H h10 h11 h2 hn hbw hpl hen
  go_enter Try.func69, Try.ntmps69
  go_upto_region 1 with (fail)
  generalize w.alloc (.cells #[.bool false, .bool false, .slice none 0 0] 84) = W1 at *
  go_wp2_with fail
  go_quiet (fail)
  have hB2 := HA.out.trans ((drewN_below W1 nq).mono HA.out.size)
  have HR2 : Hid ((W1.drewN nq).heap[w.heap.size]? = some (.cells #[.bool false, .bool false, .slice none 0 0] 84 (0, 0))) := HR
  have e2 : (W1.drewN nq).cell? ⟨b, off + 2, none⟩ = some (.int .u8 ((x2 : Nat) : Int)) := d2
  generalize W1.drewN nq = W2 at *
  clear d10 d11 d2
  have e3 := fun o => cell_below e2 ((Below.refl W2.heap.size W2).alloc (Nat.le_refl _) o)
  clear e2
  go_upto_region 14 with (fail)
  have hrowP := heap_alloc_new W2 (.cells #[.bool false, .bool false, .slice (some ⟨b, off + 12, none⟩) pl pl] 84)
  have hbP := (Below.refl W2.heap.size W2).alloc (Nat.le_refl _) (.cells #[.bool false, .bool false, .slice (some ⟨b, off + 12, none⟩) pl pl] 84)
  have hB3 := hB2.trans (hbP.mono hB2.size)
  have HR3 := Lib.hid ((hbP.block _ (Array.getElem?_eq_some_iff.1 HR2.out).1).trans HR2.out)
  have hpw : w.heap.size < W2.heap.size := (Array.getElem?_eq_some_iff.1 HR2.out).1
  obtain ⟨pb, hpb⟩ : ∃ pb, W2.heap.size = pb := ⟨_, rfl⟩
  rw [hpb] at hrowP hpw ⊢
  clear hpb hbP e3 HR2 hB2 HA HR
  generalize W2.alloc (.cells #[.bool false, .bool false, .slice (some ⟨b, off + 12, none⟩) pl pl] 84) = W3 at *
  go_upto_region 15 with (fail)
  have hM : (W3.alloc (.cells Try.zeroCells199 199)).heap[W3.heap.size]? = some (.cells (cellsOf (List.replicate 256 0)).toArray 199 (0, 0)) := (heap_alloc_new W3 (.cells Try.zeroCells199 199)).trans (by rw [zero199])
  have hb4 := (Below.refl W3.heap.size W3).alloc (Nat.le_refl _) (.cells Try.zeroCells199 199)
  have hpl3 : pb < W3.heap.size := (Array.getElem?_eq_some_iff.1 hrowP).1
  have hrow4 := (hb4.block pb hpl3).trans hrowP
  have hR4 := (hb4.block _ (Array.getElem?_eq_some_iff.1 HR3.out).1).trans HR3.out
  have hB4 := hB3.trans (hb4.mono hB3.size)
  have hsz3 := hB3.size
  obtain ⟨sb, hsb⟩ : ∃ sb, W3.heap.size = sb := ⟨_, rfl⟩
  rw [hsb] at hM hpl3 hsz3 ⊢
  clear hsb hb4 hB3 HR3 hrowP
  generalize W3.alloc (.cells Try.zeroCells199 199) = W4 at *
  have p0 : W4.cell? ⟨pb, 0, none⟩ = some (.bool false) := (cell_of_row _ _ 0 _ _ _ hrow4).trans rfl
  have p1 : W4.cell? ⟨pb, 1, none⟩ = some (.bool false) := (cell_of_row _ _ 1 _ _ _ hrow4).trans rfl
  have p2 : W4.cell? ⟨pb, 2, none⟩ = some (.slice (some ⟨b, off + 12, none⟩) pl pl) := (cell_of_row _ _ 2 _ _ _ hrow4).trans rfl
  have HH4 := Lib.hid (And.intro hM (And.intro hrow4 (And.intro hR4 hB4)))
  have HLT := Lib.hid (And.intro hpw (And.intro hpl3 hsz3))
  clear hM hrow4 hR4 hB4 hpw hpl3 hsz3
  go_still_tail 4, (by kernel_rfl)
  change wpList _ _ _ _ _ (World.drew _)
  have hD := drew_below W4
  have CW := Lib.hid (show Calls Try.prog 26 #[pcV false false (.slice (some ⟨b, off + 12, none⟩) pl pl), .slice (some ⟨sb, 0, none⟩) 256 256, .int .u32 seg, .int .i64 i] W4.drew fun r w' => r = .returned (.tuple #[]) ∧ Mem w' sb 199 ([] ++ (Fr.sec (kd false false) seg i PC ++ [])) ∧ Only [sb] W4.drew w' from by
    have hBY := HBY.out.1.below (HH4.out.2.2.2.trans (hD.mono HH4.out.2.2.2.size))
    have h := write_any false false (some ⟨b, off + 12, none⟩) PC pl sb 199 0 seg i [] [] rfl (by decide) (by rw [HPL.out]; omega) hs (by omega) W4.drew (by rw [List.nil_append, List.append_nil]; exact HH4.out.1) (HPB.out _ hBY) (.inl fun x hx => by injection hx with hx; subst hx; have := HBY.out.2.2.2; have := HLT.out; show b ≠ sb; omega)
    rw [HPL.out] at h
    exact h)
  have HD4 := Lib.hid hD
  unfold pcV at CW
  clear p0 p1 p2 hD
  go_wp2_with fail
  go_at_call 26
  refine CW.out.mono ?_
  rintro e w5 ⟨rfl, hm5, ho5⟩
  simp only [List.nil_append, List.append_nil] at hm5
  have ho5' := (Only.of_below HD4.out [sb]).trans ho5 (fun x hx => .inl hx)
  have hrow5 := (ho5'.block pb (Array.getElem?_eq_some_iff.1 HH4.out.2.1).1 (by have := HLT.out; simp; omega)).trans HH4.out.2.1
  have hR5 := (ho5'.block _ (Array.getElem?_eq_some_iff.1 HH4.out.2.2.1).1 (by have := HLT.out; simp; omega)).trans HH4.out.2.2.1
  have hB5 := HH4.out.2.2.2.trans (ho5'.below HH4.out.2.2.2.size (by have := HLT.out; simp; omega))
  have HH5 := Lib.hid (And.intro hm5 (And.intro hrow5 (And.intro hR5 hB5)))
  have r0 : w5.cell? ⟨pb, 0, none⟩ = some (.bool false) := (cell_of_row _ _ 0 _ _ _ hrow5).trans rfl
  have r1 : w5.cell? ⟨pb, 1, none⟩ = some (.bool false) := (cell_of_row _ _ 1 _ _ _ hrow5).trans rfl
  have r2 : w5.cell? ⟨pb, 2, none⟩ = some (.slice (some ⟨b, off + 12, none⟩) pl pl) := (cell_of_row _ _ 2 _ _ _ hrow5).trans rfl
  clear hm5 ho5 ho5' hrow5 hR5 hB5 HH4 CW HD4
  have CZ := Lib.hid (size_any false false (some ⟨b, off + 12, none⟩) pl pl (by omega) w5)
  obtain ⟨Z, hZ⟩ : ∃ Z, sz false false pl = Z := ⟨_, rfl⟩
  rw [hZ] at CZ HRS
  unfold pcV at CZ
  clear hZ
  cases Z
  · go_wp2_with fail
    go_at_call 72
    refine CZ.out.mono ?_
    rintro e w6 ⟨rfl, hb6⟩
    have hR6 := (hb6.block _ (Array.getElem?_eq_some_iff.1 HH5.out.2.2.1).1).trans HH5.out.2.2.1
    have hB6 := HH5.out.2.2.2.trans (hb6.mono HH5.out.2.2.2.size)
    have hn := setRow_heap w6 w.heap.size #[.bool false, .bool false, .slice none 0 0] #[.bool false, .bool false, .slice none 0 0] 84 (0, 0) hR6
    have HB9 := Lib.hid (below_setRow hB6 (Nat.le_refl _) #[.bool false, .bool false, .slice none 0 0])
    clear hb6 hB6 r0 r1 r2
    go_wp2_with (refine wpList_store_row rfl 84 (.tmp 6) (.tmp 64) rfl w.heap.size #[.bool false, .bool false, .slice none 0 0] rfl rfl 84 #[.bool false, .bool false, .slice none 0 0] hR6 (by kernel_rfl) (by kernel_rfl) (by kernel_rfl) ?_)
    refine bodyPost_ret (v := .tuple #[.agg #[.bool false, .bool false, .slice none 0 0], .bool false]) ?_ ?_ ?_
    · exact results_cell_tmp (p := 6) (q := 7) rfl _ _ w.heap.size 84 _ (0, 0) _ rfl hn Try.underlying84 rfl (by kernel_rfl)
    · rfl
    · rw [HRS.out, if_neg (by simp)]
      exact ⟨HB9.out, rfl⟩
  · have hsl : (Fr.sec (kd false false) seg i PC).length = 256 := Fr.sec_len _ _ _ _ (by rw [HPL.out]; omega)
    have hs8 : ∀ c ∈ Fr.sec (kd false false) seg i PC, c < 256 := Fr.sec_lt _ _ _ _ (by decide) (by
      have := (HPB.out _ HBY.out.1).2.1
      exact this)
    have CE := Lib.hid (fun W (h1 : Bys W (some ⟨b, off, none⟩) bs) (h2 : Bys W (some ⟨sb, 0, none⟩) (Fr.sec (kd false false) seg i PC)) => equal_any (some ⟨b, off, none⟩) (some ⟨sb, 0, none⟩) bs (Fr.sec (kd false false) seg i PC) 256 256 cap 256 HBY.out.2.1 hsl (by intro h; have := HBY.out.2.1; rw [h] at this; simp at this) (by intro h; rw [h] at hsl; simp at hsl) W h1 h2)
    have HSB := Lib.hid (fun W (h : Mem W sb 199 (Fr.sec (kd false false) seg i PC)) => h.bys 0 _ (fun j hj => by rw [Nat.zero_add, List.getElem?_eq_getElem hj]) hs8 (by rw [hsl]; decide))
    obtain ⟨X, hX⟩ : ∃ X, decide (bs = Fr.sec (kd false false) seg i PC) = X := ⟨_, rfl⟩
    rw [hX] at CE
    have HX9 := Lib.hid hX
    clear hX hsl hs8
    go_wp2_with fail
    go_at_call 72
    refine CZ.out.mono ?_
    rintro e w6 ⟨rfl, hb6⟩
    have hR6 := (hb6.block _ (Array.getElem?_eq_some_iff.1 HH5.out.2.2.1).1).trans HH5.out.2.2.1
    have hB6 := HH5.out.2.2.2.trans (hb6.mono HH5.out.2.2.2.size)
    have hrow6 := (hb6.block _ (Array.getElem?_eq_some_iff.1 HH5.out.2.1).1).trans HH5.out.2.1
    have hm6 := HH5.out.1.below hb6
    have CE6 := Lib.hid (CE.out w6 (HBY.out.1.below hB6) (HSB.out w6 hm6))
    have HH6 := Lib.hid (And.intro hrow6 (And.intro hR6 hB6))
    clear hb6 hB6 hrow6 hm6 hR6 r0 r1 r2 CE HSB CZ HH5
    go_wp2_with fail
    go_at_call 73
    refine CE6.out.mono ?_
    rintro e w7 ⟨rfl, hw7⟩
    obtain rfl : w6 = w7 := hw7.symm
    clear CE6
    have hrow6 := HH6.out.1
    have hR6 := HH6.out.2.1
    have s0 : w6.cell? ⟨pb, 0, none⟩ = some (.bool false) := (cell_of_row _ _ 0 _ _ _ hrow6).trans rfl
    have s1 : w6.cell? ⟨pb, 1, none⟩ = some (.bool false) := (cell_of_row _ _ 1 _ _ _ hrow6).trans rfl
    have s2 : w6.cell? ⟨pb, 2, none⟩ = some (.slice (some ⟨b, off + 12, none⟩) pl pl) := (cell_of_row _ _ 2 _ _ _ hrow6).trans rfl
    cases X
    · have hn := setRow_heap w6 w.heap.size #[.bool false, .bool false, .slice none 0 0] #[.bool false, .bool false, .slice none 0 0] 84 (0, 0) hR6
      have HB9 := Lib.hid (below_setRow HH6.out.2.2 (Nat.le_refl _) #[.bool false, .bool false, .slice none 0 0])
      clear s0 s1 s2 hrow6
      go_wp2_with (refine wpList_store_row rfl 84 (.tmp 6) (.tmp 64) rfl w.heap.size #[.bool false, .bool false, .slice none 0 0] rfl rfl 84 #[.bool false, .bool false, .slice none 0 0] hR6 (by kernel_rfl) (by kernel_rfl) (by kernel_rfl) ?_)
      refine bodyPost_ret (v := .tuple #[.agg #[.bool false, .bool false, .slice none 0 0], .bool false]) ?_ ?_ ?_
      · exact results_cell_tmp (p := 6) (q := 7) rfl _ _ w.heap.size 84 _ (0, 0) _ rfl hn Try.underlying84 rfl (by kernel_rfl)
      · rfl
      · rw [HRS.out, if_neg (fun h => absurd (decide_eq_true h.2) (by rw [HX9.out]; decide))]
        exact ⟨HB9.out, rfl⟩
    · have hn := setRow_heap w6 w.heap.size #[.bool false, .bool false, .slice none 0 0] #[.bool false, .bool false, .slice (some ⟨b, off + 12, none⟩) pl pl] 84 (0, 0) hR6
      have HB9 := Lib.hid (below_setRow HH6.out.2.2 (Nat.le_refl _) #[.bool false, .bool false, .slice (some ⟨b, off + 12, none⟩) pl pl])
      clear hrow6
      have hsz9 : (#[Value.bool false, .bool false, .slice none 0 0] : Array Value).size = (#[Value.bool false, .bool false, .slice (some ⟨b, off + 12, none⟩) pl pl] : Array Value).size := rfl
      have ho9 : (#[Value.bool false, .bool false, .slice (some ⟨b, off + 12, none⟩) pl pl] : Array Value).all (·.oneCell') = true := by simp [Value.oneCell']
      have HS9 := Lib.hid (And.intro hsz9 ho9)
      clear hsz9 ho9
      go_wp2_with (refine wpList_store_row rfl 84 (.tmp 6) (.tmp 65) rfl w.heap.size #[.bool false, .bool false, .slice (some ⟨b, off + 12, none⟩) pl pl] rfl rfl 84 #[.bool false, .bool false, .slice none 0 0] hR6 (by kernel_rfl) HS9.out.1 HS9.out.2 ?_)
      refine bodyPost_ret (v := .tuple #[.agg #[.bool false, .bool false, .slice (some ⟨b, off + 12, none⟩) pl pl], .bool true]) ?_ ?_ ?_
      · exact results_cell_tmp (p := 6) (q := 7) rfl _ _ w.heap.size 84 _ (0, 0) _ rfl hn Try.underlying84 rfl (by kernel_rfl)
      · rfl
      · rw [HRS.out, if_pos ⟨by simp, of_decide_eq_true HX9.out⟩]
        refine ⟨HB9.out, some ⟨b, off + 12, none⟩, pl, ?_, by rw [HPL.out]; exact Nat.le_refl _, ⟨_, rfl⟩, fun W h => HPB.out W h, fun x hx => ⟨_, rfl, by injection hx with hx; subst hx; rfl⟩⟩
        rw [HKK.out.1, HKK.out.2, HPL.out]
set_option maxHeartbeats 8000000 in
set_option maxRecDepth 100000 in
theorem read_e0 (b off cap seg i : Nat) (bs : List Nat) (hn : bs.length = 256) (hcap : 256 ≤ cap) (hi : i ≤ 65535) (hs : seg < 4294967296) (x2 x10 x11 pl : Nat) (h2 : bs[2]? = some x2) (h10 : bs[10]? = some x10) (h11 : bs[11]? = some x11) (hpl : x10 + 256 * x11 = pl) (hsmall : pl ≤ 240) (w : World) (H : Bys w (some ⟨b, off, none⟩) bs) (hx : x2 ≠ 1 ∧ x2 ≠ 2 ∧ x2 ≠ 4) (h0 : pl = 0) :
    Calls Try.prog 69 #[.slice (some ⟨b, off, none⟩) 256 cap, .int .u32 seg, .int .i64 i] w (ReadPost (some ⟨b, off, none⟩) bs (Fr.readS seg i bs) w) := by
  have hRS := readS_eq (seg := seg) hn hi h2 h10 h11 hpl hsmall
  have hkk : Fr.kinds x2 = kd false false := by unfold Fr.kinds kd; rw [if_neg (by omega)]; rfl
  rw [hkk] at hRS
  have hsz : Fr.sizeOk (kd false false) pl = sz false false pl := by simp [Fr.sizeOk, kd, sz]
  rw [hsz] at hRS
  have hkb : kb (kd false false) = false := by decide
  have hke : ke (kd false false) = false := by decide
  have HKK := Lib.hid (And.intro hkb hke)
  have HPB := Lib.hid (fun W h => piece_bys (b := b) (off := off) (pl := pl) hn hsmall W h)
  obtain ⟨PC, hPC⟩ : ∃ PC, (bs.drop 12).take pl = PC := ⟨_, rfl⟩
  have hpcl : PC.length = pl := by rw [← hPC, List.length_take, List.length_drop]; omega
  rw [hPC] at hRS HPB
  have HRS := Lib.hid hRS
  have HPL := Lib.hid hpcl
  have HA := Lib.hid ((Below.refl w.heap.size w).alloc (Nat.le_refl _) (.cells #[.bool false, .bool false, .slice none 0 0] 84))
  have hr := heap_alloc_new w (.cells #[.bool false, .bool false, .slice none 0 0] 84)
  obtain ⟨c10, l10⟩ := H.cell 10 x10 h10
  obtain ⟨c11, l11⟩ := H.cell 11 x11 h11
  obtain ⟨c2, l2⟩ := H.cell 2 x2 h2
  have d10 := cell_below c10 HA.out
  have d11 := cell_below c11 HA.out
  have d2 := cell_below c2 HA.out
  have d1 : decide ((65535 : Int) < (i : Int)) = false := by simp; omega
  have HR := Lib.hid hr
  have hbw : b < w.heap.size := World.block_lt_of_cell? _ _ c2
  have HBY := Lib.hid (And.intro H (And.intro hn (And.intro hcap hbw)))
  clear hRS hkk hsz hkb hke hPC hpcl
  obtain rfl : x10 = 0 := by omega
  obtain rfl : x11 = 0 := by omega
  obtain rfl : pl = 0 := by omega
  have hx1 : ((x2 : Int) == 1) = false := by simp; omega
  have hx2 : ((x2 : Int) == 2) = false := by simp; omega
  have hx4 : ((x2 : Int) == 4) = false := by simp; omega
  have hy1 : ¬ x2 = 1 := hx.1
  have hy2 : ¬ x2 = 2 := hx.2.1
  have hy4 : ¬ x2 = 4 := hx.2.2
  clear c10 c11 c2 hr H h10 h11 h2 hn hbw 
  go_enter Try.func69, Try.ntmps69
  go_upto_region 1 with (fail)
  generalize w.alloc (.cells #[.bool false, .bool false, .slice none 0 0] 84) = W1 at *
  go_wp2_with fail
  go_quiet (fail)
  have hB2 := HA.out.trans ((drewN_below W1 nq).mono HA.out.size)
  have HR2 : Hid ((W1.drewN nq).heap[w.heap.size]? = some (.cells #[.bool false, .bool false, .slice none 0 0] 84 (0, 0))) := HR
  have e2 : (W1.drewN nq).cell? ⟨b, off + 2, none⟩ = some (.int .u8 ((x2 : Nat) : Int)) := d2
  generalize W1.drewN nq = W2 at *
  clear d10 d11 d2
  have e3 := fun o => cell_below e2 ((Below.refl W2.heap.size W2).alloc (Nat.le_refl _) o)
  clear e2
  go_upto_region 14 with (fail)
  have hrowP := heap_alloc_new W2 (.cells #[.bool false, .bool false, .slice (some ⟨b, off, none⟩) 0 0] 84)
  have hbP := (Below.refl W2.heap.size W2).alloc (Nat.le_refl _) (.cells #[.bool false, .bool false, .slice (some ⟨b, off, none⟩) 0 0] 84)
  have hB3 := hB2.trans (hbP.mono hB2.size)
  have HR3 := Lib.hid ((hbP.block _ (Array.getElem?_eq_some_iff.1 HR2.out).1).trans HR2.out)
  have hpw : w.heap.size < W2.heap.size := (Array.getElem?_eq_some_iff.1 HR2.out).1
  obtain ⟨pb, hpb⟩ : ∃ pb, W2.heap.size = pb := ⟨_, rfl⟩
  rw [hpb] at hrowP hpw ⊢
  clear hpb hbP e3 HR2 hB2 HA HR
  generalize W2.alloc (.cells #[.bool false, .bool false, .slice (some ⟨b, off, none⟩) 0 0] 84) = W3 at *
  go_upto_region 15 with (fail)
  have hM : (W3.alloc (.cells Try.zeroCells199 199)).heap[W3.heap.size]? = some (.cells (cellsOf (List.replicate 256 0)).toArray 199 (0, 0)) := (heap_alloc_new W3 (.cells Try.zeroCells199 199)).trans (by rw [zero199])
  have hb4 := (Below.refl W3.heap.size W3).alloc (Nat.le_refl _) (.cells Try.zeroCells199 199)
  have hpl3 : pb < W3.heap.size := (Array.getElem?_eq_some_iff.1 hrowP).1
  have hrow4 := (hb4.block pb hpl3).trans hrowP
  have hR4 := (hb4.block _ (Array.getElem?_eq_some_iff.1 HR3.out).1).trans HR3.out
  have hB4 := hB3.trans (hb4.mono hB3.size)
  have hsz3 := hB3.size
  obtain ⟨sb, hsb⟩ : ∃ sb, W3.heap.size = sb := ⟨_, rfl⟩
  rw [hsb] at hM hpl3 hsz3 ⊢
  clear hsb hb4 hB3 HR3 hrowP
  generalize W3.alloc (.cells Try.zeroCells199 199) = W4 at *
  have p0 : W4.cell? ⟨pb, 0, none⟩ = some (.bool false) := (cell_of_row _ _ 0 _ _ _ hrow4).trans rfl
  have p1 : W4.cell? ⟨pb, 1, none⟩ = some (.bool false) := (cell_of_row _ _ 1 _ _ _ hrow4).trans rfl
  have p2 : W4.cell? ⟨pb, 2, none⟩ = some (.slice (some ⟨b, off, none⟩) 0 0) := (cell_of_row _ _ 2 _ _ _ hrow4).trans rfl
  have HH4 := Lib.hid (And.intro hM (And.intro hrow4 (And.intro hR4 hB4)))
  have HLT := Lib.hid (And.intro hpw (And.intro hpl3 hsz3))
  clear hM hrow4 hR4 hB4 hpw hpl3 hsz3
  go_still_tail 4, (by kernel_rfl)
  change wpList _ _ _ _ _ (World.drew _)
  have hD := drew_below W4
  have CW := Lib.hid (show Calls Try.prog 26 #[pcV false false (.slice (some ⟨b, off, none⟩) 0 0), .slice (some ⟨sb, 0, none⟩) 256 256, .int .u32 seg, .int .i64 i] W4.drew fun r w' => r = .returned (.tuple #[]) ∧ Mem w' sb 199 ([] ++ (Fr.sec (kd false false) seg i PC ++ [])) ∧ Only [sb] W4.drew w' from by
    have hBY := HBY.out.1.below (HH4.out.2.2.2.trans (hD.mono HH4.out.2.2.2.size))
    have h := write_any false false (some ⟨b, off, none⟩) PC 0 sb 199 0 seg i [] [] rfl (by decide) (by rw [HPL.out]; omega) hs (by omega) W4.drew (by rw [List.nil_append, List.append_nil]; exact HH4.out.1) (by rw [show PC = [] from List.eq_nil_of_length_eq_zero HPL.out]; exact nil_bytes _ _) (.inl fun x hx => by injection hx with hx; subst hx; have := HBY.out.2.2.2; have := HLT.out; show b ≠ sb; omega)
    rw [HPL.out] at h
    exact h)
  have HD4 := Lib.hid hD
  unfold pcV at CW
  clear p0 p1 p2 hD
  go_wp2_with fail
  go_at_call 26
  refine CW.out.mono ?_
  rintro e w5 ⟨rfl, hm5, ho5⟩
  simp only [List.nil_append, List.append_nil] at hm5
  have ho5' := (Only.of_below HD4.out [sb]).trans ho5 (fun x hx => .inl hx)
  have hrow5 := (ho5'.block pb (Array.getElem?_eq_some_iff.1 HH4.out.2.1).1 (by have := HLT.out; simp; omega)).trans HH4.out.2.1
  have hR5 := (ho5'.block _ (Array.getElem?_eq_some_iff.1 HH4.out.2.2.1).1 (by have := HLT.out; simp; omega)).trans HH4.out.2.2.1
  have hB5 := HH4.out.2.2.2.trans (ho5'.below HH4.out.2.2.2.size (by have := HLT.out; simp; omega))
  have HH5 := Lib.hid (And.intro hm5 (And.intro hrow5 (And.intro hR5 hB5)))
  have r0 : w5.cell? ⟨pb, 0, none⟩ = some (.bool false) := (cell_of_row _ _ 0 _ _ _ hrow5).trans rfl
  have r1 : w5.cell? ⟨pb, 1, none⟩ = some (.bool false) := (cell_of_row _ _ 1 _ _ _ hrow5).trans rfl
  have r2 : w5.cell? ⟨pb, 2, none⟩ = some (.slice (some ⟨b, off, none⟩) 0 0) := (cell_of_row _ _ 2 _ _ _ hrow5).trans rfl
  clear hm5 ho5 ho5' hrow5 hR5 hB5 HH4 CW HD4
  have CZ := Lib.hid (size_any false false (some ⟨b, off, none⟩) 0 0 (by omega) w5)
  obtain ⟨Z, hZ⟩ : ∃ Z, sz false false 0 = Z := ⟨_, rfl⟩
  rw [hZ] at CZ HRS
  unfold pcV at CZ
  clear hZ
  cases Z
  · go_wp2_with fail
    go_at_call 72
    refine CZ.out.mono ?_
    rintro e w6 ⟨rfl, hb6⟩
    have hR6 := (hb6.block _ (Array.getElem?_eq_some_iff.1 HH5.out.2.2.1).1).trans HH5.out.2.2.1
    have hB6 := HH5.out.2.2.2.trans (hb6.mono HH5.out.2.2.2.size)
    have hn := setRow_heap w6 w.heap.size #[.bool false, .bool false, .slice none 0 0] #[.bool false, .bool false, .slice none 0 0] 84 (0, 0) hR6
    have HB9 := Lib.hid (below_setRow hB6 (Nat.le_refl _) #[.bool false, .bool false, .slice none 0 0])
    clear hb6 hB6 r0 r1 r2
    go_wp2_with (refine wpList_store_row rfl 84 (.tmp 6) (.tmp 64) rfl w.heap.size #[.bool false, .bool false, .slice none 0 0] rfl rfl 84 #[.bool false, .bool false, .slice none 0 0] hR6 (by kernel_rfl) (by kernel_rfl) (by kernel_rfl) ?_)
    refine bodyPost_ret (v := .tuple #[.agg #[.bool false, .bool false, .slice none 0 0], .bool false]) ?_ ?_ ?_
    · exact results_cell_tmp (p := 6) (q := 7) rfl _ _ w.heap.size 84 _ (0, 0) _ rfl hn Try.underlying84 rfl (by kernel_rfl)
    · rfl
    · rw [HRS.out, if_neg (by simp)]
      exact ⟨HB9.out, rfl⟩
  · have hsl : (Fr.sec (kd false false) seg i PC).length = 256 := Fr.sec_len _ _ _ _ (by rw [HPL.out]; omega)
    have hs8 : ∀ c ∈ Fr.sec (kd false false) seg i PC, c < 256 := Fr.sec_lt _ _ _ _ (by decide) (by
      have := (HPB.out _ HBY.out.1).2.1
      exact this)
    have CE := Lib.hid (fun W (h1 : Bys W (some ⟨b, off, none⟩) bs) (h2 : Bys W (some ⟨sb, 0, none⟩) (Fr.sec (kd false false) seg i PC)) => equal_any (some ⟨b, off, none⟩) (some ⟨sb, 0, none⟩) bs (Fr.sec (kd false false) seg i PC) 256 256 cap 256 HBY.out.2.1 hsl (by intro h; have := HBY.out.2.1; rw [h] at this; simp at this) (by intro h; rw [h] at hsl; simp at hsl) W h1 h2)
    have HSB := Lib.hid (fun W (h : Mem W sb 199 (Fr.sec (kd false false) seg i PC)) => h.bys 0 _ (fun j hj => by rw [Nat.zero_add, List.getElem?_eq_getElem hj]) hs8 (by rw [hsl]; decide))
    obtain ⟨X, hX⟩ : ∃ X, decide (bs = Fr.sec (kd false false) seg i PC) = X := ⟨_, rfl⟩
    rw [hX] at CE
    have HX9 := Lib.hid hX
    clear hX hsl hs8
    go_wp2_with fail
    go_at_call 72
    refine CZ.out.mono ?_
    rintro e w6 ⟨rfl, hb6⟩
    have hR6 := (hb6.block _ (Array.getElem?_eq_some_iff.1 HH5.out.2.2.1).1).trans HH5.out.2.2.1
    have hB6 := HH5.out.2.2.2.trans (hb6.mono HH5.out.2.2.2.size)
    have hrow6 := (hb6.block _ (Array.getElem?_eq_some_iff.1 HH5.out.2.1).1).trans HH5.out.2.1
    have hm6 := HH5.out.1.below hb6
    have CE6 := Lib.hid (CE.out w6 (HBY.out.1.below hB6) (HSB.out w6 hm6))
    have HH6 := Lib.hid (And.intro hrow6 (And.intro hR6 hB6))
    clear hb6 hB6 hrow6 hm6 hR6 r0 r1 r2 CE HSB CZ HH5
    go_wp2_with fail
    go_at_call 73
    refine CE6.out.mono ?_
    rintro e w7 ⟨rfl, hw7⟩
    obtain rfl : w6 = w7 := hw7.symm
    clear CE6
    have hrow6 := HH6.out.1
    have hR6 := HH6.out.2.1
    have s0 : w6.cell? ⟨pb, 0, none⟩ = some (.bool false) := (cell_of_row _ _ 0 _ _ _ hrow6).trans rfl
    have s1 : w6.cell? ⟨pb, 1, none⟩ = some (.bool false) := (cell_of_row _ _ 1 _ _ _ hrow6).trans rfl
    have s2 : w6.cell? ⟨pb, 2, none⟩ = some (.slice (some ⟨b, off, none⟩) 0 0) := (cell_of_row _ _ 2 _ _ _ hrow6).trans rfl
    cases X
    · have hn := setRow_heap w6 w.heap.size #[.bool false, .bool false, .slice none 0 0] #[.bool false, .bool false, .slice none 0 0] 84 (0, 0) hR6
      have HB9 := Lib.hid (below_setRow HH6.out.2.2 (Nat.le_refl _) #[.bool false, .bool false, .slice none 0 0])
      clear s0 s1 s2 hrow6
      go_wp2_with (refine wpList_store_row rfl 84 (.tmp 6) (.tmp 64) rfl w.heap.size #[.bool false, .bool false, .slice none 0 0] rfl rfl 84 #[.bool false, .bool false, .slice none 0 0] hR6 (by kernel_rfl) (by kernel_rfl) (by kernel_rfl) ?_)
      refine bodyPost_ret (v := .tuple #[.agg #[.bool false, .bool false, .slice none 0 0], .bool false]) ?_ ?_ ?_
      · exact results_cell_tmp (p := 6) (q := 7) rfl _ _ w.heap.size 84 _ (0, 0) _ rfl hn Try.underlying84 rfl (by kernel_rfl)
      · rfl
      · rw [HRS.out, if_neg (fun h => absurd (decide_eq_true h.2) (by rw [HX9.out]; decide))]
        exact ⟨HB9.out, rfl⟩
    · have hn := setRow_heap w6 w.heap.size #[.bool false, .bool false, .slice none 0 0] #[.bool false, .bool false, .slice (some ⟨b, off, none⟩) 0 0] 84 (0, 0) hR6
      have HB9 := Lib.hid (below_setRow HH6.out.2.2 (Nat.le_refl _) #[.bool false, .bool false, .slice (some ⟨b, off, none⟩) 0 0])
      clear hrow6
      have hsz9 : (#[Value.bool false, .bool false, .slice none 0 0] : Array Value).size = (#[Value.bool false, .bool false, .slice (some ⟨b, off, none⟩) 0 0] : Array Value).size := rfl
      have ho9 : (#[Value.bool false, .bool false, .slice (some ⟨b, off, none⟩) 0 0] : Array Value).all (·.oneCell') = true := by simp [Value.oneCell']
      have HS9 := Lib.hid (And.intro hsz9 ho9)
      clear hsz9 ho9
      go_wp2_with (refine wpList_store_row rfl 84 (.tmp 6) (.tmp 65) rfl w.heap.size #[.bool false, .bool false, .slice (some ⟨b, off, none⟩) 0 0] rfl rfl 84 #[.bool false, .bool false, .slice none 0 0] hR6 (by kernel_rfl) HS9.out.1 HS9.out.2 ?_)
      refine bodyPost_ret (v := .tuple #[.agg #[.bool false, .bool false, .slice (some ⟨b, off, none⟩) 0 0], .bool true]) ?_ ?_ ?_
      · exact results_cell_tmp (p := 6) (q := 7) rfl _ _ w.heap.size 84 _ (0, 0) _ rfl hn Try.underlying84 rfl (by kernel_rfl)
      · rfl
      · rw [HRS.out, if_pos ⟨by simp, of_decide_eq_true HX9.out⟩]
        refine ⟨HB9.out, some ⟨b, off, none⟩, 0, ?_, by rw [HPL.out]; exact Nat.le_refl _, ⟨_, rfl⟩, fun W h => by rw [show PC = [] from List.eq_nil_of_length_eq_zero HPL.out]; exact nil_bytes _ _, fun x hx => ⟨_, rfl, by injection hx with hx; subst hx; rfl⟩⟩
        rw [HKK.out.1, HKK.out.2, HPL.out]
end Go.Proofs.Ytlegdaoidjpokaa
