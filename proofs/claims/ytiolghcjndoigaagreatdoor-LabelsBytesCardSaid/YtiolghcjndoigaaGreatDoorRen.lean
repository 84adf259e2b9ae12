/-
  WALKS: the reference: Encode.
-/
import Derived.Test.YtiolghcjndoigaaGreatDoorRck
namespace Go.Proofs.YtiolghcjndoigaaGreatDoor
set_option linter.unusedVariables false
set_option linter.unusedSimpArgs false
open Go.RowKit Go.PlainAid Go.Shelf
set_option maxRecDepth 100000 in
set_option maxHeartbeats 2000000 in
theorem rtext_any (base : Nat) (b : Value) (ds : List Nat) (s : ByteArray) (hs : s.size ≤ 1000000) (hd : ds.length ≤ 10000000) (w : World) (hB : base ≤ w.heap.size) (H : Own w base b ds) :
    Calls Tryz.prog 105 #[b, .string s] w fun e w' => ∃ v, e = .returned v ∧ Own w' base v (ds ++ textL s) ∧ Below base w w' ∧ ∀ k cs, Box94 w k cs → Box94 w' k cs := by
  obtain ⟨i0, hi, hz0, hz1, hz2⟩ := info_parts info5
  obtain ⟨ao, co, rfl⟩ := own_shape H
  obtain ⟨n, hn⟩ : ∃ n, ds.length = n := ⟨_, rfl⟩
  obtain ⟨L, hL⟩ : ∃ L, s.size = L := ⟨_, rfl⟩
  have HT := Lib.hid (show textL s = [L % 256, L / 256 % 256] ++ bytesOf s by unfold textL; rw [hL])
  have HS := Lib.hid (strCells_bytesOf s)
  have HBL := Lib.hid (bytesOf_length s)
  have HN := Lib.hid hn
  have HO1 : Hid (w.ownsRow base 5 1 (.slice ao n co) n (cellsOf ds)) := Lib.hid (by have h := H; unfold Own at h; rw [hn] at h; exact h)
  have HOA : Hid (∀ o, (w.alloc o).ownsRow base 5 1 (.slice ao n co) n (cellsOf ds)) := Lib.hid (fun o => by
    have h := H.below ((Below.refl w.heap.size w).alloc (Nat.le_refl _) o)
    unfold Own at h
    rw [hn] at h
    exact h)
  have HOB := Lib.hid (own_block H)
  have HX := Lib.hid (fun k cs (h : Box94 w k cs) (w2 : World) (o : Obj) (hg : (w.alloc o).grownBy w2 (Value.slice ao n co).ownBlock) => show Box94 w2 k cs from box_grown (w := w.alloc o) (base := base) (ds := ds) ((Below.heap_alloc _ _ k (Array.getElem?_eq_some_iff.1 h).1).trans h) (by rw [← hn]; exact H.below ((Below.refl w.heap.size w).alloc (Nat.le_refl _) o)) hg)
  have HLS := Lib.hid hL
  have e1 : IntKind.u8.wrap ((L : Int) % 256) = ((L % 256 : Nat) : Int) := by rw [IntKind.wrap_u8]; omega
  have m1 : (L : Int).tmod 256 = (L : Int) % 256 := Int.tmod_eq_emod_of_nonneg (by omega)
  have m2 : (L : Int).tdiv 256 = (L : Int) / 256 := Int.tdiv_eq_ediv_of_nonneg (by omega)
  have m3 : IntKind.i64.wrap ((L : Int) / 256) = (L : Int) / 256 := by rw [IntKind.wrap_i64]; have : s.size ≤ 1000000 := hs; omega
  have m4 : IntKind.i64.wrap ((L : Int) % 256) = (L : Int) % 256 := by rw [IntKind.wrap_i64]; omega
  have e2 : IntKind.u8.wrap ((L : Int) / 256) = ((L / 256 % 256 : Nat) : Int) := by rw [IntKind.wrap_u8]; omega
  have hLb : L ≤ 1000000 := by rw [← hL]; exact hs
  rw [hn] at hd HOB ⊢
  obtain ⟨x0, hx0⟩ : ∃ x, L % 256 = x := ⟨_, rfl⟩
  obtain ⟨x1, hx1⟩ : ∃ x, L / 256 % 256 = x := ⟨_, rfl⟩
  rw [hx0] at e1 HT
  rw [hx1] at e2 HT
  clear H hn hs hx0 hx1
  go_enter Tryz.func105, Tryz.ntmps105
  go_wp2_with (first
    | (at_builtin; refine wpList_append_own _ rfl (.tmp 5) (.tmp 14) 83 rfl base 5 i0 (.int .u8 0) 1 1 Tryz.underlying83 hi hz0 hz1 hz2 rfl (by decide) (.slice ao n co) n (cellsOf ds) rfl (HOA.out _) ⟨w.heap.size, 0, none⟩ 2 2 (cellsOf [x0, x1]) rfl rfl (alloc_row _ [x0, x1]) (cellsOf_one _) (by unfold maxLen; omega) (by omega) (by simp; omega) ?_; intro v2 w2 hown2 hgr2 hne2
       obtain ⟨g1, g2⟩ := own_grow (ds := ds) (es := [x0, x1]) hown2 (by rw [HN.out]; rfl) HOB.out hgr2 ((Below.refl base w).alloc hB _) (by simp; omega)
       have G2 := Lib.hid g2
       have X2 := Lib.hid (fun k cs (h : Box94 w k cs) => HX.out k cs h _ _ hgr2)
       have X3 := Lib.hid (fun k cs (h : Box94 w2 k cs) (w3 : World) (hg : w2.grownBy w3 v2.ownBlock) => box_grown h g1 hg)
       have HOB2 := Lib.hid (own_block g1)
       obtain ⟨a2, c2, rfl⟩ := own_shape g1
       have hn2 : (ds ++ [x0, x1]).length = n + 2 := by rw [List.length_append, HN.out]; rfl
       have HO2 : Hid (w2.ownsRow base 5 1 (.slice a2 (n + 2) c2) (n + 2) (cellsOf (ds ++ [x0, x1]))) := Lib.hid (by have h := g1; unfold Own at h; rw [hn2] at h; exact h)
       have HN2 := Lib.hid hn2
       rw [hn2] at HOB2 X3 ⊢
       have hs2 : base ≤ w2.heap.size := Nat.le_trans hB g2.size
       clear hown2 hgr2 hne2 g1 g2 hn2)
    | (at_builtin; refine Lib.wpList_append_own_string _ rfl (.tmp 16) (.tmp 17) 83 9 rfl base 5 i0 Tryz.underlying83 Tryz.underlying9 hi hz0 hz1 hz2 (.slice a2 (n + 2) c2) (n + 2) (cellsOf (ds ++ [x0, x1])) rfl (HO2.out) s rfl (by rw [HLS.out]; unfold maxLen; omega) (by rw [HLS.out]; omega) hs2 ?_; intro v3 w3 hown3 hgr3 hne3
       rw [HS.out] at hown3
       obtain ⟨g1, g2⟩ := own_grow (ds := ds ++ [x0, x1]) (es := bytesOf s) hown3 (by rw [HN2.out, HBL.out]) HOB2.out hgr3 G2.out hs2
       rw [List.append_assoc, ← HT.out] at g1
       obtain ⟨a3, c3, rfl⟩ := own_shape g1
       obtain ⟨M, hM⟩ : ∃ M, (ds ++ textL s).length = M := ⟨_, rfl⟩
       rw [hM] at g1 ⊢
       clear hM
       have G3 := Lib.hid g1
       have G4 := Lib.hid g2
       have G5 := Lib.hid (fun k cs (h : Box94 w k cs) => X3.out k cs (X2.out k cs h) _ hgr3)
       clear hown3 hgr3 hne3 g1 g2))
  go_ret
  exact ⟨_, rfl, G3.out, G4.out, G5.out⟩
theorem chk_zero {l : List Lm.Lb} (h : chkN l = 0) : l.length ≤ 64 ∧ ∀ x ∈ l, badB x = false := by
  unfold chkN at h
  by_cases h1 : 64 < l.length
  · rw [if_pos h1] at h; cases h
  · rw [if_neg h1] at h
    by_cases h2 : (l.any badB || l.any emptyB) = true
    · rw [if_pos h2] at h; cases h
    · refine ⟨by omega, any_false ?_⟩
      cases hb : l.any badB with
      | false => rfl
      | true => rw [hb] at h2; exact absurd rfl h2
def REncPost (w : World) (l : List Lm.Lb) (e : Ending) (w' : World) : Prop := ∃ v, e = .returned (.tuple #[v, .int .u16 ((chkN l : Nat) : Int)]) ∧ Own w' w.heap.size v (if chkN l = 0 then encL l else []) ∧ Below w.heap.size w w'
set_option maxRecDepth 100000 in
set_option maxHeartbeats 2000000 in
theorem rencode_any (a : Option Addr) (cp : Nat) (l : List Lm.Lb) (w : World) (H : Labs w a l) (hz : l.length ≤ maxLen) : Calls Tryz.prog 41 #[.slice a l.length cp] w (REncPost w l) := by
  obtain ⟨i0, hi, hz0, hz1, hz2⟩ := info_parts info5
  have CC := Lib.hid (rcheck_any a cp l w H hz)
  have HL := Lib.hid H
  unfold REncPost
  have HCZ := Lib.hid (fun h => chk_zero (l := l) h)
  obtain ⟨R, hR⟩ : ∃ R, chkN l = R := ⟨_, rfl⟩
  rw [hR] at CC HCZ ⊢
  obtain ⟨n, hn⟩ : ∃ n, l.length = n := ⟨_, rfl⟩
  have HN := Lib.hid hn
  rw [hn] at CC HCZ ⊢
  clear H hz hn hR
  by_cases h0 : R = 0
  · subst h0
    obtain ⟨h64, hbad⟩ := HCZ.out rfl
    have HSZ := Lib.hid (fun x hx => badB_size (hbad x hx))
    have e1 : IntKind.u8.wrap (n : Int) = (n : Int) := by rw [IntKind.wrap_u8]; omega
    have HL1 := Lib.hid (show ∀ k, ((l.take k).flatMap label1).length ≤ 2052 * 64 from fun k => by
      have := flat1_len (l.take k) (fun x hx => HSZ.out x (List.mem_of_mem_take hx))
      have h2 : (l.take k).length ≤ 64 := by rw [List.length_take, HN.out]; omega
      omega)
    clear hbad HCZ
    go_enter Tryz.func41, Tryz.ntmps41
    go_wp2_with fail
    refine CC.out.mono ?_
    rintro e w1 ⟨rfl, hb⟩
    have B1 := Lib.hid hb
    have hw1 : w.heap.size ≤ w1.heap.size := hb.size
    clear hb CC
    go_wp2_with (first
      | (at_builtin; refine wpList_append_own _ rfl (.tmp 12) (.tmp 16) 83 rfl w.heap.size 5 i0 (.int .u8 0) 1 1 Tryz.underlying83 hi hz0 hz1 hz2 rfl (by decide) (.slice none 0 0) 0 [] rfl (World.ownsRow_nil _ _ _ _) ⟨w1.heap.size, 0, none⟩ 1 1 (cellsOf [n]) rfl rfl (alloc_row _ [n]) (cellsOf_one _) (by unfold maxLen; omega) (by omega) (by simp; omega) ?_; intro v2 w2 hown2 hgr2 hne2
         have g1 : Own w2 w.heap.size v2 [n] := hown2
         have HO1 := Lib.hid g1
         have HB2 := Lib.hid ((B1.out.alloc hw1 (.cells (cellsOf [n]).toArray 5)).grown hgr2 (by simp; omega) (fun k hk => by cases hk))
         obtain ⟨a2, c2, rfl⟩ := own_shape g1
         clear hown2 hgr2 hne2 g1)
      | fail)
    go_loopw [5, 6] (fun b i wr => ∃ (k : Nat), k ≤ n ∧ i = .int .i64 k ∧ Hid (Own wr w.heap.size b (n :: (l.take k).flatMap label1)) ∧ Hid (Below w.heap.size w wr)) (fun _ i _ => (n - intOf i).toNat)
    case atStart => exact ⟨0, by omega, rfl, HO1, HB2⟩
    case round =>
      obtain ⟨k, hk, rfl, HO, HB⟩ := hrel
      obtain ⟨ao, co, rfl⟩ := own_shape HO.out
      obtain ⟨N, hN⟩ : ∃ N, (n :: (l.take k).flatMap label1).length = N := ⟨_, rfl⟩
      have HNN := Lib.hid hN
      rw [hN] at HO ⊢
      clear hN
      by_cases hkn : k < n
      · have da : decide ((k : Int) < (n : Int)) = true := decide_eq_true (by omega)
        have da2 : decide (k < n) = true := decide_eq_true hkn
        have hkl : k < l.length := by rw [HN.out]; exact hkn
        obtain ⟨b1, o1, rfl, hb1, hc1⟩ := (HL.out.below HB.out) (by intro e; rw [e] at hkl; simp at hkl)
        have HC1 := Lib.hid (show ∀ w2, Below w.heap.size w w2 → w2.cell? ⟨b1, o1 + k * 2 + 1, none⟩ = some (.string l[k].2) from fun w2 hb2 => by
          obtain ⟨b3, o3, e3, _, hc3⟩ := (HL.out.below hb2) (by intro e; rw [e] at hkl; simp at hkl)
          cases e3
          exact (hc3 k hkl).2)
        obtain ⟨p1, p2⟩ := hc1 k hkl
        obtain ⟨x, hx⟩ : ∃ x, l[k] = x := ⟨_, rfl⟩
        rw [hx] at p1 p2 HC1
        have hsz := HSZ.out x (by rw [← hx]; exact List.getElem_mem hkl)
        have HT := Lib.hid (show n :: (l.take (k + 1)).flatMap label1 = (n :: (l.take k).flatMap label1) ++ textL x.1 ++ textL x.2 by
          rw [List.take_succ_eq_append_getElem hkl, hx, List.flatMap_append]
          simp [label1])
        have hlen := HL1.out k
        have hNb : N ≤ 2052 * 64 + 1 := by rw [← HNN.out, List.length_cons]; omega
        have hwr := HB.out.size
        have C1 := Lib.hid (rtext_any w.heap.size (.slice ao N co) (n :: (l.take k).flatMap label1) x.1 (by omega) (by rw [List.length_cons]; omega) wr hwr HO.out)
        clear hx hc1
        go_wp2_with fail
        refine C1.out.mono ?_
        rintro e w2 ⟨v2, rfl, ho, hb, _⟩
        have hw2 : w.heap.size ≤ w2.heap.size := Nat.le_trans hwr hb.size
        have B2 := Lib.hid (HB.out.trans hb)
        have y2 := HC1.out w2 B2.out
        have C2 := Lib.hid (rtext_any w.heap.size v2 _ x.2 (by omega) (by rw [List.length_append, List.length_cons, textL_len]; omega) w2 hw2 ho)
        obtain ⟨a2, c2, rfl⟩ := own_shape ho
        obtain ⟨M, hM⟩ : ∃ M, ((n :: (l.take k).flatMap label1) ++ textL x.1).length = M := ⟨_, rfl⟩
        rw [hM] at C2 ⊢
        clear ho hb hM
        go_wp2_with fail
        refine C2.out.mono ?_
        rintro e w3 ⟨v3, rfl, ho, hb, _⟩
        rw [← HT.out] at ho
        have O3 := Lib.hid ho
        have B3 := Lib.hid (B2.out.trans hb)
        obtain ⟨a3, c3, rfl⟩ := own_shape ho
        obtain ⟨M3, hM3⟩ : ∃ M, (n :: (l.take (k + 1)).flatMap label1).length = M := ⟨_, rfl⟩
        rw [hM3] at O3 ⊢
        clear ho hb hM3
        go_wp2
        go_roundw
        case rel => exact ⟨k + 1, by omega, by simp, O3, B3⟩
        case measure => simp [intOf]; omega
      · have hkn2 : k = n := by omega
        subst hkn2
        have da : decide ((k : Int) < (k : Int)) = false := decide_eq_false (by omega)
        have da2 : decide (k < k) = false := decide_eq_false (by omega)
        have HF := Lib.hid (show k :: (l.take k).flatMap label1 = encL l by
          unfold encL
          have : l.take k = l := by rw [← HN.out]; exact List.take_length
          rw [this, HN.out, Nat.mod_eq_of_lt (by omega)])
        rw [HF.out] at HO
        go_wp2
        go_ret2
        exact ⟨_, rfl, HO.out, HB.out⟩
  · have d1 : ((R : Int) == 0) = false := by simp; omega
    have d2 : ¬ ((R : Int) = 0) := by omega
    have d3 : ¬ (R = 0) := h0
    go_enter Tryz.func41, Tryz.ntmps41
    go_wp2_with fail
    refine CC.out.mono ?_
    rintro e w1 ⟨rfl, hb⟩
    have B1 := Lib.hid hb
    clear hb CC
    go_wp2
    go_ret2
    exact ⟨_, rfl, Own.nil _ _, B1.out⟩
end Go.Proofs.YtiolghcjndoigaaGreatDoor
