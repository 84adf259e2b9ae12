/-
  WALKS: Encode.
-/
import Derived.Test.YtiolghcjndoigaaGreatDoorChk
import Derived.Test.YtiolghcjndoigaaGreatDoorQuoA
namespace Go.Proofs.YtiolghcjndoigaaGreatDoor
set_option linter.unusedVariables false
set_option linter.unusedSimpArgs false
open Go.RowKit Go.PlainAid Go.Shelf
/-- a text behind its length -/
def textL (s : ByteArray) : List Nat := [s.size % 256, s.size / 256 % 256] ++ bytesOf s
theorem textL_len (s : ByteArray) : (textL s).length = s.size + 2 := by
  unfold textL
  rw [List.length_append, bytesOf_length]
  simp only [List.length_cons, List.length_nil]
  omega
theorem textL_isB (s : ByteArray) : IsB (textL s) := IsB.app (IsB.cons (by omega) (IsB.cons (by omega) IsB.nil)) (isB_bytesOf s)
theorem strCells_bytesOf (s : ByteArray) : Lib.strCells s = cellsOf (bytesOf s) := by
  have := strCells_of (bytesOf s) (isB_bytesOf s)
  rwa [strOf_bytesOf] at this
/-- a box of a label -/
def Box94 (w : World) (k : Nat) (cs : Array Value) : Prop := w.heap[k]? = some (.cells cs 94 (0, 0))
theorem box_ne {w : World} {base k : Nat} {v : Value} {ds : List Nat} {cs : Array Value} (h : Box94 w k cs) (ho : Own w base v ds) : some k ≠ v.ownBlock := by
  rcases ho.2 with ⟨rfl, _⟩ | ⟨g, cap, cur, rfl, _, hc, _⟩
  · intro e; cases e
  · intro e
    simp only [Value.ownBlock, Option.some.injEq] at e
    subst e
    unfold Box94 at h
    rw [h] at hc
    cases hc
theorem box_grown {w w' : World} {base k : Nat} {v : Value} {ds : List Nat} {cs : Array Value} (h : Box94 w k cs) (ho : Own w base v ds) (hg : w.grownBy w' v.ownBlock) : Box94 w' k cs :=
  (hg.block k (Array.getElem?_eq_some_iff.1 h).1 (box_ne h ho)).trans h
set_option maxRecDepth 100000 in
set_option maxHeartbeats 2000000 in
theorem appendtext_any (base : Nat) (b : Value) (ds : List Nat) (s : ByteArray) (hs : s.size ≤ 1000000) (hd : ds.length ≤ 10000000) (w : World) (hB : base ≤ w.heap.size) (H : Own w base b ds) :
    Calls Tryz.prog 104 #[b, .string s] w fun e w' => ∃ v, e = .returned v ∧ Own w' base v (ds ++ textL s) ∧ Below base w w' ∧ ∀ k cs, Box94 w k cs → Box94 w' k cs := by
  obtain ⟨i0, hi, hz0, hz1, hz2⟩ := info_parts info5
  obtain ⟨ao, co, rfl⟩ := own_shape H
  obtain ⟨n, hn⟩ : ∃ n, ds.length = n := ⟨_, rfl⟩
  obtain ⟨L, hL⟩ : ∃ L, s.size = L := ⟨_, rfl⟩
  have HT := Lib.hid (show textL s = [L % 256, L / 256 % 256] ++ bytesOf s by unfold textL; rw [hL])
  have HS := Lib.hid (strCells_bytesOf s)
  have HBL := Lib.hid (bytesOf_length s)
  have HN := Lib.hid hn
  have HO1 : Hid (w.ownsRow base 5 1 (.slice ao n co) n (cellsOf ds)) := Lib.hid (by have h := H; unfold Own at h; rw [hn] at h; exact h)
  have HOA : Hid (∀ o, (w.alloc o).ownsRow base 5 1 (.slice ao n co) n (cellsOf ds)) := Lib.hid (fun o => by
    have h := H.below ((Below.refl w.heap.size w).alloc (Nat.le_refl _) o)
    unfold Own at h
    rw [hn] at h
    exact h)
  have HOB := Lib.hid (own_block H)
  have HX := Lib.hid (fun k cs (h : Box94 w k cs) (w2 : World) (o : Obj) (hg : (w.alloc o).grownBy w2 (Value.slice ao n co).ownBlock) => show Box94 w2 k cs from box_grown (w := w.alloc o) (base := base) (ds := ds) ((Below.heap_alloc _ _ k (Array.getElem?_eq_some_iff.1 h).1).trans h) (by rw [← hn]; exact H.below ((Below.refl w.heap.size w).alloc (Nat.le_refl _) o)) hg)
  have HLS := Lib.hid hL
  have e1 : IntKind.u8.wrap (L : Int) = ((L % 256 : Nat) : Int) := by rw [IntKind.wrap_u8]; omega
  have e2 : IntKind.u8.wrap ((L : Int) / 256) = ((L / 256 % 256 : Nat) : Int) := by rw [IntKind.wrap_u8]; omega
  have hLb : L ≤ 1000000 := by rw [← hL]; exact hs
  rw [hn] at hd HOB ⊢
  obtain ⟨x0, hx0⟩ : ∃ x, L % 256 = x := ⟨_, rfl⟩
  obtain ⟨x1, hx1⟩ : ∃ x, L / 256 % 256 = x := ⟨_, rfl⟩
  rw [hx0] at e1 HT
  rw [hx1] at e2 HT
  clear H hn hs hx0 hx1
  go_enter Tryz.func104, Tryz.ntmps104
  go_wp2_with (first
    | (at_builtin; refine wpList_append_own _ rfl (.tmp 5) (.tmp 13) 83 rfl base 5 i0 (.int .u8 0) 1 1 Tryz.underlying83 hi hz0 hz1 hz2 rfl (by decide) (.slice ao n co) n (cellsOf ds) rfl (HOA.out _) ⟨w.heap.size, 0, none⟩ 2 2 (cellsOf [x0, x1]) rfl rfl (alloc_row _ [x0, x1]) (cellsOf_one _) (by unfold maxLen; omega) (by omega) (by simp; omega) ?_; intro v2 w2 hown2 hgr2 hne2
       obtain ⟨g1, g2⟩ := own_grow (ds := ds) (es := [x0, x1]) hown2 (by rw [HN.out]; rfl) HOB.out hgr2 ((Below.refl base w).alloc hB _) (by simp; omega)
       have G2 := Lib.hid g2
       have X2 := Lib.hid (fun k cs (h : Box94 w k cs) => HX.out k cs h _ _ hgr2)
       have X3 := Lib.hid (fun k cs (h : Box94 w2 k cs) (w3 : World) (hg : w2.grownBy w3 v2.ownBlock) => box_grown h g1 hg)
       have HOB2 := Lib.hid (own_block g1)
       obtain ⟨a2, c2, rfl⟩ := own_shape g1
       have hn2 : (ds ++ [x0, x1]).length = n + 2 := by rw [List.length_append, HN.out]; rfl
       have HO2 : Hid (w2.ownsRow base 5 1 (.slice a2 (n + 2) c2) (n + 2) (cellsOf (ds ++ [x0, x1]))) := Lib.hid (by have h := g1; unfold Own at h; rw [hn2] at h; exact h)
       have HN2 := Lib.hid hn2
       rw [hn2] at HOB2 X3 ⊢
       have hs2 : base ≤ w2.heap.size := Nat.le_trans hB g2.size
       clear hown2 hgr2 hne2 g1 g2 hn2)
    | (at_builtin; refine Lib.wpList_append_own_string _ rfl (.tmp 15) (.tmp 16) 83 9 rfl base 5 i0 Tryz.underlying83 Tryz.underlying9 hi hz0 hz1 hz2 (.slice a2 (n + 2) c2) (n + 2) (cellsOf (ds ++ [x0, x1])) rfl (HO2.out) s rfl (by rw [HLS.out]; unfold maxLen; omega) (by rw [HLS.out]; omega) hs2 ?_; intro v3 w3 hown3 hgr3 hne3
       rw [HS.out] at hown3
       obtain ⟨g1, g2⟩ := own_grow (ds := ds ++ [x0, x1]) (es := bytesOf s) hown3 (by rw [HN2.out, HBL.out]) HOB2.out hgr3 G2.out hs2
       rw [List.append_assoc, ← HT.out] at g1
       obtain ⟨a3, c3, rfl⟩ := own_shape g1
       obtain ⟨M, hM⟩ : ∃ M, (ds ++ textL s).length = M := ⟨_, rfl⟩
       rw [hM] at g1 ⊢
       clear hM
       have G3 := Lib.hid g1
       have G4 := Lib.hid g2
       have G5 := Lib.hid (fun k cs (h : Box94 w k cs) => X3.out k cs (X2.out k cs h) _ hgr3)
       clear hown3 hgr3 hne3 g1 g2))
  go_ret
  exact ⟨_, rfl, G3.out, G4.out, G5.out⟩
def label1 (x : Lm.Lb) : List Nat := textL x.1 ++ textL x.2
def encL (l : List Lm.Lb) : List Nat := l.length % 256 :: l.flatMap label1
theorem placeB_lt {c k : Nat} (h : placeB c k = true) : k < 1024 := by
  unfold placeB at h
  rw [Bool.and_eq_true] at h
  exact of_decide_eq_true h.1
theorem nmA_small : ∀ (bs : List Nat) (k : Nat), k ≤ 1024 → nmA bs k ≤ 1024
  | [], k, h => h
  | c :: cs, k, h => by
    unfold nmA
    split
    · rename_i hp
      exact nmA_small cs (k + 1) (placeB_lt hp)
    · exact h
theorem nameB_size {s : ByteArray} (h : nameB s = true) : 1 ≤ s.size ∧ s.size ≤ 1024 := by
  unfold nameB at h
  rw [Bool.and_eq_true] at h
  have h1 := of_decide_eq_true h.1
  have h2 := of_decide_eq_true h.2
  have h3 := nmA_small (bytesOf s) 0 (by omega)
  unfold nmL at h2
  have h4 := bytesOf_length s
  have h5 : (bytesOf s).length ≠ 0 := fun e => h1 (List.eq_nil_of_length_eq_zero e)
  omega
theorem badB_size {x : Lm.Lb} (h : badB x = false) : x.1.size ≤ 1024 ∧ x.2.size ≤ 1024 := by
  unfold badB at h
  rw [Bool.or_eq_false_iff] at h
  have h1 : nameB x.1 = true := by simpa using h.1
  exact ⟨(nameB_size h1).2, by have := of_decide_eq_false h.2; omega⟩
theorem any_false {α : Type} {p : α → Bool} {l : List α} (h : l.any p = false) : ∀ x ∈ l, p x = false := fun x hx => by
  cases hp : p x with
  | false => rfl
  | true => rw [List.any_eq_true.2 ⟨x, hx, hp⟩] at h; cases h
theorem flat1_len (l : List Lm.Lb) (h : ∀ x ∈ l, x.1.size ≤ 1024 ∧ x.2.size ≤ 1024) : (l.flatMap label1).length ≤ 2052 * l.length := by
  induction l with
  | nil => simp
  | cons x l ih =>
    have h1 := h x List.mem_cons_self
    have h2 := ih fun y hy => h y (List.mem_cons_of_mem _ hy)
    rw [List.flatMap_cons, List.length_append, label1, List.length_append, textL_len, textL_len, List.length_cons]
    omega
/-- what Encode gives -/
def EncIs (l : List Lm.Lb) (c : Nat) (out : List Nat) : Prop := CheckIs l c ∧ ((c = 0 ∧ out = encL l) ∨ (c ≠ 0 ∧ out = []))
def EncPost (w : World) (l : List Lm.Lb) (e : Ending) (w' : World) : Prop := ∃ v c out, e = .returned (.tuple #[v, .int .u16 ((c : Nat) : Int)]) ∧ EncIs l c out ∧ Own w' w.heap.size v out ∧ (c ≠ 0 → v = .slice none 0 0) ∧ Below w.heap.size w w'
theorem checkis_ok {l : List Lm.Lb} (h : CheckIs l 0) : l.length ≤ 64 ∧ (∀ x ∈ l, badB x = false) ∧ (∀ x ∈ l, emptyB x = false) ∧ risesB l = true := by
  rcases h with ⟨_, h⟩ | ⟨_, _, h⟩ | ⟨h1, h2, h3⟩
  · cases h
  · cases h
  · rw [Bool.or_eq_false_iff] at h2
    rcases h3 with ⟨h4, _⟩ | ⟨_, _, _, _, h5⟩
    · exact ⟨h1, any_false h2.1, any_false h2.2, h4⟩
    · rcases h5 with ⟨_, h⟩ | ⟨_, h⟩ <;> cases h
theorem checkis_codes {l : List Lm.Lb} {c : Nat} (h : CheckIs l c) : c = 0 ∨ (70 ≤ c ∧ c ≤ 72) := by
  rcases h with ⟨_, h⟩ | ⟨_, _, h⟩ | ⟨h1, h2, h3⟩
  · omega
  · omega
  · rcases h3 with ⟨_, h⟩ | ⟨_, _, _, _, ⟨_, h⟩ | ⟨_, h⟩⟩ <;> omega
set_option maxRecDepth 100000 in
set_option maxHeartbeats 2000000 in
theorem encode_any (a : Option Addr) (cp : Nat) (l : List Lm.Lb) (w : World) (H : Labs w a l) (hz : l.length ≤ 4398046511104) : Calls Tryz.prog 40 #[.slice a l.length cp] w (EncPost w l) := by
  have CC := Lib.hid (check_any a cp l w H hz)
  have HL := Lib.hid H
  obtain ⟨n, hn⟩ : ∃ n, l.length = n := ⟨_, rfl⟩
  have HN := Lib.hid hn
  rw [hn] at CC ⊢
  clear H hz hn
  go_enter Tryz.func40, Tryz.ntmps40
  go_wp2_with fail
  refine CC.out.mono ?_
  rintro e w1 ⟨c, rfl, hc, hb⟩
  have B1 := Lib.hid hb
  clear hb
  by_cases h0 : c = 0
  · subst h0
    obtain ⟨h64, hbad, hemp, hris⟩ := checkis_ok hc
    have HC := Lib.hid hc
    have HSZ := Lib.hid (fun x hx => badB_size (hbad x hx))
    rw [HN.out] at h64
    have e1 : IntKind.u8.wrap (n : Int) = (n : Int) := by rw [IntKind.wrap_u8]; omega
    have HO1 := Lib.hid (Own.laid w1 [n] (by unfold maxLen; simp) w.heap.size B1.out.size)
    have HB2 := Lib.hid (B1.out.alloc B1.out.size (.cells (cellsOf [n]).toArray 5))
    clear hc hbad hemp hris CC
    have hn63 : n ≤ 64 := h64
    have HL1 := Lib.hid (show ∀ k, ((l.take k).flatMap label1).length ≤ 2052 * 64 from fun k => by
      have := flat1_len (l.take k) (fun x hx => HSZ.out x (List.mem_of_mem_take hx))
      have h2 : (l.take k).length ≤ 64 := by rw [List.length_take, HN.out]; omega
      omega)
    go_wp2
    go_loopw [5, 19] (fun b i wr => ∃ (k : Nat), k ≤ n ∧ i = .int .i64 k ∧ Hid (Own wr w.heap.size b (n :: (l.take k).flatMap label1)) ∧ Hid (Below w.heap.size w wr)) (fun _ i _ => (n - intOf i).toNat)
    case atStart => exact ⟨0, by omega, rfl, HO1, HB2⟩
    case round =>
      obtain ⟨k, hk, rfl, HO, HB⟩ := hrel
      obtain ⟨ao, co, rfl⟩ := own_shape HO.out
      obtain ⟨N, hN⟩ : ∃ N, (n :: (l.take k).flatMap label1).length = N := ⟨_, rfl⟩
      have HNN := Lib.hid hN
      rw [hN] at HO ⊢
      clear hN
      by_cases hkn : k < n
      · have da : decide ((k : Int) < (n : Int)) = true := decide_eq_true (by omega)
        have da2 : decide (k < n) = true := decide_eq_true hkn
        have hkl : k < l.length := by rw [HN.out]; exact hkn
        obtain ⟨b1, o1, rfl, hb1, hc1⟩ := (HL.out.below HB.out) (by intro e; rw [e] at hkl; simp at hkl)
        obtain ⟨p1, p2⟩ := hc1 k hkl
        obtain ⟨x, hx⟩ : ∃ x, l[k] = x := ⟨_, rfl⟩
        rw [hx] at p1 p2
        have hsz := HSZ.out x (by rw [← hx]; exact List.getElem_mem hkl)
        have HT := Lib.hid (show n :: (l.take (k + 1)).flatMap label1 = (n :: (l.take k).flatMap label1) ++ textL x.1 ++ textL x.2 by
          rw [List.take_succ_eq_append_getElem hkl, hx, List.flatMap_append]
          simp [label1])
        have hlen := HL1.out k
        have hNb : N ≤ 2052 * 64 + 1 := by rw [← HNN.out, List.length_cons]; omega
        have hwr := HB.out.size
        have hA : Below wr.heap.size wr (wr.alloc (.cells #[.string x.1, .string x.2] 94)) := (Below.refl _ wr).alloc (Nat.le_refl _) _
        have C1 := Lib.hid (appendtext_any w.heap.size (.slice ao N co) (n :: (l.take k).flatMap label1) x.1 (by omega) (by rw [List.length_cons]; omega) (wr.alloc (.cells #[.string x.1, .string x.2] 94)) (Nat.le_trans hwr hA.size) (HO.out.below hA))
        have hbx : Box94 (wr.alloc (.cells #[.string x.1, .string x.2] 94)) wr.heap.size #[.string x.1, .string x.2] := heap_alloc_new wr _
        have BA := Lib.hid (HB.out.trans (hA.mono hwr))
        have hwa : w.heap.size ≤ (wr.alloc (.cells #[.string x.1, .string x.2] 94)).heap.size := BA.out.size
        clear hx hc1 hA
        go_wp2_with fail
        refine C1.out.mono ?_
        rintro e w2 ⟨v2, rfl, ho, hb, hx2⟩
        have y2 : w2.cell? ⟨wr.heap.size, 1, none⟩ = some (.string x.2) := by rw [cell_of_row _ _ _ _ _ _ (hx2 _ _ hbx)]; rfl
        have hw2 : w.heap.size ≤ w2.heap.size := Nat.le_trans hwa hb.size
        have B2 := Lib.hid (BA.out.trans hb)
        have C2 := Lib.hid (appendtext_any w.heap.size v2 _ x.2 (by omega) (by rw [List.length_append, List.length_cons, textL_len]; omega) w2 hw2 ho)
        obtain ⟨a2, c2, rfl⟩ := own_shape ho
        obtain ⟨M, hM⟩ : ∃ M, ((n :: (l.take k).flatMap label1) ++ textL x.1).length = M := ⟨_, rfl⟩
        rw [hM] at C2 ⊢
        clear ho hb hx2 hbx hM
        go_wp2_with fail
        refine C2.out.mono ?_
        rintro e w3 ⟨v3, rfl, ho, hb, _⟩
        rw [← HT.out] at ho
        have O3 := Lib.hid ho
        have B3 := Lib.hid (B2.out.trans hb)
        obtain ⟨a3, c3, rfl⟩ := own_shape ho
        obtain ⟨M3, hM3⟩ : ∃ M, (n :: (l.take (k + 1)).flatMap label1).length = M := ⟨_, rfl⟩
        rw [hM3] at O3 ⊢
        clear ho hb hM3
        go_wp2
        go_roundw
        case rel => exact ⟨k + 1, by omega, by simp, O3, B3⟩
        case measure => simp [intOf]; omega
      · have hkn2 : k = n := by omega
        subst hkn2
        have da : decide ((k : Int) < (k : Int)) = false := decide_eq_false (by omega)
        have da2 : decide (k < k) = false := decide_eq_false (by omega)
        have HF := Lib.hid (show k :: (l.take k).flatMap label1 = encL l by
          unfold encL
          have : l.take k = l := by rw [← HN.out]; exact List.take_length
          rw [this, HN.out, Nat.mod_eq_of_lt (by omega)])
        rw [HF.out] at HO
        go_wp2
        go_ret2
        exact ⟨_, 0, encL l, rfl, ⟨HC.out, .inl ⟨rfl, rfl⟩⟩, HO.out, fun h => absurd rfl h, HB.out⟩
  · have d1 : ((c : Int) == 0) = false := by simp; omega
    have d2 : ¬ ((c : Int) = 0) := by omega
    have d3 : ¬ (c = 0) := h0
    have HC := Lib.hid hc
    clear hc
    go_wp2
    go_ret2
    exact ⟨_, c, [], rfl, ⟨HC.out, .inr ⟨h0, rfl⟩⟩, Own.nil _ _, fun _ => rfl, B1.out⟩
end Go.Proofs.YtiolghcjndoigaaGreatDoor
