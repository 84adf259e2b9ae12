/-
  THE WALK of 'puts': one call of both writers.
-/
import Derived.Test.YtimmlnfoabbbjaaRefD
import Derived.Test.YtimmlnfoabbbjaaLawB
namespace Go.Proofs.Ytimmlnfoabbbjaa
open Go.RowKit
/-- both writers have these bits; their memory is apart -/
structure Twin (w : World) (p d q h : Nat) (B : List Bool) : Prop where
  wr : Wr w p d B
  rf : Rf w q h B 0
  pq : p ≠ q
  ph : p ≠ h
  dq : d ≠ q
  dh : d ≠ h
/-- behind a call of both -/
def TwinPost (w : World) (p d q h : Nat) (B : List Bool) (w' : World) : Prop := ∃ d' h', Twin w' p d' q h' B ∧ (d' = d ∨ w.heap.size ≤ d') ∧ (h' = h ∨ w.heap.size ≤ h') ∧ Only [p, d, q, h] w w'
theorem Twin.below {w w' : World} {p d q h : Nat} {B : List Bool} (T : Twin w p d q h B) (hb : Below w.heap.size w w') : Twin w' p d q h B := ⟨T.wr.below hb, T.rf.below hb, T.pq, T.ph, T.dq, T.dh⟩
theorem Twin.first {w w1 : World} {p d q h : Nat} {B B1 : List Bool} (T : Twin w p d q h B) (h1 : PutPost w p d B1 w1) : Rf w1 q h B 0 := by
  obtain ⟨d', a, b, c⟩ := h1
  exact T.rf.only c (by have := T.pq; have := T.dq; simp; omega) (by have := T.ph; have := T.dh; simp; omega)
theorem Twin.second {w w1 w2 : World} {p d q h : Nat} {B B1 : List Bool} (T : Twin w p d q h B) (h1 : PutPost w p d B1 w1) (h2 : RfPost w1 q h B1 0 w2) : TwinPost w p d q h B1 w2 := by
  obtain ⟨d', a1, b1, c1⟩ := h1
  obtain ⟨h', a2, b2, c2⟩ := h2
  have s1 := c1.size
  have l1 := T.rf.lt
  have l2 := T.wr.lt
  have l3 := a1.lt
  have n1 := T.pq
  have n2 := T.ph
  have n3 := T.dq
  have n4 := T.dh
  have m1 : d' ≠ q := by rcases b1 with h | h <;> omega
  have m2 : d' ≠ h := by rcases b1 with h | h <;> omega
  refine ⟨d', h', ⟨a1.only c2 (by simp; omega) (by simp; omega), a2, n1, ?_, m1, ?_⟩, b1, ?_, ?_⟩
  · rcases b2 with h | h <;> omega
  · rcases b2 with h | h <;> omega
  · rcases b2 with h | h
    · exact .inl h
    · exact .inr (by omega)
  · exact (c1.mono (by simp)).trans c2 (by intro x hx; simp at hx ⊢; omega)
theorem box_stays {w w0 w1 : World} {p d : Nat} {a b c : Value} {B1 : List Bool} {o : Obj} (ho : o = .cells #[a, b, c] 68) (hw : w0 = w.alloc o) (hp : p < w.heap.size) (hd : d < w.heap.size) (h1 : PutPost w0 p d B1 w1) : w1.heap[w.heap.size]? = some (.cells #[a, b, c] 68 (0, 0)) := by
  subst hw ho
  obtain ⟨_, _, _, c1⟩ := h1
  exact (c1.block _ (by simp) (by simp; omega)).trans (heap_alloc_new _ _)
theorem box_keep {w0 w1 : World} {g p d : Nat} {x : Obj} {B1 : List Bool} (hw : w0.heap[g]? = some x) (hp : g ≠ p) (hd : g ≠ d) (h1 : PutPost w0 p d B1 w1) : w1.heap[g]? = some x := by
  obtain ⟨_, _, _, c1⟩ := h1
  exact (c1.block _ (Array.getElem?_eq_some_iff.1 hw).1 (by simp; omega)).trans hw
theorem box_stays2 {w0 w1 : World} {g p d at_ : Nat} {x : Obj} {B1 : List Bool} (hw : w0.heap[g]? = some x) (hp : g ≠ p) (hd : g ≠ d) (h1 : RfPost w0 p d B1 at_ w1) : w1.heap[g]? = some x := by
  obtain ⟨_, _, _, c1⟩ := h1
  exact (c1.block _ (Array.getElem?_eq_some_iff.1 hw).1 (by simp; omega)).trans hw
theorem cell3 {w : World} {g : Nat} {a b c : Value} {t : TypeId} (hg : w.heap[g]? = some (.cells #[a, b, c] t (0, 0))) : w.cell? ⟨g, 0, none⟩ = some a ∧ w.cell? ⟨g, 1, none⟩ = some b ∧ w.cell? ⟨g, 2, none⟩ = some c :=
  ⟨by rw [cell_of_row _ _ _ _ _ _ hg]; rfl, by rw [cell_of_row _ _ _ _ _ _ hg]; rfl, by rw [cell_of_row _ _ _ _ _ _ hg]; rfl⟩
theorem TwinPost.of_alloc {w w' : World} {p d q h : Nat} {B : List Bool} {o : Obj} (T : TwinPost (w.alloc o) p d q h B w') : TwinPost w p d q h B w' := by
  obtain ⟨d', h', a, b, c, e⟩ := T
  have hs : w.heap.size ≤ (w.alloc o).heap.size := by simp
  exact ⟨d', h', a, b.imp id (Nat.le_trans hs), c.imp id (Nat.le_trans hs), ((Only.refl _ w).alloc o).trans e (fun _ hx => .inl hx)⟩
theorem TwinPost.of_drew {w w' : World} {p d q h : Nat} {B : List Bool} (T : TwinPost w.drew p d q h B w') : TwinPost w p d q h B w' := by
  obtain ⟨d', h', a, b, c, e⟩ := T
  exact ⟨d', h', a, b, c, ⟨e.os, e.tape, e.output, e.size, e.block⟩⟩
theorem TwinPost.refl {w : World} {p d q h : Nat} {B : List Bool} (T : Twin w p d q h B) : TwinPost w p d q h B w := ⟨d, h, T, .inl rfl, .inl rfl, Only.refl _ _⟩
set_option maxRecDepth 100000 in
set_option maxHeartbeats 1000000 in
theorem puts_any (p d q h : Nat) (B : List Bool) (o : Call3) (hf : Call3.fits o) (w : World) (T : Twin w p d q h B) (hB : B.length + 80 ≤ 1000000000) :
    Calls Try.prog 9 #[.pointer (some ⟨p, 0, none⟩), .pointer (some ⟨q, 0, none⟩), .agg #[.int .u8 (o.1 : Nat), .int .u64 (o.2.1 : Nat), .int .i64 o.2.2]] w fun e w' => e = .returned (.bool true) ∧ TwinPost w p d q h (B ++ enc1 o) w' := by
  obtain ⟨kd, v, n⟩ := o
  obtain ⟨hf1, hf2, hf3, hf4⟩ := hf
  simp only at hf1 hf2 hf3 hf4 ⊢
  have hpl := T.wr.lt
  have hql := T.rf.lt
  have HT := Lib.hid (T.below ((Below.refl _ _).alloc (Nat.le_refl _) (.cells #[.int .u8 (kd : Nat), .int .u64 (v : Nat), .int .i64 n] 68)))
  clear T
  have hkk : kd % 4 = 0 ∨ kd % 4 = 1 ∨ kd % 4 = 2 ∨ kd % 4 = 3 := by omega
  rcases hkk with hkk | hkk | hkk | hkk
  · have q0 : ((kd : Int) % 4 == 0) = true := by simp; omega
    have he : enc1 (kd, v, n) = [v % 2 == 1] := by rw [enc1, if_pos hkk]
    have HE := Lib.hid he
    clear hkk he
    go_enter Try.func9, Try.ntmps9
    go_wp2_with fail
    rw [bit_spell]
    refine (wbit_any p d B (v % 2 == 1) _ HT.out.wr (by omega)).mono ?_
    rintro e w1 ⟨rfl, hpp⟩
    have HP := Lib.hid hpp
    have hbx := box_stays rfl rfl hpl.1 hpl.2 hpp
    obtain ⟨m0, m1, m2⟩ := cell3 hbx
    clear hpp hbx
    go_wp2_with fail
    rw [bit_spell]
    refine (fbit_any q h B 0 (v % 2 == 1) _ (HT.out.first HP.out) (by omega)).mono ?_
    rintro e w2 ⟨rfl, hrr⟩
    have HN := Lib.hid (TwinPost.of_alloc (HT.out.second HP.out hrr))
    clear hrr
    go_wp2
    go_ret
    exact ⟨rfl, by rw [HE.out]; exact HN.out⟩
  · have q0 : ((kd : Int) % 4 == 0) = false := by simp; omega
    have q1 : ((kd : Int) % 4 == 1) = true := by simp; omega
    have he : enc1 (kd, v, n) = (if n < 0 ∨ 64 < n then [] else Bt.top v n.toNat) := by rw [enc1, if_neg (by simp only; omega), if_pos hkk]
    obtain ⟨W0, hW0⟩ : ∃ W0, (w.alloc (.cells #[.int .u8 (kd : Nat), .int .u64 (v : Nat), .int .i64 n] 68)).drew = W0 := ⟨_, rfl⟩
    have HTD := Lib.hid (show Twin W0 p d q h B by rw [← hW0]; exact HT.out.below ((Below.refl _ _).drew))
    have hbx0 : W0.heap[w.heap.size]? = some (.cells #[.int .u8 (kd : Nat), .int .u64 (v : Nat), .int .i64 n] 68 (0, 0)) := by rw [← hW0]; exact heap_alloc_new _ _
    have HBX := Lib.hid hbx0
    have HW0 := Lib.hid hW0
    obtain ⟨_, b1, b2⟩ := cell3 hbx0
    clear hkk hbx0 hW0
    by_cases hn : n < 0 ∨ 64 < n
    · rw [if_pos hn] at he
      have HE := Lib.hid he
      have HN := Lib.hid hn
      clear he hn
      go_enter Try.func9, Try.ntmps9
      go_wp2_with fail
      go_region_held3 (fun w' => w'.cell? ⟨w.heap.size, 1, none⟩ = some (.int .u64 (v : Nat)) ∧ w'.cell? ⟨w.heap.size, 2, none⟩ = some (.int .i64 n)) ((first | (rw [HW0.out]; exact ⟨b1, b2⟩) | exact ⟨b1, b2⟩))
        ((first
          | (go_at_call 31; rw [HW0.out]; refine (wbits_bad p v n HN.out _).mono ?_; rintro e w1 ⟨rfl, hww⟩; subst hww)
          | (go_at_call 35; refine (fbits_bad q v n HN.out _).mono ?_; rintro e w2 ⟨rfl, hww⟩; subst hww)))
      all_goals
        go_wp2
        go_ret
        refine ⟨rfl, ?_⟩
        rw [HE.out, List.append_nil]
        exact TwinPost.of_alloc (TwinPost.of_drew (by rw [HW0.out]; exact TwinPost.refl HTD.out))
    · obtain ⟨m, rfl⟩ := Int.eq_ofNat_of_zero_le (a := n) (by omega)
      rw [if_neg hn, Int.toNat_natCast] at he
      have hm : m ≤ 64 := by omega
      have HE := Lib.hid he
      clear he hn
      go_enter Try.func9, Try.ntmps9
      go_wp2_with fail
      go_region_held3 (fun w' => w'.cell? ⟨w.heap.size, 1, none⟩ = some (.int .u64 (v : Nat)) ∧ w'.cell? ⟨w.heap.size, 2, none⟩ = some (.int .i64 (m : Nat))) ((first | (rw [HW0.out]; exact ⟨b1, b2⟩) | exact ⟨m1, m2⟩ | exact ⟨x1, x2⟩))
        ((first
          | (go_at_call 31; rw [HW0.out]; refine (wbits_good p d B v m hm _ HTD.out.wr (by omega)).mono ?_; rintro e w1 ⟨rfl, hpp⟩; have HP := Lib.hid hpp; obtain ⟨_, m1, m2⟩ := cell3 (box_keep HBX.out (by omega) (by omega) hpp); clear hpp)
          | (go_at_call 35; refine (fbits_good q h B 0 v m hf2 hm _ (HTD.out.first HP.out) (by omega)).mono ?_; rintro e w2 ⟨rfl, hrr⟩; have HR := Lib.hid hrr; obtain ⟨_, x1, x2⟩ := cell3 (box_stays2 (box_keep HBX.out (by omega) (by omega) HP.out) (by omega) (by omega) hrr); clear hrr)))
      all_goals
        have HN := Lib.hid (HTD.out.second HP.out HR.out)
        go_wp2
        go_ret
        refine ⟨rfl, ?_⟩
        rw [HE.out]
        exact TwinPost.of_alloc (TwinPost.of_drew (by rw [HW0.out]; exact HN.out))
  · have q0 : ((kd : Int) % 4 == 0) = false := by simp; omega
    have q1 : ((kd : Int) % 4 == 1) = false := by simp; omega
    have q2 : ((kd : Int) % 4 == 2) = true := by simp; omega
    have he : enc1 (kd, v, n) = Bt.vb v := by rw [enc1, if_neg (by simp only; omega), if_neg (by simp only; omega), if_pos hkk]
    have HE := Lib.hid he
    clear hkk he
    go_enter Try.func9, Try.ntmps9
    go_wp2_with fail
    refine (wvarint_any p d B v hf2 _ HT.out.wr hB).mono ?_
    rintro e w1 ⟨rfl, hpp⟩
    have HP := Lib.hid hpp
    have hbx := box_stays rfl rfl hpl.1 hpl.2 hpp
    obtain ⟨m0, m1, m2⟩ := cell3 hbx
    clear hpp hbx
    go_wp2_with fail
    refine (fputvar_any q h B 0 v hf2 _ (HT.out.first HP.out) hB).mono ?_
    rintro e w2 ⟨rfl, hrr⟩
    have HN := Lib.hid (TwinPost.of_alloc (HT.out.second HP.out hrr))
    clear hrr
    go_wp2
    go_ret
    exact ⟨rfl, by rw [HE.out]; exact HN.out⟩
  · have q0 : ((kd : Int) % 4 == 0) = false := by simp; omega
    have q1 : ((kd : Int) % 4 == 1) = false := by simp; omega
    have q2 : ((kd : Int) % 4 == 2) = false := by simp; omega
    have he : enc1 (kd, v, n) = Bt.vb (Bt.zz (sgn v)) := by rw [enc1, if_neg (by simp only; omega), if_neg (by simp only; omega), if_neg (by simp only; omega)]
    have HE := Lib.hid he
    clear hkk he
    go_enter Try.func9, Try.ntmps9
    go_wp2_with fail
    rw [sgn_spell v hf2]
    refine (wsigned_any p d B (sgn v) (sgn_bd v hf2).1 (sgn_bd v hf2).2 _ HT.out.wr hB).mono ?_
    rintro e w1 ⟨rfl, hpp⟩
    have HP := Lib.hid hpp
    have hbx := box_stays rfl rfl hpl.1 hpl.2 hpp
    obtain ⟨m0, m1, m2⟩ := cell3 hbx
    clear hpp hbx
    go_wp2_with fail
    rw [sgn_spell v hf2]
    refine (fputsgn_any q h B 0 (sgn v) (sgn_bd v hf2).1 (sgn_bd v hf2).2 _ (HT.out.first HP.out) hB).mono ?_
    rintro e w2 ⟨rfl, hrr⟩
    have HN := Lib.hid (TwinPost.of_alloc (HT.out.second HP.out hrr))
    clear hrr
    go_wp2
    go_ret
    exact ⟨rfl, by rw [HE.out]; exact HN.out⟩
end Go.Proofs.Ytimmlnfoabbbjaa
