/-
  MATHEMATICS of texts: cutting at a byte, taking one out, numerals; WALKS: FormatFloat, the code's shortest digits.
-/
import Derived.Test.YthhlhiighgnkmaaGreatDoorSwI
import Derived.Test.YthhlhiighgnkmaaGreatDoorShelfC
import Derived.Test.YthhlhiighgnkmaaGreatDoorTwB
import Derived.Test.YthhlhiighgnkmaaGreatDoorMaX
namespace Go.Proofs.YthhlhiighgnkmaaGreatDoor
set_option linter.unusedVariables false
set_option linter.unusedSimpArgs false
open Go.RowKit Go.PlainAid
theorem strOf_data (l : List Nat) : (strOf l).data.toList = l.map UInt8.ofNat := by simp [strOf]
theorem strOf_extract (bs : List Nat) (p q : Nat) (h : p ≤ q) (hq : q ≤ bs.length) : (strOf bs).extract p q = strOf ((bs.drop p).take (q - p)) := by
  have := extract_strOf bs ((bs.drop p).take (q - p)) p (q - p) (by rw [List.length_take, List.length_drop]; omega) (fun k c hc => by
    have hk : k < q - p := by
      have := (List.getElem?_eq_some_iff.1 hc).1
      rw [List.length_take] at this; omega
    rw [List.getElem?_take_of_lt hk, List.getElem?_drop] at hc
    exact hc)
  rw [show p + (q - p) = q by omega] at this
  exact this
theorem index_one (e : UInt8) : ∀ (a b : List UInt8), (∀ c ∈ a, c ≠ e) → Lib.index (a ++ e :: b) [e] = (a.length : Int) := by
  intro a
  induction a with
  | nil => intro b _; simp [Lib.index]
  | cons d a ih =>
    intro b h
    have hd : d ≠ e := h d (List.mem_cons_self ..)
    have h2 := ih b (fun c hc => h c (List.mem_cons_of_mem _ hc))
    rw [List.cons_append, Lib.index, h2, if_neg (by simp [hd.symm]), if_neg (by simp)]
    simp
theorem index_none (e : UInt8) : ∀ (a : List UInt8), (∀ c ∈ a, c ≠ e) → Lib.index a [e] = -1 := by
  intro a
  induction a with
  | nil => intro _; simp [Lib.index]
  | cons d a ih =>
    intro h
    have hd : d ≠ e := h d (List.mem_cons_self ..)
    rw [Lib.index, ih (fun c hc => h c (List.mem_cons_of_mem _ hc)), if_neg (by simp [hd.symm])]
    simp
theorem cut_one (e : UInt8) (a b : List UInt8) (h : ∀ c ∈ a, c ≠ e) : Lib.cut (a ++ e :: b) [e] = (a, b, true) := by
  unfold Lib.cut
  rw [index_one e a b h, if_pos (by omega), Int.toNat_natCast, List.take_left]
  simp
theorem replace_none (e : UInt8) (a : List UInt8) (h : ∀ c ∈ a, c ≠ e) : Lib.replace a [e] [] 1 = a := by
  have hc : Lib.count a [e] = 0 := by
    unfold Lib.count
    rw [Lib.countFrom, index_none e a h]; rfl
  unfold Lib.replace Lib.replaceNum
  rw [hc]
  simp [Lib.replaceK]
theorem replace_one (e : UInt8) (a b : List UInt8) (h : ∀ c ∈ a, c ≠ e) : Lib.replace (a ++ e :: b) [e] [] 1 = a ++ b := by
  have hi := index_one e a b h
  have hc : 1 ≤ Lib.count (a ++ e :: b) [e] := by
    unfold Lib.count
    rw [Lib.countFrom, hi, if_neg (by simp)]
    omega
  unfold Lib.replace Lib.replaceNum
  rw [if_neg (by simp), if_neg (by omega), show (1 : Int).toNat = 1 from rfl, Lib.replaceK, hi, if_neg (by simp), Int.toNat_natCast, List.take_left, Lib.replaceK]
  simp
theorem expL_len (x : Nat) : (expL x).length ≤ 3 := by unfold expL; split; simp; split <;> simp
theorem expL_byte (x : Nat) (hx : x < 1000) : ∀ c ∈ expL x, 48 ≤ c ∧ c ≤ 57 := by
  unfold expL
  split
  · intro c hc; simp at hc; omega
  · split
    · intro c hc; simp at hc; omega
    · intro c hc; simp at hc; omega
set_option maxRecDepth 100000 in
theorem atoi_exp : ∀ x : Fin 1000, Lib.atoiAll ((43 :: expL x.val).map UInt8.ofNat) = .ok (x.val : Int) ∧ Lib.atoiAll ((45 :: expL x.val).map UInt8.ofNat) = .ok (-(x.val : Int)) := by decide +kernel
/-- the text of Go's e form -/
def mantT (c : Nat) (tl : List Nat) : List Nat := if tl = [] then [c] else c :: 46 :: tl
def sgnT (neg : Bool) : Nat := if neg then 45 else 43
theorem eText_cut (c : Nat) (tl : List Nat) (neg : Bool) (x : Nat) : eText c tl neg x = mantT c tl ++ 101 :: (sgnT neg :: expL x) := by
  unfold eText mantT sgnT; simp
theorem u8_ne {a b : Nat} (ha : a < 256) (hb : b < 256) (h : a ≠ b) : UInt8.ofNat a ≠ UInt8.ofNat b := by
  intro e
  have := congrArg UInt8.toNat e
  rw [UInt8.toNat_ofNat', UInt8.toNat_ofNat', Nat.mod_eq_of_lt ha, Nat.mod_eq_of_lt hb] at this
  exact h this
theorem map_ne {l : List Nat} {e : Nat} (he : e < 256) (h : ∀ c ∈ l, c < 256 ∧ c ≠ e) : ∀ c ∈ l.map UInt8.ofNat, c ≠ UInt8.ofNat e := by
  intro c hc
  obtain ⟨d, hd, rfl⟩ := List.mem_map.1 hc
  exact u8_ne (h d hd).1 he (h d hd).2
theorem mantT_byte {c : Nat} {tl : List Nat} (h : Nr.Digs (c :: tl)) : ∀ d ∈ mantT c tl, d < 256 ∧ d ≠ 101 := by
  have hc := h c (List.mem_cons_self ..)
  unfold mantT
  split
  · intro d hd; simp at hd; omega
  · intro d hd
    rcases List.mem_cons.1 hd with rfl | hd
    · omega
    · rcases List.mem_cons.1 hd with rfl | hd
      · omega
      · have := h d (List.mem_cons_of_mem _ hd); omega
theorem mantT_out {c : Nat} {tl : List Nat} (h : Nr.Digs (c :: tl)) : Lib.replace ((mantT c tl).map UInt8.ofNat) [46] [] 1 = (c :: tl).map UInt8.ofNat := by
  have hc := h c (List.mem_cons_self ..)
  have hn : UInt8.ofNat c ≠ 46 := u8_ne (b := 46) (by omega) (by decide) (by omega)
  unfold mantT
  split
  · rename_i h0
    rw [h0]
    exact replace_none 46 _ (fun d hd => by simp at hd; rw [hd]; exact hn)
  · have := replace_one 46 [UInt8.ofNat c] (tl.map UInt8.ofNat) (fun d hd => by simp at hd; rw [hd]; exact hn)
    exact this
theorem eText_len {c : Nat} {tl : List Nat} (neg : Bool) (x : Nat) (ht : tl.length ≤ 17) : (eText c tl neg x).length ≤ 24 := by
  have := expL_len x
  rw [eText_cut, List.length_append, List.length_cons, List.length_cons]
  unfold mantT
  split
  · simp; omega
  · simp; omega
theorem eText_isB {c : Nat} {tl : List Nat} {neg : Bool} {x : Nat} (h : Nr.Digs (c :: tl)) (hx : x < 1000) : IsB (eText c tl neg x) := by
  rw [eText_cut]
  refine IsB.app (fun d hd => (mantT_byte h d hd).1) (IsB.cons (by decide) (IsB.cons (by unfold sgnT; split <;> decide) (fun d hd => ?_)))
  have := expL_byte x hx d hd; omega
/-- what of a number is told -/
structure TellN (M sh y : Nat) (k : Int) (c x : Nat) (tl : List Nat) (neg : Bool) : Prop where
  hn : Nr.Norm M sh
  hM : 1 ≤ M
  hsh : sh ≤ 2045
  ht : Nr.Told M sh y k
  hct : Nr.dd y = c :: tl
  hkx : k - 1 = if neg then -(x : Int) else (x : Int)
  hneg : neg = true → 1 ≤ x
theorem TellN.digs {M sh y : Nat} {k : Int} {c x : Nat} {tl : List Nat} {neg : Bool} (h : TellN M sh y k c x tl neg) : Nr.Digs (c :: tl) := by
  rw [← h.hct]; exact Nr.dd_digs y y (Nat.le_refl _)
theorem TellN.len {M sh y : Nat} {k : Int} {c x : Nat} {tl : List Nat} {neg : Bool} (h : TellN M sh y k c x tl neg) : tl.length ≤ 17 := by
  have := h.ht.len; rw [h.hct, List.length_cons] at this; omega
theorem TellN.xlt {M sh y : Nat} {k : Int} {c x : Nat} {tl : List Nat} {neg : Bool} (h : TellN M sh y k c x tl neg) : x < 1000 := by
  have h1 := h.ht.k1; have h2 := h.ht.k2; have h3 := h.hkx
  cases neg
  · rw [if_neg (by decide)] at h3; omega
  · rw [if_pos rfl] at h3; omega
theorem tellN_of {M sh y : Nat} {k : Int} (hn : Nr.Norm M sh) (hM : 1 ≤ M) (hsh : sh ≤ 2045) (ht : Nr.Told M sh y k) : ∃ c x tl neg, TellN M sh y k c x tl neg := by
  obtain ⟨c, tl, h, _⟩ := Nr.dd_head y y (Nat.le_refl _) ht.pos
  by_cases hk : k - 1 < 0
  · exact ⟨c, (1 - k).toNat, tl, true, hn, hM, hsh, ht, h, by rw [if_pos rfl]; omega, fun _ => by omega⟩
  · exact ⟨c, (k - 1).toNat, tl, false, hn, hM, hsh, ht, h, by rw [if_neg (by decide)]; omega, fun h => by cases h⟩
set_option maxRecDepth 100000 in
set_option maxHeartbeats 1000000 in
theorem format_any (m : Int) (M sh y : Nat) (k : Int) (c x : Nat) (tl : List Nat) (neg : Bool) (w : World) (T : Tabs w m) (H : TellN M sh y k c x tl neg) :
    Calls Tryz.prog 119 #[.float .f64 (sh * 2 ^ 52 + M), .int .u8 101, .int .i64 (-1), .int .i64 64] w (Gives w (.string (strOf (eText c tl neg x)))) := by
  obtain ⟨i0, hi, hz0, hz1, hz2⟩ := info_parts info5
  have CF := Lib.hid (fun g w1 hB hg T => ftoa_any g m M sh y k c x tl neg w1 hB hg T H.hn H.hM H.hsh H.ht H.hct H.hkx H.hneg)
  have HIB := Lib.hid (eText_isB (neg := neg) H.digs H.xlt)
  have HT := Lib.hid T
  have hmax : max (3 : Int) 24 = 24 := by decide
  obtain ⟨D, hD⟩ : ∃ D, eText c tl neg x = D := ⟨_, rfl⟩
  rw [hD] at CF HIB ⊢
  obtain ⟨A, hA⟩ : ∃ A, sh * 2 ^ 52 + M = A := ⟨_, rfl⟩
  rw [hA] at CF ⊢
  clear T H hD hA
  go_enter Tryz.func119, Tryz.ntmps119
  go_wp2_with (refine wpList_make_own _ rfl (.const (.int .i64 0)) (.tmp 25) 87 rfl w.heap.size 5 i0 (.int .u8 0) 1 Tryz.underlying87 hi hz0 hz1 .i64 .i64 24 24 rfl rfl rfl (by rw [hz2]; decide) (by decide) (Nat.le_refl _) ?_; intro w1 hown hgr; have O1 := Lib.hid (show Buf w1 w.heap.size [] from hown); have B1 := Lib.hid ((Below.refl w.heap.size w).grown hgr (Nat.le_refl _) (fun k hk => by cases hk)); clear hown hgr)
  refine (CF.out w.heap.size _ O1.out (own_lt (show Own w1 w.heap.size (.slice (some ⟨w.heap.size, 0, none⟩) 0 24) [] from O1.out) w.heap.size rfl) (HT.out.below B1.out (by have := HT.out.size; omega))).mono ?_
  rintro e w2 ⟨rfl, ho, hb⟩
  have hcv := conv_own (show Own w2 w.heap.size (.slice (some ⟨w.heap.size, 0, none⟩) D.length 24) D from ho) HIB.out
  have B2 := Lib.hid (B1.out.trans hb)
  clear ho hb
  go_wp2
  go_ret
  exact ⟨rfl, B2.out⟩
theorem format70_any (m : Int) (M sh y : Nat) (k : Int) (c x : Nat) (tl : List Nat) (neg : Bool) (w : World) (T : Tabs w m) (H : TellN M sh y k c x tl neg) :
    Calls Tryz.prog 70 #[.float .f64 (sh * 2 ^ 52 + M), .int .u8 101, .int .i64 (-1), .int .i64 64] w (Gives w (.string (strOf (eText c tl neg x)))) := by
  have CF := Lib.hid (format_any m M sh y k c x tl neg w T H)
  obtain ⟨S, hS⟩ : ∃ S, strOf (eText c tl neg x) = S := ⟨_, rfl⟩
  obtain ⟨A, hA⟩ : ∃ A, sh * 2 ^ 52 + M = A := ⟨_, rfl⟩
  rw [hS, hA] at CF
  rw [hS, hA]
  clear hS hA T H
  go_enter Tryz.func70, Tryz.ntmps70
  go_wp2_with fail
  refine CF.out.mono ?_
  rintro e w2 ⟨rfl, hb⟩
  have B2 := Lib.hid hb
  clear hb
  go_wp2
  go_ret
  exact ⟨rfl, B2.out⟩
set_option maxRecDepth 100000 in
set_option maxHeartbeats 1000000 in
theorem short34_any (m : Int) (M sh y : Nat) (k : Int) (c x : Nat) (tl : List Nat) (neg : Bool) (w : World) (T : Tabs w m) (H : TellN M sh y k c x tl neg) :
    Calls Tryz.prog 34 #[.int .u64 ((sh * 2 ^ 52 + M : Nat) : Int)] w (Gives w (.tuple #[.string (strOf (c :: tl)), .int .i64 k])) := by
  have hdg := H.digs
  have hln := H.len
  have hxl := H.xlt
  have hkx := H.hkx
  have hk1 := H.ht.k1
  have hk2 := H.ht.k2
  have CF := Lib.hid (format70_any m M sh y k c x tl neg w T H)
  have hcut : Lib.cut (strOf (eText c tl neg x)).data.toList (ByteArray.mk #[101]).data.toList = ((mantT c tl).map UInt8.ofNat, (sgnT neg :: expL x).map UInt8.ofNat, true) := by
    rw [strOf_data, eText_cut, List.map_append, List.map_cons]
    exact cut_one 101 _ _ (map_ne (e := 101) (by decide) (mantT_byte hdg))
  have CC := Lib.hid (fun w1 (T : Tabs w1 m) => Tryz.strings_Cut (strOf (eText c tl neg x)) { data := #[101] } m w1 (by rw [strOf_size]; have := eText_len (c := c) neg x hln; omega) T.max)
  rw [hcut] at CC
  have hat : Lib.atoiAll ((sgnT neg :: expL x).map UInt8.ofNat) = .ok (k - 1) := by
    have := atoi_exp ⟨x, hxl⟩
    unfold sgnT
    cases neg
    · rw [if_neg (by decide)] at hkx; rw [if_neg (by decide), hkx]; exact this.1
    · rw [if_pos rfl] at hkx; rw [if_pos rfl, hkx]; exact this.2
  have CA := Lib.hid (fun w1 => Tryz.strconv_Atoi_ok ⟨((sgnT neg :: expL x).map UInt8.ofNat).toArray⟩ (by have := expL_len x; simp [ByteArray.size]; omega) (k - 1) (by simpa using hat) w1)
  have hrep : Lib.replace (ByteArray.mk ((mantT c tl).map UInt8.ofNat).toArray).data.toList (ByteArray.mk #[46]).data.toList (ByteArray.mk #[]).data.toList 1 = (c :: tl).map UInt8.ofNat := by
    show Lib.replace ((mantT c tl).map UInt8.ofNat).toArray.toList [46] [] 1 = _
    rw [List.toList_toArray]; exact mantT_out hdg
  have CR := Lib.hid (fun w1 (T : Tabs w1 m) => Tryz.strings_Replace ⟨((mantT c tl).map UInt8.ofNat).toArray⟩ { data := #[46] } { data := #[] } 1 m w1 (by
      have h1 : (mantT c tl).length ≤ 20 := by unfold mantT; split <;> simp <;> omega
      simp [ByteArray.size]; omega) T.max (by decide) (by
      have h1 : (mantT c tl).length ≤ 20 := by unfold mantT; split <;> simp <;> omega
      rw [show (ByteArray.mk #[]).size = 0 from rfl, Nat.mul_zero]
      simp [ByteArray.size]; omega))
  rw [hrep] at CR
  have HT := Lib.hid T
  have ew : IntKind.i64.wrap k = k := by rw [IntKind.wrap_i64]; omega
  have h68 : ∀ w, (callFunc 68 #[.int .u64 ((sh * 2 ^ 52 + M : Nat) : Int)]).run Tryz.prog w = .ok (.value (.float .f64 (sh * 2 ^ 52 + M))) w := fun w => from68 _ w
  obtain ⟨S, hS⟩ : ∃ S, strOf (eText c tl neg x) = S := ⟨_, rfl⟩
  rw [hS] at CF CC
  obtain ⟨A, hA⟩ : ∃ A, sh * 2 ^ 52 + M = A := ⟨_, rfl⟩
  rw [hA] at CF h68 ⊢
  obtain ⟨S1, hS1⟩ : ∃ S1, ByteArray.mk ((mantT c tl).map UInt8.ofNat).toArray = S1 := ⟨_, rfl⟩
  obtain ⟨S2, hS2⟩ : ∃ S2, ByteArray.mk ((sgnT neg :: expL x).map UInt8.ofNat).toArray = S2 := ⟨_, rfl⟩
  obtain ⟨S3, hS3⟩ : ∃ S3, ByteArray.mk ((c :: tl).map UInt8.ofNat).toArray = S3 := ⟨_, rfl⟩
  rw [hS1] at CC CR
  rw [hS2] at CC CA
  rw [show strOf (c :: tl) = S3 from hS3]
  rw [hS3] at CR
  clear hS hA hS1 hS2 hS3 hat hcut hrep T H hdg hln hxl hkx hk1 hk2
  go_enter Tryz.func34, Tryz.ntmps34
  go_wp2_with fail
  refine CF.out.mono ?_
  rintro e w2 ⟨rfl, hb⟩
  have B2 := Lib.hid hb
  have T2 := Lib.hid (HT.out.below hb (by have := HT.out.size; omega))
  clear hb
  go_wp2_with fail
  refine (CC.out w2 T2.out).mono ?_
  rintro e w3 ⟨rfl, n3, rfl⟩
  go_wp2_with fail
  refine (CA.out _).mono ?_
  rintro e w4 ⟨rfl, hw4⟩
  have B4 := Lib.hid (show Below (w2.drewN n3).heap.size (w2.drewN n3) w4 by
    rcases hw4 with rfl | ⟨t, rfl⟩
    · exact Below.refl _ _
    · exact Lib.bytesWorld_below _ 5 t)
  have T4 := Lib.hid (T2.out.below (w' := w4) (B := w2.heap.size) ((below_drewN (Below.refl w2.heap.size w2) n3).trans B4.out) (by have := T2.out.size; omega))
  have B5 := Lib.hid ((below_drewN B2.out n3).trans (B4.out.mono (B2.out.size)))
  clear hw4
  go_wp2_with fail
  refine (CR.out w4 T4.out).mono ?_
  rintro e w5 ⟨rfl, hb⟩
  have B6 := Lib.hid (B5.out.trans (hb.mono B5.out.size))
  clear hb
  go_wp2
  go_ret2
  exact ⟨rfl, B6.out⟩
end Go.Proofs.YthhlhiighgnkmaaGreatDoor
