/-
  WALKS of the document's own answers: Bit, Bits, Left, Read.
-/
import Derived.Test.YtimmlnfoabbbjaaOpen
namespace Go.Proofs.Ytimmlnfoabbbjaa
open Go.RowKit
/-- bits, one a byte -/
def flat (B : List Bool) : List Nat := B.map Bool.toNat
theorem flat_length (B : List Bool) : (flat B).length = B.length := by simp [flat]
theorem flat_append (A B : List Bool) : flat (A ++ B) = flat A ++ flat B := by simp [flat]
theorem flat_lt (B : List Bool) : ∀ c ∈ flat B, c < 256 := by
  intro c hc
  obtain ⟨b, _, rfl⟩ := List.mem_map.1 hc
  cases b <;> decide
/-- the document's own bits: the struct's block, its list's block, its bits, its place -/
def Rf (w : World) (p g : Nat) (B : List Bool) (at_ : Nat) : Prop :=
  ∃ v, w.heap[p]? = some (.cells #[v, .int .i64 (at_ : Nat)] 29 (0, 0)) ∧ Row w g v (flat B) ∧ (v.ownBlock = none ∨ g ≠ p) ∧ g < w.heap.size
theorem Rf.lt {w : World} {p g : Nat} {B : List Bool} {at_ : Nat} (h : Rf w p g B at_) : p < w.heap.size ∧ g < w.heap.size := by
  obtain ⟨v, hp, _, _, hd⟩ := h
  exact ⟨(Array.getElem?_eq_some_iff.1 hp).1, hd⟩
theorem Rf.only {w w' : World} {p g : Nat} {B : List Bool} {at_ : Nat} (h : Rf w p g B at_) {S : List Nat} (ho : Only S w w') (hp : p ∉ S) (hg : g ∉ S) : Rf w' p g B at_ := by
  obtain ⟨v, h1, h2, h3, h4⟩ := h
  exact ⟨v, (ho.block p (Array.getElem?_eq_some_iff.1 h1).1 hp).trans h1, h2.only ho hg, h3, Nat.lt_of_lt_of_le h4 ho.size⟩
theorem Rf.below {w w' : World} {p g : Nat} {B : List Bool} {at_ : Nat} (h : Rf w p g B at_) (ho : Below w.heap.size w w') : Rf w' p g B at_ := h.only (Only.of_below ho []) (by simp) (by simp)
theorem rf_slice {w : World} {p g : Nat} {B : List Bool} {at_ : Nat} (h : Rf w p g B at_) : ∃ a cap, w.cell? ⟨p, 0, none⟩ = some (.slice a B.length cap) ∧ w.cell? ⟨p, 1, none⟩ = some (.int .i64 (at_ : Nat)) ∧ w.frozen? ⟨p, 0, none⟩ = false ∧ w.frozen? ⟨p, 1, none⟩ = false ∧
    (∀ i (hi : i < B.length), a = some ⟨g, 0, none⟩ ∧ w.cell? ⟨g, i, none⟩ = some (.int .u8 ((B[i].toNat : Nat) : Int))) ∧ w.heap[p]? = some (.cells #[.slice a B.length cap, .int .i64 (at_ : Nat)] 29 (0, 0)) ∧ Row w g (.slice a B.length cap) (flat B) ∧ some p ≠ (Value.slice a B.length cap).ownBlock := by
  obtain ⟨v, hp, hR, hne, _⟩ := h
  obtain ⟨c0, c1, f0, f1⟩ := cell2 hp
  have hpo : some p ≠ v.ownBlock := by
    intro e
    rcases hne with h | h
    · rw [h] at e; cases e
    · rcases hR.2 with h2 | h2
      · rw [h2] at e; cases e
      · rw [h2] at e; injection e with e; exact h e.symm
  rcases hR.value with ⟨rfl, h0⟩ | ⟨cap, _, hv, _⟩
  · have hl : B.length = 0 := by rw [← flat_length, h0]; rfl
    obtain rfl : B = [] := List.eq_nil_of_length_eq_zero hl
    exact ⟨_, _, c0, c1, f0, f1, fun i hi => absurd hi (by simp), hp, hR, hpo⟩
  · rw [flat_length] at hv
    subst hv
    refine ⟨_, _, c0, c1, f0, f1, fun i hi => ⟨rfl, ?_⟩, hp, hR, hpo⟩
    obtain ⟨_, _, _, _, hc, _⟩ := hR.cell i (by rw [flat_length]; exact hi)
    rw [hc]
    simp [flat]
def RfPost (w : World) (p g : Nat) (B : List Bool) (at_ : Nat) (w' : World) : Prop := ∃ g', Rf w' p g' B at_ ∧ (g' = g ∨ w.heap.size ≤ g') ∧ Only [p, g] w w'
theorem RfPost.trans {w w1 w2 : World} {p g g1 at_ : Nat} {B : List Bool} (hO : Only [p, g] w w1) (hd : g1 = g ∨ w.heap.size ≤ g1) (h : RfPost w1 p g1 B at_ w2) : RfPost w p g B at_ w2 := by
  obtain ⟨g2, h1, h2, h3⟩ := h
  refine ⟨g2, h1, ?_, hO.trans h3 ?_⟩
  · have := hO.size
    rcases h2 with rfl | h2
    · exact hd
    · exact .inr (by omega)
  · intro x hx
    simp only [List.mem_cons, List.not_mem_nil, or_false] at hx ⊢
    rcases hx with rfl | rfl
    · exact .inl (.inl rfl)
    · rcases hd with rfl | hd
      · exact .inl (.inr rfl)
      · exact .inr hd
theorem RfPost.refl {w : World} {p g at_ : Nat} {B : List Bool} (h : Rf w p g B at_) : RfPost w p g B at_ w := ⟨g, h, .inl rfl, Only.refl _ _⟩
theorem one_one (W : World) : ∀ (j : Nat) (u : Value), (cellsOf [1])[j]? = some u → (W.alloc (.cells #[.int .u8 1] 5)).cell? ((⟨W.heap.size, 0, none⟩ : Addr).add j) = some u := by
  intro j u hu
  rw [add_here, cell_of_row _ _ _ _ _ _ (heap_alloc_new W _)]
  rw [show (#[Value.int .u8 1] : Array Value) = (cellsOf [1]).toArray from rfl, List.getElem?_toArray]
  exact hu
/-- one bit more -/
theorem rf_grow {w w2 : World} {p g at_ N : Nat} {B : List Bool} {a : Option Addr} {cap : Nat} {b : Bool} {v2 : Value} {o : Obj} (hp : w.heap[p]? = some (.cells #[.slice a B.length cap, .int .i64 (at_ : Nat)] 29 (0, 0))) (hR : Row w g (.slice a B.length cap) (flat B)) (hpo : some p ≠ (Value.slice a B.length cap).ownBlock)
    (hown : w2.ownsRow 0 5 1 v2 ((flat B).length + [b.toNat].length) (cellsOf (flat B) ++ cellsOf [b.toNat])) (hgr : (w.alloc o).grownBy w2 (Value.slice a B.length cap).ownBlock) (hpl : v2.ownBlock = (Value.slice a B.length cap).ownBlock ∨ ∃ g', v2.ownBlock = some g' ∧ N ≤ g') (hN : w.heap.size ≤ N) :
    (∃ a2 n2 c2, v2 = .slice a2 n2 c2) ∧ w2.cell? ⟨p, 0, none⟩ = some (.slice a B.length cap) ∧ w2.frozen? ⟨p, 0, none⟩ = false ∧ RfPost w p g (B ++ [b]) at_ (w2.setCell ⟨p, 0, none⟩ v2) := by
  obtain ⟨d2, cap2, rfl, hcap2, R2, hd2, hd2l⟩ := grow_row hR hown hpl (by simp)
  have hlp : p < w.heap.size := (Array.getElem?_eq_some_iff.1 hp).1
  have hp2 : w2.heap[p]? = some (.cells #[.slice a B.length cap, .int .i64 (at_ : Nat)] 29 (0, 0)) := (hgr.block p (by simp; omega) hpo).trans ((Below.heap_alloc _ _ _ hlp).trans hp)
  have hdp : d2 ≠ p := by
    rcases hd2 with ⟨h1, rfl⟩ | h1
    · rw [h1] at hpo; intro e; exact hpo (by rw [e])
    · omega
  have hO : Only [p, g] w w2 := ((Only.refl [p, g] w).alloc o).grown hgr (by
    intro k hk
    rcases hR.2 with h | h
    · rw [h] at hk; cases hk
    · rw [h] at hk; injection hk with hk; subst hk; exact .inl (by simp))
  have hset : Only [p] w2 (w2.setCell ⟨p, 0, none⟩ (.slice (some ⟨d2, 0, none⟩) ((flat B).length + [b.toNat].length) cap2)) := (Only.refl [p] _).setCell (p := ⟨p, 0, none⟩) (.inl (by simp)) _
  refine ⟨⟨_, _, _, rfl⟩, (cell2 hp2).1, (cell2 hp2).2.2.1, d2, ⟨_, set2a hp2, ?_, .inr hdp, Nat.lt_of_lt_of_le hd2l hset.size⟩, ?_, hO.setCell (p := ⟨p, 0, none⟩) (.inl (by simp)) _⟩
  · rw [flat_append]
    exact R2.only hset (by simpa using hdp)
  · rcases hd2 with ⟨_, rfl⟩ | h1
    · exact .inl rfl
    · exact .inr (by omega)
set_option maxRecDepth 100000 in
set_option maxHeartbeats 400000 in
theorem fbit_any (p g : Nat) (B : List Bool) (at_ : Nat) (b : Bool) (w : World) (H : Rf w p g B at_) (hB : B.length + 1 ≤ 1000000000) :
    Calls Try.prog 34 #[.pointer (some ⟨p, 0, none⟩), .bool b] w fun e w' => e = .returned (.tuple #[]) ∧ RfPost w p g (B ++ [b]) at_ w' := by
  obtain ⟨i0, hi, hz0, hz1, hz2⟩ := info_parts info5
  obtain ⟨a, cap, c0, c1, f0, f1, hcells, hp, hR, hpo⟩ := rf_slice H
  have hl := flat_length B
  have HP := Lib.hid hp
  have HR := Lib.hid hR
  have HPO := Lib.hid hpo
  have HL := Lib.hid hl
  clear H hp hR hpo hcells c1 f1 hl
  cases b
  · go_enter Try.func34, Try.ntmps34
    go_wp2_with (at_builtin; refine wpList_append_place _ rfl (.tmp 10) (.tmp 12) 27 rfl 5 i0 (.int .u8 0) 1 1 Try.underlying27 hi hz0 hz1 hz2 rfl (by decide) (.slice a B.length cap) (flat B).length (cellsOf (flat B)) rfl (HR.out.below ((Below.refl _ _).alloc (Nat.le_refl _) _)).1 ⟨w.heap.size, 0, none⟩ 1 1 (cellsOf [0]) rfl rfl (one_zero w) (cellsOf_one _) (by unfold maxLen; have := HL.out; omega) (by have := HL.out; omega) ?_)
    intro v2 w2 hown2 hgr2 hpl2
    obtain ⟨⟨a2, n2, c2, rfl⟩, d0, d1, d2⟩ := rf_grow (b := false) HP.out HR.out HPO.out hown2 hgr2 hpl2 (Nat.le_succ _)
    have D2 := Lib.hid d2
    clear d2 hown2 hgr2 hpl2
    go_wp2
    go_end0
    exact ⟨rfl, D2.out⟩
  · go_enter Try.func34, Try.ntmps34
    go_wp2_with (at_builtin; refine wpList_append_place _ rfl (.tmp 10) (.tmp 12) 27 rfl 5 i0 (.int .u8 0) 1 1 Try.underlying27 hi hz0 hz1 hz2 rfl (by decide) (.slice a B.length cap) (flat B).length (cellsOf (flat B)) rfl (HR.out.below ((Below.refl _ _).alloc (Nat.le_refl _) _)).1 ⟨w.heap.size, 0, none⟩ 1 1 (cellsOf [1]) rfl rfl (one_one w) (cellsOf_one _) (by unfold maxLen; have := HL.out; omega) (by have := HL.out; omega) ?_)
    intro v2 w2 hown2 hgr2 hpl2
    obtain ⟨⟨a2, n2, c2, rfl⟩, d0, d1, d2⟩ := rf_grow (b := true) HP.out HR.out HPO.out hown2 hgr2 hpl2 (Nat.le_succ _)
    have D2 := Lib.hid d2
    clear d2 hown2 hgr2 hpl2
    go_wp2
    go_end0
    exact ⟨rfl, D2.out⟩
set_option maxHeartbeats 400000 in
theorem fleft_any (p g : Nat) (B : List Bool) (at_ : Nat) (w : World) (H : Rf w p g B at_) (hat : at_ ≤ B.length) (hB : B.length ≤ 1000000000) :
    Calls Try.prog 29 #[.pointer (some ⟨p, 0, none⟩)] w fun e w' => e = .returned (.int .i64 ((B.length - at_ : Nat) : Int)) ∧ Below w.heap.size w w' := by
  obtain ⟨a, cap, c0, c1, _⟩ := rf_slice H
  clear H
  have HE : Hid ((B.length : Int) - (at_ : Int) = ((B.length - at_ : Nat) : Int)) := by show _ = _; omega
  go_enter Try.func29, Try.ntmps29
  go_wp2
  go_quiet (fail)
  go_wp2
  go_ret
  exact ⟨by rw [← HE.out]; rfl, (Only.refl [] _).drewN _ |>.below (Nat.le_refl _) (by simp)⟩
theorem and1_spell (v i : Nat) (hv : v < 18446744073709551616) : (bits .and .u64 ((v : Int) / 2 ^ i) 1 == 1) = v.testBit i := by
  have e : ((v : Int) / 2 ^ i) = ((v >>> i : Nat) : Int) := by
    rw [Nat.shiftRight_eq_div_pow]
    simp only [Int.natCast_ediv, Int.natCast_pow, Int.cast_ofNat_Int]
  have hl : v >>> i < 18446744073709551616 := by
    rw [Nat.shiftRight_eq_div_pow]; exact Nat.lt_of_le_of_lt (Nat.div_le_self _ _) hv
  have h := u64_and_nat (v >>> i) 1 hl (by decide)
  rw [nat_mask1] at h
  rw [e]
  have h2 : bits .and .u64 ((v >>> i : Nat) : Int) 1 = ((v >>> i % 2 : Nat) : Int) := h
  rw [h2, Nat.testBit_eq_decide_div_mod_eq, ← Nat.shiftRight_eq_div_pow]
  have h3 : v >>> i % 2 = 0 ∨ v >>> i % 2 = 1 := by omega
  rcases h3 with h3 | h3 <;> rw [h3] <;> rfl
theorem top_cut (v n m : Nat) (h : m < n) : Bt.top (v >>> (m + 1)) (n - (m + 1)) ++ [v.testBit m] = Bt.top (v >>> m) (n - m) := by
  have h1 := Bt.top_split (v >>> m) (n - (m + 1)) 1
  rw [← Nat.shiftRight_add, show n - (m + 1) + 1 = n - m by omega] at h1
  rw [h1]
  simp [Bt.top]
set_option maxHeartbeats 400000 in
theorem fbits_bad (p : Nat) (v : Nat) (n : Int) (hn : n < 0 ∨ 64 < n) (w : World) :
    Calls Try.prog 35 #[.pointer (some ⟨p, 0, none⟩), .int .u64 (v : Nat), .int .i64 n] w fun e w' => e = .returned (.int .u16 1) ∧ w = w' := by
  rcases hn with hn | hn
  · have h1 : decide (n < 0) = true := by simpa using hn
    go_enter Try.func35, Try.ntmps35
    go_wp2
    go_ret
    exact ⟨rfl, rfl⟩
  · have h1 : decide (n < 0) = false := by simp; omega
    have h2 : decide (n > 64) = true := by simpa using hn
    go_enter Try.func35, Try.ntmps35
    go_wp2
    go_ret
    exact ⟨rfl, rfl⟩
set_option maxHeartbeats 400000 in
theorem fbits_good (p g : Nat) (B : List Bool) (at_ v n : Nat) (hv : v < 18446744073709551616) (hn : n ≤ 64) (w : World) (H : Rf w p g B at_) (hB : B.length + n ≤ 1000000000) :
    Calls Try.prog 35 #[.pointer (some ⟨p, 0, none⟩), .int .u64 (v : Nat), .int .i64 (n : Nat)] w fun e w' => e = .returned (.int .u16 0) ∧ RfPost w p g (B ++ Bt.top v n) at_ w' := by
  have H0 := Lib.hid (show RfPost w p g (B ++ Bt.top (v >>> n) (n - n)) at_ w by rw [Nat.sub_self]; simpa [Bt.top] using RfPost.refl H)
  have HV := Lib.hid hv
  clear H hv
  have h1 : decide ((n : Int) < 0) = false := by simp
  have h2 : decide ((n : Int) > 64) = false := by simp; omega
  go_enter Try.func35, Try.ntmps35
  go_wp2
  go_loopw [7] (fun i wr => ∃ m : Nat, m ≤ n ∧ i = .int .i64 ((m : Int) - 1) ∧ Hid (RfPost w p g (B ++ Bt.top (v >>> m) (n - m)) at_ wr)) (fun i _ => (intOf i + 1).toNat)
  case atStart => exact ⟨n, Nat.le_refl _, rfl, H0⟩
  case round =>
    obtain ⟨m, hm, rfl, g1, HR, hg, hO⟩ := hrel
    have XR := Lib.hid HR
    have XO := Lib.hid hO
    clear HR hO
    by_cases hlt : 0 < m
    · obtain ⟨m', rfl⟩ : ∃ m', m = m' + 1 := ⟨m - 1, by omega⟩
      have he : ((m' + 1 : Nat) : Int) - 1 = (m' : Int) := by omega
      rw [he]
      have hd : decide ((m' : Int) ≥ 0) = true := by simp
      have h64 : m' ≤ 64 := by omega
      have hsp := and1_spell v m' HV.out
      have HSP := Lib.hid hsp
      clear hsp he
      go_wp2_with fail
      rw [HSP.out]
      refine (fbit_any p g1 _ at_ (v.testBit m') _ XR.out (by rw [List.length_append, Bt.top_length]; omega)).mono ?_
      rintro e w' ⟨rfl, hpp⟩
      rw [List.append_assoc, top_cut v n m' (by omega)] at hpp
      have HP := Lib.hid (RfPost.trans XO.out hg hpp)
      clear hpp
      go_wp2
      go_roundw
      case rel => exact ⟨m', by omega, rfl, HP⟩
      case measure => simp [intOf]
    · obtain rfl : m = 0 := by omega
      go_wp2
      go_ret
      exact ⟨rfl, g1, by simpa using XR.out, hg, XO.out⟩
end Go.Proofs.Ytimmlnfoabbbjaa
