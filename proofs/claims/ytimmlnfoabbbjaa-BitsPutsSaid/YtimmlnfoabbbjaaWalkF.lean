/-
  WALKS of the reader: Varint.
-/
import Derived.Test.YtimmlnfoabbbjaaWalkE
namespace Go.Proofs.Ytimmlnfoabbbjaa
open Go.RowKit
/-- the variables of a call of Varint that lie in memory, from block N on: the reader, the number, the error, the place at its start -/
structure Boxes (N p : Nat) (acc at_ : Nat) (wr : World) : Prop where
  r : wr.heap[N]? = some (.cells #[.pointer (some ⟨p, 0, none⟩)] 75 (0, 0))
  v : wr.heap[N + 1]? = some (.cells #[.int .u64 (acc : Nat)] 66 (0, 0))
  e : wr.heap[N + 1 + 1]? = some (.cells #[.int .u16 0] 79 (0, 0))
  s : wr.heap[N + 1 + 1 + 1]? = some (.cells #[.int .i64 (at_ : Nat)] 3 (0, 0))
theorem box {w : World} {g : Nat} {x : Value} {t : TypeId} (h : w.heap[g]? = some (.cells #[x] t (0, 0))) : w.cell? ⟨g, 0, none⟩ = some x ∧ w.frozen? ⟨g, 0, none⟩ = false :=
  ⟨by rw [cell_of_row _ _ _ _ _ _ h]; rfl, frozen_of_row _ _ _ _ _ h⟩
theorem box_set {w : World} {g : Nat} {x y : Value} {t : TypeId} (h : w.heap[g]? = some (.cells #[x] t (0, 0))) : (w.setCell ⟨g, 0, none⟩ y).heap[g]? = some (.cells #[y] t (0, 0)) := by
  rw [heap_setCell_same _ _ _ _ _ _ h]; rfl
theorem Boxes.only {N p acc at_ : Nat} {w w' : World} (h : Boxes N p acc at_ w) (hO : Only [p] w w') (hp : p < N) : Boxes N p acc at_ w' := by
  have k : ∀ g, N ≤ g → g ∉ [p] := fun g hg => by simp; omega
  exact ⟨(hO.block _ (Array.getElem?_eq_some_iff.1 h.r).1 (k _ (by omega))).trans h.r, (hO.block _ (Array.getElem?_eq_some_iff.1 h.v).1 (k _ (by omega))).trans h.v,
    (hO.block _ (Array.getElem?_eq_some_iff.1 h.e).1 (k _ (by omega))).trans h.e, (hO.block _ (Array.getElem?_eq_some_iff.1 h.s).1 (k _ (by omega))).trans h.s⟩
/-- how far it has read -/
structure VInv (w : World) (p g : Nat) (ds : List Nat) (at_ i acc : Nat) (wr : World) : Prop where
  boxes : Boxes w.heap.size p acc at_ wr
  rd : Rd wr p g ds (at_ + 8 * i)
  only : Only [p] w wr
  accl : acc < 2 ^ (7 * i)
  ile : i ≤ 9
  rv : Bt.rv ((Bt.unpack ds).drop at_) = Bt.rvf (10 - i) i acc ((Bt.unpack ds).drop (at_ + 8 * i))
def RvPost (w : World) (p g : Nat) (ds : List Nat) (at_ : Nat) (e : Ending) (w' : World) : Prop :=
  e = .returned (.tuple #[.int .u64 (((Bt.rv ((Bt.unpack ds).drop at_)).1 : Nat) : Int), .int .u16 (((Bt.rv ((Bt.unpack ds).drop at_)).2.1 : Nat) : Int)]) ∧ TakePost w p g ds (at_ + (Bt.rv ((Bt.unpack ds).drop at_)).2.2) w'
theorem fixed_end {w wr w1 W : World} {p g at_ i acc A : Nat} {ds : List Nat} (HV : VInv w p g ds at_ i acc wr) (ht : Rd w1 p g ds A ∧ Only [p] wr w1) (hW : Only [w.heap.size + 1, w.heap.size + 1 + 1] w1 W) (hp : p < w.heap.size) (hg : g < w.heap.size) :
    Rd W p g ds A ∧ Only [p] w W := by
  refine ⟨ht.1.only hW (by simp; omega) (by simp; omega), ((HV.only.trans ht.2 (fun x hx => .inl hx)).trans hW (fun x hx => .inr ?_))⟩
  simp at hx; omega
theorem fixed_back {w wr w1 W : World} {p g at_ i acc A : Nat} {ds : List Nat} (HV : VInv w p g ds at_ i acc wr) (ht : Rd w1 p g ds A ∧ Only [p] wr w1) (hW : Only [w.heap.size + 1, w.heap.size + 1 + 1] w1 W) (hp : p < w.heap.size) (hg : g < w.heap.size) (hat : at_ ≤ 8 * ds.length) :
    TakePost w p g ds at_ (W.setCell ⟨p, 1, none⟩ (.int .i64 (at_ : Nat))) := by
  obtain ⟨⟨v, h1, h2, h3, h4, h5, h6⟩, hO⟩ := fixed_end HV ht hW hp hg
  refine ⟨⟨v, set2b h1, ?_, h3, by simpa [World.setCell] using h4, hat, h6⟩, hO.setCell (p := ⟨p, 1, none⟩) (.inl (by simp)) _⟩
  rcases h2.value with ⟨rfl, rfl⟩ | ⟨cap, cur, rfl, hg, _⟩
  · exact Row.nil _ _
  · refine h2.only ((Only.refl [p] _).setCell (p := ⟨p, 1, none⟩) (.inl (by simp)) _) ?_
    rcases h3 with h | h
    · cases h
    · simpa using h
/-- the call that Varint defers -/
def later (N : Nat) : Deferred := { target := .fn (.func 72) #[.pointer (some ⟨N + 1 + 1, 0, none⟩), .pointer (some ⟨N + 1 + 1 + 1, 0, none⟩), .pointer (some ⟨N + 1, 0, none⟩), .pointer (some ⟨N, 0, none⟩)], args := #[] }
theorem read_results {T : Array Value} {N : Nat} {W : World} {a b : Value} (h2 : T[2]?.getD undef = .pointer (some ⟨N + 1, 0, none⟩)) (h3 : T[3]?.getD undef = .pointer (some ⟨N + 1 + 1, 0, none⟩)) (ha : W.cell? ⟨N + 1, 0, none⟩ = some a) (hb : W.cell? ⟨N + 1 + 1, 0, none⟩ = some b) :
    (results Try.f24 T).run Try.prog W = .ok (.tuple #[a, b]) W := by
  simp [results, Try.results24, go_sem, h2, h3, ha, hb]
theorem door_bad {T : Array Value} {N p acc at_ x : Nat} {W W1 : World} {R : Ending → World → Prop} (h2 : T[2]?.getD undef = .pointer (some ⟨N + 1, 0, none⟩)) (h3 : T[3]?.getD undef = .pointer (some ⟨N + 1 + 1, 0, none⟩))
    (HB : Boxes N p acc at_ W1) (y : Value) (hW : W = (W1.setCell ⟨N + 1, 0, none⟩ y).setCell ⟨N + 1 + 1, 0, none⟩ (.int .u16 (x : Nat))) (hx : x ≠ 0) (hp : p < N) {z : Value} {v : Value} (hc : W1.heap[p]? = some (.cells #[v, z] 129 (0, 0)))
    (hR : R (.returned (.tuple #[.int .u64 0, .int .u16 (x : Nat)])) ((W.setCell ⟨N + 1, 0, none⟩ (.int .u64 0)).setCell ⟨p, 1, none⟩ (.int .i64 (at_ : Nat)))) :
    Leaves Try.prog Try.f24 T R [later N] .returning W := by
  have e1 : (W1.setCell ⟨N + 1, 0, none⟩ y).heap[N + 1 + 1]? = some (.cells #[.int .u16 0] 79 (0, 0)) := (Below.heap_setCell _ _ _ _ (by simp)).trans HB.e
  have ve : W.heap[N + 1 + 1]? = some (.cells #[.int .u16 (x : Nat)] 79 (0, 0)) := by rw [hW]; exact box_set e1
  have vv : W.heap[N + 1]? = some (.cells #[y] 66 (0, 0)) := by rw [hW, Below.heap_setCell _ _ _ _ (by simp)]; exact box_set HB.v
  have vs : W.heap[N + 1 + 1 + 1]? = some (.cells #[.int .i64 (at_ : Nat)] 3 (0, 0)) := by rw [hW, Below.heap_setCell _ _ _ _ (by show N + 1 + 1 + 1 ≠ N + 1 + 1; omega), Below.heap_setCell _ _ _ _ (by show N + 1 + 1 + 1 ≠ N + 1; omega)]; exact HB.s
  have vr : W.heap[N]? = some (.cells #[.pointer (some ⟨p, 0, none⟩)] 75 (0, 0)) := by rw [hW, Below.heap_setCell _ _ _ _ (by show N ≠ N + 1 + 1; omega), Below.heap_setCell _ _ _ _ (by show N ≠ N + 1; omega)]; exact HB.r
  have vp : W.heap[p]? = some (.cells #[v, z] 129 (0, 0)) := by rw [hW, Below.heap_setCell _ _ _ _ (by simp; omega), Below.heap_setCell _ _ _ _ (by simp; omega)]; exact hc
  refine leaves_cons (f := 72) (args := #[.pointer (some ⟨N + 1 + 1, 0, none⟩), .pointer (some ⟨N + 1 + 1 + 1, 0, none⟩), .pointer (some ⟨N + 1, 0, none⟩), .pointer (some ⟨N, 0, none⟩)]) (by simp) (by simp [go_sem]) ?_
  refine (fix_bad (N + 1 + 1) (N + 1 + 1 + 1) (N + 1) N p (x : Nat) (at_ : Nat) .returning _ y z (by simpa using hx) (box ve).1 (box vs).1 (box vr).1 (box vv).1 (box vv).2 (cell2 vp).2.1 (cell2 vp).2.2.2).mono ?_
  rintro e u' w'' ⟨rfl, rfl, rfl⟩
  have v3 : ((W.setCell ⟨N + 1, 0, none⟩ (.int .u64 0)).setCell ⟨p, 1, none⟩ (.int .i64 (at_ : Nat))).heap[N + 1]? = some (.cells #[.int .u64 0] 66 (0, 0)) := by rw [Below.heap_setCell _ _ _ _ (by simp; omega)]; exact box_set vv
  have v4 : ((W.setCell ⟨N + 1, 0, none⟩ (.int .u64 0)).setCell ⟨p, 1, none⟩ (.int .i64 (at_ : Nat))).heap[N + 1 + 1]? = some (.cells #[.int .u16 (x : Nat)] 79 (0, 0)) := by rw [Below.heap_setCell _ _ _ _ (by simp; omega), Below.heap_setCell _ _ _ _ (by simp)]; exact ve
  exact ⟨_, read_results h2 h3 (box v3).1 (box v4).1, hR⟩
theorem door_ok {T : Array Value} {N p acc acc2 at_ : Nat} {W W1 : World} {R : Ending → World → Prop} (h2 : T[2]?.getD undef = .pointer (some ⟨N + 1, 0, none⟩)) (h3 : T[3]?.getD undef = .pointer (some ⟨N + 1 + 1, 0, none⟩))
    (HB : Boxes N p acc at_ W1) (hW : W = (W1.setCell ⟨N + 1, 0, none⟩ (.int .u64 (acc2 : Nat))).setCell ⟨N + 1 + 1, 0, none⟩ (.int .u16 0))
    (hR : R (.returned (.tuple #[.int .u64 (acc2 : Nat), .int .u16 0])) W) :
    Leaves Try.prog Try.f24 T R [later N] .returning W := by
  have e1 : (W1.setCell ⟨N + 1, 0, none⟩ (.int .u64 (acc2 : Nat))).heap[N + 1 + 1]? = some (.cells #[.int .u16 0] 79 (0, 0)) := (Below.heap_setCell _ _ _ _ (by simp)).trans HB.e
  have ve : W.heap[N + 1 + 1]? = some (.cells #[.int .u16 0] 79 (0, 0)) := by rw [hW]; exact box_set e1
  have vv : W.heap[N + 1]? = some (.cells #[.int .u64 (acc2 : Nat)] 66 (0, 0)) := by rw [hW, Below.heap_setCell _ _ _ _ (by simp)]; exact box_set HB.v
  refine leaves_cons (f := 72) (args := #[.pointer (some ⟨N + 1 + 1, 0, none⟩), .pointer (some ⟨N + 1 + 1 + 1, 0, none⟩), .pointer (some ⟨N + 1, 0, none⟩), .pointer (some ⟨N, 0, none⟩)]) (by simp) (by simp [go_sem]) ?_
  refine (fix_ok (N + 1 + 1) (N + 1 + 1 + 1) (N + 1) N .returning _ (box ve).1).mono ?_
  rintro e u' w'' ⟨rfl, rfl, rfl⟩
  exact ⟨_, read_results h2 h3 (box vv).1 (box ve).1, hR⟩
theorem acc_fit {L G : Nat} (hG : G < 256) (hL : L ≤ 63) (h7 : L % 7 = 0) (h9 : ¬ (L = 63 ∧ 1 < G)) : G % 128 * 2 ^ L < 18446744073709551616 := by
  by_cases h : L = 63
  · subst h
    have : G % 128 ≤ 1 := by omega
    have := Nat.mul_le_mul_right (2 ^ 63) this
    omega
  · have h56 : L ≤ 56 := by omega
    have h1 : 2 ^ L ≤ 2 ^ 56 := Nat.pow_le_pow_right (by decide) h56
    have h2 : G % 128 ≤ 127 := by omega
    have := Nat.mul_le_mul h2 h1
    omega
theorem acc_or {acc L G : Nat} (ha : acc < 2 ^ L) (hG : G < 256) (hL : L ≤ 63) (h7 : L % 7 = 0) (h9 : ¬ (L = 63 ∧ 1 < G)) :
    bits .or .u64 (acc : Int) (IntKind.u64.wrap ((G : Int) % 128 * 2 ^ L)) = ((acc + G % 128 * 2 ^ L : Nat) : Int) := by
  have hf := acc_fit hG hL h7 h9
  have e : (G : Int) % 128 * 2 ^ L = ((G % 128 * 2 ^ L : Nat) : Int) := by simp only [Int.natCast_mul, Int.natCast_emod, Int.natCast_pow, Int.cast_ofNat_Int]
  have h1 : acc < 18446744073709551616 := Nat.lt_of_lt_of_le ha (pow_le64 L (by omega))
  rw [e, show IntKind.u64.wrap ((G % 128 * 2 ^ L : Nat) : Int) = ((G % 128 * 2 ^ L : Nat) : Int) by rw [IntKind.wrap_u64]; omega, u64_or_nat _ _ h1 hf, Nat.or_comm, nat_join L _ _ (Nat.mul_mod_left _ _) ha, Nat.add_comm]
theorem or_zero (a : Nat) (h : a < 18446744073709551616) : bits .or .u64 (a : Int) 0 = (a : Int) := by
  have := u64_or_nat a 0 h (by decide)
  simpa using this
theorem boxes_v {N p acc at_ x : Nat} {w : World} (h : Boxes N p acc at_ w) : Boxes N p x at_ (w.setCell ⟨N + 1, 0, none⟩ (.int .u64 (x : Nat))).drew := by
  refine ⟨?_, box_set h.v, ?_, ?_⟩
  · exact (Below.heap_setCell _ _ _ _ (by show N ≠ N + 1; omega)).trans h.r
  · exact (Below.heap_setCell _ _ _ _ (by show N + 1 + 1 ≠ N + 1; omega)).trans h.e
  · exact (Below.heap_setCell _ _ _ _ (by show N + 1 + 1 + 1 ≠ N + 1; omega)).trans h.s
theorem vinv_step {w wr w1 : World} {p g at_ i acc G f : Nat} {ds : List Nat} {S : List Bool} (HV : VInv w p g ds at_ i acc wr) (HT : TakePost wr p g ds (at_ + 8 * i + 8) w1) (hB : Boxes w.heap.size p acc at_ w1) (hp : p < w.heap.size) (hg : g < w.heap.size)
    (hS : (Bt.unpack ds).drop (at_ + 8 * i) = S) (hf : 10 - i = f + 1) (hi : i < 9) (hrv : Bt.rv ((Bt.unpack ds).drop at_) = Bt.rvf f (i + 1) (acc + G % 128 * 2 ^ (7 * i)) (S.drop 8)) :
    VInv w p g ds at_ (i + 1) (acc + G % 128 * 2 ^ (7 * i)) (w1.setCell ⟨w.heap.size + 1, 0, none⟩ (.int .u64 ((acc + G % 128 * 2 ^ (7 * i) : Nat) : Int))).drew := by
  have hW : Only [w.heap.size + 1, w.heap.size + 1 + 1] w1 (w1.setCell ⟨w.heap.size + 1, 0, none⟩ (.int .u64 ((acc + G % 128 * 2 ^ (7 * i) : Nat) : Int))).drew := ((Only.refl _ _).setCell (p := ⟨w.heap.size + 1, 0, none⟩) (.inl (by simp)) _).drew
  obtain ⟨h1, h2⟩ := fixed_end HV HT hW hp hg
  refine ⟨boxes_v hB, ?_, h2, ?_, by omega, ?_⟩
  · rw [show at_ + 8 * (i + 1) = at_ + 8 * i + 8 by omega]; exact h1
  · have h3 := HV.accl
    rw [show 7 * (i + 1) = 7 + 7 * i by omega, Nat.pow_add]
    have : G % 128 ≤ 127 := by omega
    have := Nat.mul_le_mul_right (2 ^ (7 * i)) this
    omega
  · rw [hrv, ← hS, List.drop_drop, show 10 - (i + 1) = f by omega, show at_ + 8 * (i + 1) = at_ + 8 * i + 8 by omega]
set_option maxRecDepth 100000 in
set_option maxHeartbeats 400000 in
theorem rvarint_any (p g : Nat) (ds : List Nat) (at_ : Nat) (w : World) (H : Rd w p g ds at_) (hbd : ds.length ≤ 1000000000) :
    Calls Try.prog 24 #[.pointer (some ⟨p, 0, none⟩)] w (RvPost w p g ds at_) := by
  have H0 := Lib.hid H
  have hm := hmf
  obtain ⟨a, cap, c0, c1, f1, ha, _⟩ := rd_slice H
  have hp := H.lt.1
  have hne : ¬ w.heap.size = p := by omega
  have c1' : (((w.alloc (.cells #[.pointer (some ⟨p, 0, none⟩)] 75)).alloc (.cells #[.int .u64 0] 66)).alloc (.cells #[.int .u16 0] 79)).cell? ⟨p, 1, none⟩ = some (.int .i64 (at_ : Nat)) :=
    ((((Below.refl w.heap.size w).alloc (Nat.le_refl _) _).alloc (by simp) _).alloc (by simp; omega) _ |>.cell (p := ⟨p, 1, none⟩) hp).trans c1
  clear H
  go_enter_defers Try.func24, Try.ntmps24
  go_wp2
  have h0 : VInv w p g ds at_ 0 0 ((((w.alloc (.cells #[.pointer (some ⟨p, 0, none⟩)] 75)).alloc (.cells #[.int .u64 0] 66)).alloc (.cells #[.int .u16 0] 79)).alloc (.cells #[.int .i64 (at_ : Nat)] 3)) := by
    have hb : Below w.heap.size w ((((w.alloc (.cells #[.pointer (some ⟨p, 0, none⟩)] 75)).alloc (.cells #[.int .u64 0] 66)).alloc (.cells #[.int .u16 0] 79)).alloc (.cells #[.int .i64 (at_ : Nat)] 3)) :=
      ((((Below.refl w.heap.size w).alloc (Nat.le_refl _) _).alloc (by simp) _).alloc (by simp; omega) _).alloc (by simp; omega) _
    refine ⟨⟨?_, ?_, ?_, ?_⟩, H0.out.below hb, Only.of_below hb _, by decide, by decide, rfl⟩
    · rw [Below.heap_alloc _ _ _ (by simp <;> omega), Below.heap_alloc _ _ _ (by simp <;> omega), Below.heap_alloc _ _ _ (by simp)]
      exact heap_alloc_new _ _
    · rw [Below.heap_alloc _ _ _ (by simp <;> omega), Below.heap_alloc _ _ _ (by simp)]
      have := heap_alloc_new (w.alloc (.cells #[.pointer (some ⟨p, 0, none⟩)] 75)) (.cells #[.int .u64 0] 66)
      simpa using this
    · rw [Below.heap_alloc _ _ _ (by simp)]
      have := heap_alloc_new ((w.alloc (.cells #[.pointer (some ⟨p, 0, none⟩)] 75)).alloc (.cells #[.int .u64 0] 66)) (.cells #[.int .u16 0] 79)
      simpa using this
    · have := heap_alloc_new (((w.alloc (.cells #[.pointer (some ⟨p, 0, none⟩)] 75)).alloc (.cells #[.int .u64 0] 66)).alloc (.cells #[.int .u16 0] 79)) (.cells #[.int .i64 (at_ : Nat)] 3)
      simpa using this
  have HI := Lib.hid h0
  clear h0 c0 c1 c1' f1
  go_loopw [5] (fun low wr => ∃ i acc L : Nat, low = .int .i64 (L : Nat) ∧ L ≤ 63 ∧ Hid (L = 7 * i) ∧ Hid (VInv w p g ds at_ i acc wr)) (fun low _ => 70 - (intOf low).toNat)
  case atStart => exact ⟨0, 0, 0, rfl, by decide, Lib.hid rfl, HI⟩
  case round =>
    obtain ⟨i, acc, L, rfl, hL, HL, HV⟩ := hrel
    obtain ⟨b1, k1⟩ := box HV.out.boxes.r
    have hile := HV.out.ile
    have hat2 : at_ + 8 * i ≤ 8 * ds.length := by
      obtain ⟨_, _, _, _, _, h, _⟩ := HV.out.rd
      exact h
    obtain ⟨f, hf⟩ : ∃ f, 10 - i = f + 1 := ⟨9 - i, by omega⟩
    have hrv := HV.out.rv
    rw [hf] at hrv
    obtain ⟨S, hS⟩ : ∃ S, (Bt.unpack ds).drop (at_ + 8 * i) = S := ⟨_, rfl⟩
    have HF := Lib.hid hf
    clear hf
    by_cases hs : S.length < 8
    · have hrd : Bt.rd S 8 = (0, 20, 0) := by unfold Bt.rd; rw [if_neg (by omega), if_pos (by exact hs)]
      have hres : Bt.rv ((Bt.unpack ds).drop at_) = (0, 20, 0) := by rw [hrv, hS, Bt.rvf, if_pos hs]
      have HR := Lib.hid hrd
      have HRES := Lib.hid hres
      have HS := Lib.hid hS
      clear hrd hres hS hrv hs
      go_wp2_with fail
      refine (rbits_any p g ds (at_ + 8 * i) 8 _ HV.out.rd hbd).mono ?_
      rintro e w1 ⟨rfl, ht⟩
      rw [HS.out, HR.out] at ht ⊢
      have HT := Lib.hid ht
      have HB := HV.out.boxes.only ht.2 hp
      obtain ⟨bv, fv⟩ := box HB.v
      obtain ⟨be, fe⟩ := box HB.e
      have HBB := Lib.hid HB
      clear ht b1 k1 HB
      go_wp2
      have ht := HT.out
      have hW : Only [w.heap.size + 1, w.heap.size + 1 + 1] w1 (((w1.setCell ⟨w.heap.size + 1, 0, none⟩ (.int .u64 (acc : Nat))).setCell ⟨w.heap.size + 1 + 1, 0, none⟩ (.int .u16 20)).setCell ⟨w.heap.size + 1, 0, none⟩ (.int .u64 0)) :=
        (((Only.refl _ _).setCell (p := ⟨w.heap.size + 1, 0, none⟩) (.inl (by simp)) _).setCell (p := ⟨w.heap.size + 1 + 1, 0, none⟩) (.inl (by simp)) _).setCell (p := ⟨w.heap.size + 1, 0, none⟩) (.inl (by simp)) _
      obtain ⟨vv, hv1, _⟩ := ht.1
      refine door_bad (N := w.heap.size) (x := 20) rfl rfl HBB.out _ rfl (by decide) hp hv1 ⟨by rw [HRES.out]; rfl, ?_⟩
      rw [HRES.out]
      exact fixed_back HV.out ht hW hp H0.out.lt.2 ha
    · obtain ⟨G, hG⟩ : ∃ G, Bt.val (S.take 8) = G := ⟨_, rfl⟩
      have hGl : G < 256 := by
        have := Bt.val_lt (S.take 8)
        rw [hG, List.length_take, Nat.min_eq_left (by omega)] at this
        exact this
      have hrd : Bt.rd S 8 = (G, 0, 8) := by unfold Bt.rd; rw [if_neg (by omega), if_neg (by exact hs)]; show (Bt.val (S.take 8), 0, 8) = _; rw [hG]
      rw [hS, Bt.rvf, if_neg hs, hG] at hrv
      have HR := Lib.hid hrd
      have HS := Lib.hid hS
      have HG := Lib.hid hG
      clear hrd hS hs hG
      by_cases h9 : L = 63 ∧ 1 < G
      · have hres : Bt.rv ((Bt.unpack ds).drop at_) = (0, 21, 0) := by rw [hrv, if_pos ⟨by have := HL.out; omega, h9.2⟩]
        have HRES := Lib.hid hres
        obtain ⟨rfl, h92⟩ := h9
        have hd : decide ((G : Int) > 1) = true := by simp; omega
        clear hres hrv
        go_wp2_with fail
        refine (rbits_any p g ds (at_ + 8 * i) 8 _ HV.out.rd hbd).mono ?_
        rintro e w1 ⟨rfl, ht⟩
        rw [HS.out, HR.out] at ht ⊢
        have HT := Lib.hid ht
        have HB := HV.out.boxes.only ht.2 hp
        obtain ⟨bv, fv⟩ := box HB.v
        obtain ⟨be, fe⟩ := box HB.e
        have HBB := Lib.hid HB
        clear ht b1 k1 HB
        go_wp2
        have ht := HT.out
        have hW : Only [w.heap.size + 1, w.heap.size + 1 + 1] w1 (((w1.setCell ⟨w.heap.size + 1, 0, none⟩ (.int .u64 (acc : Nat))).setCell ⟨w.heap.size + 1 + 1, 0, none⟩ (.int .u16 21)).setCell ⟨w.heap.size + 1, 0, none⟩ (.int .u64 0)) :=
          (((Only.refl _ _).setCell (p := ⟨w.heap.size + 1, 0, none⟩) (.inl (by simp)) _).setCell (p := ⟨w.heap.size + 1 + 1, 0, none⟩) (.inl (by simp)) _).setCell (p := ⟨w.heap.size + 1, 0, none⟩) (.inl (by simp)) _
        obtain ⟨vv, hv1, _⟩ := ht.1
        refine door_bad (N := w.heap.size) (x := 21) rfl rfl HBB.out _ rfl (by decide) hp hv1 ⟨by rw [HRES.out]; rfl, ?_⟩
        rw [HRES.out]
        exact fixed_back HV.out ht hW hp H0.out.lt.2 ha
      · rw [if_neg (by have := HL.out; omega)] at hrv
        have h63 : L < 63 ∨ L = 63 := by omega
        have hor : bits .or .u64 (acc : Int) (IntKind.u64.wrap ((G : Int) % 128 * 2 ^ L)) = ((acc + G % 128 * 2 ^ (7 * i) : Nat) : Int) := by
          have hl := HL.out
          have ha := HV.out.accl
          rw [← hl] at ha ⊢
          exact acc_or ha hGl hL (by omega) h9
        have HOR := Lib.hid hor
        clear hor
        have hd9 : ((L : Int) == 63) = false ∨ (((L : Int) == 63) = true ∧ decide ((G : Int) > 1) = false) := by
          rcases h63 with h | h
          · exact .inl (by simp; omega)
          · exact .inr ⟨by simp; omega, by simp; omega⟩
        by_cases h10 : 128 ≤ G
        · rw [if_pos h10] at hrv
          have hL2 : ((L : Int) == 63) = false := by simp; omega
          have hd : decide ((G : Int) ≥ 128) = true := by simp; omega
          have HRV := Lib.hid hrv
          clear hrv h63 hd9
          go_wp2_with fail
          refine (rbits_any p g ds (at_ + 8 * i) 8 _ HV.out.rd hbd).mono ?_
          rintro e w1 ⟨rfl, ht⟩
          rw [HS.out, HR.out] at ht ⊢
          have HT := Lib.hid ht
          have HB := HV.out.boxes.only ht.2 hp
          obtain ⟨bv, fv⟩ := box HB.v
          obtain ⟨be, fe⟩ := box HB.e
          have HBB := Lib.hid HB
          clear ht b1 k1 HB
          go_wp2
          refine wp_region_still_tail 6 (by kernel_rfl) (by kernel_rfl) ?_
          change wpStill _ _ w1.drew (fun a' => wpList _ _ _ _ a' w1.drew) _ _
          simp only [List.take_succ_cons, List.take_zero, List.drop_succ_cons, List.drop_zero]
          repeat still_step
          refine wpStill_nil ?_
          go_wp2
          have hst := vinv_step HV.out HT.out HBB.out hp H0.out.lt.2 HS.out HF.out (by have := HL.out; omega) HRV.out
          rw [← HOR.out] at hst
          have HST := Lib.hid hst
          clear hst
          go_roundw
          case rel => exact ⟨i + 1, _, L + 7, by simp, by have := HL.out; omega, Lib.hid (by have := HL.out; omega), HST⟩
          case measure => simp [intOf]; omega
        · rw [if_neg h10] at hrv
          have hd : decide ((G : Int) ≥ 128) = false := by simp; omega
          by_cases h11 : G = 0 ∧ 0 < i
          · obtain ⟨rfl, h0i⟩ := h11
            have hL2 : decide (0 < L) = true := by have := HL.out; simp; omega
            rw [if_pos ⟨rfl, h0i⟩] at hrv
            have HRV := Lib.hid hrv
            clear hrv
            rcases hd9 with hd9 | ⟨hd9, hd8⟩
            all_goals
              go_wp2_with fail
              refine (rbits_any p g ds (at_ + 8 * i) 8 _ HV.out.rd hbd).mono ?_
              rintro e w1 ⟨rfl, ht⟩
              rw [HS.out, HR.out] at ht ⊢
              have HT := Lib.hid ht
              have HB := HV.out.boxes.only ht.2 hp
              obtain ⟨bv, fv⟩ := box HB.v
              obtain ⟨be, fe⟩ := box HB.e
              have HBB := Lib.hid HB
              clear ht b1 k1 HB
              go_wp2
              refine wp_region_still_tail 6 (by kernel_rfl) (by kernel_rfl) ?_
              change wpStill _ _ w1.drew (fun a' => wpList _ _ _ _ a' w1.drew) _ _
              simp only [List.take_succ_cons, List.take_zero, List.drop_succ_cons, List.drop_zero]
              repeat still_step
              refine wpStill_nil ?_
              go_wp2
              have h64 : acc < 18446744073709551616 := Nat.lt_of_lt_of_le HV.out.accl (pow_le64 _ (by have := HL.out; omega))
              rw [show bits BinOp.or IntKind.u64 (acc : Int) 0 = (acc : Int) from or_zero acc h64]
              have ht := HT.out
              have hW : Only [w.heap.size + 1, w.heap.size + 1 + 1] w1 (((((w1.setCell ⟨w.heap.size + 1, 0, none⟩ (.int .u64 (acc : Nat))).drew).setCell ⟨w.heap.size + 1, 0, none⟩ (.int .u64 (acc : Nat))).setCell ⟨w.heap.size + 1 + 1, 0, none⟩ (.int .u16 21)).setCell ⟨w.heap.size + 1, 0, none⟩ (.int .u64 0)) := (((((Only.refl _ _).setCell (p := ⟨w.heap.size + 1, 0, none⟩) (.inl (by simp)) _).drew).setCell (p := ⟨w.heap.size + 1, 0, none⟩) (.inl (by simp)) _).setCell (p := ⟨w.heap.size + 1 + 1, 0, none⟩) (.inl (by simp)) _).setCell (p := ⟨w.heap.size + 1, 0, none⟩) (.inl (by simp)) _
              obtain ⟨vv, hv1, _⟩ := ht.1
              refine door_bad (N := w.heap.size) (x := 21) rfl rfl (boxes_v (x := acc) HBB.out) (.int .u64 (acc : Nat)) rfl (by decide) hp ((Below.heap_setCell _ _ _ _ (by show p ≠ w.heap.size + 1; omega)).trans hv1) ⟨by rw [HRV.out]; rfl, ?_⟩
              rw [HRV.out]
              exact fixed_back HV.out ht hW hp H0.out.lt.2 ha
          · rw [if_neg h11] at hrv
            have HRV := Lib.hid hrv
            clear hrv
            by_cases hG0 : G = 0
            · subst hG0
              have hi0 : ¬ 0 < i := fun h => h11 ⟨rfl, h⟩
              have hL2 : decide (0 < L) = false := by have := HL.out; simp; omega
              have hL3 : ((L : Int) == 63) = false := by have := HL.out; simp; omega
              clear hd9 h11 hi0 h9
              go_wp2_with fail
              refine (rbits_any p g ds (at_ + 8 * i) 8 _ HV.out.rd hbd).mono ?_
              rintro e w1 ⟨rfl, ht⟩
              rw [HS.out, HR.out] at ht ⊢
              have HT := Lib.hid ht
              have HB := HV.out.boxes.only ht.2 hp
              obtain ⟨bv, fv⟩ := box HB.v
              obtain ⟨be, fe⟩ := box HB.e
              have HBB := Lib.hid HB
              clear ht b1 k1 HB
              go_wp2
              refine wp_region_still_tail 6 (by kernel_rfl) (by kernel_rfl) ?_
              change wpStill _ _ w1.drew (fun a' => wpList _ _ _ _ a' w1.drew) _ _
              simp only [List.take_succ_cons, List.take_zero, List.drop_succ_cons, List.drop_zero]
              repeat still_step
              refine wpStill_nil ?_
              go_wp2
              have h64 : acc < 18446744073709551616 := Nat.lt_of_lt_of_le HV.out.accl (pow_le64 _ (by have := HL.out; omega))
              rw [show bits BinOp.or IntKind.u64 (acc : Int) 0 = (acc : Int) from or_zero acc h64]
              have ht := HT.out
              have hW : Only [w.heap.size + 1, w.heap.size + 1 + 1] w1 ((((w1.setCell ⟨w.heap.size + 1, 0, none⟩ (.int .u64 (acc : Nat))).drew).setCell ⟨w.heap.size + 1, 0, none⟩ (.int .u64 (acc : Nat))).setCell ⟨w.heap.size + 1 + 1, 0, none⟩ (.int .u16 0)) := ((((Only.refl _ _).setCell (p := ⟨w.heap.size + 1, 0, none⟩) (.inl (by simp)) _).drew).setCell (p := ⟨w.heap.size + 1, 0, none⟩) (.inl (by simp)) _).setCell (p := ⟨w.heap.size + 1 + 1, 0, none⟩) (.inl (by simp)) _
              refine door_ok (N := w.heap.size) (acc2 := acc) rfl rfl (boxes_v (x := acc) HBB.out) rfl ⟨by rw [HRV.out]; simp, ?_⟩
              rw [HRV.out, show at_ + 8 * (i + 1) = at_ + 8 * i + 8 by omega]
              exact fixed_end HV.out ht hW hp H0.out.lt.2
            · have hG1 : ((G : Int) == 0) = false := by simp; omega
              rcases hd9 with hd9 | ⟨hd9, hd8⟩
              all_goals
                go_wp2_with fail
                refine (rbits_any p g ds (at_ + 8 * i) 8 _ HV.out.rd hbd).mono ?_
                rintro e w1 ⟨rfl, ht⟩
                rw [HS.out, HR.out] at ht ⊢
                have HT := Lib.hid ht
                have HB := HV.out.boxes.only ht.2 hp
                obtain ⟨bv, fv⟩ := box HB.v
                obtain ⟨be, fe⟩ := box HB.e
                have HBB := Lib.hid HB
                clear ht b1 k1 HB
                go_wp2
                refine wp_region_still_tail 6 (by kernel_rfl) (by kernel_rfl) ?_
                change wpStill _ _ w1.drew (fun a' => wpList _ _ _ _ a' w1.drew) _ _
                simp only [List.take_succ_cons, List.take_zero, List.drop_succ_cons, List.drop_zero]
                repeat still_step
                refine wpStill_nil ?_
                go_wp2
                rw [HOR.out]
                have ht := HT.out
                obtain ⟨X, hX⟩ : ∃ X, acc + G % 128 * 2 ^ (7 * i) = X := ⟨_, rfl⟩
                rw [hX]
                have hW : Only [w.heap.size + 1, w.heap.size + 1 + 1] w1 ((((w1.setCell ⟨w.heap.size + 1, 0, none⟩ (.int .u64 (X : Nat))).drew).setCell ⟨w.heap.size + 1, 0, none⟩ (.int .u64 (X : Nat))).setCell ⟨w.heap.size + 1 + 1, 0, none⟩ (.int .u16 0)) := ((((Only.refl _ _).setCell (p := ⟨w.heap.size + 1, 0, none⟩) (.inl (by simp)) _).drew).setCell (p := ⟨w.heap.size + 1, 0, none⟩) (.inl (by simp)) _).setCell (p := ⟨w.heap.size + 1 + 1, 0, none⟩) (.inl (by simp)) _
                refine door_ok (N := w.heap.size) (acc2 := X) rfl rfl (boxes_v (x := X) HBB.out) rfl ⟨by rw [HRV.out, hX]; rfl, ?_⟩
                rw [HRV.out, show at_ + 8 * (i + 1) = at_ + 8 * i + 8 by omega]
                exact fixed_end HV.out ht hW hp H0.out.lt.2
end Go.Proofs.Ytimmlnfoabbbjaa
