/-
  PACKED: B2WalkF, B2WalkG, Gma, ShA, GwA, GwB, GwC, GoA
-/
import Derived.Test.YtdlifcpdlbmijaaGreatDoorK01
import Derived.Test.YtdlifcpdlbmijaaGreatDoorProg
import Derived.Laws.DeepNot64
import Derived.Lib.TrailingZeros
import Derived.Lib.BitFns
import Derived.Lib.ItoaNum
import Derived.Shelf.Small.Bits
import Derived.Shelf.Strconv.Itoa0
import Derived.Laws.Bits128
import Derived.PlainAid
import Derived.WalkMore
import Derived.Laws.CopyOwn
import Derived.Deep.Cut
set_option linter.unusedVariables false
set_option linter.unusedSimpArgs false
namespace Go.Proofs.YtdlifcpdlbmijaaGreatDoor.B2
open Go.RowKit
/-- the variables of a call of Varint that lie in memory, from block N on: the reader, the number, the error, the place at its start -/
structure Boxes (N p : Nat) (acc at_ : Nat) (wr : World) : Prop where
  r : wr.heap[N]? = some (.cells #[.pointer (some ⟨p, 0, none⟩)] 153 (0, 0))
  v : wr.heap[N + 1]? = some (.cells #[.int .u64 (acc : Nat)] 76 (0, 0))
  e : wr.heap[N + 1 + 1]? = some (.cells #[.int .u16 0] 30 (0, 0))
  s : wr.heap[N + 1 + 1 + 1]? = some (.cells #[.int .i64 (at_ : Nat)] 3 (0, 0))
theorem box {w : World} {g : Nat} {x : Value} {t : TypeId} (h : w.heap[g]? = some (.cells #[x] t (0, 0))) : w.cell? ⟨g, 0, none⟩ = some x ∧ w.frozen? ⟨g, 0, none⟩ = false :=
  ⟨by rw [cell_of_row _ _ _ _ _ _ h]; rfl, frozen_of_row _ _ _ _ _ h⟩
theorem box_set {w : World} {g : Nat} {x y : Value} {t : TypeId} (h : w.heap[g]? = some (.cells #[x] t (0, 0))) : (w.setCell ⟨g, 0, none⟩ y).heap[g]? = some (.cells #[y] t (0, 0)) := by
  rw [heap_setCell_same _ _ _ _ _ _ h]; rfl
theorem Boxes.only {N p acc at_ : Nat} {w w' : World} (h : Boxes N p acc at_ w) (hO : Only [p] w w') (hp : p < N) : Boxes N p acc at_ w' := by
  have k : ∀ g, N ≤ g → g ∉ [p] := fun g hg => by simp; omega
  exact ⟨(hO.block _ (Array.getElem?_eq_some_iff.1 h.r).1 (k _ (by omega))).trans h.r, (hO.block _ (Array.getElem?_eq_some_iff.1 h.v).1 (k _ (by omega))).trans h.v,
    (hO.block _ (Array.getElem?_eq_some_iff.1 h.e).1 (k _ (by omega))).trans h.e, (hO.block _ (Array.getElem?_eq_some_iff.1 h.s).1 (k _ (by omega))).trans h.s⟩
/-- how far it has read -/
structure VInv (w : World) (p g : Nat) (ds : List Nat) (at_ i acc : Nat) (wr : World) : Prop where
  boxes : Boxes w.heap.size p acc at_ wr
  rd : Rd wr p g ds (at_ + 8 * i)
  only : Only [p] w wr
  accl : acc < 2 ^ (7 * i)
  ile : i ≤ 9
  rv : Bt.rv ((Bt.unpack ds).drop at_) = Bt.rvf (10 - i) i acc ((Bt.unpack ds).drop (at_ + 8 * i))
def RvPost (w : World) (p g : Nat) (ds : List Nat) (at_ : Nat) (e : Ending) (w' : World) : Prop :=
  e = .returned (.tuple #[.int .u64 (((Bt.rv ((Bt.unpack ds).drop at_)).1 : Nat) : Int), .int .u16 (((Bt.rv ((Bt.unpack ds).drop at_)).2.1 : Nat) : Int)]) ∧ TakePost w p g ds (at_ + (Bt.rv ((Bt.unpack ds).drop at_)).2.2) w'
theorem fixed_end {w wr w1 W : World} {p g at_ i acc A : Nat} {ds : List Nat} (HV : VInv w p g ds at_ i acc wr) (ht : Rd w1 p g ds A ∧ Only [p] wr w1) (hW : Only [w.heap.size + 1, w.heap.size + 1 + 1] w1 W) (hp : p < w.heap.size) (hg : g < w.heap.size) :
    Rd W p g ds A ∧ Only [p] w W := by
  refine ⟨ht.1.only hW (by simp; omega) (by simp; omega), ((HV.only.trans ht.2 (fun x hx => .inl hx)).trans hW (fun x hx => .inr ?_))⟩
  simp at hx; omega
theorem fixed_back {w wr w1 W : World} {p g at_ i acc A : Nat} {ds : List Nat} (HV : VInv w p g ds at_ i acc wr) (ht : Rd w1 p g ds A ∧ Only [p] wr w1) (hW : Only [w.heap.size + 1, w.heap.size + 1 + 1] w1 W) (hp : p < w.heap.size) (hg : g < w.heap.size) (hat : at_ ≤ 8 * ds.length) :
    TakePost w p g ds at_ (W.setCell ⟨p, 1, none⟩ (.int .i64 (at_ : Nat))) := by
  obtain ⟨⟨v, h1, h2, h3, h4, h5, h6⟩, hO⟩ := fixed_end HV ht hW hp hg
  refine ⟨⟨v, set2b h1, ?_, h3, by simpa [World.setCell] using h4, hat, h6⟩, hO.setCell (p := ⟨p, 1, none⟩) (.inl (by simp)) _⟩
  rcases h2.value with ⟨rfl, rfl⟩ | ⟨cap, cur, rfl, hg, _⟩
  · exact Row.nil _ _
  · refine h2.only ((Only.refl [p] _).setCell (p := ⟨p, 1, none⟩) (.inl (by simp)) _) ?_
    rcases h3 with h | h
    · cases h
    · simpa using h
/-- the call that Varint defers -/
def later (N : Nat) : Deferred := { target := .fn (.func 124) #[.pointer (some ⟨N + 1 + 1, 0, none⟩), .pointer (some ⟨N + 1 + 1 + 1, 0, none⟩), .pointer (some ⟨N + 1, 0, none⟩), .pointer (some ⟨N, 0, none⟩)], args := #[] }
theorem read_results {T : Array Value} {N : Nat} {W : World} {a b : Value} (h2 : T[2]?.getD undef = .pointer (some ⟨N + 1, 0, none⟩)) (h3 : T[3]?.getD undef = .pointer (some ⟨N + 1 + 1, 0, none⟩)) (ha : W.cell? ⟨N + 1, 0, none⟩ = some a) (hb : W.cell? ⟨N + 1 + 1, 0, none⟩ = some b) :
    (results Tryz.f119 T).run Tryz.prog W = .ok (.tuple #[a, b]) W := by
  simp [results, Tryz.results24, go_sem, h2, h3, ha, hb]
theorem door_bad {T : Array Value} {N p acc at_ x : Nat} {W W1 : World} {R : Ending → World → Prop} (h2 : T[2]?.getD undef = .pointer (some ⟨N + 1, 0, none⟩)) (h3 : T[3]?.getD undef = .pointer (some ⟨N + 1 + 1, 0, none⟩))
    (HB : Boxes N p acc at_ W1) (y : Value) (hW : W = (W1.setCell ⟨N + 1, 0, none⟩ y).setCell ⟨N + 1 + 1, 0, none⟩ (.int .u16 (x : Nat))) (hx : x ≠ 0) (hp : p < N) {z : Value} {v : Value} (hc : W1.heap[p]? = some (.cells #[v, z] 253 (0, 0)))
    (hR : R (.returned (.tuple #[.int .u64 0, .int .u16 (x : Nat)])) ((W.setCell ⟨N + 1, 0, none⟩ (.int .u64 0)).setCell ⟨p, 1, none⟩ (.int .i64 (at_ : Nat)))) :
    Leaves Tryz.prog Tryz.f119 T R [later N] .returning W := by
  have e1 : (W1.setCell ⟨N + 1, 0, none⟩ y).heap[N + 1 + 1]? = some (.cells #[.int .u16 0] 30 (0, 0)) := (Below.heap_setCell _ _ _ _ (by simp)).trans HB.e
  have ve : W.heap[N + 1 + 1]? = some (.cells #[.int .u16 (x : Nat)] 30 (0, 0)) := by rw [hW]; exact box_set e1
  have vv : W.heap[N + 1]? = some (.cells #[y] 76 (0, 0)) := by rw [hW, Below.heap_setCell _ _ _ _ (by simp)]; exact box_set HB.v
  have vs : W.heap[N + 1 + 1 + 1]? = some (.cells #[.int .i64 (at_ : Nat)] 3 (0, 0)) := by rw [hW, Below.heap_setCell _ _ _ _ (by show N + 1 + 1 + 1 ≠ N + 1 + 1; omega), Below.heap_setCell _ _ _ _ (by show N + 1 + 1 + 1 ≠ N + 1; omega)]; exact HB.s
  have vr : W.heap[N]? = some (.cells #[.pointer (some ⟨p, 0, none⟩)] 153 (0, 0)) := by rw [hW, Below.heap_setCell _ _ _ _ (by show N ≠ N + 1 + 1; omega), Below.heap_setCell _ _ _ _ (by show N ≠ N + 1; omega)]; exact HB.r
  have vp : W.heap[p]? = some (.cells #[v, z] 253 (0, 0)) := by rw [hW, Below.heap_setCell _ _ _ _ (by simp; omega), Below.heap_setCell _ _ _ _ (by simp; omega)]; exact hc
  refine leaves_cons (f := 124) (args := #[.pointer (some ⟨N + 1 + 1, 0, none⟩), .pointer (some ⟨N + 1 + 1 + 1, 0, none⟩), .pointer (some ⟨N + 1, 0, none⟩), .pointer (some ⟨N, 0, none⟩)]) (by simp) (by simp [go_sem]) ?_
  refine (fix_bad (N + 1 + 1) (N + 1 + 1 + 1) (N + 1) N p (x : Nat) (at_ : Nat) .returning _ y z (by simpa using hx) (box ve).1 (box vs).1 (box vr).1 (box vv).1 (box vv).2 (cell2 vp).2.1 (cell2 vp).2.2.2).mono ?_
  rintro e u' w'' ⟨rfl, rfl, rfl⟩
  have v3 : ((W.setCell ⟨N + 1, 0, none⟩ (.int .u64 0)).setCell ⟨p, 1, none⟩ (.int .i64 (at_ : Nat))).heap[N + 1]? = some (.cells #[.int .u64 0] 76 (0, 0)) := by rw [Below.heap_setCell _ _ _ _ (by simp; omega)]; exact box_set vv
  have v4 : ((W.setCell ⟨N + 1, 0, none⟩ (.int .u64 0)).setCell ⟨p, 1, none⟩ (.int .i64 (at_ : Nat))).heap[N + 1 + 1]? = some (.cells #[.int .u16 (x : Nat)] 30 (0, 0)) := by rw [Below.heap_setCell _ _ _ _ (by simp; omega), Below.heap_setCell _ _ _ _ (by simp)]; exact ve
  exact ⟨_, read_results h2 h3 (box v3).1 (box v4).1, hR⟩
theorem door_ok {T : Array Value} {N p acc acc2 at_ : Nat} {W W1 : World} {R : Ending → World → Prop} (h2 : T[2]?.getD undef = .pointer (some ⟨N + 1, 0, none⟩)) (h3 : T[3]?.getD undef = .pointer (some ⟨N + 1 + 1, 0, none⟩))
    (HB : Boxes N p acc at_ W1) (hW : W = (W1.setCell ⟨N + 1, 0, none⟩ (.int .u64 (acc2 : Nat))).setCell ⟨N + 1 + 1, 0, none⟩ (.int .u16 0))
    (hR : R (.returned (.tuple #[.int .u64 (acc2 : Nat), .int .u16 0])) W) :
    Leaves Tryz.prog Tryz.f119 T R [later N] .returning W := by
  have e1 : (W1.setCell ⟨N + 1, 0, none⟩ (.int .u64 (acc2 : Nat))).heap[N + 1 + 1]? = some (.cells #[.int .u16 0] 30 (0, 0)) := (Below.heap_setCell _ _ _ _ (by simp)).trans HB.e
  have ve : W.heap[N + 1 + 1]? = some (.cells #[.int .u16 0] 30 (0, 0)) := by rw [hW]; exact box_set e1
  have vv : W.heap[N + 1]? = some (.cells #[.int .u64 (acc2 : Nat)] 76 (0, 0)) := by rw [hW, Below.heap_setCell _ _ _ _ (by simp)]; exact box_set HB.v
  refine leaves_cons (f := 124) (args := #[.pointer (some ⟨N + 1 + 1, 0, none⟩), .pointer (some ⟨N + 1 + 1 + 1, 0, none⟩), .pointer (some ⟨N + 1, 0, none⟩), .pointer (some ⟨N, 0, none⟩)]) (by simp) (by simp [go_sem]) ?_
  refine (fix_ok (N + 1 + 1) (N + 1 + 1 + 1) (N + 1) N .returning _ (box ve).1).mono ?_
  rintro e u' w'' ⟨rfl, rfl, rfl⟩
  exact ⟨_, read_results h2 h3 (box vv).1 (box ve).1, hR⟩
theorem acc_fit {L G : Nat} (hG : G < 256) (hL : L ≤ 63) (h7 : L % 7 = 0) (h9 : ¬ (L = 63 ∧ 1 < G)) : G % 128 * 2 ^ L < 18446744073709551616 := by
  by_cases h : L = 63
  · subst h
    have : G % 128 ≤ 1 := by omega
    have := Nat.mul_le_mul_right (2 ^ 63) this
    omega
  · have h56 : L ≤ 56 := by omega
    have h1 : 2 ^ L ≤ 2 ^ 56 := Nat.pow_le_pow_right (by decide) h56
    have h2 : G % 128 ≤ 127 := by omega
    have := Nat.mul_le_mul h2 h1
    omega
theorem acc_or {acc L G : Nat} (ha : acc < 2 ^ L) (hG : G < 256) (hL : L ≤ 63) (h7 : L % 7 = 0) (h9 : ¬ (L = 63 ∧ 1 < G)) :
    bits .or .u64 (acc : Int) (IntKind.u64.wrap ((G : Int) % 128 * 2 ^ L)) = ((acc + G % 128 * 2 ^ L : Nat) : Int) := by
  have hf := acc_fit hG hL h7 h9
  have e : (G : Int) % 128 * 2 ^ L = ((G % 128 * 2 ^ L : Nat) : Int) := by simp only [Int.natCast_mul, Int.natCast_emod, Int.natCast_pow, Int.cast_ofNat_Int]
  have h1 : acc < 18446744073709551616 := Nat.lt_of_lt_of_le ha (pow_le64 L (by omega))
  rw [e, show IntKind.u64.wrap ((G % 128 * 2 ^ L : Nat) : Int) = ((G % 128 * 2 ^ L : Nat) : Int) by rw [IntKind.wrap_u64]; omega, u64_or_nat _ _ h1 hf, Nat.or_comm, nat_join L _ _ (Nat.mul_mod_left _ _) ha, Nat.add_comm]
theorem or_zero (a : Nat) (h : a < 18446744073709551616) : bits .or .u64 (a : Int) 0 = (a : Int) := by
  have := u64_or_nat a 0 h (by decide)
  simpa using this
theorem boxes_v {N p acc at_ x : Nat} {w : World} (h : Boxes N p acc at_ w) : Boxes N p x at_ (w.setCell ⟨N + 1, 0, none⟩ (.int .u64 (x : Nat))).drew := by
  refine ⟨?_, box_set h.v, ?_, ?_⟩
  · exact (Below.heap_setCell _ _ _ _ (by show N ≠ N + 1; omega)).trans h.r
  · exact (Below.heap_setCell _ _ _ _ (by show N + 1 + 1 ≠ N + 1; omega)).trans h.e
  · exact (Below.heap_setCell _ _ _ _ (by show N + 1 + 1 + 1 ≠ N + 1; omega)).trans h.s
theorem vinv_step {w wr w1 : World} {p g at_ i acc G f : Nat} {ds : List Nat} {S : List Bool} (HV : VInv w p g ds at_ i acc wr) (HT : TakePost wr p g ds (at_ + 8 * i + 8) w1) (hB : Boxes w.heap.size p acc at_ w1) (hp : p < w.heap.size) (hg : g < w.heap.size)
    (hS : (Bt.unpack ds).drop (at_ + 8 * i) = S) (hf : 10 - i = f + 1) (hi : i < 9) (hrv : Bt.rv ((Bt.unpack ds).drop at_) = Bt.rvf f (i + 1) (acc + G % 128 * 2 ^ (7 * i)) (S.drop 8)) :
    VInv w p g ds at_ (i + 1) (acc + G % 128 * 2 ^ (7 * i)) (w1.setCell ⟨w.heap.size + 1, 0, none⟩ (.int .u64 ((acc + G % 128 * 2 ^ (7 * i) : Nat) : Int))).drew := by
  have hW : Only [w.heap.size + 1, w.heap.size + 1 + 1] w1 (w1.setCell ⟨w.heap.size + 1, 0, none⟩ (.int .u64 ((acc + G % 128 * 2 ^ (7 * i) : Nat) : Int))).drew := ((Only.refl _ _).setCell (p := ⟨w.heap.size + 1, 0, none⟩) (.inl (by simp)) _).drew
  obtain ⟨h1, h2⟩ := fixed_end HV HT hW hp hg
  refine ⟨boxes_v hB, ?_, h2, ?_, by omega, ?_⟩
  · rw [show at_ + 8 * (i + 1) = at_ + 8 * i + 8 by omega]; exact h1
  · have h3 := HV.accl
    rw [show 7 * (i + 1) = 7 + 7 * i by omega, Nat.pow_add]
    have : G % 128 ≤ 127 := by omega
    have := Nat.mul_le_mul_right (2 ^ (7 * i)) this
    omega
  · rw [hrv, ← hS, List.drop_drop, show 10 - (i + 1) = f by omega, show at_ + 8 * (i + 1) = at_ + 8 * i + 8 by omega]
set_option maxRecDepth 100000 in
set_option maxHeartbeats 400000 in
theorem rvarint_any (p g : Nat) (ds : List Nat) (at_ : Nat) (w : World) (H : Rd w p g ds at_) (hbd : ds.length ≤ 1000000000) :
    Calls Tryz.prog 119 #[.pointer (some ⟨p, 0, none⟩)] w (RvPost w p g ds at_) := by
  have H0 := Lib.hid H
  have hm := hmf
  obtain ⟨a, cap, c0, c1, f1, ha, _⟩ := rd_slice H
  have hp := H.lt.1
  have hne : ¬ w.heap.size = p := by omega
  have c1' : (((w.alloc (.cells #[.pointer (some ⟨p, 0, none⟩)] 153)).alloc (.cells #[.int .u64 0] 76)).alloc (.cells #[.int .u16 0] 30)).cell? ⟨p, 1, none⟩ = some (.int .i64 (at_ : Nat)) :=
    ((((Below.refl w.heap.size w).alloc (Nat.le_refl _) _).alloc (by simp) _).alloc (by simp; omega) _ |>.cell (p := ⟨p, 1, none⟩) hp).trans c1
  clear H
  go_enter_defers Tryz.func119, Tryz.ntmps119
  go_wp2
  have h0 : VInv w p g ds at_ 0 0 ((((w.alloc (.cells #[.pointer (some ⟨p, 0, none⟩)] 153)).alloc (.cells #[.int .u64 0] 76)).alloc (.cells #[.int .u16 0] 30)).alloc (.cells #[.int .i64 (at_ : Nat)] 3)) := by
    have hb : Below w.heap.size w ((((w.alloc (.cells #[.pointer (some ⟨p, 0, none⟩)] 153)).alloc (.cells #[.int .u64 0] 76)).alloc (.cells #[.int .u16 0] 30)).alloc (.cells #[.int .i64 (at_ : Nat)] 3)) :=
      ((((Below.refl w.heap.size w).alloc (Nat.le_refl _) _).alloc (by simp) _).alloc (by simp; omega) _).alloc (by simp; omega) _
    refine ⟨⟨?_, ?_, ?_, ?_⟩, H0.out.below hb, Only.of_below hb _, by decide, by decide, rfl⟩
    · rw [Below.heap_alloc _ _ _ (by simp <;> omega), Below.heap_alloc _ _ _ (by simp <;> omega), Below.heap_alloc _ _ _ (by simp)]
      exact heap_alloc_new _ _
    · rw [Below.heap_alloc _ _ _ (by simp <;> omega), Below.heap_alloc _ _ _ (by simp)]
      have := heap_alloc_new (w.alloc (.cells #[.pointer (some ⟨p, 0, none⟩)] 153)) (.cells #[.int .u64 0] 76)
      simpa using this
    · rw [Below.heap_alloc _ _ _ (by simp)]
      have := heap_alloc_new ((w.alloc (.cells #[.pointer (some ⟨p, 0, none⟩)] 153)).alloc (.cells #[.int .u64 0] 76)) (.cells #[.int .u16 0] 30)
      simpa using this
    · have := heap_alloc_new (((w.alloc (.cells #[.pointer (some ⟨p, 0, none⟩)] 153)).alloc (.cells #[.int .u64 0] 76)).alloc (.cells #[.int .u16 0] 30)) (.cells #[.int .i64 (at_ : Nat)] 3)
      simpa using this
  have HI := Lib.hid h0
  clear h0 c0 c1 c1' f1
  go_loopw [5] (fun low wr => ∃ i acc L : Nat, low = .int .i64 (L : Nat) ∧ L ≤ 63 ∧ Hid (L = 7 * i) ∧ Hid (VInv w p g ds at_ i acc wr)) (fun low _ => 70 - (intOf low).toNat)
  case atStart => exact ⟨0, 0, 0, rfl, by decide, Lib.hid rfl, HI⟩
  case round =>
    obtain ⟨i, acc, L, rfl, hL, HL, HV⟩ := hrel
    obtain ⟨b1, k1⟩ := box HV.out.boxes.r
    have hile := HV.out.ile
    have hat2 : at_ + 8 * i ≤ 8 * ds.length := by
      obtain ⟨_, _, _, _, _, h, _⟩ := HV.out.rd
      exact h
    obtain ⟨f, hf⟩ : ∃ f, 10 - i = f + 1 := ⟨9 - i, by omega⟩
    have hrv := HV.out.rv
    rw [hf] at hrv
    obtain ⟨S, hS⟩ : ∃ S, (Bt.unpack ds).drop (at_ + 8 * i) = S := ⟨_, rfl⟩
    have HF := Lib.hid hf
    clear hf
    by_cases hs : S.length < 8
    · have hrd : Bt.rd S 8 = (0, 20, 0) := by unfold Bt.rd; rw [if_neg (by omega), if_pos (by exact hs)]
      have hres : Bt.rv ((Bt.unpack ds).drop at_) = (0, 20, 0) := by rw [hrv, hS, Bt.rvf, if_pos hs]
      have HR := Lib.hid hrd
      have HRES := Lib.hid hres
      have HS := Lib.hid hS
      clear hrd hres hS hrv hs
      go_wp2_with fail
      refine (rbits_any p g ds (at_ + 8 * i) 8 _ HV.out.rd hbd).mono ?_
      rintro e w1 ⟨rfl, ht⟩
      rw [HS.out, HR.out] at ht ⊢
      have HT := Lib.hid ht
      have HB := HV.out.boxes.only ht.2 hp
      obtain ⟨bv, fv⟩ := box HB.v
      obtain ⟨be, fe⟩ := box HB.e
      have HBB := Lib.hid HB
      clear ht b1 k1 HB
      go_wp2
      have ht := HT.out
      have hW : Only [w.heap.size + 1, w.heap.size + 1 + 1] w1 (((w1.setCell ⟨w.heap.size + 1, 0, none⟩ (.int .u64 (acc : Nat))).setCell ⟨w.heap.size + 1 + 1, 0, none⟩ (.int .u16 20)).setCell ⟨w.heap.size + 1, 0, none⟩ (.int .u64 0)) :=
        (((Only.refl _ _).setCell (p := ⟨w.heap.size + 1, 0, none⟩) (.inl (by simp)) _).setCell (p := ⟨w.heap.size + 1 + 1, 0, none⟩) (.inl (by simp)) _).setCell (p := ⟨w.heap.size + 1, 0, none⟩) (.inl (by simp)) _
      obtain ⟨vv, hv1, _⟩ := ht.1
      refine door_bad (N := w.heap.size) (x := 20) rfl rfl HBB.out _ rfl (by decide) hp hv1 ⟨by rw [HRES.out]; rfl, ?_⟩
      rw [HRES.out]
      exact fixed_back HV.out ht hW hp H0.out.lt.2 ha
    · obtain ⟨G, hG⟩ : ∃ G, Bt.val (S.take 8) = G := ⟨_, rfl⟩
      have hGl : G < 256 := by
        have := Bt.val_lt (S.take 8)
        rw [hG, List.length_take, Nat.min_eq_left (by omega)] at this
        exact this
      have hrd : Bt.rd S 8 = (G, 0, 8) := by unfold Bt.rd; rw [if_neg (by omega), if_neg (by exact hs)]; show (Bt.val (S.take 8), 0, 8) = _; rw [hG]
      rw [hS, Bt.rvf, if_neg hs, hG] at hrv
      have HR := Lib.hid hrd
      have HS := Lib.hid hS
      have HG := Lib.hid hG
      clear hrd hS hs hG
      by_cases h9 : L = 63 ∧ 1 < G
      · have hres : Bt.rv ((Bt.unpack ds).drop at_) = (0, 21, 0) := by rw [hrv, if_pos ⟨by have := HL.out; omega, h9.2⟩]
        have HRES := Lib.hid hres
        obtain ⟨rfl, h92⟩ := h9
        have hd : decide ((G : Int) > 1) = true := by simp; omega
        clear hres hrv
        go_wp2_with fail
        refine (rbits_any p g ds (at_ + 8 * i) 8 _ HV.out.rd hbd).mono ?_
        rintro e w1 ⟨rfl, ht⟩
        rw [HS.out, HR.out] at ht ⊢
        have HT := Lib.hid ht
        have HB := HV.out.boxes.only ht.2 hp
        obtain ⟨bv, fv⟩ := box HB.v
        obtain ⟨be, fe⟩ := box HB.e
        have HBB := Lib.hid HB
        clear ht b1 k1 HB
        go_wp2
        have ht := HT.out
        have hW : Only [w.heap.size + 1, w.heap.size + 1 + 1] w1 (((w1.setCell ⟨w.heap.size + 1, 0, none⟩ (.int .u64 (acc : Nat))).setCell ⟨w.heap.size + 1 + 1, 0, none⟩ (.int .u16 21)).setCell ⟨w.heap.size + 1, 0, none⟩ (.int .u64 0)) :=
          (((Only.refl _ _).setCell (p := ⟨w.heap.size + 1, 0, none⟩) (.inl (by simp)) _).setCell (p := ⟨w.heap.size + 1 + 1, 0, none⟩) (.inl (by simp)) _).setCell (p := ⟨w.heap.size + 1, 0, none⟩) (.inl (by simp)) _
        obtain ⟨vv, hv1, _⟩ := ht.1
        refine door_bad (N := w.heap.size) (x := 21) rfl rfl HBB.out _ rfl (by decide) hp hv1 ⟨by rw [HRES.out]; rfl, ?_⟩
        rw [HRES.out]
        exact fixed_back HV.out ht hW hp H0.out.lt.2 ha
      · rw [if_neg (by have := HL.out; omega)] at hrv
        have h63 : L < 63 ∨ L = 63 := by omega
        have hor : bits .or .u64 (acc : Int) (IntKind.u64.wrap ((G : Int) % 128 * 2 ^ L)) = ((acc + G % 128 * 2 ^ (7 * i) : Nat) : Int) := by
          have hl := HL.out
          have ha := HV.out.accl
          rw [← hl] at ha ⊢
          exact acc_or ha hGl hL (by omega) h9
        have HOR := Lib.hid hor
        clear hor
        have hd9 : ((L : Int) == 63) = false ∨ (((L : Int) == 63) = true ∧ decide ((G : Int) > 1) = false) := by
          rcases h63 with h | h
          · exact .inl (by simp; omega)
          · exact .inr ⟨by simp; omega, by simp; omega⟩
        by_cases h10 : 128 ≤ G
        · rw [if_pos h10] at hrv
          have hL2 : ((L : Int) == 63) = false := by simp; omega
          have hd : decide ((G : Int) ≥ 128) = true := by simp; omega
          have HRV := Lib.hid hrv
          clear hrv h63 hd9
          go_wp2_with fail
          refine (rbits_any p g ds (at_ + 8 * i) 8 _ HV.out.rd hbd).mono ?_
          rintro e w1 ⟨rfl, ht⟩
          rw [HS.out, HR.out] at ht ⊢
          have HT := Lib.hid ht
          have HB := HV.out.boxes.only ht.2 hp
          obtain ⟨bv, fv⟩ := box HB.v
          obtain ⟨be, fe⟩ := box HB.e
          have HBB := Lib.hid HB
          clear ht b1 k1 HB
          go_wp2
          refine wp_region_still_tail 6 (by kernel_rfl) (by kernel_rfl) ?_
          change wpStill _ _ w1.drew (fun a' => wpList _ _ _ _ a' w1.drew) _ _
          simp only [List.take_succ_cons, List.take_zero, List.drop_succ_cons, List.drop_zero]
          repeat still_step
          refine wpStill_nil ?_
          go_wp2
          have hst := vinv_step HV.out HT.out HBB.out hp H0.out.lt.2 HS.out HF.out (by have := HL.out; omega) HRV.out
          rw [← HOR.out] at hst
          have HST := Lib.hid hst
          clear hst
          go_roundw
          case rel => exact ⟨i + 1, _, L + 7, by simp, by have := HL.out; omega, Lib.hid (by have := HL.out; omega), HST⟩
          case measure => simp [intOf]; omega
        · rw [if_neg h10] at hrv
          have hd : decide ((G : Int) ≥ 128) = false := by simp; omega
          by_cases h11 : G = 0 ∧ 0 < i
          · obtain ⟨rfl, h0i⟩ := h11
            have hL2 : decide (0 < L) = true := by have := HL.out; simp; omega
            rw [if_pos ⟨rfl, h0i⟩] at hrv
            have HRV := Lib.hid hrv
            clear hrv
            rcases hd9 with hd9 | ⟨hd9, hd8⟩
            all_goals
              go_wp2_with fail
              refine (rbits_any p g ds (at_ + 8 * i) 8 _ HV.out.rd hbd).mono ?_
              rintro e w1 ⟨rfl, ht⟩
              rw [HS.out, HR.out] at ht ⊢
              have HT := Lib.hid ht
              have HB := HV.out.boxes.only ht.2 hp
              obtain ⟨bv, fv⟩ := box HB.v
              obtain ⟨be, fe⟩ := box HB.e
              have HBB := Lib.hid HB
              clear ht b1 k1 HB
              go_wp2
              refine wp_region_still_tail 6 (by kernel_rfl) (by kernel_rfl) ?_
              change wpStill _ _ w1.drew (fun a' => wpList _ _ _ _ a' w1.drew) _ _
              simp only [List.take_succ_cons, List.take_zero, List.drop_succ_cons, List.drop_zero]
              repeat still_step
              refine wpStill_nil ?_
              go_wp2
              have h64 : acc < 18446744073709551616 := Nat.lt_of_lt_of_le HV.out.accl (pow_le64 _ (by have := HL.out; omega))
              rw [show bits BinOp.or IntKind.u64 (acc : Int) 0 = (acc : Int) from or_zero acc h64]
              have ht := HT.out
              have hW : Only [w.heap.size + 1, w.heap.size + 1 + 1] w1 (((((w1.setCell ⟨w.heap.size + 1, 0, none⟩ (.int .u64 (acc : Nat))).drew).setCell ⟨w.heap.size + 1, 0, none⟩ (.int .u64 (acc : Nat))).setCell ⟨w.heap.size + 1 + 1, 0, none⟩ (.int .u16 21)).setCell ⟨w.heap.size + 1, 0, none⟩ (.int .u64 0)) := (((((Only.refl _ _).setCell (p := ⟨w.heap.size + 1, 0, none⟩) (.inl (by simp)) _).drew).setCell (p := ⟨w.heap.size + 1, 0, none⟩) (.inl (by simp)) _).setCell (p := ⟨w.heap.size + 1 + 1, 0, none⟩) (.inl (by simp)) _).setCell (p := ⟨w.heap.size + 1, 0, none⟩) (.inl (by simp)) _
              obtain ⟨vv, hv1, _⟩ := ht.1
              refine door_bad (N := w.heap.size) (x := 21) rfl rfl (boxes_v (x := acc) HBB.out) (.int .u64 (acc : Nat)) rfl (by decide) hp ((Below.heap_setCell _ _ _ _ (by show p ≠ w.heap.size + 1; omega)).trans hv1) ⟨by rw [HRV.out]; rfl, ?_⟩
              rw [HRV.out]
              exact fixed_back HV.out ht hW hp H0.out.lt.2 ha
          · rw [if_neg h11] at hrv
            have HRV := Lib.hid hrv
            clear hrv
            by_cases hG0 : G = 0
            · subst hG0
              have hi0 : ¬ 0 < i := fun h => h11 ⟨rfl, h⟩
              have hL2 : decide (0 < L) = false := by have := HL.out; simp; omega
              have hL3 : ((L : Int) == 63) = false := by have := HL.out; simp; omega
              clear hd9 h11 hi0 h9
              go_wp2_with fail
              refine (rbits_any p g ds (at_ + 8 * i) 8 _ HV.out.rd hbd).mono ?_
              rintro e w1 ⟨rfl, ht⟩
              rw [HS.out, HR.out] at ht ⊢
              have HT := Lib.hid ht
              have HB := HV.out.boxes.only ht.2 hp
              obtain ⟨bv, fv⟩ := box HB.v
              obtain ⟨be, fe⟩ := box HB.e
              have HBB := Lib.hid HB
              clear ht b1 k1 HB
              go_wp2
              refine wp_region_still_tail 6 (by kernel_rfl) (by kernel_rfl) ?_
              change wpStill _ _ w1.drew (fun a' => wpList _ _ _ _ a' w1.drew) _ _
              simp only [List.take_succ_cons, List.take_zero, List.drop_succ_cons, List.drop_zero]
              repeat still_step
              refine wpStill_nil ?_
              go_wp2
              have h64 : acc < 18446744073709551616 := Nat.lt_of_lt_of_le HV.out.accl (pow_le64 _ (by have := HL.out; omega))
              rw [show bits BinOp.or IntKind.u64 (acc : Int) 0 = (acc : Int) from or_zero acc h64]
              have ht := HT.out
              have hW : Only [w.heap.size + 1, w.heap.size + 1 + 1] w1 ((((w1.setCell ⟨w.heap.size + 1, 0, none⟩ (.int .u64 (acc : Nat))).drew).setCell ⟨w.heap.size + 1, 0, none⟩ (.int .u64 (acc : Nat))).setCell ⟨w.heap.size + 1 + 1, 0, none⟩ (.int .u16 0)) := ((((Only.refl _ _).setCell (p := ⟨w.heap.size + 1, 0, none⟩) (.inl (by simp)) _).drew).setCell (p := ⟨w.heap.size + 1, 0, none⟩) (.inl (by simp)) _).setCell (p := ⟨w.heap.size + 1 + 1, 0, none⟩) (.inl (by simp)) _
              refine door_ok (N := w.heap.size) (acc2 := acc) rfl rfl (boxes_v (x := acc) HBB.out) rfl ⟨by rw [HRV.out]; simp, ?_⟩
              rw [HRV.out, show at_ + 8 * (i + 1) = at_ + 8 * i + 8 by omega]
              exact fixed_end HV.out ht hW hp H0.out.lt.2
            · have hG1 : ((G : Int) == 0) = false := by simp; omega
              rcases hd9 with hd9 | ⟨hd9, hd8⟩
              all_goals
                go_wp2_with fail
                refine (rbits_any p g ds (at_ + 8 * i) 8 _ HV.out.rd hbd).mono ?_
                rintro e w1 ⟨rfl, ht⟩
                rw [HS.out, HR.out] at ht ⊢
                have HT := Lib.hid ht
                have HB := HV.out.boxes.only ht.2 hp
                obtain ⟨bv, fv⟩ := box HB.v
                obtain ⟨be, fe⟩ := box HB.e
                have HBB := Lib.hid HB
                clear ht b1 k1 HB
                go_wp2
                refine wp_region_still_tail 6 (by kernel_rfl) (by kernel_rfl) ?_
                change wpStill _ _ w1.drew (fun a' => wpList _ _ _ _ a' w1.drew) _ _
                simp only [List.take_succ_cons, List.take_zero, List.drop_succ_cons, List.drop_zero]
                repeat still_step
                refine wpStill_nil ?_
                go_wp2
                rw [HOR.out]
                have ht := HT.out
                obtain ⟨X, hX⟩ : ∃ X, acc + G % 128 * 2 ^ (7 * i) = X := ⟨_, rfl⟩
                rw [hX]
                have hW : Only [w.heap.size + 1, w.heap.size + 1 + 1] w1 ((((w1.setCell ⟨w.heap.size + 1, 0, none⟩ (.int .u64 (X : Nat))).drew).setCell ⟨w.heap.size + 1, 0, none⟩ (.int .u64 (X : Nat))).setCell ⟨w.heap.size + 1 + 1, 0, none⟩ (.int .u16 0)) := ((((Only.refl _ _).setCell (p := ⟨w.heap.size + 1, 0, none⟩) (.inl (by simp)) _).drew).setCell (p := ⟨w.heap.size + 1, 0, none⟩) (.inl (by simp)) _).setCell (p := ⟨w.heap.size + 1 + 1, 0, none⟩) (.inl (by simp)) _
                refine door_ok (N := w.heap.size) (acc2 := X) rfl rfl (boxes_v (x := X) HBB.out) rfl ⟨by rw [HRV.out, hX]; rfl, ?_⟩
                rw [HRV.out, show at_ + 8 * (i + 1) = at_ + 8 * i + 8 by omega]
                exact fixed_end HV.out ht hW hp H0.out.lt.2
end Go.Proofs.YtdlifcpdlbmijaaGreatDoor.B2
namespace Go.Proofs.YtdlifcpdlbmijaaGreatDoor.B2
open Go.RowKit
def RsPost (w : World) (p g : Nat) (ds : List Nat) (at_ : Nat) (e : Ending) (w' : World) : Prop :=
  e = .returned (.tuple #[.int .i64 (Bt.uz (Bt.rv ((Bt.unpack ds).drop at_)).1), .int .u16 (((Bt.rv ((Bt.unpack ds).drop at_)).2.1 : Nat) : Int)]) ∧ TakePost w p g ds (at_ + (Bt.rv ((Bt.unpack ds).drop at_)).2.2) w'
set_option maxHeartbeats 400000 in
theorem rsigned_any (p g : Nat) (ds : List Nat) (at_ : Nat) (w : World) (H : Rd w p g ds at_) (hbd : ds.length ≤ 1000000000) :
    Calls Tryz.prog 117 #[.pointer (some ⟨p, 0, none⟩)] w (RsPost w p g ds at_) := by
  have H0 := Lib.hid H
  obtain ⟨t, ht⟩ : ∃ t, (Bt.rv ((Bt.unpack ds).drop at_)).1 = t := ⟨_, rfl⟩
  have hlt : t < 18446744073709551616 := by rw [← ht]; exact Bt.rv_lt _
  have HT := Lib.hid ht
  have hl2 : t / 2 < 9223372036854775808 := by omega
  have HU : Hid (Bt.uz t = if t % 2 = 1 then -1 - ((t / 2 : Nat) : Int) else ((t / 2 : Nat) : Int)) := by unfold Bt.uz; show _ = _; split <;> omega
  clear H ht
  by_cases h : t % 2 = 1
  · have hn := i64_not (t / 2) hl2
    have HN := Lib.hid hn
    have hd : ((t : Int) % 2 == 1) = true := by simp; omega
    rw [if_pos h] at HU
    clear hn h
    go_enter Tryz.func117, Tryz.ntmps117
    go_wp2_with fail
    refine (rvarint_any p g ds at_ _ H0.out hbd).mono ?_
    rintro e w1 ⟨rfl, hp⟩
    rw [HT.out] at ⊢
    have HP := Lib.hid hp
    clear hp
    go_wp2
    go_ret2
    exact ⟨by rw [HT.out, HU.out, ← HN.out]; rfl, HP.out⟩
  · have hd : ((t : Int) % 2 == 1) = false := by simp; omega
    rw [if_neg h] at HU
    clear h
    go_enter Tryz.func117, Tryz.ntmps117
    go_wp2_with fail
    refine (rvarint_any p g ds at_ _ H0.out hbd).mono ?_
    rintro e w1 ⟨rfl, hp⟩
    rw [HT.out] at ⊢
    have HP := Lib.hid hp
    clear hp
    go_wp2
    go_ret2
    exact ⟨by rw [HT.out, HU.out]; rfl, HP.out⟩
/-- two slices of the same bytes -/
theorem same_any (a a2 : Option Addr) (bs : List Nat) (cap cap2 : Nat) (w : World) (H : Bys w a bs) (H2 : Bys w a2 bs) :
    Calls Tryz.prog 40 #[.slice a bs.length cap, .slice a2 bs.length cap2] w fun e w' => e = .returned (.bool true) ∧ Below w.heap.size w w' := by
  have hlen := H.1
  unfold maxLen at hlen
  have A1 := Lib.hid H
  have A2 := Lib.hid H2
  clear H H2
  go_enter Tryz.func40, Tryz.ntmps40
  go_wp2
  go_loopw [5] (fun i wr => ∃ k : Nat, k ≤ bs.length ∧ i = .int .i64 k ∧ Hid (Below w.heap.size w wr)) (fun i _ => bs.length - (intOf i).toNat)
  case atStart => exact ⟨0, Nat.zero_le _, rfl, Lib.hid (Below.refl _ _)⟩
  case round =>
    obtain ⟨k, hk, rfl, HB⟩ := hrel
    by_cases hlt : k < bs.length
    · obtain ⟨b, off, rfl, hb, hc⟩ := (A1.out.below HB.out).at k hlt
      obtain ⟨b2, off2, rfl, hb2, hc2⟩ := (A2.out.below HB.out).at k hlt
      generalize bs[k] = c at *
      have hi : (k : Int) < (bs.length : Int) := by omega
      have hd : decide ((k : Int) < (bs.length : Int)) = true := by simp; omega
      go_wp2
      go_quiet (fail)
      go_wp2
      go_roundw
      case rel => exact ⟨k + 1, by omega, by go_num, Lib.hid ((Only.of_below HB.out []).drewN _ |>.below (Nat.le_refl _) (by simp))⟩
      case measure => simp [intOf]; omega
    · obtain rfl : k = bs.length := by omega
      go_wp2
      go_ret
      exact ⟨rfl, HB.out⟩
theorem vb300 : Bt.vb 300 = Bt.unpack [172, 2] := by
  rw [Bt.vb_big (by decide), Bt.vb_small (by decide)]; rfl
theorem rv300 : Bt.rv ((Bt.unpack [172, 2]).drop 0) = (300, 0, 16) := by decide
theorem rd300 : Bt.rd ((Bt.unpack [172, 2]).drop (0 + 16)) 1 = (0, 20, 0) := by decide
theorem packs300 {k : Nat} {bs : List Nat} (hk : k < 8) (h : Bt.Packs k bs (Bt.vb 300)) : bs = [172, 2] :=
  Bt.packs_unique h (j := 0) ⟨by decide, by rw [vb300]; simp⟩ hk (by decide)
end Go.Proofs.YtdlifcpdlbmijaaGreatDoor.B2
namespace Go.Proofs.YtdlifcpdlbmijaaGreatDoor.Gm
open B2.Bt
set_option linter.unusedVariables false
/-- a sample: its time, its number's bits -/
structure Smp where
  t : Int
  v : Nat
deriving DecidableEq, Inhabited
/-- the rows of the table of times: the mark, its bits, what is added, the bits behind -/
def mk : Nat → Nat | 0 => 0 | 1 => 2 | 2 => 6 | 3 => 14 | _ => 15
def ms : Nat → Nat | 0 => 1 | 1 => 2 | 2 => 3 | _ => 4
def pl : Nat → Nat | 0 => 0 | 1 => 63 | 2 => 255 | 3 => 2047 | _ => 0
def sz : Nat → Nat | 0 => 0 | 1 => 7 | 2 => 9 | 3 => 12 | _ => 64
def hasR (k d : Nat) : Bool := decide ((d + pl k) % 18446744073709551616 / 2 ^ sz k = 0)
def rowOf (d : Nat) : Nat := if hasR 0 d then 0 else if hasR 1 d then 1 else if hasR 2 d then 2 else if hasR 3 d then 3 else 4
def stepB (d : Nat) : List Bool := top (mk (rowOf d)) (ms (rowOf d)) ++ top ((d + pl (rowOf d)) % 18446744073709551616) (sz (rowOf d))
/-- what an appender knows -/
structure St where
  n : Nat
  last : Smp
  gap : Nat
  ws : Nat
  we : Nat
  frm : Int
  out : List Bool
def st0 : St := ⟨0, ⟨0, 0⟩, 0, 0, 0, 0, []⟩
/-- a difference of times as a word -/
def gapOf (t l : Int) : Nat := ((t - l) % 18446744073709551616).toNat
def subW (a b : Nat) : Nat := (a + (18446744073709551616 - b)) % 18446744073709551616
def timeB (s : St) (t : Int) : List Bool := if s.n = 1 then vb (gapOf t s.last.t) else stepB (subW (gapOf t s.last.t) s.gap)
/-- the window that x opens -/
def wS (x : Nat) : Nat := min (64 - Lib.bitLen x) 31
def wE (x : Nat) : Nat := 64 - Lib.ctz 64 x
def holdsW (ws we x : Nat) : Bool := decide (ws ≤ wS x) && decide (wE x ≤ we)
def numB (ws we x : Nat) : List Bool :=
  if x = 0 then [false] else if holdsW ws we x then [true, false] ++ top (x >>> (64 - we)) (we - ws)
  else [true, true] ++ top (wS x) 5 ++ top (wE x - wS x - 1) 6 ++ top (x >>> (64 - wE x)) (wE x - wS x)
def numS (ws we x : Nat) : Nat := if x = 0 then ws else if holdsW ws we x then ws else wS x
def numE (ws we x : Nat) : Nat := if x = 0 then we else if holdsW ws we x then we else wE x
/-- the bits of a sample behind others -/
def bitsOf (s : St) (a : Smp) : List Bool := if s.n = 0 then vb (zz a.t) ++ top a.v 64 else timeB s a.t ++ numB s.ws s.we (a.v ^^^ s.last.v)
def put (s : St) (a : Smp) : St :=
  { n := s.n + 1, last := a, gap := gapOf a.t s.last.t, ws := if s.n = 0 then s.ws else numS s.ws s.we (a.v ^^^ s.last.v), we := if s.n = 0 then s.we else numE s.ws s.we (a.v ^^^ s.last.v), frm := if s.n = 0 then a.t else s.frm, out := s.out ++ bitsOf s a }
def run (l : List Smp) : St := l.foldl put st0
theorem snocInd {α : Type} {P : List α → Prop} (h0 : P []) (hs : ∀ l a, P l → P (l ++ [a])) (l : List α) : P l := by
  have h : ∀ m : List α, P m.reverse := by
    intro m
    induction m with
    | nil => exact h0
    | cons a m ih => rw [List.reverse_cons]; exact hs _ _ ih
  have := h l.reverse
  rwa [List.reverse_reverse] at this
theorem run_snoc (l : List Smp) (a : Smp) : run (l ++ [a]) = put (run l) a := by simp [run]
theorem run_n (l : List Smp) : (run l).n = l.length := by
  induction l using snocInd with
  | h0 => rfl
  | hs l a ih => rw [run_snoc]; simp [put, ih]
/-- a word that may be one -/
def OkS (a : Smp) : Prop := -9223372036854775808 ≤ a.t ∧ a.t ≤ 9223372036854775807 ∧ a.v < 18446744073709551616
/-- what holds of an appender -/
structure Inv (s : St) : Prop where
  last : OkS s.last
  gap : s.gap < 18446744073709551616
  win : (s.ws = 0 ∧ s.we = 0) ∨ (s.ws < s.we ∧ s.we ≤ 64 ∧ s.ws ≤ 31)
theorem gapOf_lt (t l : Int) : gapOf t l < 18446744073709551616 := by unfold gapOf; omega
theorem subW_lt (a b : Nat) : subW a b < 18446744073709551616 := by unfold subW; omega
theorem ctz_facts (x : Nat) (h0 : x ≠ 0) (hx : x < 18446744073709551616) : Lib.ctz 64 x < 64 ∧ ∃ m, x = 2 ^ Lib.ctz 64 x * (2 * m + 1) := by
  unfold Lib.ctz
  rw [if_neg h0]
  obtain ⟨m, h1, h2⟩ := Lib.ctzFrom_spec 64 x (by omega) hx
  exact ⟨h2, m, h1⟩
theorem bitLen_facts (x : Nat) (h0 : x ≠ 0) (hx : x < 18446744073709551616) : 1 ≤ Lib.bitLen x ∧ Lib.bitLen x ≤ 64 ∧ 2 ^ (Lib.bitLen x - 1) ≤ x ∧ x < 2 ^ Lib.bitLen x := by
  have h := Lib.bitLenAux_bounds 64 x hx h0
  exact ⟨h.1, Lib.bitLen_le x 64 (Nat.le_refl _) hx, h.2.1, h.2.2⟩
/-- a number's window: it lies in it -/
theorem win_facts (x : Nat) (h0 : x ≠ 0) (hx : x < 18446744073709551616) :
    wS x ≤ 31 ∧ wS x < wE x ∧ wE x ≤ 64 ∧ x < 2 ^ (64 - wS x) ∧ ∃ m, x = 2 ^ (64 - wE x) * m := by
  obtain ⟨c1, m, c2⟩ := ctz_facts x h0 hx
  obtain ⟨b1, b2, b3, b4⟩ := bitLen_facts x h0 hx
  have hlt : Lib.ctz 64 x < Lib.bitLen x := by
    refine (Nat.pow_lt_pow_iff_right (a := 2) (by decide)).1 (Nat.lt_of_le_of_lt ?_ b4)
    conv => rhs; rw [c2]
    exact Nat.le_mul_of_pos_right _ (by omega)
  unfold wS wE
  refine ⟨Nat.min_le_right _ _, by omega, by omega, Nat.lt_of_lt_of_le b4 (Nat.pow_le_pow_right (by decide) (by omega)), 2 * m + 1, ?_⟩
  rw [show 64 - (64 - Lib.ctz 64 x) = Lib.ctz 64 x by omega]
  exact c2
/-- so a number is told by the bits within a window that holds its own -/
theorem win_in (x ws we : Nat) (h0 : x ≠ 0) (hx : x < 18446744073709551616) (h1 : ws ≤ wS x) (h2 : wE x ≤ we) (h3 : we ≤ 64) :
    (x >>> (64 - we)) <<< (64 - we) = x ∧ x >>> (64 - we) < 2 ^ (we - ws) := by
  obtain ⟨a1, a2, a3, a4, m, a5⟩ := win_facts x h0 hx
  constructor
  · rw [Nat.shiftRight_eq_div_pow, Nat.shiftLeft_eq, Nat.mul_comm]
    refine Nat.mul_div_cancel' ?_
    rw [a5]
    exact Nat.dvd_trans (Nat.pow_dvd_pow 2 (by omega)) (Nat.dvd_mul_right _ _)
  · rw [Nat.shiftRight_eq_div_pow, Nat.div_lt_iff_lt_mul (Nat.two_pow_pos _), ← Nat.pow_add]
    refine Nat.lt_of_lt_of_le a4 (Nat.pow_le_pow_right (by decide) (by omega))
theorem num_win {ws we x : Nat} (hx : x < 18446744073709551616) (hw : (ws = 0 ∧ we = 0) ∨ (ws < we ∧ we ≤ 64 ∧ ws ≤ 31)) :
    (numS ws we x = 0 ∧ numE ws we x = 0) ∨ (numS ws we x < numE ws we x ∧ numE ws we x ≤ 64 ∧ numS ws we x ≤ 31) := by
  unfold numS numE
  split
  · exact hw
  · split
    · exact hw
    · rename_i h _
      obtain ⟨a1, a2, a3, _⟩ := win_facts x h hx
      exact .inr ⟨a2, a3, a1⟩
theorem xor_lt64 {a b : Nat} (ha : a < 18446744073709551616) (hb : b < 18446744073709551616) : a ^^^ b < 18446744073709551616 := Nat.xor_lt_two_pow (n := 64) ha hb
theorem Inv.put {s : St} {a : Smp} (h : Inv s) (ha : OkS a) : Inv (put s a) := by
  refine ⟨ha, gapOf_lt _ _, ?_⟩
  unfold Gm.put
  by_cases hn : s.n = 0
  · simp only [hn, if_true]; exact h.win
  · simp only [hn, if_false]
    exact num_win (xor_lt64 ha.2.2 h.last.2.2) h.win
theorem inv0 : Inv st0 := ⟨⟨by decide, by decide, by decide⟩, by decide, .inl ⟨rfl, rfl⟩⟩
theorem inv_run (l : List Smp) (hl : ∀ a ∈ l, OkS a) : Inv (run l) := by
  induction l using snocInd with
  | h0 => exact inv0
  | hs l a ih => rw [run_snoc]; exact (ih fun b hb => hl b (by simp [hb])).put (hl a (by simp))
/-- READING. What is left to read, and whether something was wrong. -/
abbrev Cx := List Bool × Bool
def rb (k : Nat) (c : Cx) : Nat × Cx := if c.1.length < k then (0, (c.1, true)) else (val (c.1.take k), (c.1.drop k, c.2))
def rvar (c : Cx) : Nat × Cx := ((rv c.1).1, (c.1.drop (rv c.1).2.2, c.2 || decide ((rv c.1).2.1 ≠ 0)))
theorem rb_top (k v : Nat) (R : List Bool) (q : Bool) (hv : v < 2 ^ k) : rb k (top v k ++ R, q) = (v, (R, q)) := by
  unfold rb
  rw [if_neg (by simp [top_length])]
  simp only
  rw [List.take_append_of_le_length (by rw [top_length]; exact Nat.le_refl _), List.take_of_length_le (by rw [top_length]; exact Nat.le_refl _),
    List.drop_append_of_le_length (by rw [top_length]; exact Nat.le_refl _), List.drop_of_length_le (by rw [top_length]; exact Nat.le_refl _), val_top, Nat.mod_eq_of_lt hv, List.nil_append]
theorem rb_nil (c : Cx) : rb 0 c = (0, c) := by
  obtain ⟨S, q⟩ := c
  simp [rb, val]
theorem rvar_vb (v : Nat) (R : List Bool) (q : Bool) (h : v < 18446744073709551616) : rvar (vb v ++ R, q) = (v, (R, q)) := by
  unfold rvar
  rw [rv_back v R h]
  simp
/-- the row whose mark is read; j: which row is looked at, f: how many are left, have: how many bits of the mark there are -/
def findR : Nat → Nat → Nat → Nat → Cx → Nat × Cx
  | 0, j, _, _, c => (j - 1, c)
  | f + 1, j, m, have_, c =>
    let r := rb (ms j - have_) c
    let m' := (m <<< (ms j - have_)) % 18446744073709551616 ||| r.1
    if m' = mk j then (j, r.2) else findR f (j + 1) m' (ms j) r.2
def stepR (c : Cx) : Nat × Cx :=
  let r := findR 5 0 0 0 c
  let u := rb (sz r.1) r.2
  (subW u.1 (pl r.1), u.2)
/-- what a reader knows -/
structure Rd where
  n : Nat
  last : Smp
  gap : Nat
  ws : Nat
  we : Nat
  c : Cx
def wI (x : Int) : Int := (x + 9223372036854775808) % 18446744073709551616 - 9223372036854775808
def i64 (g : Nat) : Int := if g < 9223372036854775808 then (g : Int) else (g : Int) - 18446744073709551616
def rdTime (s : Rd) : Int × Cx :=
  if s.n = 0 then let r := rvar s.c; (uz r.1, r.2)
  else if s.n = 1 then let r := rvar s.c; (wI (s.last.t + i64 r.1), r.2)
  else let r := stepR s.c; (wI (s.last.t + i64 ((s.gap + r.1) % 18446744073709551616)), r.2)
/-- a window is opened: where it begins, where it ends -/
def rdWin (ws we : Nat) (c : Cx) : Nat × Nat × Cx :=
  let a := rb 5 c
  let b := rb 6 a.2
  if 64 < a.1 + b.1 + 1 then (ws, we, (b.2.1, true)) else (a.1, a.1 + b.1 + 1, b.2)
def rdNum (s : Rd) (c : Cx) : Nat × Nat × Nat × Cx :=
  if s.n = 0 then let r := rb 64 c; (r.1, s.ws, s.we, r.2)
  else
    let r := rb 1 c
    if r.1 = 0 then (s.last.v, s.ws, s.we, r.2)
    else
      let u := rb 1 r.2
      let w := if u.1 = 1 then rdWin s.ws s.we u.2 else (s.ws, s.we, u.2)
      let x := rb (w.2.1 - w.1) w.2.2
      (s.last.v ^^^ ((x.1 <<< (64 - w.2.1)) % 18446744073709551616), w.1, w.2.1, x.2)
def rdNext (s : Rd) : Smp × Rd :=
  let t := rdTime s
  let v := rdNum s t.2
  (⟨t.1, v.1⟩, ⟨s.n + 1, ⟨t.1, v.1⟩, gapOf t.1 s.last.t, v.2.1, v.2.2.1, v.2.2.2⟩)
def rdOf (s : St) (c : Cx) : Rd := ⟨s.n, s.last, s.gap, s.ws, s.we, c⟩
theorem rowOf_le (d : Nat) : rowOf d ≤ 4 := by unfold rowOf; split <;> (try split) <;> (try split) <;> (try split) <;> omega
theorem row_room (d : Nat) (hd : d < 18446744073709551616) : (d + pl (rowOf d)) % 18446744073709551616 < 2 ^ sz (rowOf d) := by
  have key : ∀ k, hasR k d = true → (d + pl k) % 18446744073709551616 < 2 ^ sz k := by
    intro k h
    have h' := of_decide_eq_true h
    rw [Nat.div_eq_zero_iff] at h'
    rcases h' with h' | h'
    · have := Nat.two_pow_pos (sz k); omega
    · exact h'
  unfold rowOf
  split
  · exact key 0 ‹_›
  · split
    · exact key 1 ‹_›
    · split
      · exact key 2 ‹_›
      · split
        · exact key 3 ‹_›
        · exact Nat.mod_lt _ (by decide)
theorem stepR_stepB (d : Nat) (hd : d < 18446744073709551616) (R : List Bool) (q : Bool) : stepR (stepB d ++ R, q) = (d, (R, q)) := by
  have hr := row_room d hd
  have hle := rowOf_le d
  unfold stepB
  generalize rowOf d = k at *
  obtain ⟨y, hy⟩ : ∃ y, (d + pl k) % 18446744073709551616 = y := ⟨_, rfl⟩
  rw [hy] at hr ⊢
  have hf : findR 5 0 0 0 (top (mk k) (ms k) ++ top y (sz k) ++ R, q) = (k, (top y (sz k) ++ R, q)) := by
    have e1 : ∀ b (S : List Bool), rb 1 (b :: S, q) = (b.toNat, (S, q)) := by intro b S; cases b <;> simp [rb, val]
    have e0 : ∀ (S : List Bool), rb 0 (S, q) = (0, (S, q)) := fun S => rb_nil _
    have hk : k = 0 ∨ k = 1 ∨ k = 2 ∨ k = 3 ∨ k = 4 := by omega
    rcases hk with rfl | rfl | rfl | rfl | rfl <;> simp [findR, mk, ms, top, e1, e0, Nat.testBit, Nat.shiftRight_eq_div_pow]
  unfold stepR
  rw [hf]
  simp only
  rw [rb_top _ _ _ _ hr]
  simp only [Prod.mk.injEq, and_true]
  unfold subW
  rw [← hy]
  have hp : pl k < 18446744073709551616 := by
    have hk : k = 0 ∨ k = 1 ∨ k = 2 ∨ k = 3 ∨ k = 4 := by omega
    rcases hk with rfl | rfl | rfl | rfl | rfl <;> decide
  omega
theorem gap_back (t l : Int) (ht : -9223372036854775808 ≤ t ∧ t ≤ 9223372036854775807) : wI (l + i64 (gapOf t l)) = t := by
  unfold wI i64 gapOf
  split <;> omega
theorem subW_back (a g : Nat) (ha : a < 18446744073709551616) (hg : g < 18446744073709551616) : (g + subW a g) % 18446744073709551616 = a := by
  unfold subW; omega
theorem rdTime_back (s : St) (t : Int) (h : Inv s) (ht : -9223372036854775808 ≤ t ∧ t ≤ 9223372036854775807) (R : List Bool) (q : Bool) :
    rdTime (rdOf s ((if s.n = 0 then vb (zz t) else timeB s t) ++ R, q)) = (t, (R, q)) := by
  unfold rdTime rdOf
  by_cases h0 : s.n = 0
  · simp only [h0, if_true]
    rw [rvar_vb _ _ _ (zz_lt t ht.1 ht.2)]
    simp only [uz_zz]
  · simp only [h0, if_false]
    unfold timeB
    by_cases h1 : s.n = 1
    · simp only [h1, if_true]
      rw [rvar_vb _ _ _ (gapOf_lt _ _)]
      simp only [gap_back t _ ht]
    · simp only [h1, if_false]
      rw [stepR_stepB _ (subW_lt _ _)]
      simp only [subW_back _ _ (gapOf_lt _ _) h.gap, gap_back t _ ht]
theorem rb_cons (b : Bool) (S : List Bool) (q : Bool) : rb 1 (b :: S, q) = (b.toNat, (S, q)) := by cases b <;> simp [rb, val]
theorem xor_back (v l : Nat) : l ^^^ (v ^^^ l) = v := by rw [Nat.xor_comm v l, ← Nat.xor_assoc, Nat.xor_self, Nat.zero_xor]
theorem rdNum_back (s : St) (v : Nat) (h : Inv s) (hv : v < 18446744073709551616) (c0 : Cx) (R : List Bool) (q : Bool) :
    rdNum (rdOf s c0) ((if s.n = 0 then top v 64 else numB s.ws s.we (v ^^^ s.last.v)) ++ R, q) =
      (v, (if s.n = 0 then s.ws else numS s.ws s.we (v ^^^ s.last.v)), (if s.n = 0 then s.we else numE s.ws s.we (v ^^^ s.last.v)), (R, q)) := by
  unfold rdNum rdOf
  by_cases h0 : s.n = 0
  · simp only [h0, if_true]
    rw [rb_top _ _ _ _ hv]
  · simp only [h0, if_false]
    have hx := xor_lt64 hv h.last.2.2
    have hb := xor_back v s.last.v
    unfold numB numS numE
    generalize v ^^^ s.last.v = x at *
    by_cases hx0 : x = 0
    · simp only [hx0, if_true, List.cons_append, List.nil_append]
      rw [rb_cons]
      simp only [Bool.toNat_false, if_true, Prod.mk.injEq, and_true]
      rw [← hb, hx0, Nat.xor_zero]
    · simp only [hx0, if_false]
      have hwin := h.win
      by_cases hw : holdsW s.ws s.we x = true
      · simp only [hw, if_true, List.cons_append, List.nil_append]
        rw [rb_cons]
        simp only [Bool.toNat_true]
        rw [rb_cons]
        simp only [Bool.toNat_false, show ¬ (1 : Nat) = 0 by decide, if_false, show ¬ (0 : Nat) = 1 by decide]
        unfold holdsW at hw
        simp only [Bool.and_eq_true, decide_eq_true_eq] at hw
        obtain ⟨w1, w2, w3, w4, _⟩ := win_facts x hx0 hx
        obtain ⟨z1, z2⟩ := win_in x s.ws s.we hx0 hx hw.1 hw.2 (by omega)
        rw [rb_top _ _ _ _ z2]
        simp only [z1, Nat.mod_eq_of_lt hx, hb]
      · simp only [hw, Bool.false_eq_true, if_false, List.cons_append, List.nil_append, List.append_assoc]
        obtain ⟨w1, w2, w3, w4, _⟩ := win_facts x hx0 hx
        rw [rb_cons]
        simp only [Bool.toNat_true]
        rw [rb_cons]
        simp only [Bool.toNat_true, show ¬ (1 : Nat) = 0 by decide, if_false, if_true]
        unfold rdWin
        rw [rb_top 5 _ _ _ (by omega)]
        simp only
        rw [rb_top 6 _ _ _ (by omega)]
        simp only
        rw [if_neg (by omega)]
        simp only
        rw [show wS x + (wE x - wS x - 1) + 1 = wE x by omega]
        obtain ⟨z1, z2⟩ := win_in x (wS x) (wE x) hx0 hx (Nat.le_refl _) (Nat.le_refl _) w3
        rw [rb_top _ _ _ _ z2]
        simp only [z1, Nat.mod_eq_of_lt hx, hb]
/-- what is put is read again -/
theorem next_put (s : St) (a : Smp) (h : Inv s) (ha : OkS a) (R : List Bool) (q : Bool) :
    rdNext (rdOf s (bitsOf s a ++ R, q)) = (a, rdOf (put s a) (R, q)) := by
  have e : bitsOf s a = (if s.n = 0 then vb (zz a.t) else timeB s a.t) ++ (if s.n = 0 then top a.v 64 else numB s.ws s.we (a.v ^^^ s.last.v)) := by
    unfold bitsOf; split <;> rfl
  unfold rdNext
  rw [e, List.append_assoc, rdTime_back s a.t h ⟨ha.1, ha.2.1⟩]
  simp only
  rw [rdNum_back s a.v h ha.2.2]
  rfl
/-- n samples, as far as nothing is wrong -/
def rdAll : Nat → Rd → List Smp
  | 0, _ => []
  | n + 1, s => let r := rdNext s; if r.2.c.2 then [] else r.1 :: rdAll n r.2
def outOf : St → List Smp → List Bool
  | _, [] => []
  | s, a :: l => bitsOf s a ++ outOf (put s a) l
theorem foldl_out (l : List Smp) (s : St) : (l.foldl put s).out = s.out ++ outOf s l := by
  induction l generalizing s with
  | nil => simp [outOf]
  | cons a l ih => rw [List.foldl_cons, ih]; simp [outOf, put, List.append_assoc]
theorem rdAll_back (l : List Smp) (s : St) (h : Inv s) (hl : ∀ a ∈ l, OkS a) (R : List Bool) : rdAll l.length (rdOf s (outOf s l ++ R, false)) = l := by
  induction l generalizing s with
  | nil => rfl
  | cons a l ih =>
    have ha := hl a (by simp)
    simp only [List.length_cons, rdAll, outOf, List.append_assoc]
    rw [next_put s a h ha]
    show (if false = true then _ else a :: rdAll l.length (rdOf (put s a) (outOf (put s a) l ++ R, false))) = a :: l
    rw [if_neg (by decide)]
    congr 1
    exact ih (put s a) (h.put ha) fun b hb => hl b (by simp [hb])
def rd0 (B : List Bool) : Rd := ⟨0, ⟨0, 0⟩, 0, 0, 0, (B, false)⟩
theorem rdAll_run (l : List Smp) (hl : ∀ a ∈ l, OkS a) (R : List Bool) : rdAll l.length (rd0 ((run l).out ++ R)) = l := by
  have h := rdAll_back l st0 inv0 hl R
  rw [show (run l).out = outOf st0 l by rw [run, foldl_out]; rfl]
  exact h
/-- unlike samples, as many, have unlike bits -/
theorem run_inj (l m : List Smp) (hl : ∀ a ∈ l, OkS a) (hm : ∀ a ∈ m, OkS a) (hn : l.length = m.length) (R T : List Bool) (h : (run l).out ++ R = (run m).out ++ T) : l = m := by
  rw [← rdAll_run l hl R, ← rdAll_run m hm T, h, hn]
end Go.Proofs.YtdlifcpdlbmijaaGreatDoor.Gm
namespace Go.Proofs
open Go.Shelf
def Tryz.lays134_ren : Go.Shelf.Ren := ⟨fun | 134 => 115 | 129 => 123 | n => n, fun | 53 => 76 | 3 => 3 | 4 => 4 | 46 => 165 | 5 => 5 | 9 => 9 | n => n, fun | n => n⟩
theorem Tryz.lays134 : Go.Proofs.Lays.n134 Tryz.prog Tryz.lays134_ren := {
  mixed := by kernel_rfl
  f129 := Tryz.func123.trans (congrArg some (by kernel_rfl))
  f134 := Tryz.func115.trans (congrArg some (by kernel_rfl))
  t3 := Tryz.underlying3
  a3 := Tryz.isAgg3
  z3 := Tryz.sizeOf3
  v3 := Tryz.zeroValue3
  t4 := Tryz.underlying4
  a4 := Tryz.isAgg4
  z4 := Tryz.sizeOf4
  v4 := Tryz.zeroValue4
  t5 := Tryz.underlying5
  a5 := Tryz.isAgg5
  z5 := Tryz.sizeOf5
  v5 := Tryz.zeroValue5
  t9 := Tryz.underlying9
  a9 := Tryz.isAgg9
  z9 := Tryz.sizeOf9
  v9 := Tryz.zeroValue9
  t46 := Tryz.underlying165
  a46 := Tryz.isAgg165
  z46 := Tryz.sizeOf165
  v46 := Tryz.zeroValue165
  t53 := Tryz.underlying76
  a53 := Tryz.isAgg76
  z53 := Tryz.sizeOf76
  v53 := Tryz.zeroValue76 }
/-- bits.LeadingZeros64: "LeadingZeros64 returns the number of leading zero bits in x; the result is 64 for x == 0.": IT RETURNS '64 - Lib.bitLen x'; the world is as it was. ITS CALLEE bits.Len64 IS MET BY ITS OWN CONTRACT OFF THE SHELF (lay that first): entered in place it sends the kernel out of memory. (LAID: no walk: one application.) -/
theorem Tryz.bits_LeadingZeros64 (x : Int) (w : World) (h0 : 0 ≤ x) (h1 : x ≤ 18446744073709551615) :
    Calls Tryz.prog 115 #[.int .u64 x] w fun e w' => e = .returned (.int .i64 (64 - (Lib.bitLen x.toNat : Int))) ∧ w' = w := Any.bits_LeadingZeros64 Tryz.lays134 x w h0 h1
def Tryz.lays129_ren : Go.Shelf.Ren := ⟨fun | 129 => 123 | n => n, fun | 53 => 76 | 3 => 3 | 4 => 4 | 46 => 165 | 5 => 5 | 9 => 9 | n => n, fun | n => n⟩
theorem Tryz.lays129 : Go.Proofs.Lays.n129 Tryz.prog Tryz.lays129_ren := {
  mixed := by kernel_rfl
  f129 := Tryz.func123.trans (congrArg some (by kernel_rfl))
  t3 := Tryz.underlying3
  a3 := Tryz.isAgg3
  z3 := Tryz.sizeOf3
  v3 := Tryz.zeroValue3
  t4 := Tryz.underlying4
  a4 := Tryz.isAgg4
  z4 := Tryz.sizeOf4
  v4 := Tryz.zeroValue4
  t5 := Tryz.underlying5
  a5 := Tryz.isAgg5
  z5 := Tryz.sizeOf5
  v5 := Tryz.zeroValue5
  t9 := Tryz.underlying9
  a9 := Tryz.isAgg9
  z9 := Tryz.sizeOf9
  v9 := Tryz.zeroValue9
  t46 := Tryz.underlying165
  a46 := Tryz.isAgg165
  z46 := Tryz.sizeOf165
  v46 := Tryz.zeroValue165
  t53 := Tryz.underlying76
  a53 := Tryz.isAgg76
  z53 := Tryz.sizeOf76
  v53 := Tryz.zeroValue76 }
/-- bits.Len64: "Len64 returns the minimum number of bits required to represent x; the result is 0 for x == 0.": IT RETURNS 'Lib.bitLen x'; the world is as it was. ('h0', 'h1': x is a uint64.) (LAID: no walk: one application.) -/
theorem Tryz.bits_Len64 (x : Int) (w : World) (h0 : 0 ≤ x) (h1 : x ≤ 18446744073709551615) :
    Calls Tryz.prog 123 #[.int .u64 x] w fun e w' => e = .returned (.int .i64 (Lib.bitLen x.toNat)) ∧ w' = w := Any.bits_Len64 Tryz.lays129 x w h0 h1
end Go.Proofs
namespace Go.Proofs.YtdlifcpdlbmijaaGreatDoor
set_option linter.unusedVariables false
set_option linter.unusedSimpArgs false
open Go.RowKit Go.PlainAid Go.Shelf
open B2 (Only Wr PutPost Bys Row cellsOf)
open Gm (St Smp)
abbrev pt (b : Nat) : Value := .pointer (some ⟨b, 0, none⟩)
def Gives (w : World) (v : Value) (e : Ending) (w' : World) : Prop := e = .returned v ∧ Below w.heap.size w w'
theorem cell_below {w w' : World} {a : Addr} {v : Value} (h : w.cell? a = some v) (hb : Below w.heap.size w w') : w'.cell? a = some v := (hb.cell (World.block_lt_of_cell? _ _ h)).trans h
/-- the table of the library -/
def TabAt (w : World) : Prop := ∀ j, j < Lib.deBruijn64tab.length → w.cell? ⟨1, j, none⟩ = some (.int .u8 (Lib.deBruijn64tab.getD j 0))
theorem TabAt.below {w w' : World} (h : TabAt w) {B : Nat} (hb : Below B w w') (h1 : 1 < B) : TabAt w' := fun j hj => (hb.cell (p := ⟨1, j, none⟩) h1).trans (h j hj)
theorem TabAt.lt {w : World} (h : TabAt w) : 1 < w.heap.size := by
  have := h 0 (by decide)
  exact World.block_lt_of_cell? _ _ this
theorem TabAt.only {w w' : World} {S : List Nat} (h : TabAt w) (ho : Only S w w') (h1 : ∀ x ∈ S, 1 < x) : TabAt w' := fun j hj => (ho.cell (p := ⟨1, j, none⟩) h.lt (fun hm => by have := h1 _ hm; exact absurd this (by simp))).trans (h j hj)
theorem tz_key (x a : Nat) (hx : x < 18446744073709551616) (hlow : x &&& (18446744073709551616 - x) = a) (hx0 : x ≠ 0) :
    IntKind.u64.wrap (bits BinOp.and IntKind.u64 (x : Int) (IntKind.u64.wrap (-(x : Int))) * 285870213051353865) / 288230376151711744 = ((a * 285870213051353865 % 18446744073709551616 / 288230376151711744 : Nat) : Int) := by
  have e1 : IntKind.u64.wrap (-(x : Int)) = ((18446744073709551616 - x : Nat) : Int) := by rw [IntKind.wrap_u64]; omega
  rw [e1, bits_and_u64_nat x _ hx (by omega), hlow, IntKind.wrap_u64]
  omega
set_option maxHeartbeats 1000000 in
theorem tz_core (x k idx : Nat) (w : World) (hx0 : ((x : Int) == 0) = false)
    (key : IntKind.u64.wrap (bits BinOp.and IntKind.u64 (x : Int) (IntKind.u64.wrap (-(x : Int))) * 285870213051353865) / 288230376151711744 = (idx : Int))
    (hi : idx < 64) (hk : k < 64) (hcell : w.cell? ⟨1, idx, none⟩ = some (.int .u8 k)) :
    Calls Tryz.prog 116 #[.int .u64 x] w fun e w' => e = .returned (.int .i64 k) ∧ w = w' := by
  go_enter Tryz.func116, Tryz.ntmps116
  go_wp2_with (simp only [key])
  go_ret
  exact ⟨rfl, rfl⟩
theorem tz_any (x : Nat) (hx : x < 18446744073709551616) (hx0 : x ≠ 0) (w : World) (hT : TabAt w) :
    Calls Tryz.prog 116 #[.int .u64 x] w fun e w' => e = .returned (.int .i64 ((Lib.ctz 64 x : Nat) : Int)) ∧ w = w' := by
  obtain ⟨hlow, hk⟩ := Lib.lowest_bit 64 x hx0 hx
  obtain ⟨hi, htab⟩ := Lib.deBruijn64_at _ hk
  have hcell := hT _ hi
  rw [htab] at hcell
  exact tz_core x _ _ w (by simp; omega) (tz_key x _ hx hlow hx0) hi hk hcell
theorem lz_any (x : Nat) (hx : x < 18446744073709551616) (w : World) : Calls Tryz.prog 115 #[.int .u64 (x : Int)] w fun e w' => e = .returned (.int .i64 (((64 - Lib.bitLen x : Nat)) : Int)) ∧ w' = w := by
  refine (Tryz.bits_LeadingZeros64 (x : Int) w (by omega) (by omega)).mono ?_
  rintro e w' ⟨rfl, rfl⟩
  have := Lib.bitLen_le x 64 (Nat.le_refl _) hx
  refine ⟨?_, rfl⟩
  rw [Int.toNat_natCast, show ((64 - Lib.bitLen x : Nat) : Int) = 64 - (Lib.bitLen x : Int) by omega]
set_option maxHeartbeats 4000000 in
theorem window_any (x : Nat) (hx : x < 18446744073709551616) (hx0 : x ≠ 0) (w : World) (hT : TabAt w) :
    Calls Tryz.prog 105 #[.int .u64 (x : Int)] w (Gives w (.agg #[.int .i64 ((Gm.wS x : Nat) : Int), .int .i64 ((Gm.wE x : Nat) : Int)])) := by
  obtain ⟨f1, f2, f3, _⟩ := Gm.win_facts x hx0 hx
  have CL := Lib.hid (fun w => lz_any x hx w)
  have hA := (Below.refl w.heap.size w).alloc (Nat.le_refl _) (.cells #[.int .i64 0, .int .i64 0] 142)
  have CT := Lib.hid (tz_any x hx hx0 _ (hT.below hA hT.lt))
  have HA := Lib.hid hA
  obtain ⟨l, hl⟩ : ∃ l, 64 - Lib.bitLen x = l := ⟨_, rfl⟩
  obtain ⟨t, ht⟩ : ∃ t, Lib.ctz 64 x = t := ⟨_, rfl⟩
  have hl64 : l ≤ 64 := by omega
  have ht64 : t ≤ 64 := by unfold Gm.wE at f2; omega
  have e1 : Gm.wS x = min l 31 := by unfold Gm.wS; rw [hl]
  have e2 : Gm.wE x = 64 - t := by unfold Gm.wE; rw [ht]
  rw [hl] at CL
  rw [ht] at CT
  rw [e1, e2]
  clear f1 f2 f3 hA hT e1 e2 hl ht hx hx0
  have hm1 : (if (l : Int) < 31 then (l : Int) else 31) = ((min l 31 : Nat) : Int) := by split <;> omega
  have hm2 : min (l : Int) 31 = ((min l 31 : Nat) : Int) := by omega
  have hs : (64 : Int) - (t : Int) = ((64 - t : Nat) : Int) := by omega
  go_enter Tryz.func105, Tryz.ntmps105
  go_wp2_with (first | (go_at_call 115; refine (CL.out _).mono ?_; rintro e w' ⟨rfl, rfl⟩) | (go_at_call 116; refine CT.out.mono ?_; rintro e w' ⟨rfl, rfl⟩))
  have hn := heap_alloc_new w (.cells #[.int .i64 ((min l 31 : Nat) : Int), .int .i64 ((64 - t : Nat) : Int)] 142)
  refine bodyPost_ret (v := .agg #[.int .i64 ((min l 31 : Nat) : Int), .int .i64 ((64 - t : Nat) : Int)]) ?_ ?_ ?_
  · exact results_cell_row (fn := Tryz.f105) (p := 2) (ty := 142) rfl _ _ w.heap.size 142 _ (0, 0) _ rfl hn Tryz.underlying142 rfl (by kernel_rfl)
  · rfl
  · exact ⟨rfl, (Below.refl w.heap.size w).alloc (Nat.le_refl _) _⟩
/-- a window -/
def winV (s e : Nat) : Value := .agg #[.int .i64 ((s : Nat) : Int), .int .i64 ((e : Nat) : Int)]
set_option maxHeartbeats 4000000 in
theorem holds_any (s e a b : Nat) (w : World) : Calls Tryz.prog 106 #[winV s e, winV a b] w (Gives w (.bool (decide (s ≤ a) && decide (b ≤ e)))) := by
  have hA := Lib.hid (((Below.refl w.heap.size w).alloc (Nat.le_refl _) (.cells #[.int .i64 ((s : Nat) : Int), .int .i64 ((e : Nat) : Int)] 142)).alloc (by simp) (.cells #[.int .i64 ((a : Nat) : Int), .int .i64 ((b : Nat) : Int)] 142))
  unfold winV
  by_cases h1 : s ≤ a
  · have d1 : decide ((s : Int) ≤ (a : Int)) = true := decide_eq_true (by omega)
    by_cases h2 : b ≤ e
    · have d2 : decide ((b : Int) ≤ (e : Int)) = true := decide_eq_true (by omega)
      rw [decide_eq_true h1, decide_eq_true h2]
      go_enter Tryz.func106, Tryz.ntmps106
      go_wp2
      go_ret
      exact ⟨rfl, hA.out⟩
    · have d2 : decide ((b : Int) ≤ (e : Int)) = false := decide_eq_false (by omega)
      have d3 : decide (b ≤ e) = false := decide_eq_false h2
      rw [decide_eq_true h1, d3]
      go_enter Tryz.func106, Tryz.ntmps106
      go_wp2
      go_ret
      exact ⟨rfl, hA.out⟩
  · have d1 : decide ((s : Int) ≤ (a : Int)) = false := decide_eq_false (by omega)
    have d0 : decide (s ≤ a) = false := decide_eq_false h1
    rw [d0, Bool.false_and]
    go_enter Tryz.func106, Tryz.ntmps106
    go_wp2
    go_ret
    exact ⟨rfl, hA.out⟩
set_option maxHeartbeats 4000000 in
theorem size_any (s e : Nat) (h : s ≤ e) (he : e ≤ 64) (w : World) : Calls Tryz.prog 107 #[winV s e] w (Gives w (.int .i64 ((e - s : Nat) : Int))) := by
  have hA := Lib.hid ((Below.refl w.heap.size w).alloc (Nat.le_refl _) (.cells #[.int .i64 ((s : Nat) : Int), .int .i64 ((e : Nat) : Int)] 142))
  have hs : (e : Int) - (s : Int) = ((e - s : Nat) : Int) := by omega
  have hw : wrap64 ((e : Int) - (s : Int)) = ((e - s : Nat) : Int) := by unfold wrap64; omega
  unfold winV
  go_enter Tryz.func107, Tryz.ntmps107
  go_wp2
  go_ret
  exact ⟨rfl, hA.out⟩
set_option maxHeartbeats 4000000 in
theorem trailing_any (s e : Nat) (he : e ≤ 64) (w : World) : Calls Tryz.prog 108 #[winV s e] w (Gives w (.int .i64 ((64 - e : Nat) : Int))) := by
  have hA := Lib.hid ((Below.refl w.heap.size w).alloc (Nat.le_refl _) (.cells #[.int .i64 ((s : Nat) : Int), .int .i64 ((e : Nat) : Int)] 142))
  have hs : (64 : Int) - (e : Int) = ((64 - e : Nat) : Int) := by omega
  unfold winV
  go_enter Tryz.func108, Tryz.ntmps108
  go_wp2
  go_ret
  exact ⟨rfl, hA.out⟩
/-- a row of the table -/
def bkV (k : Nat) : Value := .agg #[.int .u64 ((Gm.mk k : Nat) : Int), .int .i64 ((Gm.ms k : Nat) : Int), .int .u64 ((Gm.pl k : Nat) : Int), .int .i64 ((Gm.sz k : Nat) : Int)]
theorem has_e0 (d : Nat) (hd : d < 18446744073709551616) : (((d : Nat) : Int) == 0) = decide ((d + 0) % 18446744073709551616 / 2 ^ 0 = 0) := by
  rw [Bool.eq_iff_iff]; simp only [beq_iff_eq, decide_eq_true_eq, Nat.pow_zero, Nat.div_one]; omega
theorem has_e1 (d : Nat) (hd : d < 18446744073709551616) : (IntKind.u64.wrap (((d : Nat) : Int) + 63) / 128 == 0) = decide ((d + 63) % 18446744073709551616 / 2 ^ 7 = 0) := by
  rw [Bool.eq_iff_iff]; simp only [beq_iff_eq, decide_eq_true_eq, IntKind.wrap_u64, show (2 : Nat) ^ 7 = 128 from rfl]; omega
theorem has_e2 (d : Nat) (hd : d < 18446744073709551616) : (IntKind.u64.wrap (((d : Nat) : Int) + 255) / 512 == 0) = decide ((d + 255) % 18446744073709551616 / 2 ^ 9 = 0) := by
  rw [Bool.eq_iff_iff]; simp only [beq_iff_eq, decide_eq_true_eq, IntKind.wrap_u64, show (2 : Nat) ^ 9 = 512 from rfl]; omega
theorem has_e3 (d : Nat) (hd : d < 18446744073709551616) : (IntKind.u64.wrap (((d : Nat) : Int) + 2047) / 4096 == 0) = decide ((d + 2047) % 18446744073709551616 / 2 ^ 12 = 0) := by
  rw [Bool.eq_iff_iff]; simp only [beq_iff_eq, decide_eq_true_eq, IntKind.wrap_u64, show (2 : Nat) ^ 12 = 4096 from rfl]; omega
theorem has_e4 (d : Nat) (hd : d < 18446744073709551616) : (((d : Nat) : Int) / 18446744073709551616 == 0) = decide ((d + 0) % 18446744073709551616 / 2 ^ 64 = 0) := by
  rw [Bool.eq_iff_iff]; simp only [beq_iff_eq, decide_eq_true_eq, show (2 : Nat) ^ 64 = 18446744073709551616 from rfl]; omega
set_option maxHeartbeats 4000000 in
theorem has_any (k d : Nat) (hk : k < 5) (hd : d < 18446744073709551616) (w : World) : Calls Tryz.prog 103 #[bkV k, .int .u64 (d : Int)] w (Gives w (.bool (Gm.hasR k d))) := by
  have hk5 : k = 0 ∨ k = 1 ∨ k = 2 ∨ k = 3 ∨ k = 4 := by omega
  have hA := Lib.hid (fun (a b c e : Int) => (Below.refl w.heap.size w).alloc (Nat.le_refl _) (.cells #[.int .u64 a, .int .i64 b, .int .u64 c, .int .i64 e] 244))
  unfold Gm.hasR
  rcases hk5 with rfl | rfl | rfl | rfl | rfl
  · have E := Lib.hid (has_e0 d hd)
    simp only [bkV, Gm.mk, Gm.ms, Gm.pl, Gm.sz] at E ⊢
    go_enter Tryz.func103, Tryz.ntmps103
    go_wp2
    go_ret
    exact ⟨congrArg (fun x => Ending.returned (.bool x)) E.out, hA.out _ _ _ _⟩
  · have E := Lib.hid (has_e1 d hd)
    simp only [bkV, Gm.mk, Gm.ms, Gm.pl, Gm.sz] at E ⊢
    go_enter Tryz.func103, Tryz.ntmps103
    go_wp2
    go_ret
    exact ⟨congrArg (fun x => Ending.returned (.bool x)) E.out, hA.out _ _ _ _⟩
  · have E := Lib.hid (has_e2 d hd)
    simp only [bkV, Gm.mk, Gm.ms, Gm.pl, Gm.sz] at E ⊢
    go_enter Tryz.func103, Tryz.ntmps103
    go_wp2
    go_ret
    exact ⟨congrArg (fun x => Ending.returned (.bool x)) E.out, hA.out _ _ _ _⟩
  · have E := Lib.hid (has_e3 d hd)
    simp only [bkV, Gm.mk, Gm.ms, Gm.pl, Gm.sz] at E ⊢
    go_enter Tryz.func103, Tryz.ntmps103
    go_wp2
    go_ret
    exact ⟨congrArg (fun x => Ending.returned (.bool x)) E.out, hA.out _ _ _ _⟩
  · have E := Lib.hid (has_e4 d hd)
    simp only [bkV, Gm.mk, Gm.ms, Gm.pl, Gm.sz] at E ⊢
    go_enter Tryz.func103, Tryz.ntmps103
    go_wp2
    go_ret
    exact ⟨congrArg (fun x => Ending.returned (.bool x)) E.out, hA.out _ _ _ _⟩
set_option maxHeartbeats 4000000 in
theorem has105_any (k d c : Nat) (hk : k < 5) (hd : d < 18446744073709551616) (w : World) (hc : w.cell? ⟨c, 0, none⟩ = some (.int .u64 (d : Int))) : Calls Tryz.prog 102 #[bkV k, pt c] w (Gives w (.bool (Gm.hasR k d))) := by
  have C := Lib.hid (fun w => has_any k d hk hd w)
  obtain ⟨q, hq⟩ : ∃ q, Gm.hasR k d = q := ⟨_, rfl⟩
  rw [hq] at C ⊢
  have hA := (Below.refl w.heap.size w).alloc (Nat.le_refl _) (.cells #[.int .u64 ((Gm.mk k : Nat) : Int), .int .i64 ((Gm.ms k : Nat) : Int), .int .u64 ((Gm.pl k : Nat) : Int), .int .i64 ((Gm.sz k : Nat) : Int)] 244)
  have hc2 := cell_below hc hA
  have HA := Lib.hid hA
  clear hA hq
  unfold bkV at *
  unfold pt
  go_enter Tryz.func102, Tryz.ntmps102
  go_wp2_with fail
  go_at_call 103
  refine (C.out _).mono ?_
  rintro e w1 ⟨rfl, hb⟩
  have HB := Lib.hid (HA.out.trans (hb.mono HA.out.size))
  clear hb
  go_wp2
  go_ret
  exact ⟨rfl, HB.out⟩
end Go.Proofs.YtdlifcpdlbmijaaGreatDoor
namespace Go.Proofs.YtdlifcpdlbmijaaGreatDoor
set_option linter.unusedVariables false
set_option linter.unusedSimpArgs false
open Go.RowKit Go.PlainAid Go.Shelf
open B2 (Only Wr PutPost Bys Row cellsOf)
open Gm (St Smp)
def tabC : Array Value := #[.int .u64 0, .int .i64 1, .int .u64 0, .int .i64 0, .int .u64 2, .int .i64 2, .int .u64 63, .int .i64 7, .int .u64 6, .int .i64 3, .int .u64 255, .int .i64 9, .int .u64 14, .int .i64 4, .int .u64 2047, .int .i64 12, .int .u64 15, .int .i64 4, .int .u64 0, .int .i64 64]
def z20 : Array Value := #[.int .u64 0, .int .i64 0, .int .u64 0, .int .i64 0, .int .u64 0, .int .i64 0, .int .u64 0, .int .i64 0, .int .u64 0, .int .i64 0, .int .u64 0, .int .i64 0, .int .u64 0, .int .i64 0, .int .u64 0, .int .i64 0, .int .u64 0, .int .i64 0, .int .u64 0, .int .i64 0]
theorem tab_all : tabC.all (·.oneCell') = true := by kernel_rfl
theorem tab_at : ∀ (w : World), (Instr.index 257 (.agg tabC) (.int .i64 0)).run Tryz.prog w = .ok (.agg #[.int .u64 0, .int .i64 1, .int .u64 0, .int .i64 0]) w ∧ (Instr.index 257 (.agg tabC) (.int .i64 1)).run Tryz.prog w = .ok (.agg #[.int .u64 2, .int .i64 2, .int .u64 63, .int .i64 7]) w ∧ (Instr.index 257 (.agg tabC) (.int .i64 2)).run Tryz.prog w = .ok (.agg #[.int .u64 6, .int .i64 3, .int .u64 255, .int .i64 9]) w ∧ (Instr.index 257 (.agg tabC) (.int .i64 3)).run Tryz.prog w = .ok (.agg #[.int .u64 14, .int .i64 4, .int .u64 2047, .int .i64 12]) w ∧ (Instr.index 257 (.agg tabC) (.int .i64 4)).run Tryz.prog w = .ok (.agg #[.int .u64 15, .int .i64 4, .int .u64 0, .int .i64 64]) w := fun w => ⟨by kernel_rfl, by kernel_rfl, by kernel_rfl, by kernel_rfl, by kernel_rfl⟩
theorem heap_setRow_ne (w : World) (g k : Nat) (cs : Array Value) (h : k ≠ g) : (w.setRow g cs).heap[k]? = w.heap[k]? := by
  have h2 : g ≠ k := fun e => h e.symm
  unfold World.setRow
  simp [Array.getElem?_modify, h2]
/-- what the search keeps: the result's block, the row's block, the step -/
structure Fb (w wr : World) (S c : Nat) (d : Nat) : Prop where
  r : wr.heap[S]? = some (.cells #[.int .u64 0, .int .i64 0, .int .u64 0, .int .i64 0] 244 (0, 0))
  x : ∃ a b e f, wr.heap[S + 1 + 1]? = some (.cells #[.int .u64 a, .int .i64 b, .int .u64 e, .int .i64 f] 244 (0, 0))
  c : wr.cell? ⟨c, 0, none⟩ = some (.int .u64 (d : Int))
  b : Below S w wr
theorem Fb.below {w wr w' : World} {S c d : Nat} (h : Fb w wr S c d) (hb : Below wr.heap.size wr w') : Fb w w' S c d := by
  obtain ⟨r, ⟨a, b, e, f, x⟩, hc, hB⟩ := h
  have l1 := (Array.getElem?_eq_some_iff.1 r).1
  have l2 := (Array.getElem?_eq_some_iff.1 x).1
  exact ⟨(hb.block _ l1).trans r, ⟨a, b, e, f, (hb.block _ l2).trans x⟩, cell_below hc hb, hB.trans (hb.mono (by omega))⟩
theorem Fb.row {w wr : World} {S c d : Nat} (h : Fb w wr S c d) (hcS : c < S) (a b e f : Int) : Fb w (wr.setRow (S + 1 + 1) #[.int .u64 a, .int .i64 b, .int .u64 e, .int .i64 f]) S c d ∧ (wr.setRow (S + 1 + 1) #[.int .u64 a, .int .i64 b, .int .u64 e, .int .i64 f]).heap[S + 1 + 1]? = some (.cells #[.int .u64 a, .int .i64 b, .int .u64 e, .int .i64 f] 244 (0, 0)) := by
  obtain ⟨r, ⟨a', b', e', f', x⟩, hc, hB⟩ := h
  have hx := setRow_heap _ _ _ #[.int .u64 a, .int .i64 b, .int .u64 e, .int .i64 f] _ _ x
  refine ⟨⟨(heap_setRow_ne _ _ _ _ (by omega)).trans r, ⟨a, b, e, f, hx⟩, ?_, below_setRow hB (by omega) _⟩, hx⟩
  exact (World.cell?_of_block (w := wr) (a := ⟨c, 0, none⟩) (heap_setRow_ne _ _ _ _ (by show c ≠ S + 1 + 1; omega))).trans hc
theorem fb_end {w W : World} {S c d : Nat} (h : Fb w W S c d) (cs : Array Value) : (W.setRow S cs).heap[S]? = some (.cells cs 244 (0, 0)) ∧ Below S w (W.setRow S cs) := ⟨setRow_heap _ _ _ _ _ _ h.r, below_setRow h.b (Nat.le_refl _) _⟩
theorem step_q {d j : Nat} (h : ∀ q, q < j → Gm.hasR q d = false) (hk : Gm.hasR j d = false) : ∀ q, q < j + 1 → Gm.hasR q d = false := by
  intro q hq
  rcases Nat.lt_or_ge q j with h2 | h2
  · exact h q h2
  · have : q = j := by omega
    subst this; exact hk
theorem row_is (d k : Nat) (hk : k < 5) (h : ∀ q, q < k → Gm.hasR q d = false) (hh : Gm.hasR k d = true) : Gm.rowOf d = k := by
  unfold Gm.rowOf
  have h5 : k = 0 ∨ k = 1 ∨ k = 2 ∨ k = 3 ∨ k = 4 := by omega
  rcases h5 with rfl | rfl | rfl | rfl | rfl
  · rw [if_pos hh]
  · rw [if_neg (by rw [h 0 (by omega)]; decide), if_pos hh]
  · rw [if_neg (by rw [h 0 (by omega)]; decide), if_neg (by rw [h 1 (by omega)]; decide), if_pos hh]
  · rw [if_neg (by rw [h 0 (by omega)]; decide), if_neg (by rw [h 1 (by omega)]; decide), if_neg (by rw [h 2 (by omega)]; decide), if_pos hh]
  · rw [if_neg (by rw [h 0 (by omega)]; decide), if_neg (by rw [h 1 (by omega)]; decide), if_neg (by rw [h 2 (by omega)]; decide), if_neg (by rw [h 3 (by omega)]; decide)]
set_option maxHeartbeats 8000000 in
set_option maxRecDepth 100000 in
theorem first_any (d c : Nat) (hd : d < 18446744073709551616) (w : World) (hc : w.cell? ⟨c, 0, none⟩ = some (.int .u64 (d : Int))) : Calls Tryz.prog 101 #[.func (.func 102) #[] #[pt c]] w (Gives w (bkV (Gm.rowOf d))) := by
  have hcl : c < w.heap.size := World.block_lt_of_cell? _ _ hc
  have C := Lib.hid (fun k hk w hc => has105_any k d c hk hd w hc)
  have HT := Lib.hid tab_all
  have HI := Lib.hid tab_at
  obtain ⟨S, hS⟩ : ∃ S, w.heap.size = S := ⟨_, rfl⟩
  rw [hS] at hcl
  have s1 : (w.alloc (.cells #[.int .u64 0, .int .i64 0, .int .u64 0, .int .i64 0] 244)).heap.size = S + 1 := by simp [hS]
  have s2 : ((w.alloc (.cells #[.int .u64 0, .int .i64 0, .int .u64 0, .int .i64 0] 244)).alloc (.cells z20 257)).heap.size = S + 1 + 1 := by simp [hS]
  have hr0 := heap_alloc_new w (.cells #[.int .u64 0, .int .i64 0, .int .u64 0, .int .i64 0] 244)
  have hA := heap_alloc_new (w.alloc (.cells #[.int .u64 0, .int .i64 0, .int .u64 0, .int .i64 0] 244)) (.cells z20 257)
  rw [hS] at hr0
  rw [s1] at hA
  have hx0 := heap_alloc_new (((w.alloc (.cells #[.int .u64 0, .int .i64 0, .int .u64 0, .int .i64 0] 244)).alloc (.cells z20 257)).setRow (S + 1) tabC) (.cells #[.int .u64 0, .int .i64 0, .int .u64 0, .int .i64 0] 244)
  rw [setRow_size, s2] at hx0
  have hB := (((Below.refl w.heap.size w).alloc (Nat.le_refl _) (.cells #[.int .u64 0, .int .i64 0, .int .u64 0, .int .i64 0] 244)).alloc (by simp) (.cells z20 257))
  rw [hS] at hB
  have hB2 := (below_setRow hB (show S ≤ S + 1 by omega) tabC).alloc (by rw [setRow_size, s2]; omega) (.cells #[.int .u64 0, .int .i64 0, .int .u64 0, .int .i64 0] 244)
  have hT1 := setRow_heap _ _ _ tabC _ _ hA
  have hT2 : ((((w.alloc (.cells #[.int .u64 0, .int .i64 0, .int .u64 0, .int .i64 0] 244)).alloc (.cells z20 257)).setRow (S + 1) tabC).alloc (.cells #[.int .u64 0, .int .i64 0, .int .u64 0, .int .i64 0] 244)).heap[S + 1]? = some (.cells tabC 257 (0, 0)) := ((Below.heap_alloc _ _ _ (by rw [setRow_size, s2]; omega))).trans hT1
  have hR2 : ((((w.alloc (.cells #[.int .u64 0, .int .i64 0, .int .u64 0, .int .i64 0] 244)).alloc (.cells z20 257)).setRow (S + 1) tabC).alloc (.cells #[.int .u64 0, .int .i64 0, .int .u64 0, .int .i64 0] 244)).heap[S]? = some (.cells #[.int .u64 0, .int .i64 0, .int .u64 0, .int .i64 0] 244 (0, 0)) := ((Below.heap_alloc _ _ _ (by rw [setRow_size, s2]; omega))).trans ((heap_setRow_ne _ _ _ _ (by omega)).trans ((Below.heap_alloc _ _ _ (by rw [s1]; omega)).trans hr0))
  have HF := Lib.hid (show Fb w ((((w.alloc (.cells #[.int .u64 0, .int .i64 0, .int .u64 0, .int .i64 0] 244)).alloc (.cells z20 257)).setRow (S + 1) tabC).alloc (.cells #[.int .u64 0, .int .i64 0, .int .u64 0, .int .i64 0] 244)) S c d from ⟨hR2, ⟨0, 0, 0, 0, hx0⟩, (hB2.cell (p := ⟨c, 0, none⟩) (by show c < S; omega)).trans hc, hB2⟩)
  have HCL := Lib.hid hcl
  clear hr0 hx0 hB hB2 hT1 hR2 s1 s2 hc hcl
  unfold pt at *
  go_enter Tryz.func101, Tryz.ntmps101
  go_wp2_with fail
  go_step3
  go_wp2_with (first | (refine wpList_store_row rfl 257 (.tmp 3) (.tmp 10) rfl (S + 1) tabC rfl rfl 257 z20 hA (by kernel_rfl) rfl HT.out ?_))
  unfold z20 at HF hT2
  generalize hW0 : ((((w.alloc (.cells #[.int .u64 0, .int .i64 0, .int .u64 0, .int .i64 0] 244)).alloc (.cells #[.int .u64 0, .int .i64 0, .int .u64 0, .int .i64 0, .int .u64 0, .int .i64 0, .int .u64 0, .int .i64 0, .int .u64 0, .int .i64 0, .int .u64 0, .int .i64 0, .int .u64 0, .int .i64 0, .int .u64 0, .int .i64 0, .int .u64 0, .int .i64 0, .int .u64 0, .int .i64 0] 257)).setRow (S + 1) tabC).alloc (.cells #[.int .u64 0, .int .i64 0, .int .u64 0, .int .i64 0] 244)) = W0 at HF hT2
  go_step3
  go_wp2_with (first | (refine wpList_load_row rfl 257 (.tmp 3) rfl (S + 1) rfl 257 tabC (0, 0) _ hT2 Tryz.underlying257 rfl (by kernel_rfl) ?_))
  clear hA hT2 HT hW0
  go_loopw [12] (fun i wr => ∃ j : Nat, j ≤ 4 ∧ i = .int .i64 j ∧ Hid (∀ q, q < j → Gm.hasR q d = false) ∧ Hid (Fb w wr S c d)) (fun i _ => 5 - (intOf i).toNat)
  case atStart => exact ⟨0, by omega, rfl, Lib.hid (fun q h => by omega), HF⟩
  case round =>
    obtain ⟨j, hj, rfl, HQ, HD⟩ := hrel
    have hj2 : j = 0 ∨ j = 1 ∨ j = 2 ∨ j = 3 ∨ j = 4 := by omega
    rcases hj2 with rfl | rfl | rfl | rfl | rfl
    · have hI := HI.out wr
      obtain ⟨hi0, hi1, hi2, hi3, hi4⟩ := hI
      clear hi1 hi2 hi3 hi4
      obtain ⟨xa, xb, xe, xf, hx⟩ := HD.out.x
      have hR := HD.out.row HCL.out 0 1 0 0
      have hL := hR.2
      have HB := Lib.hid hR.1
      have CJ := Lib.hid (C.out 0 (by omega) _ HB.out.c)
      clear hR
      by_cases hk : Gm.hasR 0 d = true
      · rw [hk] at CJ
        have HR := Lib.hid (row_is d 0 (by omega) HQ.out hk)
        clear hk HQ
        go_wp2_with (first | (refine wpList_store_row rfl 244 (.tmp 4) (.tmp 14) rfl (S + 1 + 1) #[.int .u64 0, .int .i64 1, .int .u64 0, .int .i64 0] rfl rfl 244 #[.int .u64 xa, .int .i64 xb, .int .u64 xe, .int .i64 xf] hx (by kernel_rfl) rfl (by kernel_rfl) ?_) | (refine wpList_load_row rfl 244 (.tmp 4) rfl (S + 1 + 1) rfl 244 #[.int .u64 0, .int .i64 1, .int .u64 0, .int .i64 0] (0, 0) _ hL Tryz.underlying244 rfl (by kernel_rfl) ?_))
        go_at_call 102
        refine CJ.out.mono ?_
        rintro e w2 ⟨rfl, hb⟩
        have HB2 := Lib.hid (HB.out.below hb)
        have hL2 := (hb.block _ (Array.getElem?_eq_some_iff.1 hL).1).trans hL
        have HE := Lib.hid (fb_end HB2.out #[.int .u64 0, .int .i64 1, .int .u64 0, .int .i64 0])
        have hr2 := HB2.out.r
        clear hb hL
        go_wp2_with (first | (refine wpList_load_row rfl 244 (.tmp 4) rfl (S + 1 + 1) rfl 244 #[.int .u64 0, .int .i64 1, .int .u64 0, .int .i64 0] (0, 0) _ hL2 Tryz.underlying244 rfl (by kernel_rfl) ?_) | (refine wpList_store_row rfl 244 (.tmp 2) (.tmp 19) rfl S #[.int .u64 0, .int .i64 1, .int .u64 0, .int .i64 0] rfl rfl 244 #[.int .u64 0, .int .i64 0, .int .u64 0, .int .i64 0] hr2 (by kernel_rfl) rfl (by kernel_rfl) ?_))
        rw [Exit.noGoto_ret]
        refine bodyPost_ret (v := .agg #[.int .u64 0, .int .i64 1, .int .u64 0, .int .i64 0]) ?_ ?_ ?_
        · exact results_cell_row (fn := Tryz.f101) (p := 2) (ty := 244) rfl _ _ S 244 #[.int .u64 0, .int .i64 1, .int .u64 0, .int .i64 0] (0, 0) _ rfl HE.out.1 Tryz.underlying244 rfl (by kernel_rfl)
        · rfl
        · exact ⟨by rw [HR.out]; rfl, by rw [hS]; exact HE.out.2⟩
      · have hk : Gm.hasR 0 d = false := by simpa using hk
        rw [hk] at CJ
        have HQ2 := Lib.hid (step_q HQ.out hk)
        clear hk HQ
        go_wp2_with (first | (refine wpList_store_row rfl 244 (.tmp 4) (.tmp 14) rfl (S + 1 + 1) #[.int .u64 0, .int .i64 1, .int .u64 0, .int .i64 0] rfl rfl 244 #[.int .u64 xa, .int .i64 xb, .int .u64 xe, .int .i64 xf] hx (by kernel_rfl) rfl (by kernel_rfl) ?_) | (refine wpList_load_row rfl 244 (.tmp 4) rfl (S + 1 + 1) rfl 244 #[.int .u64 0, .int .i64 1, .int .u64 0, .int .i64 0] (0, 0) _ hL Tryz.underlying244 rfl (by kernel_rfl) ?_))
        go_at_call 102
        refine CJ.out.mono ?_
        rintro e w2 ⟨rfl, hb⟩
        have HB2 := Lib.hid (HB.out.below hb)
        clear hb hL
        go_wp2_with fail
        exact ⟨⟨1, by omega, rfl, HQ2, HB2⟩, by simp [intOf]⟩
    · have hI := HI.out wr
      obtain ⟨hi0, hi1, hi2, hi3, hi4⟩ := hI
      clear hi0 hi2 hi3 hi4
      obtain ⟨xa, xb, xe, xf, hx⟩ := HD.out.x
      have hR := HD.out.row HCL.out 2 2 63 7
      have hL := hR.2
      have HB := Lib.hid hR.1
      have CJ := Lib.hid (C.out 1 (by omega) _ HB.out.c)
      clear hR
      by_cases hk : Gm.hasR 1 d = true
      · rw [hk] at CJ
        have HR := Lib.hid (row_is d 1 (by omega) HQ.out hk)
        clear hk HQ
        go_wp2_with (first | (refine wpList_store_row rfl 244 (.tmp 4) (.tmp 14) rfl (S + 1 + 1) #[.int .u64 2, .int .i64 2, .int .u64 63, .int .i64 7] rfl rfl 244 #[.int .u64 xa, .int .i64 xb, .int .u64 xe, .int .i64 xf] hx (by kernel_rfl) rfl (by kernel_rfl) ?_) | (refine wpList_load_row rfl 244 (.tmp 4) rfl (S + 1 + 1) rfl 244 #[.int .u64 2, .int .i64 2, .int .u64 63, .int .i64 7] (0, 0) _ hL Tryz.underlying244 rfl (by kernel_rfl) ?_))
        go_at_call 102
        refine CJ.out.mono ?_
        rintro e w2 ⟨rfl, hb⟩
        have HB2 := Lib.hid (HB.out.below hb)
        have hL2 := (hb.block _ (Array.getElem?_eq_some_iff.1 hL).1).trans hL
        have HE := Lib.hid (fb_end HB2.out #[.int .u64 2, .int .i64 2, .int .u64 63, .int .i64 7])
        have hr2 := HB2.out.r
        clear hb hL
        go_wp2_with (first | (refine wpList_load_row rfl 244 (.tmp 4) rfl (S + 1 + 1) rfl 244 #[.int .u64 2, .int .i64 2, .int .u64 63, .int .i64 7] (0, 0) _ hL2 Tryz.underlying244 rfl (by kernel_rfl) ?_) | (refine wpList_store_row rfl 244 (.tmp 2) (.tmp 19) rfl S #[.int .u64 2, .int .i64 2, .int .u64 63, .int .i64 7] rfl rfl 244 #[.int .u64 0, .int .i64 0, .int .u64 0, .int .i64 0] hr2 (by kernel_rfl) rfl (by kernel_rfl) ?_))
        rw [Exit.noGoto_ret]
        refine bodyPost_ret (v := .agg #[.int .u64 2, .int .i64 2, .int .u64 63, .int .i64 7]) ?_ ?_ ?_
        · exact results_cell_row (fn := Tryz.f101) (p := 2) (ty := 244) rfl _ _ S 244 #[.int .u64 2, .int .i64 2, .int .u64 63, .int .i64 7] (0, 0) _ rfl HE.out.1 Tryz.underlying244 rfl (by kernel_rfl)
        · rfl
        · exact ⟨by rw [HR.out]; rfl, by rw [hS]; exact HE.out.2⟩
      · have hk : Gm.hasR 1 d = false := by simpa using hk
        rw [hk] at CJ
        have HQ2 := Lib.hid (step_q HQ.out hk)
        clear hk HQ
        go_wp2_with (first | (refine wpList_store_row rfl 244 (.tmp 4) (.tmp 14) rfl (S + 1 + 1) #[.int .u64 2, .int .i64 2, .int .u64 63, .int .i64 7] rfl rfl 244 #[.int .u64 xa, .int .i64 xb, .int .u64 xe, .int .i64 xf] hx (by kernel_rfl) rfl (by kernel_rfl) ?_) | (refine wpList_load_row rfl 244 (.tmp 4) rfl (S + 1 + 1) rfl 244 #[.int .u64 2, .int .i64 2, .int .u64 63, .int .i64 7] (0, 0) _ hL Tryz.underlying244 rfl (by kernel_rfl) ?_))
        go_at_call 102
        refine CJ.out.mono ?_
        rintro e w2 ⟨rfl, hb⟩
        have HB2 := Lib.hid (HB.out.below hb)
        clear hb hL
        go_wp2_with fail
        exact ⟨⟨2, by omega, rfl, HQ2, HB2⟩, by simp [intOf]⟩
    · have hI := HI.out wr
      obtain ⟨hi0, hi1, hi2, hi3, hi4⟩ := hI
      clear hi0 hi1 hi3 hi4
      obtain ⟨xa, xb, xe, xf, hx⟩ := HD.out.x
      have hR := HD.out.row HCL.out 6 3 255 9
      have hL := hR.2
      have HB := Lib.hid hR.1
      have CJ := Lib.hid (C.out 2 (by omega) _ HB.out.c)
      clear hR
      by_cases hk : Gm.hasR 2 d = true
      · rw [hk] at CJ
        have HR := Lib.hid (row_is d 2 (by omega) HQ.out hk)
        clear hk HQ
        go_wp2_with (first | (refine wpList_store_row rfl 244 (.tmp 4) (.tmp 14) rfl (S + 1 + 1) #[.int .u64 6, .int .i64 3, .int .u64 255, .int .i64 9] rfl rfl 244 #[.int .u64 xa, .int .i64 xb, .int .u64 xe, .int .i64 xf] hx (by kernel_rfl) rfl (by kernel_rfl) ?_) | (refine wpList_load_row rfl 244 (.tmp 4) rfl (S + 1 + 1) rfl 244 #[.int .u64 6, .int .i64 3, .int .u64 255, .int .i64 9] (0, 0) _ hL Tryz.underlying244 rfl (by kernel_rfl) ?_))
        go_at_call 102
        refine CJ.out.mono ?_
        rintro e w2 ⟨rfl, hb⟩
        have HB2 := Lib.hid (HB.out.below hb)
        have hL2 := (hb.block _ (Array.getElem?_eq_some_iff.1 hL).1).trans hL
        have HE := Lib.hid (fb_end HB2.out #[.int .u64 6, .int .i64 3, .int .u64 255, .int .i64 9])
        have hr2 := HB2.out.r
        clear hb hL
        go_wp2_with (first | (refine wpList_load_row rfl 244 (.tmp 4) rfl (S + 1 + 1) rfl 244 #[.int .u64 6, .int .i64 3, .int .u64 255, .int .i64 9] (0, 0) _ hL2 Tryz.underlying244 rfl (by kernel_rfl) ?_) | (refine wpList_store_row rfl 244 (.tmp 2) (.tmp 19) rfl S #[.int .u64 6, .int .i64 3, .int .u64 255, .int .i64 9] rfl rfl 244 #[.int .u64 0, .int .i64 0, .int .u64 0, .int .i64 0] hr2 (by kernel_rfl) rfl (by kernel_rfl) ?_))
        rw [Exit.noGoto_ret]
        refine bodyPost_ret (v := .agg #[.int .u64 6, .int .i64 3, .int .u64 255, .int .i64 9]) ?_ ?_ ?_
        · exact results_cell_row (fn := Tryz.f101) (p := 2) (ty := 244) rfl _ _ S 244 #[.int .u64 6, .int .i64 3, .int .u64 255, .int .i64 9] (0, 0) _ rfl HE.out.1 Tryz.underlying244 rfl (by kernel_rfl)
        · rfl
        · exact ⟨by rw [HR.out]; rfl, by rw [hS]; exact HE.out.2⟩
      · have hk : Gm.hasR 2 d = false := by simpa using hk
        rw [hk] at CJ
        have HQ2 := Lib.hid (step_q HQ.out hk)
        clear hk HQ
        go_wp2_with (first | (refine wpList_store_row rfl 244 (.tmp 4) (.tmp 14) rfl (S + 1 + 1) #[.int .u64 6, .int .i64 3, .int .u64 255, .int .i64 9] rfl rfl 244 #[.int .u64 xa, .int .i64 xb, .int .u64 xe, .int .i64 xf] hx (by kernel_rfl) rfl (by kernel_rfl) ?_) | (refine wpList_load_row rfl 244 (.tmp 4) rfl (S + 1 + 1) rfl 244 #[.int .u64 6, .int .i64 3, .int .u64 255, .int .i64 9] (0, 0) _ hL Tryz.underlying244 rfl (by kernel_rfl) ?_))
        go_at_call 102
        refine CJ.out.mono ?_
        rintro e w2 ⟨rfl, hb⟩
        have HB2 := Lib.hid (HB.out.below hb)
        clear hb hL
        go_wp2_with fail
        exact ⟨⟨3, by omega, rfl, HQ2, HB2⟩, by simp [intOf]⟩
    · have hI := HI.out wr
      obtain ⟨hi0, hi1, hi2, hi3, hi4⟩ := hI
      clear hi0 hi1 hi2 hi4
      obtain ⟨xa, xb, xe, xf, hx⟩ := HD.out.x
      have hR := HD.out.row HCL.out 14 4 2047 12
      have hL := hR.2
      have HB := Lib.hid hR.1
      have CJ := Lib.hid (C.out 3 (by omega) _ HB.out.c)
      clear hR
      by_cases hk : Gm.hasR 3 d = true
      · rw [hk] at CJ
        have HR := Lib.hid (row_is d 3 (by omega) HQ.out hk)
        clear hk HQ
        go_wp2_with (first | (refine wpList_store_row rfl 244 (.tmp 4) (.tmp 14) rfl (S + 1 + 1) #[.int .u64 14, .int .i64 4, .int .u64 2047, .int .i64 12] rfl rfl 244 #[.int .u64 xa, .int .i64 xb, .int .u64 xe, .int .i64 xf] hx (by kernel_rfl) rfl (by kernel_rfl) ?_) | (refine wpList_load_row rfl 244 (.tmp 4) rfl (S + 1 + 1) rfl 244 #[.int .u64 14, .int .i64 4, .int .u64 2047, .int .i64 12] (0, 0) _ hL Tryz.underlying244 rfl (by kernel_rfl) ?_))
        go_at_call 102
        refine CJ.out.mono ?_
        rintro e w2 ⟨rfl, hb⟩
        have HB2 := Lib.hid (HB.out.below hb)
        have hL2 := (hb.block _ (Array.getElem?_eq_some_iff.1 hL).1).trans hL
        have HE := Lib.hid (fb_end HB2.out #[.int .u64 14, .int .i64 4, .int .u64 2047, .int .i64 12])
        have hr2 := HB2.out.r
        clear hb hL
        go_wp2_with (first | (refine wpList_load_row rfl 244 (.tmp 4) rfl (S + 1 + 1) rfl 244 #[.int .u64 14, .int .i64 4, .int .u64 2047, .int .i64 12] (0, 0) _ hL2 Tryz.underlying244 rfl (by kernel_rfl) ?_) | (refine wpList_store_row rfl 244 (.tmp 2) (.tmp 19) rfl S #[.int .u64 14, .int .i64 4, .int .u64 2047, .int .i64 12] rfl rfl 244 #[.int .u64 0, .int .i64 0, .int .u64 0, .int .i64 0] hr2 (by kernel_rfl) rfl (by kernel_rfl) ?_))
        rw [Exit.noGoto_ret]
        refine bodyPost_ret (v := .agg #[.int .u64 14, .int .i64 4, .int .u64 2047, .int .i64 12]) ?_ ?_ ?_
        · exact results_cell_row (fn := Tryz.f101) (p := 2) (ty := 244) rfl _ _ S 244 #[.int .u64 14, .int .i64 4, .int .u64 2047, .int .i64 12] (0, 0) _ rfl HE.out.1 Tryz.underlying244 rfl (by kernel_rfl)
        · rfl
        · exact ⟨by rw [HR.out]; rfl, by rw [hS]; exact HE.out.2⟩
      · have hk : Gm.hasR 3 d = false := by simpa using hk
        rw [hk] at CJ
        have HQ2 := Lib.hid (step_q HQ.out hk)
        clear hk HQ
        go_wp2_with (first | (refine wpList_store_row rfl 244 (.tmp 4) (.tmp 14) rfl (S + 1 + 1) #[.int .u64 14, .int .i64 4, .int .u64 2047, .int .i64 12] rfl rfl 244 #[.int .u64 xa, .int .i64 xb, .int .u64 xe, .int .i64 xf] hx (by kernel_rfl) rfl (by kernel_rfl) ?_) | (refine wpList_load_row rfl 244 (.tmp 4) rfl (S + 1 + 1) rfl 244 #[.int .u64 14, .int .i64 4, .int .u64 2047, .int .i64 12] (0, 0) _ hL Tryz.underlying244 rfl (by kernel_rfl) ?_))
        go_at_call 102
        refine CJ.out.mono ?_
        rintro e w2 ⟨rfl, hb⟩
        have HB2 := Lib.hid (HB.out.below hb)
        clear hb hL
        go_wp2_with fail
        exact ⟨⟨4, by omega, rfl, HQ2, HB2⟩, by simp [intOf]⟩
    · have hI := HI.out wr
      obtain ⟨hi0, hi1, hi2, hi3, hi4⟩ := hI
      clear hi0 hi1 hi2 hi3
      obtain ⟨xa, xb, xe, xf, hx⟩ := HD.out.x
      have hR := HD.out.row HCL.out 15 4 0 64
      have hL := hR.2
      have HB := Lib.hid hR.1
      have CJ := Lib.hid (C.out 4 (by omega) _ HB.out.c)
      clear hR
      by_cases hk : Gm.hasR 4 d = true
      · rw [hk] at CJ
        have HR := Lib.hid (row_is d 4 (by omega) HQ.out hk)
        clear hk HQ
        go_wp2_with (first | (refine wpList_store_row rfl 244 (.tmp 4) (.tmp 14) rfl (S + 1 + 1) #[.int .u64 15, .int .i64 4, .int .u64 0, .int .i64 64] rfl rfl 244 #[.int .u64 xa, .int .i64 xb, .int .u64 xe, .int .i64 xf] hx (by kernel_rfl) rfl (by kernel_rfl) ?_) | (refine wpList_load_row rfl 244 (.tmp 4) rfl (S + 1 + 1) rfl 244 #[.int .u64 15, .int .i64 4, .int .u64 0, .int .i64 64] (0, 0) _ hL Tryz.underlying244 rfl (by kernel_rfl) ?_))
        go_at_call 102
        refine CJ.out.mono ?_
        rintro e w2 ⟨rfl, hb⟩
        have HB2 := Lib.hid (HB.out.below hb)
        have hL2 := (hb.block _ (Array.getElem?_eq_some_iff.1 hL).1).trans hL
        have HE := Lib.hid (fb_end HB2.out #[.int .u64 15, .int .i64 4, .int .u64 0, .int .i64 64])
        have hr2 := HB2.out.r
        clear hb hL
        go_wp2_with (first | (refine wpList_load_row rfl 244 (.tmp 4) rfl (S + 1 + 1) rfl 244 #[.int .u64 15, .int .i64 4, .int .u64 0, .int .i64 64] (0, 0) _ hL2 Tryz.underlying244 rfl (by kernel_rfl) ?_) | (refine wpList_store_row rfl 244 (.tmp 2) (.tmp 19) rfl S #[.int .u64 15, .int .i64 4, .int .u64 0, .int .i64 64] rfl rfl 244 #[.int .u64 0, .int .i64 0, .int .u64 0, .int .i64 0] hr2 (by kernel_rfl) rfl (by kernel_rfl) ?_))
        rw [Exit.noGoto_ret]
        refine bodyPost_ret (v := .agg #[.int .u64 15, .int .i64 4, .int .u64 0, .int .i64 64]) ?_ ?_ ?_
        · exact results_cell_row (fn := Tryz.f101) (p := 2) (ty := 244) rfl _ _ S 244 #[.int .u64 15, .int .i64 4, .int .u64 0, .int .i64 64] (0, 0) _ rfl HE.out.1 Tryz.underlying244 rfl (by kernel_rfl)
        · rfl
        · exact ⟨by rw [HR.out]; rfl, by rw [hS]; exact HE.out.2⟩
      · have hk : Gm.hasR 4 d = false := by simpa using hk
        rw [hk] at CJ
        unfold Gm.hasR at hk
        have := of_decide_eq_false hk
        exact absurd (Nat.div_eq_of_lt (Nat.mod_lt _ (by decide))) this
end Go.Proofs.YtdlifcpdlbmijaaGreatDoor
namespace Go.Proofs.YtdlifcpdlbmijaaGreatDoor
set_option linter.unusedVariables false
set_option linter.unusedSimpArgs false
open Go.RowKit Go.PlainAid Go.Shelf
open B2 (Only Wr PutPost Bys Row cellsOf)
open Gm (St Smp)
/-- the cells of an appender -/
def apC (s : St) (p : Nat) : Array Value := #[.int .i64 ((s.n : Nat) : Int), .int .i64 s.last.t, .int .u64 ((s.last.v : Nat) : Int), .int .u64 ((s.gap : Nat) : Int), .int .i64 ((s.ws : Nat) : Int), .int .i64 ((s.we : Nat) : Int), .int .i64 s.frm, pt p]
/-- an appender -/
structure Ap (w : World) (a p d : Nat) (s : St) : Prop where
  row : w.heap[a]? = some (.cells (apC s p) 146 (0, 0))
  wr : Wr w p d s.out
  pa : a ≠ p
  da : a ≠ d
theorem Ap.lt {w : World} {a p d : Nat} {s : St} (h : Ap w a p d s) : a < w.heap.size := (Array.getElem?_eq_some_iff.1 h.row).1
theorem Ap.cell {w : World} {a p d : Nat} {s : St} (h : Ap w a p d s) (i : Nat) (v : Value) (hv : (apC s p)[i]? = some v) : w.cell? ⟨a, i, none⟩ = some v := (cell_of_row _ _ i _ _ _ h.row).trans hv
theorem Ap.c0 {w : World} {a p d : Nat} {s : St} (h : Ap w a p d s) : w.cell? ⟨a, 0, none⟩ = some (.int .i64 ((s.n : Nat) : Int)) := h.cell 0 _ rfl
theorem Ap.c1 {w : World} {a p d : Nat} {s : St} (h : Ap w a p d s) : w.cell? ⟨a, 1, none⟩ = some (.int .i64 s.last.t) := h.cell 1 _ rfl
theorem Ap.c2 {w : World} {a p d : Nat} {s : St} (h : Ap w a p d s) : w.cell? ⟨a, 2, none⟩ = some (.int .u64 ((s.last.v : Nat) : Int)) := h.cell 2 _ rfl
theorem Ap.c3 {w : World} {a p d : Nat} {s : St} (h : Ap w a p d s) : w.cell? ⟨a, 3, none⟩ = some (.int .u64 ((s.gap : Nat) : Int)) := h.cell 3 _ rfl
theorem Ap.c4 {w : World} {a p d : Nat} {s : St} (h : Ap w a p d s) : w.cell? ⟨a, 4, none⟩ = some (.int .i64 ((s.ws : Nat) : Int)) := h.cell 4 _ rfl
theorem Ap.c5 {w : World} {a p d : Nat} {s : St} (h : Ap w a p d s) : w.cell? ⟨a, 5, none⟩ = some (.int .i64 ((s.we : Nat) : Int)) := h.cell 5 _ rfl
theorem Ap.c6 {w : World} {a p d : Nat} {s : St} (h : Ap w a p d s) : w.cell? ⟨a, 6, none⟩ = some (.int .i64 s.frm) := h.cell 6 _ rfl
theorem Ap.c7 {w : World} {a p d : Nat} {s : St} (h : Ap w a p d s) : w.cell? ⟨a, 7, none⟩ = some (.pointer (some ⟨p, 0, none⟩)) := h.cell 7 _ rfl
theorem gap_word (t l : Int) (ht : -9223372036854775808 ≤ t ∧ t ≤ 9223372036854775807) (hl : -9223372036854775808 ≤ l ∧ l ≤ 9223372036854775807) : IntKind.u64.wrap (RowKit.wrap64 (t - l)) = ((Gm.gapOf t l : Nat) : Int) := by
  rw [IntKind.wrap_u64]; unfold RowKit.wrap64 Gm.gapOf; omega
theorem sub_word (a b : Nat) (ha : a < 18446744073709551616) (hb : b < 18446744073709551616) : IntKind.u64.wrap ((a : Int) - (b : Int)) = ((Gm.subW a b : Nat) : Int) := by
  rw [IntKind.wrap_u64]; unfold Gm.subW; omega
theorem add_word (a b : Nat) : IntKind.u64.wrap ((a : Int) + (b : Int)) = (((a + b) % 18446744073709551616 : Nat) : Int) := by
  rw [IntKind.wrap_u64]; omega
theorem _root_.Go.Proofs.YtdlifcpdlbmijaaGreatDoor.B2.PutPost.trans' {w w1 w2 : World} {p d d1 : Nat} {B : List Bool} (h : PutPost w1 p d1 B w2) (hO : Only [p, d] w w1) (hd : d1 = d ∨ w.heap.size ≤ d1) : PutPost w p d B w2 := PutPost.trans hO hd h
theorem Only_cell {S : List Nat} {w w' : World} (h : Only S w w') {b i : Nat} {v : Value} (hc : w.cell? ⟨b, i, none⟩ = some v) (hn : b ∉ S) : w'.cell? ⟨b, i, none⟩ = some v := (h.cell (p := ⟨b, i, none⟩) (World.block_lt_of_cell? _ _ hc) hn).trans hc
theorem drew_below (w : World) : Below w.heap.size w w.drew := ⟨rfl, rfl, rfl, Nat.le_refl _, fun _ _ => rfl⟩
theorem mk_small (k : Nat) : Gm.ms k ≤ 64 ∧ Gm.sz k ≤ 64 := by
  have h5 : k = 0 ∨ k = 1 ∨ k = 2 ∨ k = 3 ∨ 4 ≤ k := by omega
  rcases h5 with rfl | rfl | rfl | rfl | h
  · decide
  · decide
  · decide
  · decide
  · unfold Gm.ms Gm.sz; constructor <;> (split <;> omega)
set_option maxHeartbeats 8000000 in
set_option maxRecDepth 100000 in
theorem puttime_any (a p d : Nat) (s : St) (t : Int) (ht : -9223372036854775808 ≤ t ∧ t ≤ 9223372036854775807) (hI : Gm.Inv s) (hn : s.n ≤ 1000) (hB : s.out.length + 200 ≤ 1000000000) (w : World) (H : Ap w a p d s) :
    Calls Tryz.prog 78 #[pt a, .int .i64 t] w fun e w' => e = .returned (.tuple #[]) ∧ PutPost w p d (s.out ++ Gm.timeB s t) w' := by
  have c0 := H.c0
  have c1 := H.c1
  have c3 := H.c3
  have c7 := H.c7
  have hg := gap_word t s.last.t ht ⟨hI.last.1, hI.last.2.1⟩
  have hgl := Gm.gapOf_lt t s.last.t
  by_cases h1 : s.n = 1
  · have e1 : Gm.timeB s t = B2.Bt.vb (Gm.gapOf t s.last.t) := by unfold Gm.timeB; rw [if_pos h1]
    rw [e1]
    rw [h1] at c0
    have CV := Lib.hid (B2.wvarint_any p d s.out (Gm.gapOf t s.last.t) hgl w H.wr (by omega))
    obtain ⟨G, hG⟩ : ∃ G, Gm.gapOf t s.last.t = G := ⟨_, rfl⟩
    rw [hG] at CV hg hgl ⊢
    clear e1 h1 hG hI hB hn H c3
    unfold pt at *
    go_enter Tryz.func78, Tryz.ntmps78
    go_wp2_with (first | (simp only [hg]) | (go_at_call 99; refine CV.out.mono ?_; rintro e w1 ⟨rfl, hp⟩))
    exact bodyPost_ret (results_none rfl _ _ _) rfl ⟨rfl, hp⟩
  · have e1 : Gm.timeB s t = Gm.stepB (Gm.subW (Gm.gapOf t s.last.t) s.gap) := by unfold Gm.timeB; rw [if_neg h1]
    have hs := sub_word (Gm.gapOf t s.last.t) s.gap hgl hI.gap
    have hDl := Gm.subW_lt (Gm.gapOf t s.last.t) s.gap
    rw [e1]
    have hn1 : ((s.n : Int) == 1) = false := by simp; omega
    have hn2 : ¬ (s.n : Int) = 1 := by omega
    obtain ⟨hpl, hdl⟩ := H.wr.lt
    have hal := H.lt
    have HP := Lib.hid (show p < w.heap.size ∧ d < w.heap.size ∧ a < w.heap.size ∧ a ≠ p ∧ a ≠ d from ⟨hpl, hdl, hal, H.pa, H.da⟩)
    have HW := Lib.hid H.wr
    have HBB := Lib.hid hB
    obtain ⟨G, hG⟩ : ∃ G, Gm.gapOf t s.last.t = G := ⟨_, rfl⟩
    rw [hG] at hg hgl hs hDl ⊢
    obtain ⟨D, hD⟩ : ∃ D, Gm.subW G s.gap = D := ⟨_, rfl⟩
    rw [hD] at hs hDl ⊢
    have hA := (Below.refl w.heap.size w).alloc (Nat.le_refl _) (.cells #[.int .u64 (D : Int)] 76)
    have hcD : (w.alloc (.cells #[.int .u64 (D : Int)] 76)).cell? ⟨w.heap.size, 0, none⟩ = some (.int .u64 (D : Int)) := World.cell?_alloc_at _ _ _ _ rfl
    have CF := Lib.hid (first_any D w.heap.size hDl _ hcD)
    have HA := Lib.hid hA
    have HcD := Lib.hid hcD
    have H7 := Lib.hid c7
    obtain ⟨k, hk⟩ : ∃ k, Gm.rowOf D = k := ⟨_, rfl⟩
    have HSB := Lib.hid (show Gm.stepB D = B2.Bt.top (Gm.mk k) (Gm.ms k) ++ B2.Bt.top ((D + Gm.pl k) % 18446744073709551616) (Gm.sz k) by unfold Gm.stepB; rw [hk])
    have HAW := Lib.hid (add_word D (Gm.pl k))
    have HMS := Lib.hid (mk_small k)
    rw [hk] at CF
    have hmf : ∀ (fn : Fn) (first cap : Array Value) (w : World), (Instr.makeFunc fn first cap).run Tryz.prog w = .ok (.func fn first cap) w := fun _ _ _ _ => rfl
    clear e1 h1 hG hI hB hn H hA hD hcD hk hpl hdl hal
    unfold pt bkV at *
    go_enter Tryz.func78, Tryz.ntmps78
    go_wp2_with (simp only [hg, hs])
    refine CF.out.mono ?_
    rintro e w2 ⟨rfl, hb⟩
    have hA3 := (Below.refl w2.heap.size w2).alloc (Nat.le_refl _) (.cells #[.int .u64 ((Gm.mk k : Nat) : Int), .int .i64 ((Gm.ms k : Nat) : Int), .int .u64 ((Gm.pl k : Nat) : Int), .int .i64 ((Gm.sz k : Nat) : Int)] 244)
    have hb23 := hb.trans (hA3.mono hb.size)
    have h03 := HA.out.trans (hb23.mono HA.out.size)
    have q7 := cell_below H7.out (w' := w2.alloc (.cells #[.int .u64 ((Gm.mk k : Nat) : Int), .int .i64 ((Gm.ms k : Nat) : Int), .int .u64 ((Gm.pl k : Nat) : Int), .int .i64 ((Gm.sz k : Nat) : Int)] 244)) h03
    have qD := cell_below HcD.out (w' := w2.alloc (.cells #[.int .u64 ((Gm.mk k : Nat) : Int), .int .i64 ((Gm.ms k : Nat) : Int), .int .u64 ((Gm.pl k : Nat) : Int), .int .i64 ((Gm.sz k : Nat) : Int)] 244)) hb23
    have qr := heap_alloc_new w2 (.cells #[.int .u64 ((Gm.mk k : Nat) : Int), .int .i64 ((Gm.ms k : Nat) : Int), .int .u64 ((Gm.pl k : Nat) : Int), .int .i64 ((Gm.sz k : Nat) : Int)] 244)
    have q0 : (w2.alloc (.cells #[.int .u64 ((Gm.mk k : Nat) : Int), .int .i64 ((Gm.ms k : Nat) : Int), .int .u64 ((Gm.pl k : Nat) : Int), .int .i64 ((Gm.sz k : Nat) : Int)] 244)).cell? ⟨w2.heap.size, 0, none⟩ = some (.int .u64 ((Gm.mk k : Nat) : Int)) := (cell_of_row _ _ 0 _ _ _ qr).trans rfl
    have q1 : (w2.alloc (.cells #[.int .u64 ((Gm.mk k : Nat) : Int), .int .i64 ((Gm.ms k : Nat) : Int), .int .u64 ((Gm.pl k : Nat) : Int), .int .i64 ((Gm.sz k : Nat) : Int)] 244)).cell? ⟨w2.heap.size, 1, none⟩ = some (.int .i64 ((Gm.ms k : Nat) : Int)) := (cell_of_row _ _ 1 _ _ _ qr).trans rfl
    have q2 : (w2.alloc (.cells #[.int .u64 ((Gm.mk k : Nat) : Int), .int .i64 ((Gm.ms k : Nat) : Int), .int .u64 ((Gm.pl k : Nat) : Int), .int .i64 ((Gm.sz k : Nat) : Int)] 244)).cell? ⟨w2.heap.size, 2, none⟩ = some (.int .u64 ((Gm.pl k : Nat) : Int)) := (cell_of_row _ _ 2 _ _ _ qr).trans rfl
    have q3 : (w2.alloc (.cells #[.int .u64 ((Gm.mk k : Nat) : Int), .int .i64 ((Gm.ms k : Nat) : Int), .int .u64 ((Gm.pl k : Nat) : Int), .int .i64 ((Gm.sz k : Nat) : Int)] 244)).cell? ⟨w2.heap.size, 3, none⟩ = some (.int .i64 ((Gm.sz k : Nat) : Int)) := (cell_of_row _ _ 3 _ _ _ qr).trans rfl
    have HSZ := Lib.hid (show w.heap.size + 1 ≤ w2.heap.size from by have := hb.size; simpa using this)
    have H3 := Lib.hid h03
    clear hA3 hb23 h03 qr hb CF HA HcD H7 c0 c1 c3 c7 hmf
    go_upto_region 5 with (fail)
    generalize w2.alloc (.cells #[.int .u64 ((Gm.mk k : Nat) : Int), .int .i64 ((Gm.ms k : Nat) : Int), .int .u64 ((Gm.pl k : Nat) : Int), .int .i64 ((Gm.sz k : Nat) : Int)] 244) = W3 at q7 qD q0 q1 q2 q3 H3 ⊢
    go_still_tail 8, (by kernel_rfl)
    change wpList _ _ _ _ _ (World.drew _)
    have HD := Lib.hid (H3.out.trans ((drew_below _).mono H3.out.size))
    have HC := Lib.hid (show _ ∧ _ ∧ _ ∧ _ from ⟨cell_below q7 (drew_below _), cell_below qD (drew_below _), cell_below q2 (drew_below _), cell_below q3 (drew_below _)⟩)
    clear q7 qD q0 q1 q2 q3 H3
    generalize World.drew _ = wd at HD HC ⊢
    have C5 := Lib.hid (B2.wbits_good p d s.out (Gm.mk k) (Gm.ms k) HMS.out.1 wd (HW.out.below HD.out) (by have := HBB.out; have := HMS.out.1; omega))
    go_wp2_with (go_at_call 77; refine C5.out.mono ?_; rintro e w4 ⟨rfl, hp⟩)
    obtain ⟨d4, hw4, hd4, ho4⟩ := hp
    obtain ⟨k7, kD, k2, k3⟩ := HC.out
    have HN := Lib.hid (show a ∉ [p, d] ∧ w.heap.size ∉ [p, d] ∧ w2.heap.size ∉ [p, d] by
      have h1 := HP.out
      have h2 := HSZ.out
      simp only [List.mem_cons, List.not_mem_nil, or_false]
      omega)
    have q7 := Only_cell ho4 k7 HN.out.1
    have qD := Only_cell ho4 kD HN.out.2.1
    have q2 := Only_cell ho4 k2 HN.out.2.2
    have q3 := Only_cell ho4 k3 HN.out.2.2
    have HO := Lib.hid (show Only [p, d] w w4.drew from ((Only.of_below HD.out [p, d]).trans ho4 (fun x hx => .inl hx)).drew)
    have HD4 := Lib.hid (show d4 = d ∨ w.heap.size ≤ d4 from hd4.imp id (fun h => Nat.le_trans HD.out.size h))
    have C6 := Lib.hid (B2.wbits_good p d4 _ ((D + Gm.pl k) % 18446744073709551616) (Gm.sz k) HMS.out.2 w4.drew (hw4.below (drew_below _)) (by
      rw [List.length_append, B2.Bt.top_length]
      have h1 := HBB.out
      have h2 := HMS.out
      omega))
    rw [← HAW.out] at C6
    clear hw4 hd4 ho4 k7 kD k2 k3 HC HD C5 hn1 hn2
    go_still_tail 10, (by kernel_rfl)
    change wpList _ _ _ _ _ (World.drew _)
    go_wp2_with (go_at_call 77; refine C6.out.mono ?_; rintro e w5 ⟨rfl, hp⟩)
    refine bodyPost_end (results_none rfl _ _ _) rfl ⟨rfl, ?_⟩
    rw [HSB.out, ← List.append_assoc]
    exact hp.trans' HO.out HD4.out
end Go.Proofs.YtdlifcpdlbmijaaGreatDoor
namespace Go.Proofs.YtdlifcpdlbmijaaGreatDoor.Gm
open B2.Bt
set_option linter.unusedVariables false
/-- the samples of chunk j -/
def grp (l : List Smp) (j : Nat) : List Smp := (l.drop (120 * j)).take 120
def cnt (n : Nat) : Nat := (n + 119) / 120
theorem grp_get (l : List Smp) (j r : Nat) (h : r < 120) : (grp l j)[r]? = l[120 * j + r]? := by
  unfold grp
  rw [List.getElem?_take, if_pos h, List.getElem?_drop]
theorem grp_all {l m : List Smp} (h : ∀ j, grp l j = grp m j) : l = m := by
  apply List.ext_getElem?
  intro i
  have h1 : (grp l (i / 120))[i % 120]? = (grp m (i / 120))[i % 120]? := by rw [h]
  rw [grp_get _ _ _ (by omega), grp_get _ _ _ (by omega), show 120 * (i / 120) + i % 120 = i by omega] at h1
  exact h1
theorem grp_past (l : List Smp) (j : Nat) (h : cnt l.length ≤ j) : grp l j = [] := by
  unfold grp cnt at *
  rw [List.drop_of_length_le (by omega)]; rfl
theorem grp_mem {l : List Smp} {j : Nat} {a : Smp} (h : a ∈ grp l j) : a ∈ l := List.mem_of_mem_drop (List.mem_of_mem_take h)
theorem grp_len (l : List Smp) (j : Nat) : (grp l j).length = min 120 (l.length - 120 * j) := by unfold grp; rw [List.length_take, List.length_drop]
/-- a chunk as it is told -/
structure Chk where
  frm : Int
  to : Int
  n : Nat
  bs : List Nat
deriving DecidableEq
def IsChk (g : List Smp) (c : Chk) : Prop := c.frm = (run g).frm ∧ c.to = (run g).last.t ∧ c.n = (run g).n ∧ ∃ k, k < 8 ∧ Packs k c.bs (run g).out
structure Enc (l : List Smp) (cs : List Chk) : Prop where
  len : cs.length = cnt l.length
  each : ∀ j (h : j < cs.length), IsChk (grp l j) cs[j]
theorem chk_same {g h : List Smp} {c d : Chk} (hg : ∀ a ∈ g, OkS a) (hh : ∀ a ∈ h, OkS a) (C : IsChk g c) (D : IsChk h d) (e : c = d) : g = h := by
  subst e
  obtain ⟨c1, c2, c3, k, hk, hP⟩ := C
  obtain ⟨d1, d2, d3, j, hj, hQ⟩ := D
  have hn : g.length = h.length := by rw [← run_n, ← run_n, ← c3, ← d3]
  exact run_inj g h hg hh hn (List.replicate k false) (List.replicate j false) (hP.2.symm.trans hQ.2)
theorem chk_one {g : List Smp} {c d : Chk} (C : IsChk g c) (D : IsChk g d) : c = d := by
  obtain ⟨c1, c2, c3, k, hk, hP⟩ := C
  obtain ⟨d1, d2, d3, j, hj, hQ⟩ := D
  obtain ⟨cf, ct, cn, cb⟩ := c
  obtain ⟨df, dt, dn, db⟩ := d
  simp only at c1 c2 c3 d1 d2 d3 hP hQ
  subst c1; subst c2; subst c3; subst d1; subst d2; subst d3
  rw [packs_unique hP hQ hk hj]
theorem enc_same {l m : List Smp} {cs ds : List Chk} (hl : ∀ a ∈ l, OkS a) (hm : ∀ a ∈ m, OkS a) (C : Enc l cs) (D : Enc m ds) : cs = ds ↔ l = m := by
  constructor
  · intro e
    subst e
    refine grp_all fun j => ?_
    by_cases h : j < cs.length
    · exact chk_same (fun a ha => hl a (grp_mem ha)) (fun a ha => hm a (grp_mem ha)) (C.each j h) (D.each j h) rfl
    · rw [grp_past l j (by have := C.len; omega), grp_past m j (by have := D.len; omega)]
  · intro e
    subst e
    apply List.ext_getElem
    · rw [C.len, D.len]
    · intro j h1 h2
      exact chk_one (C.each j h1) (D.each j h2)
/-- samples made to rise -/
def stp (t : Int) : Int := (if t < 0 then -(t + 1) else t) % 4398046511104 + 1
def ris : Int → List Smp → List Smp
  | _, [] => []
  | t, a :: l => ⟨t + stp a.t, a.v⟩ :: ris (t + stp a.t) l
def rising (l : List Smp) : List Smp := ris (-9007199254740992) (l.take 2000)
/-- the time behind some -/
def risT : Int → List Smp → Int
  | t, [] => t
  | t, a :: l => risT (t + stp a.t) l
theorem stp_pos (t : Int) : 1 ≤ stp t ∧ stp t ≤ 4398046511104 := by unfold stp; omega
theorem ris_len (l : List Smp) : ∀ t, (ris t l).length = l.length := by
  induction l with
  | nil => intro t; rfl
  | cons a l ih => intro t; simp [ris, ih]
theorem ris_snoc (l : List Smp) (a : Smp) : ∀ t, ris t (l ++ [a]) = ris t l ++ [⟨risT t l + stp a.t, a.v⟩] := by
  induction l with
  | nil => intro t; rfl
  | cons b l ih => intro t; simp [ris, risT, ih]
theorem risT_snoc (l : List Smp) (a : Smp) : ∀ t, risT t (l ++ [a]) = risT t l + stp a.t := by
  induction l with
  | nil => intro t; rfl
  | cons b l ih => intro t; simp [risT, ih]
theorem risT_bound (l : List Smp) : ∀ t, t ≤ risT t l ∧ risT t l ≤ t + 4398046511104 * l.length := by
  induction l with
  | nil => intro t; simp [risT]
  | cons a l ih =>
    intro t
    have h1 := ih (t + stp a.t)
    have h2 := stp_pos a.t
    simp only [risT, List.length_cons]
    omega
theorem ris_facts (l : List Smp) : ∀ t, (∀ a ∈ ris t l, t < a.t ∧ a.t ≤ t + 4398046511104 * l.length) ∧ (ris t l).Pairwise (fun a b => a.t < b.t) := by
  induction l with
  | nil => intro t; exact ⟨fun a h => (by cases h), List.Pairwise.nil⟩
  | cons a l ih =>
    intro t
    obtain ⟨h1, h2⟩ := ih (t + stp a.t)
    have h3 := stp_pos a.t
    refine ⟨fun b hb => ?_, List.Pairwise.cons (fun b hb => (h1 b hb).1) h2⟩
    rw [ris] at hb
    rcases List.mem_cons.1 hb with rfl | hb
    · simp only [List.length_cons]; omega
    · have := h1 b hb
      simp only [List.length_cons]; omega
theorem ris_v (l : List Smp) : ∀ t, (∀ a ∈ l, OkS a) → ∀ a ∈ ris t l, a.v < 18446744073709551616 := by
  induction l with
  | nil => intro t _ a h; cases h
  | cons a l ih =>
    intro t hl b hb
    rw [ris] at hb
    rcases List.mem_cons.1 hb with rfl | hb
    · exact (hl a (by simp)).2.2
    · exact ih _ (fun x hx => hl x (by simp [hx])) b hb
/-- samples that rise, in range -/
structure Rising (l : List Smp) : Prop where
  len : l.length ≤ 2000
  ok : ∀ a ∈ l, OkS a
  inr : ∀ a ∈ l, -9007199254740992 ≤ a.t ∧ a.t ≤ 9007199254740992
  up : ∀ i (h : i + 1 < l.length), l[i].t < l[i + 1].t
theorem rising_is (l : List Smp) (hl : ∀ a ∈ l, OkS a) : Rising (rising l) := by
  have h0 : (l.take 2000).length ≤ 2000 := by simp; omega
  obtain ⟨h1, h2⟩ := ris_facts (l.take 2000) (-9007199254740992)
  have h3 := ris_v (l.take 2000) (-9007199254740992) (fun a ha => hl a (List.mem_of_mem_take ha))
  refine ⟨by unfold rising; rw [ris_len]; exact h0, fun a ha => ?_, fun a ha => ?_, fun i hi => ?_⟩
  · have := h1 a ha
    exact ⟨by omega, by omega, h3 a ha⟩
  · have := h1 a ha
    omega
  · have hi' : i + 1 < (ris (-9007199254740992) (l.take 2000)).length := hi
    exact List.pairwise_iff_getElem.1 h2 i (i + 1) (by omega) hi' (by omega)
end Go.Proofs.YtdlifcpdlbmijaaGreatDoor.Gm
