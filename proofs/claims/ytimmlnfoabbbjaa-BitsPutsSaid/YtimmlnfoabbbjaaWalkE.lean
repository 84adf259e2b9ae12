/-
  WALKS of the reader: Bits, Bit, and what Varint defers.
-/
import Derived.Test.YtimmlnfoabbbjaaWalkD
import Derived.Defers
namespace Go.Proofs.Ytimmlnfoabbbjaa
open Go.RowKit
/-- the next n bits: the number, the error, how many were taken -/
def Bt.rd (S : List Bool) (n : Int) : Nat × Nat × Nat :=
  if n < 0 ∨ 64 < n then (0, 1, 0) else if S.length < n.toNat then (0, 20, 0) else (Bt.val (S.take n.toNat), 0, n.toNat)
theorem TakePost.refl {w : World} {p g : Nat} {ds : List Nat} {at_ : Nat} (h : Rd w p g ds at_) : TakePost w p g ds at_ w := ⟨h, Only.refl _ _⟩
theorem TakePost.trans {w w1 w2 : World} {p g : Nat} {ds : List Nat} {a b : Nat} (h : TakePost w p g ds a w1) (k : TakePost w1 p g ds b w2) : TakePost w p g ds b w2 := ⟨k.1, h.2.trans k.2 (fun _ hx => .inl hx)⟩
def RbPost (w : World) (p g : Nat) (ds : List Nat) (at_ : Nat) (n : Int) (e : Ending) (w' : World) : Prop :=
  e = .returned (.tuple #[.int .u64 (((Bt.rd ((Bt.unpack ds).drop at_) n).1 : Nat) : Int), .int .u16 (((Bt.rd ((Bt.unpack ds).drop at_) n).2.1 : Nat) : Int)]) ∧ TakePost w p g ds (at_ + (Bt.rd ((Bt.unpack ds).drop at_) n).2.2) w'
set_option maxHeartbeats 400000 in
theorem rbits_any (p g : Nat) (ds : List Nat) (at_ : Nat) (n : Int) (w : World) (H : Rd w p g ds at_) (hbd : ds.length ≤ 1000000000) :
    Calls Try.prog 23 #[.pointer (some ⟨p, 0, none⟩), .int .i64 n] w (RbPost w p g ds at_ n) := by
  have hU : ((Bt.unpack ds).drop at_).length = 8 * ds.length - at_ := by rw [List.length_drop, Bt.unpack_length]
  have hat : at_ ≤ 8 * ds.length := by
    obtain ⟨_, _, _, _, _, h, _⟩ := H
    exact h
  by_cases hn : n < 0 ∨ 64 < n
  · have hpost : RbPost w p g ds at_ n (.returned (.tuple #[.int .u64 0, .int .u16 1])) w := by
      unfold RbPost Bt.rd
      rw [if_pos hn]
      exact ⟨rfl, TakePost.refl H⟩
    have HP := Lib.hid hpost
    clear hpost H hU
    rcases hn with hn | hn
    · have h1 : decide (n < 0) = true := by simpa using hn
      go_enter Try.func23, Try.ntmps23
      go_wp2
      go_ret2
      exact HP.out
    · have h1 : decide (n < 0) = false := by simp; omega
      have h2 : decide (n > 64) = true := by simpa using hn
      go_enter Try.func23, Try.ntmps23
      go_wp2
      go_ret2
      exact HP.out
  · obtain ⟨m, rfl⟩ := Int.eq_ofNat_of_zero_le (a := n) (by omega)
    have hm : m ≤ 64 := by omega
    have H0 := Lib.hid H
    clear H
    have h1 : decide ((m : Int) < 0) = false := by simp
    have h2 : decide ((m : Int) > 64) = false := by simp; omega
    by_cases hs : 8 * ds.length - at_ < m
    · have hpost : ∀ w', Below w.heap.size w w' → RbPost w p g ds at_ (m : Int) (.returned (.tuple #[.int .u64 0, .int .u16 20])) w' := by
        intro w' hb
        unfold RbPost Bt.rd
        rw [if_neg hn, hU, Int.toNat_natCast, if_pos hs]
        exact ⟨rfl, H0.out.below hb, Only.of_below hb _⟩
      have HP := Lib.hid hpost
      clear hpost hU hn
      have h3 : decide ((m : Int) > ((8 * ds.length - at_ : Nat) : Int)) = true := by simp; omega
      go_enter Try.func23, Try.ntmps23
      go_wp2_with (go_at_call 28; refine (left_any p g ds at_ _ H0.out hbd).mono ?_; rintro e w1 ⟨rfl, hb⟩; have HB := Lib.hid hb; clear hb)
      go_ret2
      exact HP.out _ HB.out
    · have hpost : ∀ w' w'', Below w.heap.size w w' → TakePost w' p g ds (at_ + m) w'' → RbPost w p g ds at_ (m : Int) (.returned (.tuple #[.int .u64 ((Bt.val (((Bt.unpack ds).drop at_).take m) : Nat) : Int), .int .u16 0])) w'' := by
        intro w' w'' hb ht
        unfold RbPost Bt.rd
        rw [if_neg hn, hU, Int.toNat_natCast, if_neg hs]
        exact ⟨rfl, ht.1, (Only.of_below hb [p]).trans ht.2 (fun _ hx => .inl hx)⟩
      have HP := Lib.hid hpost
      clear hpost hU hn
      have h3 : decide ((m : Int) > ((8 * ds.length - at_ : Nat) : Int)) = false := by simp; omega
      go_enter Try.func23, Try.ntmps23
      go_wp2_with fail
      refine (left_any p g ds at_ _ H0.out hbd).mono ?_
      rintro e w1 ⟨rfl, hb⟩
      have HB := Lib.hid hb
      clear hb
      go_wp2_with fail
      refine (take_any p g ds at_ m _ (H0.out.below HB.out) hbd hm (by omega)).mono ?_
      rintro e w2 ⟨rfl, ht⟩
      have HT := Lib.hid ht
      clear ht
      go_wp2
      go_ret2
      exact HP.out _ _ HB.out HT.out
def RbitPost (w : World) (p g : Nat) (ds : List Nat) (at_ : Nat) (e : Ending) (w' : World) : Prop :=
  e = .returned (.tuple #[.bool (((Bt.rd ((Bt.unpack ds).drop at_) 1).1 : Int) == 1), .int .u16 (((Bt.rd ((Bt.unpack ds).drop at_) 1).2.1 : Nat) : Int)]) ∧ TakePost w p g ds (at_ + (Bt.rd ((Bt.unpack ds).drop at_) 1).2.2) w'
set_option maxHeartbeats 400000 in
theorem rbit_any (p g : Nat) (ds : List Nat) (at_ : Nat) (w : World) (H : Rd w p g ds at_) (hbd : ds.length ≤ 1000000000) :
    Calls Try.prog 21 #[.pointer (some ⟨p, 0, none⟩)] w (RbitPost w p g ds at_) := by
  have H0 := Lib.hid H
  clear H
  go_enter Try.func21, Try.ntmps21
  go_wp2_with fail
  refine (rbits_any p g ds at_ 1 _ H0.out hbd).mono ?_
  rintro e w1 ⟨rfl, ht⟩
  have HT := Lib.hid ht
  clear ht
  go_wp2
  go_ret2
  exact ⟨rfl, HT.out⟩
theorem hmf : ∀ (fn : Fn) (first cap : Array Value) (w : World), (Instr.makeFunc fn first cap).run Try.prog w = .ok (.func fn first cap) w := fun _ _ _ _ => rfl
theorem fix_ok (be bs bv br : Nat) (u : FrameMode) (w : World) (h0 : w.cell? ⟨be, 0, none⟩ = some (.int .u16 0)) :
    CallsD Try.prog 72 #[.pointer (some ⟨be, 0, none⟩), .pointer (some ⟨bs, 0, none⟩), .pointer (some ⟨bv, 0, none⟩), .pointer (some ⟨br, 0, none⟩)] u w fun e u' w' => u' = u ∧ (e = .returned (.tuple #[]) ∧ w' = w) := by
  go_enter_d Try.func72, Try.ntmps72
  go_wp2
  go_end0
  exact ⟨rfl, rfl⟩
theorem fix_bad (be bs bv br p : Nat) (x s : Int) (u : FrameMode) (w : World) (y z : Value) (hx2 : (x != 0) = true) (h0 : w.cell? ⟨be, 0, none⟩ = some (.int .u16 x)) (h1 : w.cell? ⟨bs, 0, none⟩ = some (.int .i64 s)) (h2 : w.cell? ⟨br, 0, none⟩ = some (.pointer (some ⟨p, 0, none⟩)))
    (h3 : w.cell? ⟨bv, 0, none⟩ = some y) (f3 : w.frozen? ⟨bv, 0, none⟩ = false) (h4 : w.cell? ⟨p, 1, none⟩ = some z) (f4 : w.frozen? ⟨p, 1, none⟩ = false) :
    CallsD Try.prog 72 #[.pointer (some ⟨be, 0, none⟩), .pointer (some ⟨bs, 0, none⟩), .pointer (some ⟨bv, 0, none⟩), .pointer (some ⟨br, 0, none⟩)] u w fun e u' w' => u' = u ∧ (e = .returned (.tuple #[]) ∧ w' = (w.setCell ⟨bv, 0, none⟩ (.int .u64 0)).setCell ⟨p, 1, none⟩ (.int .i64 s)) := by
  go_enter_d Try.func72, Try.ntmps72
  go_wp2
  go_end0
  exact ⟨rfl, rfl⟩
end Go.Proofs.Ytimmlnfoabbbjaa
