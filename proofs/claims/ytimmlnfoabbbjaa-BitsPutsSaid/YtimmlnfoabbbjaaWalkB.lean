/-
  WALKS of the writer: Bit, Bits, Varint, Signed.
-/
import Derived.Test.YtimmlnfoabbbjaaWalkA
namespace Go.Proofs.Ytimmlnfoabbbjaa
open Go.RowKit
theorem PutPost.trans {w w1 w2 : World} {p d d1 : Nat} {B : List Bool} (hO : Only [p, d] w w1) (hd : d1 = d ∨ w.heap.size ≤ d1) (h : PutPost w1 p d1 B w2) : PutPost w p d B w2 := by
  obtain ⟨d2, h1, h2, h3⟩ := h
  refine ⟨d2, h1, ?_, hO.trans h3 ?_⟩
  · have := hO.size
    rcases h2 with rfl | h2
    · exact hd
    · exact .inr (by omega)
  · intro x hx
    simp only [List.mem_cons, List.not_mem_nil, or_false] at hx ⊢
    rcases hx with rfl | rfl
    · exact .inl (.inl rfl)
    · rcases hd with rfl | hd
      · exact .inl (.inr rfl)
      · exact .inr hd
theorem PutPost.refl {w : World} {p d : Nat} {B : List Bool} (h : Wr w p d B) : PutPost w p d B w := ⟨d, h, .inl rfl, Only.refl _ _⟩
set_option maxHeartbeats 400000 in
theorem wbit_any (p d : Nat) (B : List Bool) (b : Bool) (w : World) (H : Wr w p d B) (hB : B.length + 1 ≤ 1000000000) :
    Calls Try.prog 30 #[.pointer (some ⟨p, 0, none⟩), .bool b] w fun e w' => e = .returned (.tuple #[]) ∧ PutPost w p d (B ++ [b]) w' := by
  have H0 := Lib.hid H
  clear H
  cases b
  · go_enter Try.func30, Try.ntmps30
    go_wp2_with fail
    refine (put_any p d B 0 1 (by omega) _ H0.out hB).mono ?_
    rintro e w' ⟨rfl, hp⟩
    have HP := Lib.hid hp
    clear hp
    go_wp2
    go_end0
    exact ⟨rfl, HP.out⟩
  · go_enter Try.func30, Try.ntmps30
    go_wp2_with fail
    refine (put_any p d B 1 1 (by omega) _ H0.out hB).mono ?_
    rintro e w' ⟨rfl, hp⟩
    have HP := Lib.hid hp
    clear hp
    go_wp2
    go_end0
    exact ⟨rfl, HP.out⟩
set_option maxHeartbeats 400000 in
theorem wbits_bad (p : Nat) (v : Nat) (n : Int) (hn : n < 0 ∨ 64 < n) (w : World) :
    Calls Try.prog 31 #[.pointer (some ⟨p, 0, none⟩), .int .u64 (v : Nat), .int .i64 n] w fun e w' => e = .returned (.int .u16 1) ∧ w = w' := by
  rcases hn with hn | hn
  · have h1 : decide (n < 0) = true := by simpa using hn
    go_enter Try.func31, Try.ntmps31
    go_wp2
    go_ret
    exact ⟨rfl, rfl⟩
  · have h1 : decide (n < 0) = false := by simp; omega
    have h2 : decide (n > 64) = true := by simpa using hn
    go_enter Try.func31, Try.ntmps31
    go_wp2
    go_ret
    exact ⟨rfl, rfl⟩
set_option maxHeartbeats 400000 in
theorem wbits_good (p d : Nat) (B : List Bool) (v n : Nat) (hn : n ≤ 64) (w : World) (H : Wr w p d B) (hB : B.length + n ≤ 1000000000) :
    Calls Try.prog 31 #[.pointer (some ⟨p, 0, none⟩), .int .u64 (v : Nat), .int .i64 (n : Nat)] w fun e w' => e = .returned (.int .u16 0) ∧ PutPost w p d (B ++ Bt.top v n) w' := by
  have H0 := Lib.hid H
  clear H
  have h1 : decide ((n : Int) < 0) = false := by simp
  have h2 : decide ((n : Int) > 64) = false := by simp; omega
  go_enter Try.func31, Try.ntmps31
  go_wp2_with fail
  refine (put_any p d B v n hn _ H0.out hB).mono ?_
  rintro e w' ⟨rfl, hp⟩
  have HP := Lib.hid hp
  clear hp
  go_wp2
  go_ret
  exact ⟨rfl, HP.out⟩
theorem or128 (u : Nat) (h : u < 18446744073709551616) : bits .or .u64 (u : Int) 128 = ((u ||| 128 : Nat) : Int) := u64_or_nat u 128 h (by decide)
theorem top_or128 (u : Nat) : Bt.top (u ||| 128) 8 = Bt.top (u % 128 + 128) 8 := by
  have h : ∀ x y : Nat, x % 256 = y % 256 → Bt.top x 8 = Bt.top y 8 := by
    intro x y hxy
    apply List.ext_getElem?
    intro i
    by_cases hi : i < 8
    · rw [Bt.top_get _ _ _ hi, Bt.top_get _ _ _ hi]
      have e := congrArg (fun z => Nat.testBit z (8 - 1 - i)) hxy
      simp only [show (256 : Nat) = 2 ^ 8 from rfl, Nat.testBit_mod_two_pow] at e
      rw [show decide (8 - 1 - i < 8) = true by simp; omega, Bool.true_and, Bool.true_and] at e
      rw [e]
    · rw [List.getElem?_eq_none (by rw [Bt.top_length]; omega), List.getElem?_eq_none (by rw [Bt.top_length]; omega)]
  apply h
  rw [show (256 : Nat) = 2 ^ 8 from rfl, Nat.or_mod_two_pow, show (128 % 2 ^ 8 : Nat) = 128 from rfl]
  have e2 : u % 2 ^ 8 = u % 256 := rfl
  rw [e2]
  by_cases hb : u % 256 < 128
  · have := Nat.two_pow_add_eq_or_of_lt (i := 7) (b := u % 256) (by simpa using hb) 1
    simp only [Nat.mul_one] at this
    rw [Nat.or_comm, show (128 : Nat) = 2 ^ 7 from rfl, ← this]
    omega
  · obtain ⟨x, hx, hx2⟩ : ∃ x, x < 128 ∧ u % 256 = 128 + x := ⟨u % 256 - 128, by omega, by omega⟩
    have := Nat.two_pow_add_eq_or_of_lt (i := 7) (b := x) (by simpa using hx) 1
    simp only [Nat.mul_one] at this
    rw [hx2, show (128 : Nat) = 2 ^ 7 from rfl, this, Nat.or_assoc, Nat.or_comm x, ← Nat.or_assoc, Nat.or_self, ← this]
    omega
/-- how far a varint has been put -/
def VarAt (w : World) (p d : Nat) (B : List Bool) (v u : Nat) (wr : World) : Prop := ∃ pre, pre ++ Bt.vb u = Bt.vb v ∧ PutPost w p d (B ++ pre) wr
set_option maxHeartbeats 400000 in
theorem wvarint_any (p d : Nat) (B : List Bool) (v : Nat) (hv : v < 18446744073709551616) (w : World) (H : Wr w p d B) (hB : B.length + 80 ≤ 1000000000) :
    Calls Try.prog 32 #[.pointer (some ⟨p, 0, none⟩), .int .u64 (v : Nat)] w fun e w' => e = .returned (.tuple #[]) ∧ PutPost w p d (B ++ Bt.vb v) w' := by
  have h80 : (Bt.vb v).length ≤ 80 := by rw [Bt.vb_length]; have := Bt.vg_ten v hv; omega
  have H0 := Lib.hid (show VarAt w p d B v v w from ⟨[], rfl, by simpa using PutPost.refl H⟩)
  have HV := Lib.hid hv
  clear H hv
  go_enter Try.func32, Try.ntmps32
  go_wp2
  go_loopw [1] (fun i wr => ∃ u : Nat, i = .int .u64 u ∧ u ≤ v ∧ Hid (VarAt w p d B v u wr)) (fun i _ => (intOf i).toNat)
  case atStart => exact ⟨v, rfl, Nat.le_refl _, H0⟩
  case round =>
    obtain ⟨u, rfl, hu, pre, hpre, d1, HW, hd1, HO⟩ := hrel
    have hl : pre.length + (Bt.vb u).length ≤ 80 := by rw [← List.length_append, hpre]; exact h80
    have HP := Lib.hid hpre
    have HX := Lib.hid HW
    have hu2 : 8 ≤ (Bt.vb u).length := by rw [Bt.vb_length]; have := Bt.vg_pos u; omega
    clear hpre HW
    by_cases hlt : 128 ≤ u
    · have ho := or128 u (Nat.lt_of_le_of_lt hu HV.out)
      have hd : decide ((u : Int) ≥ 128) = true := by simp; omega
      go_wp2_with fail
      refine (put_any p d1 (B ++ pre) (u ||| 128) 8 (by omega) _ HX.out (by rw [List.length_append]; omega)).mono ?_
      rintro e w' ⟨rfl, hp⟩
      have HY : Hid (VarAt w p d B v (u / 128) w') := by
        refine ⟨pre ++ Bt.top (u % 128 + 128) 8, by rw [List.append_assoc, ← Bt.vb_big hlt]; exact HP.out, ?_⟩
        rw [← List.append_assoc, ← top_or128]
        exact PutPost.trans HO hd1 hp
      clear hp
      go_wp2
      go_roundw
      case rel => exact ⟨u / 128, by simp, by omega, HY⟩
      case measure => simp [intOf]; omega
    · have hd : decide ((u : Int) ≥ 128) = false := by simp; omega
      go_wp2_with fail
      refine (put_any p d1 (B ++ pre) u 8 (by omega) _ HX.out (by rw [List.length_append]; omega)).mono ?_
      rintro e w' ⟨rfl, hp⟩
      have HY : Hid (PutPost w p d (B ++ Bt.vb v) w') := by
        rw [← HP.out, Bt.vb_small (by omega), ← List.append_assoc]
        exact PutPost.trans HO hd1 hp
      clear hp
      go_wp2
      go_end0
      exact ⟨rfl, HY.out⟩
end Go.Proofs.Ytimmlnfoabbbjaa
