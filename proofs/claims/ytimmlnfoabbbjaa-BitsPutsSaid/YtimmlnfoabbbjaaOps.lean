/-
  CALLS THAT CAME IN AS DATA: what a slice of them reads as, and the bits that each puts.
-/
import Derived.Test.YtimmlnfoabbbjaaOpen
import Derived.Deep.Slices
namespace Go.Proofs.Ytimmlnfoabbbjaa
open Go.RowKit Go.ChangeShapes Go.WideShapes
/-- a call: its kind, its number, its count -/
abbrev Call3 := Nat × Nat × Int
def Call3.fits (o : Call3) : Prop := o.1 < 256 ∧ o.2.1 < 18446744073709551616 ∧ -9223372036854775808 ≤ o.2.2 ∧ o.2.2 ≤ 9223372036854775807
/-- a slice of calls -/
def Ops (w : World) (a : Option Addr) (os : List Call3) : Prop :=
  (∀ o ∈ os, Call3.fits o) ∧ (os ≠ [] → ∃ b off, a = some ⟨b, off, none⟩ ∧ b < w.heap.size ∧ ∀ i (h : i < os.length),
    w.cell? ⟨b, off + i * 3, none⟩ = some (.int .u8 ((os[i].1 : Nat) : Int)) ∧ w.cell? ⟨b, off + i * 3 + 1, none⟩ = some (.int .u64 ((os[i].2.1 : Nat) : Int)) ∧ w.cell? ⟨b, off + i * 3 + 2, none⟩ = some (.int .i64 os[i].2.2))
theorem Ops.below {w w' : World} {a : Option Addr} {os : List Call3} (h : Ops w a os) (hb : Below w.heap.size w w') : Ops w' a os := by
  obtain ⟨h1, h2⟩ := h
  refine ⟨h1, fun hn => ?_⟩
  obtain ⟨b, off, ha, hlt, hc⟩ := h2 hn
  refine ⟨b, off, ha, Nat.lt_of_lt_of_le hlt hb.size, fun i hi => ?_⟩
  obtain ⟨k1, k2, k3⟩ := hc i hi
  exact ⟨(hb.cell (p := ⟨b, off + i * 3, none⟩) hlt).trans k1, (hb.cell (p := ⟨b, off + i * 3 + 1, none⟩) hlt).trans k2, (hb.cell (p := ⟨b, off + i * 3 + 2, none⟩) hlt).trans k3⟩
theorem three {cs : List Value} (h : cs.length = 3) : ∃ c0 c1 c2, cs = [c0, c1, c2] := by
  rcases cs with _ | ⟨c0, _ | ⟨c1, _ | ⟨c2, _ | ⟨c3, t⟩⟩⟩⟩
  · cases h
  · cases h
  · cases h
  · exact ⟨c0, c1, c2, rfl⟩
  · simp at h
theorem one5 : Try.prog.cellsOf 5 = 1 := by kernel_rfl
theorem one66 : Try.prog.cellsOf 66 = 1 := by kernel_rfl
theorem one3 : Try.prog.cellsOf 3 = 1 := by kernel_rfl
theorem three68 : Try.prog.cellsOf 68 = 3 := by kernel_rfl
theorem bounds_i64' {n : Int} (h : (Lit.int .i64 n).wf = true) : -9223372036854775808 ≤ n ∧ n ≤ 9223372036854775807 := bounds_i64 h
/-- one call's cells -/
theorem ops_cells {H : Type} {enc : TypeId × Value → H} {w : World} {base fuel : Nat} {spare : Nat → Bool} {held : Bool} {cs : List Value} {a : Addr} {d : DataW H} {pl : List MemPlace}
    (hc : w.cells? base a 3 = some cs) (ht : DataW.trod enc Try.prog w base spare held fuel 68 cs = some (d, pl)) :
    ∃ o : Call3, Call3.fits o ∧ w.cell? (a.add 0) = some (.int .u8 ((o.1 : Nat) : Int)) ∧ w.cell? (a.add 1) = some (.int .u64 ((o.2.1 : Nat) : Int)) ∧ w.cell? (a.add 2) = some (.int .i64 o.2.2) := by
  obtain ⟨ys, n, _, _, _, hyl, hf⟩ := DataW.trod_struct Try.underlying68 ht
  obtain ⟨_, hcl, hat⟩ := World.cells?_some hc
  obtain ⟨c0, c1, c2, rfl⟩ := three hcl
  have t0 : DataW.trod enc Try.prog w base spare held n 5 (([c0, c1, c2].drop 0).take (Try.prog.cellsOf 5)) = ys[0]? := hf 0 _ rfl
  have t1 : DataW.trod enc Try.prog w base spare held n 66 (([c0, c1, c2].drop 1).take (Try.prog.cellsOf 66)) = ys[1]? := hf 1 _ rfl
  have t2 : DataW.trod enc Try.prog w base spare held n 3 (([c0, c1, c2].drop 2).take (Try.prog.cellsOf 3)) = ys[2]? := hf 2 _ rfl
  have y0 : ys[0]? = some (ys[0]'(by rw [hyl]; decide)) := List.getElem?_eq_getElem _
  have y1 : ys[1]? = some (ys[1]'(by rw [hyl]; decide)) := List.getElem?_eq_getElem _
  have y2 : ys[2]? = some (ys[2]'(by rw [hyl]; decide)) := List.getElem?_eq_getElem _
  rw [y0, one5] at t0
  rw [y1, one66] at t1
  rw [y2, one3] at t2
  obtain ⟨n0, e0, _, f0⟩ := DataW.trod_int Try.underlying5 t0
  obtain ⟨n1, e1, _, f1⟩ := DataW.trod_int Try.underlying66 t1
  obtain ⟨n2, e2, _, f2⟩ := DataW.trod_int Try.underlying3 t2
  have a0 : c0 = .int .u8 n0 := by simpa using e0
  have a1 : c1 = .int .u64 n1 := by simpa using e1
  have a2 : c2 = .int .i64 n2 := by simpa using e2
  subst a0 a1 a2
  obtain ⟨m0, rfl, hm0⟩ := byte_nat f0
  have b1 := bounds_u64 f1
  obtain ⟨m1, rfl⟩ := Int.eq_ofNat_of_zero_le b1.1
  have b2 := bounds_i64 f2
  exact ⟨(m0, m1, n2), ⟨hm0, by show m1 < _; omega, b2.1, b2.2⟩, hat 0 (by decide), hat 1 (by decide), hat 2 (by decide)⟩
/-- a slice of calls that came in -/
theorem ops_of_trod {H : Type} {enc : TypeId × Value → H} {w : World} {base fuel : Nat} {spare : Nat → Bool} {held : Bool} {a : Option Addr} {len cap : Nat} {x : DataW H × List MemPlace}
    (h : DataW.trod enc Try.prog w base spare held fuel 22 [.slice a len cap] = some x) : ∃ os : List Call3, os.length = len ∧ len ≤ maxLen ∧ Ops w a os := by
  rcases Go.Deep.open_slice Try.underlying22 h with ⟨hcs, _⟩ | ⟨ad, l, c, m, n, D, Pl, hcs, _, hl, hm, hmm, _, hi⟩
  · simp at hcs
    obtain ⟨rfl, rfl, rfl⟩ := hcs
    exact ⟨[], rfl, Nat.zero_le _, fun _ h => absurd h (by simp), fun h => absurd rfl h⟩
  · simp at hcs
    obtain ⟨rfl, rfl, rfl⟩ := hcs
    have hlm : len ≤ m := by rw [hmm]; split <;> omega
    have hone : ∀ i, i < len → ∃ o : Call3, Call3.fits o ∧ w.cell? ((ad.add (i * 3)).add 0) = some (.int .u8 ((o.1 : Nat) : Int)) ∧ w.cell? ((ad.add (i * 3)).add 1) = some (.int .u64 ((o.2.1 : Nat) : Int)) ∧ w.cell? ((ad.add (i * 3)).add 2) = some (.int .i64 o.2.2) := by
      intro i hil
      obtain ⟨cs', hc, ht⟩ := hi i (by omega)
      rw [three68] at hc
      exact ops_cells hc ht
    have hall : ∀ k, k ≤ len → ∃ os : List Call3, os.length = k ∧ ∀ i (hi : i < os.length), Call3.fits os[i] ∧ w.cell? ((ad.add (i * 3)).add 0) = some (.int .u8 ((os[i].1 : Nat) : Int)) ∧ w.cell? ((ad.add (i * 3)).add 1) = some (.int .u64 ((os[i].2.1 : Nat) : Int)) ∧ w.cell? ((ad.add (i * 3)).add 2) = some (.int .i64 os[i].2.2) := by
      intro k hk
      induction k with
      | zero => exact ⟨[], rfl, fun i hi => absurd hi (by simp)⟩
      | succ k ih =>
        obtain ⟨os, hl, ho⟩ := ih (by omega)
        obtain ⟨o, h1⟩ := hone k (by omega)
        refine ⟨os ++ [o], by simp [hl], fun i hi => ?_⟩
        by_cases hik : i < os.length
        · rw [List.getElem_append_left hik]; exact ho i hik
        · have : i = k := by simp [hl] at hi; omega
          subst this
          have e : (os ++ [o])[i] = o := by rw [List.getElem_append_right (by omega)]; simp [hl]
          rw [e]; exact h1
    obtain ⟨os, hl2, ho⟩ := hall len (Nat.le_refl _)
    refine ⟨os, hl2, Nat.le_trans hl hm, ?_, fun hn => ?_⟩
    · intro o ho2
      obtain ⟨i, hi, rfl⟩ := List.getElem_of_mem ho2
      exact (ho i hi).1
    · have h0 : 0 < os.length := List.length_pos_iff.2 hn
      obtain ⟨b, off, spot⟩ := ad
      have hc0 := (ho 0 h0).2.1
      have hspot : spot = none := by simpa [Addr.add] using World.cell?_spot hc0
      subst hspot
      refine ⟨b, off, rfl, ?_, fun i hi => ?_⟩
      · have := World.block_lt_of_cell? _ _ hc0
        simpa [Addr.add] using this
      · obtain ⟨_, k1, k2, k3⟩ := ho i hi
        rw [add_at, add_at] at k1 k2 k3
        exact ⟨k1, k2, k3⟩
/-- the 64 bits of a number, taken as one that may be below nought -/
def sgn (v : Nat) : Int := if v < 9223372036854775808 then (v : Int) else (v : Int) - 18446744073709551616
theorem sgn_bd (v : Nat) (h : v < 18446744073709551616) : -9223372036854775808 ≤ sgn v ∧ sgn v ≤ 9223372036854775807 := by unfold sgn; split <;> omega
/-- the bits that a call puts -/
def enc1 (o : Call3) : List Bool :=
  if o.1 % 4 = 0 then [o.2.1 % 2 == 1]
  else if o.1 % 4 = 1 then (if o.2.2 < 0 ∨ 64 < o.2.2 then [] else Bt.top o.2.1 o.2.2.toNat)
  else if o.1 % 4 = 2 then Bt.vb o.2.1
  else Bt.vb (Bt.zz (sgn o.2.1))
def encs (os : List Call3) : List Bool := os.flatMap enc1
theorem encs_snoc (os : List Call3) (o : Call3) : encs (os ++ [o]) = encs os ++ enc1 o := by simp [encs]
theorem encs_append (a b : List Call3) : encs (a ++ b) = encs a ++ encs b := by simp [encs]
theorem enc1_le (o : Call3) (h : Call3.fits o) : (enc1 o).length ≤ 80 := by
  unfold enc1
  split
  · simp
  · split
    · split
      · simp
      · rw [Bt.top_length]; omega
    · split
      · rw [Bt.vb_length]; have := Bt.vg_ten _ h.2.1; omega
      · rw [Bt.vb_length]
        have hb := sgn_bd _ h.2.1
        have := Bt.vg_ten _ (Bt.zz_lt _ hb.1 hb.2); omega
theorem encs_le (os : List Call3) (h : ∀ o ∈ os, Call3.fits o) : (encs os).length ≤ 80 * os.length := by
  induction os with
  | nil => simp [encs]
  | cons o os ih =>
    have h1 := enc1_le o (h o List.mem_cons_self)
    have h2 := ih fun x hx => h x (List.mem_cons_of_mem _ hx)
    simp only [encs, List.flatMap_cons, List.length_append, List.length_cons] at *
    omega
theorem ops_take (os : List Call3) (k : Nat) (h : k < os.length) : encs (os.take (k + 1)) = encs (os.take k) ++ enc1 os[k] := by
  rw [List.take_succ_eq_append_getElem h, encs_snoc]
end Go.Proofs.Ytimmlnfoabbbjaa
