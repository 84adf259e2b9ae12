/-
  WALKS: one tenth is shown: the library's ftoa64.
-/
import Derived.Test.YthhlhiighgnkmaaGreatDoorShD
import Derived.Deep.AppendLies
namespace Go.Proofs.YthhlhiighgnkmaaGreatDoor
set_option linter.unusedVariables false
set_option linter.unusedSimpArgs false
open Go.RowKit Go.PlainAid
open Go.Sort (Holds)
/-- what showing one tenth needs of the library's variables -/
structure ShTab (w : World) (m : Int) : Prop where
  hi : w.cell? ⟨11, 730, none⟩ = some (.int .u64 12800000000000000000)
  lo : w.cell? ⟨11, 731, none⟩ = some (.int .u64 0)
  ten : w.cell? ⟨2, 15, none⟩ = some (.int .u64 1000000000000000)
  max : w.cell? ⟨3, 0, none⟩ = some (.int .i64 m)
  size : 18 ≤ w.heap.size
theorem ShTab.below {w w' : World} {m : Int} {B : Nat} (h : ShTab w m) (hb : Below B w w') (hB : 12 ≤ B) : ShTab w' m :=
  ⟨(hb.cell (p := ⟨11, 730, none⟩) (show 11 < B by omega)).trans h.hi, (hb.cell (p := ⟨11, 731, none⟩) (show 11 < B by omega)).trans h.lo, (hb.cell (p := ⟨2, 15, none⟩) (show 2 < B by omega)).trans h.ten, (hb.cell (p := ⟨3, 0, none⟩) (show 3 < B by omega)).trans h.max, Nat.le_trans h.size hb.size⟩
theorem own_lt {w : World} {base : Nat} {v : Value} {ds : List Nat} (h : Own w base v ds) : ∀ k, v.ownBlock = some k → k < w.heap.size := by
  intro k hk
  obtain ⟨_, h2⟩ := h
  rcases h2 with ⟨rfl, _⟩ | ⟨g, cap, cur, rfl, hg, hc, _⟩
  · cases hk
  · simp only [Value.ownBlock, Option.some.injEq] at hk
    subst hk
    exact (Array.getElem?_eq_some_iff.1 hc).1
theorem bits194 (a : Nat) (w : World) : (callFunc 194 #[.float .f64 a]).run Tryz.prog w = .ok (.value (.int .u64 (a : Int))) w := by
  rw [run_callFunc_extern (e := Extern.MathFloatBits.float64bits) Tryz.func194 (by kernel_rfl) (by kernel_rfl) (by kernel_rfl) (by kernel_rfl)]
  rw [show Extern.MathFloatBits.float64bits #[.float .f64 a] = pure (.int .u64 (a : Int)) from rfl]
  rfl
theorem ndigits_tenth (w : World) (h : w.cell? ⟨2, 15, none⟩ = some (.int .u64 1000000000000000)) : Calls Tryz.prog 139 #[.int .u64 1000000000000000] w fun e w' => e = .returned (.int .i64 16) ∧ w' = w := by
  have C1 := Lib.hid (fun w => Tryz.bits_Len64 1000000000000000 w (by decide) (by decide))
  rw [show (Lib.bitLen (1000000000000000 : Int).toNat : Int) = 50 by decide +kernel] at C1
  have C2 := Lib.hid (fun w => Tryz.internal_strconv_log10Pow2 50 (by decide) w)
  rw [show (Lib.l10 50 : Int) = 15 by decide +kernel] at C2
  have C3 := Lib.hid (fun w => Tryz.internal_strconv_bool2_int true w)
  go_enter Tryz.func139, Tryz.ntmps139
  go_wp2_with fail
  refine (C1.out _).mono ?_
  rintro e w1 ⟨rfl, rfl⟩
  go_wp2_with fail
  refine (C2.out _).mono ?_
  rintro e w1 ⟨rfl, rfl⟩
  go_wp2_with fail
  refine (C3.out _).mono ?_
  rintro e w1 ⟨rfl, rfl⟩
  go_wp2
  go_ret
  exact ⟨rfl, rfl⟩
set_option maxRecDepth 100000 in
set_option maxHeartbeats 2000000 in
theorem ftoa_tenth (base : Nat) (m : Int) (w : World) (v : Value) (hO : Own w base v []) (hbase : base ≤ w.heap.size) (T : ShTab w m) :
    Calls Tryz.prog 164 #[v, .float .f64 4591870180066957722, .int .u8 101, .int .i64 (-1)] w fun e w' => ∃ v', e = .returned v' ∧ Own w' base v' [49, 101, 45, 48, 49] ∧ Below base w w' := by
  have hx := bits194 4591870180066957722
  have C1 := Lib.hid (fun w => Tryz.bits_Len64 7205759403792794 w (by decide) (by decide))
  rw [show (Lib.bitLen (7205759403792794 : Int).toNat : Int) = 53 by decide +kernel] at C1
  have b1 : bits .and .i64 1019 2047 = 1019 := by decide +kernel
  have b2 : bits .and .u64 4591870180066957722 4503599627370495 = 2702159776422298 := by decide +kernel
  have b3 : bits .or .u64 2702159776422298 4503599627370496 = 7205759403792794 := by decide +kernel
  have HO0 := Lib.hid hO
  have HW0 := Lib.hid hbase
  have HT := Lib.hid T
  have CS := Lib.hid (fun w1 (T : ShTab w1 m) => short_tenth w1 T.hi T.lo T.size)
  have CN := Lib.hid (fun w1 (T : ShTab w1 m) => ndigits_tenth w1 T.ten)
  have CD := Lib.hid (fun w1 H h => setdigits_tenth w.heap.size w1 H h)
  have CF := Lib.hid (fun w1 v hO hb hc => fmt_tenth base w.heap.size w1 v hO hb hc)
  have hsz := T.size
  have KB : Hid (∀ n o, Below w.heap.size w ((w.drewN n).alloc o)) := Lib.hid (fun n o => (below_drewN (Below.refl w.heap.size w) n).alloc (Nat.le_refl _) o)
  have KH : Hid (∀ n, Holds encB ((w.drewN n).alloc (.cells (Array.replicate 32 (.int .u8 0)) 227)) w.heap.size 0 (Array.replicate 16 (0 : UInt8))) := Lib.hid (fun n j hj => by
    have hj' : j < 16 := by simpa using hj
    refine ⟨?_, World.frozen?_alloc_new (w.drewN n) _ _ _⟩
    rw [show w.heap.size = (w.drewN n).heap.size from rfl, World.cell?_alloc_new, Nat.zero_add, Array.getElem?_replicate, if_pos (by omega), getElem!_pos _ j hj, Array.getElem_replicate]
    rfl)
  clear hO hbase T hsz
  go_enter Tryz.func164, Tryz.ntmps164
  go_wp2_with fail
  go_quiet (fail)
  go_wp2_with fail
  refine (C1.out _).mono ?_
  rintro e w1 ⟨rfl, hw1⟩
  have hw1' : w1 = (w.drewN nq).alloc (.cells (Array.replicate 32 (.int .u8 0)) 227) := hw1
  have B1 : Hid (Below w.heap.size w w1) := Lib.hid (by rw [hw1']; exact KB.out nq _)
  have H1 : Hid (Holds encB w1 w.heap.size 0 (Array.replicate 16 (0 : UInt8))) := Lib.hid (by rw [hw1']; exact KH.out nq)
  have L1 : Hid (w.heap.size < w1.heap.size) := Lib.hid (by rw [hw1']; simp)
  have T1 : Hid (ShTab w1 m) := Lib.hid (HT.out.below B1.out (by have := HT.out.size; omega))
  clear hw1 hw1' KH KB
  go_wp2_with fail
  refine (CS.out _ T1.out).mono ?_
  rintro e w2 ⟨rfl, hb⟩
  have B2 := Lib.hid (B1.out.trans (hb.mono (by have := L1.out; omega)))
  have H2 : Hid (Holds encB w2 w.heap.size 0 (Array.replicate 16 (0 : UInt8))) := Lib.hid (fun j hj => by
    have h := H1.out j hj
    exact ⟨(hb.cell (p := ⟨w.heap.size, 0 + j, none⟩) L1.out).trans h.1, (hb.frozen (p := ⟨w.heap.size, 0 + j, none⟩) L1.out).trans h.2⟩)
  have L2 : Hid (w.heap.size < w2.heap.size) := Lib.hid (Nat.lt_of_lt_of_le L1.out hb.size)
  have T2 : Hid (ShTab w2 m) := Lib.hid (T1.out.below hb (by have := T1.out.size; omega))
  clear hb H1 B1 L1 T1
  have CN2 := Lib.hid (CN.out w2.drew (T2.out.below (below_drewN (Below.refl w2.heap.size w2) 1) (by have := T2.out.size; omega)))
  have CD2 := Lib.hid (CD.out w2.drew (fun j hj => H2.out j hj) L2.out)
  clear CN CD H2
  go_wp2_with fail
  go_region_law (first
    | (go_simp; go_at_call 139; refine CN2.out.mono ?_; rintro e w3 ⟨rfl, rfl⟩; go_simp)
    | (go_simp; go_at_call 199; refine CD2.out.mono ?_; rintro e w3 ⟨rfl, ho, hc⟩; go_simp))
  all_goals
    have O3 : Hid (Own w3 base v []) := Lib.hid (Own.only (w := w2.drew) (Own.below (w := w) HO0.out (below_drewN B2.out 1)) ho (fun k hk h => by
      rw [List.mem_singleton] at hk
      have := own_lt HO0.out k h
      omega))
    have L3 : Hid (base ≤ w3.heap.size) := Lib.hid (by have h1 := HW0.out; have h2 := L2.out; have h3 := ho.size; have h4 : w2.drew.heap.size = w2.heap.size := rfl; omega)
    have B3 : Hid (Below base w w3) := Lib.hid (Below.trans (b := w2.drew) (below_drewN (B2.out.mono HW0.out) 1) (ho.below (B := base) (by have h1 := HW0.out; have h2 := L2.out; have h4 : w2.drew.heap.size = w2.heap.size := rfl; omega) (fun x hx => by rw [List.mem_singleton] at hx; have := HW0.out; omega)))
    have C3 := Lib.hid (CF.out w3 v O3.out L3.out hc)
    clear ho hc
    go_wp2_with fail
    refine C3.out.mono ?_
    rintro e w4 ⟨v4, rfl, ho4, hb4⟩
    have O4 := Lib.hid ho4
    have B4 := Lib.hid (B3.out.trans hb4)
    clear ho4 hb4
    go_wp2
    go_returns
    exact ⟨_, rfl, O4.out, B4.out⟩
end Go.Proofs.YthhlhiighgnkmaaGreatDoor
