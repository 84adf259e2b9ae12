/-
  WALKS: Print.
-/
import Derived.Test.YtiolghcjndoigaaGreatDoorEnc
import Derived.Test.YtiolghcjndoigaaGreatDoorShC
namespace Go.Proofs.YtiolghcjndoigaaGreatDoor
set_option linter.unusedVariables false
set_option linter.unusedSimpArgs false
open Go.RowKit Go.PlainAid Go.Shelf
/-- a label as a text -/
def pairL (x : Lm.Lb) : List Nat := bytesOf x.1 ++ [61] ++ quoteL (bytesOf x.2)
def pairS (x : Lm.Lb) : ByteArray := (x.1 ++ ⟨#[61]⟩) ++ strOf (quoteL (bytesOf x.2))
theorem pairS_of (x : Lm.Lb) : pairS x = strOf (pairL x) := by
  unfold pairS pairL
  rw [← strOf_append, ← strOf_append, strOf_bytesOf]
  rfl
theorem quoteL_len (bs : List Nat) : (quoteL bs).length ≤ 4 * bs.length + 2 := by
  unfold quoteL
  have := flat_len bs
  rw [List.length_append, List.length_cons, List.length_singleton]
  omega
/-- a block of strings -/
def RowS (w : World) (g n : Nat) : Prop := ∃ cur, w.heap[g]? = some (.cells cur 9 (0, 0)) ∧ cur.size = n
theorem RowS.lt {w : World} {g n : Nat} (h : RowS w g n) : g < w.heap.size := by
  obtain ⟨cur, hc, _⟩ := h
  exact (Array.getElem?_eq_some_iff.1 hc).1
theorem RowS.fz {w : World} {g n : Nat} (h : RowS w g n) (j : Nat) : w.frozen? ⟨g, j, none⟩ = false := by
  obtain ⟨cur, hc, _⟩ := h
  exact frozen_of_row _ _ _ _ _ hc
theorem RowS.some {w : World} {g n : Nat} (h : RowS w g n) (j : Nat) (hj : j < n) : ∃ v, w.cell? ⟨g, j, none⟩ = some v := by
  obtain ⟨cur, hc, hs⟩ := h
  exact ⟨_, by rw [cell_of_row _ _ _ _ _ _ hc, Array.getElem?_eq_getElem (by omega)]⟩
theorem RowS.below {w w' : World} {g n : Nat} (h : RowS w g n) {B : Nat} (hb : Below B w w') (hg : g < B) : RowS w' g n := by
  obtain ⟨cur, hc, hs⟩ := h
  exact ⟨cur, (hb.block g hg).trans hc, hs⟩
theorem RowS.set {w : World} {g n : Nat} (h : RowS w g n) (j : Nat) (v : Value) : RowS (w.setCell ⟨g, j, none⟩ v) g n := by
  obtain ⟨cur, hc, hs⟩ := h
  exact ⟨_, heap_setCell_same _ _ _ _ _ _ hc, by simpa using hs⟩
def FrontS (w : World) (g : Nat) (F : List Lm.Lb) : Prop := ∀ t (h : t < F.length), w.cell? ⟨g, t, none⟩ = some (.string (pairS F[t]))
theorem FrontS.below {w w' : World} {g : Nat} {F : List Lm.Lb} (h : FrontS w g F) {B : Nat} (hb : Below B w w') (hg : g < B) : FrontS w' g F := fun t ht => (hb.cell (p := ⟨g, t, none⟩) hg).trans (h t ht)
theorem FrontS.step {w : World} {g : Nat} {F : List Lm.Lb} {x : Lm.Lb} (h : FrontS w g F) (hs : (w.cell? ⟨g, F.length, none⟩).isSome = true) : FrontS (w.setCell ⟨g, F.length, none⟩ (.string (pairS x))) g (F ++ [x]) := by
  intro t ht
  rw [List.length_append, List.length_singleton] at ht
  by_cases he : t < F.length
  · rw [List.getElem_append_left he, cell_other _ _ _ _ _ (by omega)]
    exact h t he
  · have : t = F.length := by omega
    subst this
    have e : (F ++ [x])[F.length]'(by rw [List.length_append, List.length_singleton]; omega) = x := by rw [List.getElem_append_right (by omega)]; simp
    rw [e]
    exact World.cell?_setCell_same' _ _ _ hs
theorem info9 : (Tryz.prog.info? 9).map (fun i => (i.zero, i.size, i.bytes)) = some (some (.string ⟨#[]⟩), 1, 16) := by kernel_rfl
/-- few bytes in all -/
def Few (l : List Lm.Lb) : Prop := l.length ≤ 300 ∧ weigh l ≤ 20000
theorem weigh_mem {l : List Lm.Lb} {x : Lm.Lb} (h : x ∈ l) : x.1.size + x.2.size ≤ weigh l := by
  induction l with
  | nil => cases h
  | cons y l ih =>
    unfold weigh at *
    rw [List.map_cons, List.sum_cons]
    rcases List.mem_cons.1 h with rfl | h
    · omega
    · have := ih h; omega
/-- all of them, with a comma and a blank between -/
def joinS (l : List Lm.Lb) : ByteArray := ⟨(Lib.join ((l.map pairS).map (·.data.toList)) [44, 32]).toArray⟩
def printS (l : List Lm.Lb) : ByteArray := (⟨#[123]⟩ ++ joinS l) ++ ⟨#[125]⟩
theorem pairS_size (x : Lm.Lb) : (pairS x).size ≤ x.1.size + 3 + 4 * x.2.size := by
  rw [pairS_of, strOf_size]
  unfold pairL
  have := quoteL_len (bytesOf x.2)
  rw [List.length_append, List.length_append, bytesOf_length]
  rw [bytesOf_length] at this
  simp only [List.length_cons, List.length_nil]
  omega
theorem inter_nil : ([44, 32] : List UInt8).intercalate [] = [] := rfl
theorem inter_one (a : List UInt8) : ([44, 32] : List UInt8).intercalate [a] = a := by simp [List.intercalate]
theorem inter_more (a b : List UInt8) (l : List (List UInt8)) : ([44, 32] : List UInt8).intercalate (a :: b :: l) = a ++ ([44, 32] ++ ([44, 32] : List UInt8).intercalate (b :: l)) := by
  simp [List.intercalate, List.intersperse]
theorem join_len (l : List Lm.Lb) : (Lib.join ((l.map pairS).map (·.data.toList)) [44, 32]).length ≤ 5 * l.length + 4 * weigh l := by
  unfold Lib.join
  induction l with
  | nil => rw [List.map_nil, List.map_nil, inter_nil]; exact Nat.zero_le _
  | cons x l ih =>
    have hp := pairS_size x
    have hw : weigh (x :: l) = x.1.size + x.2.size + weigh l := by unfold weigh; rw [List.map_cons, List.sum_cons]
    have hs : (pairS x).data.toList.length = (pairS x).size := Array.length_toList
    cases l with
    | nil =>
      rw [List.map_cons, List.map_cons, List.map_nil, List.map_nil, inter_one, hs, List.length_cons]
      omega
    | cons y l =>
      rw [List.map_cons, List.map_cons] at ih
      rw [List.map_cons, List.map_cons, List.map_cons, List.map_cons, inter_more, List.length_append, List.length_append, hs]
      simp only [List.length_cons, List.length_nil] at ih ⊢
      omega
set_option maxRecDepth 100000 in
set_option maxHeartbeats 4000000 in
theorem print_any (a : Option Addr) (cp : Nat) (l : List Lm.Lb) (w : World) (H : Labs w a l) (hf : Few l) : Calls Tryz.prog 38 #[.slice a l.length cp] w (Gives w (.string (printS l))) := by
  obtain ⟨i0, hi, hz0, hz1, hz2⟩ := info_parts info9
  have HL := Lib.hid H
  have HF := Lib.hid hf
  obtain ⟨n, hn⟩ : ∃ n, l.length = n := ⟨_, rfl⟩
  have HN := Lib.hid hn
  have hn3 : n ≤ 300 := by rw [← hn]; exact hf.1
  have HQ := Lib.hid (fun (x : Lm.Lb) (hx : x ∈ l) w => quote_any (bytesOf x.2) (isB_bytesOf x.2) (by rw [bytesOf_length]; have := weigh_mem hx; have := hf.2; omega) w)
  rw [hn]
  clear H hf hn
  have hmk : ∀ w : World, (Instr.makeSlice 69 (.int .i64 (n : Int)) (.int .i64 (n : Int))).run Tryz.prog w = .ok (.slice (some ⟨w.heap.size, 0, none⟩) n n) (w.alloc (.cells (madeCells #[Value.string ⟨#[]⟩] n) 9)) := fun w => by
    have h := run_make (P := Tryz.prog) w 69 9 i0 (.string ⟨#[]⟩) Tryz.underlying69 hi hz0 .i64 .i64 n n (by omega) (by omega) (by rw [hz2]; omega) (by omega)
    rw [hz1, Nat.mul_one, Int.toNat_natCast] at h
    exact h
  have hR0 : RowS (w.alloc (.cells (madeCells #[Value.string ⟨#[]⟩] n) 9)) w.heap.size n := ⟨_, heap_alloc_new w _, by simp [madeCells]⟩
  have hB0 : Below w.heap.size w (w.alloc (.cells (madeCells #[Value.string ⟨#[]⟩] n) 9)) := (Below.refl _ w).alloc (Nat.le_refl _) _
  have HR0 := Lib.hid hR0
  have HB0 := Lib.hid hB0
  have HS0 := Lib.hid (show w.heap.size < (w.alloc (.cells (madeCells #[Value.string ⟨#[]⟩] n) 9)).heap.size by simp)
  obtain ⟨W0, hW0⟩ : ∃ W, w.alloc (.cells (madeCells #[Value.string ⟨#[]⟩] n) 9) = W := ⟨_, rfl⟩
  have hmk0 := hmk w
  rw [hW0] at HR0 HB0 HS0 hmk0
  clear hR0 hB0 hmk hW0
  go_enter Tryz.func38, Tryz.ntmps38
  go_wp2
  go_loopw [11] (fun i wr => ∃ (k : Nat), k ≤ n ∧ i = .int .i64 k ∧ Hid (Below w.heap.size w wr) ∧ Hid (w.heap.size < wr.heap.size) ∧ Hid (RowS wr w.heap.size n) ∧ Hid (FrontS wr w.heap.size (l.take k))) (fun i _ => (n - intOf i).toNat)
  case atStart => exact ⟨0, by omega, rfl, HB0, HS0, HR0, Lib.hid (fun t ht => by simp at ht)⟩
  case round =>
    obtain ⟨k, hk, rfl, HB, HS, HR, HFR⟩ := hrel
    by_cases hkn : k < n
    · have da : decide ((k : Int) < (n : Int)) = true := decide_eq_true (by omega)
      have da2 : decide (k < n) = true := decide_eq_true hkn
      have hkl : k < l.length := by rw [HN.out]; exact hkn
      obtain ⟨b1, o1, rfl, hb1, hc1⟩ := (HL.out.below HB.out) (by intro e; rw [e] at hkl; simp at hkl)
      obtain ⟨p1, p2⟩ := hc1 k hkl
      obtain ⟨x, hx⟩ : ∃ x, l[k] = x := ⟨_, rfl⟩
      rw [hx] at p1 p2
      have hmem : x ∈ l := by rw [← hx]; exact List.getElem_mem hkl
      have hw := weigh_mem hmem
      have hw2 := HF.out.2
      have CQ := Lib.hid (HQ.out x hmem)
      rw [strOf_bytesOf] at CQ
      have hqs := strOf_size (quoteL (bytesOf x.2))
      have hql := quoteL_len (bytesOf x.2)
      rw [bytesOf_length] at hql
      have HT := Lib.hid (show l.take (k + 1) = l.take k ++ [x] by rw [← hx]; exact List.take_succ_eq_append_getElem hkl)
      have HP := Lib.hid (show pairS x = (x.1 ++ ⟨#[61]⟩) ++ strOf (quoteL (bytesOf x.2)) from rfl)
      obtain ⟨Q, hQ⟩ : ∃ Q, strOf (quoteL (bytesOf x.2)) = Q := ⟨_, rfl⟩
      rw [hQ] at CQ HP hqs
      obtain ⟨xa, xb⟩ := x
      simp only at CQ HP hqs hql hw p1 p2
      have s1 : xa.size ≤ 20000 := by omega
      have s2 : Q.size ≤ 80002 := by omega
      have z1 : xa.size + 1 ≤ 9223372036854775807 := by omega
      have z2 : ¬ 9223372036854775807 < xa.size + 1 := by omega
      have z3 : xa.size + 1 + Q.size ≤ 9223372036854775807 := by omega
      have z4 : ¬ 9223372036854775807 < xa.size + 1 + Q.size := by omega
      have z5 : ¬ 9223372036854775807 < (xa ++ ⟨#[61]⟩).size + Q.size := by rw [ByteArray.size_append]; show ¬ 9223372036854775807 < xa.size + 1 + Q.size; omega
      have z6 : (xa ++ ⟨#[61]⟩).size + Q.size ≤ 9223372036854775807 := by omega
      have z7 : xa.size + ByteArray.size ⟨#[61]⟩ ≤ 9223372036854775807 := by show xa.size + 1 ≤ _; omega
      have z8 : ¬ 9223372036854775807 < xa.size + ByteArray.size ⟨#[61]⟩ := by show ¬ _ < xa.size + 1; omega
      have hN0 : (wr.alloc (.cells #[.string xa, .string xb] 94)).cell? ⟨wr.heap.size, 0, none⟩ = some (.string xa) := by rw [cell_of_row _ _ _ _ _ _ (heap_alloc_new wr _)]; rfl
      have hN1 : (wr.alloc (.cells #[.string xa, .string xb] 94)).cell? ⟨wr.heap.size, 1, none⟩ = some (.string xb) := by rw [cell_of_row _ _ _ _ _ _ (heap_alloc_new wr _)]; rfl
      have hNs : wr.heap.size < (wr.alloc (.cells #[.string xa, .string xb] 94)).heap.size := by simp
      have hA : Below wr.heap.size wr (wr.alloc (.cells #[.string xa, .string xb] 94)) := (Below.refl _ wr).alloc (Nat.le_refl _) _
      have HBA := Lib.hid (HB.out.trans (hA.mono HB.out.size))
      have HRA := Lib.hid (HR.out.below hA HS.out)
      have HFA := Lib.hid (HFR.out.below hA HS.out)
      have HSA := Lib.hid (Nat.lt_of_lt_of_le HS.out hA.size)
      have HKL := Lib.hid (show (l.take k).length = k by rw [List.length_take, HN.out]; omega)
      clear hx hc1 hQ hql hw hw2 hmem hA hqs
      go_wp2_with fail
      obtain ⟨W1, hW1⟩ : ∃ W, wr.alloc (.cells #[.string xa, .string xb] 94) = W := ⟨_, rfl⟩
      rw [hW1] at HBA HRA HFA HSA hN0 hN1 hNs ⊢
      obtain ⟨N, hN⟩ : ∃ N, wr.heap.size = N := ⟨_, rfl⟩
      rw [hN] at hN0 hN1 hNs ⊢
      have HN0 := Lib.hid hN0
      have HN1 := Lib.hid hN1
      have HNS := Lib.hid hNs
      clear hW1 hN hNs
      go_region_law (go_simp; go_at_call 101; refine (CQ.out _).mono ?_; rintro e w2 ⟨rfl, hb⟩; have hz := (hb.cell (p := ⟨N, 0, none⟩) HNS.out).trans HN0.out; have hz1 := (hb.cell (p := ⟨N, 1, none⟩) HNS.out).trans HN1.out; have HR2 := Lib.hid ((show RowS W1.drew _ _ from HRA.out).below hb HSA.out); have HF2 := Lib.hid ((show FrontS W1.drew _ _ from HFA.out).below hb HSA.out); have HB2 := Lib.hid (HBA.out.drew.trans (hb.mono HBA.out.size)); have HS2 := Lib.hid (Nat.lt_of_lt_of_le HSA.out hb.size); obtain ⟨ov, hov⟩ := HR2.out.some k hkn; have hfz := HR2.out.fz k; clear hb; go_simp)
      all_goals
        have HF3 := Lib.hid (show FrontS (w2.setCell ⟨w.heap.size, k, none⟩ (.string (xa ++ ⟨#[61]⟩ ++ Q))) w.heap.size (l.take (k + 1)) by
          have h := HF2.out.step (x := (xa, xb)) (by rw [HKL.out, hov]; rfl)
          rw [HKL.out, HP.out, ← HT.out] at h
          exact h)
        have HR3 := Lib.hid (HR2.out.set k (.string (xa ++ ⟨#[61]⟩ ++ Q)))
        have HB3 := Lib.hid (HB2.out.setCell (p := ⟨w.heap.size, k, none⟩) (Nat.le_refl _) (.string (xa ++ ⟨#[61]⟩ ++ Q)))
        have HS3 := Lib.hid (show w.heap.size < (w2.setCell ⟨w.heap.size, k, none⟩ (.string (xa ++ ⟨#[61]⟩ ++ Q))).heap.size by simpa [World.setCell] using HS2.out)
        go_wp2
        exact ⟨⟨k + 1, by omega, by simp, HB3, HS3, HR3, HF3⟩, by simp [intOf]; omega⟩
    · have hkn2 : k = n := by omega
      subst hkn2
      have da : decide ((k : Int) < (k : Int)) = false := decide_eq_false (by omega)
      have da2 : decide (k < k) = false := decide_eq_false (by omega)
      have hall : l.take k = l := by rw [← HN.out]; exact List.take_length
      have hF := HFR.out
      rw [hall] at hF
      have hj := join_len l
      have hfw := HF.out.2
      have hml : (l.map pairS).length = k := by rw [List.length_map]; exact HN.out
      have CJ := Lib.hid (Tryz.strings_Join w.heap.size 0 k (l.map pairS) ⟨#[44, 32]⟩ wr (fun j x hx => by
        rw [List.getElem?_map] at hx
        obtain ⟨y, hy, rfl⟩ := Option.map_eq_some_iff.1 hx
        obtain ⟨hlt, rfl⟩ := List.getElem?_eq_some_iff.1 hy
        rw [Nat.zero_add]
        exact hF j hlt) HS.out (by omega) (by omega) (by
          show (Lib.join ((l.map pairS).map (·.data.toList)) [44, 32]).length ≤ _
          have := HN.out
          omega))
      rw [hml] at CJ
      have HJ := Lib.hid (show (⟨(Lib.join ((l.map pairS).map (·.data.toList)) (ByteArray.mk #[44, 32]).data.toList).toArray⟩ : ByteArray) = joinS l from rfl)
      rw [HJ.out] at CJ
      have hjs : (joinS l).size ≤ 100000 := by
        have e : (joinS l).size = (Lib.join ((l.map pairS).map (·.data.toList)) [44, 32]).length := by simp [joinS, ByteArray.size]
        have := HN.out
        omega
      have HPS := Lib.hid (show printS l = (⟨#[123]⟩ ++ joinS l) ++ ⟨#[125]⟩ from rfl)
      obtain ⟨J, hJ⟩ : ∃ J, joinS l = J := ⟨_, rfl⟩
      rw [hJ] at CJ hjs HPS
      have z1 : 1 + J.size ≤ 9223372036854775807 := by omega
      have z2 : ¬ 9223372036854775807 < 1 + J.size := by omega
      have z3 : 1 + J.size + 1 ≤ 9223372036854775807 := by omega
      have z4 : ¬ 9223372036854775807 < 1 + J.size + 1 := by omega
      clear hall hF hj hfw hml hJ hjs HJ
      go_wp2_with (go_at_call 102; refine CJ.out.mono ?_; rintro e w2 ⟨rfl, hb⟩)
      go_ret
      exact ⟨congrArg (fun x => Ending.returned (.string x)) HPS.out.symm, HB.out.trans (hb.mono HB.out.size)⟩
end Go.Proofs.YtiolghcjndoigaaGreatDoor
