/-
  WALKS: what the chapter's examples fix.
-/
import Derived.Test.YtiolghcjndoigaaGreatDoorEnc
import Derived.Test.YtiolghcjndoigaaGreatDoorShC
import Derived.Test.YtiolghcjndoigaaGreatDoorRda
import Derived.Test.YtiolghcjndoigaaGreatDoorStt
import Derived.Test.YtiolghcjndoigaaGreatDoorSam
namespace Go.Proofs.YtiolghcjndoigaaGreatDoor
set_option linter.unusedVariables false
set_option linter.unusedSimpArgs false
open Go.RowKit Go.PlainAid Go.Shelf
/-- a label as a text -/
def pairL (x : Lm.Lb) : List Nat := bytesOf x.1 ++ [61] ++ quoteL (bytesOf x.2)
def pairS (x : Lm.Lb) : ByteArray := (x.1 ++ ⟨#[61]⟩) ++ strOf (quoteL (bytesOf x.2))
theorem pairS_of (x : Lm.Lb) : pairS x = strOf (pairL x) := by
  unfold pairS pairL
  rw [← strOf_append, ← strOf_append, strOf_bytesOf]
  rfl
theorem quoteL_len (bs : List Nat) : (quoteL bs).length ≤ 4 * bs.length + 2 := by
  unfold quoteL
  have := flat_len bs
  rw [List.length_append, List.length_cons, List.length_singleton]
  omega
/-- a block of strings -/
def RowS (w : World) (g n : Nat) : Prop := ∃ cur, w.heap[g]? = some (.cells cur 9 (0, 0)) ∧ cur.size = n
theorem RowS.lt {w : World} {g n : Nat} (h : RowS w g n) : g < w.heap.size := by
  obtain ⟨cur, hc, _⟩ := h
  exact (Array.getElem?_eq_some_iff.1 hc).1
theorem RowS.fz {w : World} {g n : Nat} (h : RowS w g n) (j : Nat) : w.frozen? ⟨g, j, none⟩ = false := by
  obtain ⟨cur, hc, _⟩ := h
  exact frozen_of_row _ _ _ _ _ hc
theorem RowS.some {w : World} {g n : Nat} (h : RowS w g n) (j : Nat) (hj : j < n) : ∃ v, w.cell? ⟨g, j, none⟩ = some v := by
  obtain ⟨cur, hc, hs⟩ := h
  exact ⟨_, by rw [cell_of_row _ _ _ _ _ _ hc, Array.getElem?_eq_getElem (by omega)]⟩
theorem RowS.below {w w' : World} {g n : Nat} (h : RowS w g n) {B : Nat} (hb : Below B w w') (hg : g < B) : RowS w' g n := by
  obtain ⟨cur, hc, hs⟩ := h
  exact ⟨cur, (hb.block g hg).trans hc, hs⟩
theorem RowS.set {w : World} {g n : Nat} (h : RowS w g n) (j : Nat) (v : Value) : RowS (w.setCell ⟨g, j, none⟩ v) g n := by
  obtain ⟨cur, hc, hs⟩ := h
  exact ⟨_, heap_setCell_same _ _ _ _ _ _ hc, by simpa using hs⟩
def FrontS (w : World) (g : Nat) (F : List Lm.Lb) : Prop := ∀ t (h : t < F.length), w.cell? ⟨g, t, none⟩ = some (.string (pairS F[t]))
theorem FrontS.below {w w' : World} {g : Nat} {F : List Lm.Lb} (h : FrontS w g F) {B : Nat} (hb : Below B w w') (hg : g < B) : FrontS w' g F := fun t ht => (hb.cell (p := ⟨g, t, none⟩) hg).trans (h t ht)
theorem FrontS.step {w : World} {g : Nat} {F : List Lm.Lb} {x : Lm.Lb} (h : FrontS w g F) (hs : (w.cell? ⟨g, F.length, none⟩).isSome = true) : FrontS (w.setCell ⟨g, F.length, none⟩ (.string (pairS x))) g (F ++ [x]) := by
  intro t ht
  rw [List.length_append, List.length_singleton] at ht
  by_cases he : t < F.length
  · rw [List.getElem_append_left he, cell_other _ _ _ _ _ (by omega)]
    exact h t he
  · have : t = F.length := by omega
    subst this
    have e : (F ++ [x])[F.length]'(by rw [List.length_append, List.length_singleton]; omega) = x := by rw [List.getElem_append_right (by omega)]; simp
    rw [e]
    exact World.cell?_setCell_same' _ _ _ hs
theorem info9 : (Tryz.prog.info? 9).map (fun i => (i.zero, i.size, i.bytes)) = some (some (.string ⟨#[]⟩), 1, 16) := by kernel_rfl
/-- few bytes in all -/
def Few (l : List Lm.Lb) : Prop := l.length ≤ 300 ∧ weigh l ≤ 20000
theorem weigh_mem {l : List Lm.Lb} {x : Lm.Lb} (h : x ∈ l) : x.1.size + x.2.size ≤ weigh l := by
  induction l with
  | nil => cases h
  | cons y l ih =>
    unfold weigh at *
    rw [List.map_cons, List.sum_cons]
    rcases List.mem_cons.1 h with rfl | h
    · omega
    · have := ih h; omega
/-- all of them, with a comma and a blank between -/
def joinS (l : List Lm.Lb) : ByteArray := ⟨(Lib.join ((l.map pairS).map (·.data.toList)) [44, 32]).toArray⟩
def printS (l : List Lm.Lb) : ByteArray := (⟨#[123]⟩ ++ joinS l) ++ ⟨#[125]⟩
theorem pairS_size (x : Lm.Lb) : (pairS x).size ≤ x.1.size + 3 + 4 * x.2.size := by
  rw [pairS_of, strOf_size]
  unfold pairL
  have := quoteL_len (bytesOf x.2)
  rw [List.length_append, List.length_append, bytesOf_length]
  rw [bytesOf_length] at this
  simp only [List.length_cons, List.length_nil]
  omega
theorem inter_nil : ([44, 32] : List UInt8).intercalate [] = [] := rfl
theorem inter_one (a : List UInt8) : ([44, 32] : List UInt8).intercalate [a] = a := by simp [List.intercalate]
theorem inter_more (a b : List UInt8) (l : List (List UInt8)) : ([44, 32] : List UInt8).intercalate (a :: b :: l) = a ++ ([44, 32] ++ ([44, 32] : List UInt8).intercalate (b :: l)) := by
  simp [List.intercalate, List.intersperse]
theorem join_len (l : List Lm.Lb) : (Lib.join ((l.map pairS).map (·.data.toList)) [44, 32]).length ≤ 5 * l.length + 4 * weigh l := by
  unfold Lib.join
  induction l with
  | nil => rw [List.map_nil, List.map_nil, inter_nil]; exact Nat.zero_le _
  | cons x l ih =>
    have hp := pairS_size x
    have hw : weigh (x :: l) = x.1.size + x.2.size + weigh l := by unfold weigh; rw [List.map_cons, List.sum_cons]
    have hs : (pairS x).data.toList.length = (pairS x).size := Array.length_toList
    cases l with
    | nil =>
      rw [List.map_cons, List.map_cons, List.map_nil, List.map_nil, inter_one, hs, List.length_cons]
      omega
    | cons y l =>
      rw [List.map_cons, List.map_cons] at ih
      rw [List.map_cons, List.map_cons, List.map_cons, List.map_cons, inter_more, List.length_append, List.length_append, hs]
      simp only [List.length_cons, List.length_nil] at ih ⊢
      omega
set_option maxRecDepth 100000 in
set_option maxHeartbeats 4000000 in
theorem print_any (a : Option Addr) (cp : Nat) (l : List Lm.Lb) (w : World) (H : Labs w a l) (hf : Few l) : Calls Tryz.prog 38 #[.slice a l.length cp] w (Gives w (.string (printS l))) := by
  obtain ⟨i0, hi, hz0, hz1, hz2⟩ := info_parts info9
  have HL := Lib.hid H
  have HF := Lib.hid hf
  obtain ⟨n, hn⟩ : ∃ n, l.length = n := ⟨_, rfl⟩
  have HN := Lib.hid hn
  have hn3 : n ≤ 300 := by rw [← hn]; exact hf.1
  have HQ := Lib.hid (fun (x : Lm.Lb) (hx : x ∈ l) w => quote_any (bytesOf x.2) (isB_bytesOf x.2) (by rw [bytesOf_length]; have := weigh_mem hx; have := hf.2; omega) w)
  rw [hn]
  clear H hf hn
  have hmk : ∀ w : World, (Instr.makeSlice 69 (.int .i64 (n : Int)) (.int .i64 (n : Int))).run Tryz.prog w = .ok (.slice (some ⟨w.heap.size, 0, none⟩) n n) (w.alloc (.cells (madeCells #[Value.string ⟨#[]⟩] n) 9)) := fun w => by
    have h := run_make (P := Tryz.prog) w 69 9 i0 (.string ⟨#[]⟩) Tryz.underlying69 hi hz0 .i64 .i64 n n (by omega) (by omega) (by rw [hz2]; omega) (by omega)
    rw [hz1, Nat.mul_one, Int.toNat_natCast] at h
    exact h
  have hR0 : RowS (w.alloc (.cells (madeCells #[Value.string ⟨#[]⟩] n) 9)) w.heap.size n := ⟨_, heap_alloc_new w _, by simp [madeCells]⟩
  have hB0 : Below w.heap.size w (w.alloc (.cells (madeCells #[Value.string ⟨#[]⟩] n) 9)) := (Below.refl _ w).alloc (Nat.le_refl _) _
  have HR0 := Lib.hid hR0
  have HB0 := Lib.hid hB0
  have HS0 := Lib.hid (show w.heap.size < (w.alloc (.cells (madeCells #[Value.string ⟨#[]⟩] n) 9)).heap.size by simp)
  obtain ⟨W0, hW0⟩ : ∃ W, w.alloc (.cells (madeCells #[Value.string ⟨#[]⟩] n) 9) = W := ⟨_, rfl⟩
  have hmk0 := hmk w
  rw [hW0] at HR0 HB0 HS0 hmk0
  clear hR0 hB0 hmk hW0
  go_enter Tryz.func38, Tryz.ntmps38
  go_wp2
  go_loopw [11] (fun i wr => ∃ (k : Nat), k ≤ n ∧ i = .int .i64 k ∧ Hid (Below w.heap.size w wr) ∧ Hid (w.heap.size < wr.heap.size) ∧ Hid (RowS wr w.heap.size n) ∧ Hid (FrontS wr w.heap.size (l.take k))) (fun i _ => (n - intOf i).toNat)
  case atStart => exact ⟨0, by omega, rfl, HB0, HS0, HR0, Lib.hid (fun t ht => by simp at ht)⟩
  case round =>
    obtain ⟨k, hk, rfl, HB, HS, HR, HFR⟩ := hrel
    by_cases hkn : k < n
    · have da : decide ((k : Int) < (n : Int)) = true := decide_eq_true (by omega)
      have da2 : decide (k < n) = true := decide_eq_true hkn
      have hkl : k < l.length := by rw [HN.out]; exact hkn
      obtain ⟨b1, o1, rfl, hb1, hc1⟩ := (HL.out.below HB.out) (by intro e; rw [e] at hkl; simp at hkl)
      obtain ⟨p1, p2⟩ := hc1 k hkl
      obtain ⟨x, hx⟩ : ∃ x, l[k] = x := ⟨_, rfl⟩
      rw [hx] at p1 p2
      have hmem : x ∈ l := by rw [← hx]; exact List.getElem_mem hkl
      have hw := weigh_mem hmem
      have hw2 := HF.out.2
      have CQ := Lib.hid (HQ.out x hmem)
      rw [strOf_bytesOf] at CQ
      have hqs := strOf_size (quoteL (bytesOf x.2))
      have hql := quoteL_len (bytesOf x.2)
      rw [bytesOf_length] at hql
      have HT := Lib.hid (show l.take (k + 1) = l.take k ++ [x] by rw [← hx]; exact List.take_succ_eq_append_getElem hkl)
      have HP := Lib.hid (show pairS x = (x.1 ++ ⟨#[61]⟩) ++ strOf (quoteL (bytesOf x.2)) from rfl)
      obtain ⟨Q, hQ⟩ : ∃ Q, strOf (quoteL (bytesOf x.2)) = Q := ⟨_, rfl⟩
      rw [hQ] at CQ HP hqs
      obtain ⟨xa, xb⟩ := x
      simp only at CQ HP hqs hql hw p1 p2
      have s1 : xa.size ≤ 20000 := by omega
      have s2 : Q.size ≤ 80002 := by omega
      have z1 : xa.size + 1 ≤ 9223372036854775807 := by omega
      have z2 : ¬ 9223372036854775807 < xa.size + 1 := by omega
      have z3 : xa.size + 1 + Q.size ≤ 9223372036854775807 := by omega
      have z4 : ¬ 9223372036854775807 < xa.size + 1 + Q.size := by omega
      have z5 : ¬ 9223372036854775807 < (xa ++ ⟨#[61]⟩).size + Q.size := by rw [ByteArray.size_append]; show ¬ 9223372036854775807 < xa.size + 1 + Q.size; omega
      have z6 : (xa ++ ⟨#[61]⟩).size + Q.size ≤ 9223372036854775807 := by omega
      have z7 : xa.size + ByteArray.size ⟨#[61]⟩ ≤ 9223372036854775807 := by show xa.size + 1 ≤ _; omega
      have z8 : ¬ 9223372036854775807 < xa.size + ByteArray.size ⟨#[61]⟩ := by show ¬ _ < xa.size + 1; omega
      have hN0 : (wr.alloc (.cells #[.string xa, .string xb] 94)).cell? ⟨wr.heap.size, 0, none⟩ = some (.string xa) := by rw [cell_of_row _ _ _ _ _ _ (heap_alloc_new wr _)]; rfl
      have hN1 : (wr.alloc (.cells #[.string xa, .string xb] 94)).cell? ⟨wr.heap.size, 1, none⟩ = some (.string xb) := by rw [cell_of_row _ _ _ _ _ _ (heap_alloc_new wr _)]; rfl
      have hNs : wr.heap.size < (wr.alloc (.cells #[.string xa, .string xb] 94)).heap.size := by simp
      have hA : Below wr.heap.size wr (wr.alloc (.cells #[.string xa, .string xb] 94)) := (Below.refl _ wr).alloc (Nat.le_refl _) _
      have HBA := Lib.hid (HB.out.trans (hA.mono HB.out.size))
      have HRA := Lib.hid (HR.out.below hA HS.out)
      have HFA := Lib.hid (HFR.out.below hA HS.out)
      have HSA := Lib.hid (Nat.lt_of_lt_of_le HS.out hA.size)
      have HKL := Lib.hid (show (l.take k).length = k by rw [List.length_take, HN.out]; omega)
      clear hx hc1 hQ hql hw hw2 hmem hA hqs
      go_wp2_with fail
      obtain ⟨W1, hW1⟩ : ∃ W, wr.alloc (.cells #[.string xa, .string xb] 94) = W := ⟨_, rfl⟩
      rw [hW1] at HBA HRA HFA HSA hN0 hN1 hNs ⊢
      obtain ⟨N, hN⟩ : ∃ N, wr.heap.size = N := ⟨_, rfl⟩
      rw [hN] at hN0 hN1 hNs ⊢
      have HN0 := Lib.hid hN0
      have HN1 := Lib.hid hN1
      have HNS := Lib.hid hNs
      clear hW1 hN hNs
      go_region_law (go_simp; go_at_call 101; refine (CQ.out _).mono ?_; rintro e w2 ⟨rfl, hb⟩; have hz := (hb.cell (p := ⟨N, 0, none⟩) HNS.out).trans HN0.out; have hz1 := (hb.cell (p := ⟨N, 1, none⟩) HNS.out).trans HN1.out; have HR2 := Lib.hid ((show RowS W1.drew _ _ from HRA.out).below hb HSA.out); have HF2 := Lib.hid ((show FrontS W1.drew _ _ from HFA.out).below hb HSA.out); have HB2 := Lib.hid (HBA.out.drew.trans (hb.mono HBA.out.size)); have HS2 := Lib.hid (Nat.lt_of_lt_of_le HSA.out hb.size); obtain ⟨ov, hov⟩ := HR2.out.some k hkn; have hfz := HR2.out.fz k; clear hb; go_simp)
      all_goals
        have HF3 := Lib.hid (show FrontS (w2.setCell ⟨w.heap.size, k, none⟩ (.string (xa ++ ⟨#[61]⟩ ++ Q))) w.heap.size (l.take (k + 1)) by
          have h := HF2.out.step (x := (xa, xb)) (by rw [HKL.out, hov]; rfl)
          rw [HKL.out, HP.out, ← HT.out] at h
          exact h)
        have HR3 := Lib.hid (HR2.out.set k (.string (xa ++ ⟨#[61]⟩ ++ Q)))
        have HB3 := Lib.hid (HB2.out.setCell (p := ⟨w.heap.size, k, none⟩) (Nat.le_refl _) (.string (xa ++ ⟨#[61]⟩ ++ Q)))
        have HS3 := Lib.hid (show w.heap.size < (w2.setCell ⟨w.heap.size, k, none⟩ (.string (xa ++ ⟨#[61]⟩ ++ Q))).heap.size by simpa [World.setCell] using HS2.out)
        go_wp2
        exact ⟨⟨k + 1, by omega, by simp, HB3, HS3, HR3, HF3⟩, by simp [intOf]; omega⟩
    · have hkn2 : k = n := by omega
      subst hkn2
      have da : decide ((k : Int) < (k : Int)) = false := decide_eq_false (by omega)
      have da2 : decide (k < k) = false := decide_eq_false (by omega)
      have hall : l.take k = l := by rw [← HN.out]; exact List.take_length
      have hF := HFR.out
      rw [hall] at hF
      have hj := join_len l
      have hfw := HF.out.2
      have hml : (l.map pairS).length = k := by rw [List.length_map]; exact HN.out
      have CJ := Lib.hid (Tryz.strings_Join w.heap.size 0 k (l.map pairS) ⟨#[44, 32]⟩ wr (fun j x hx => by
        rw [List.getElem?_map] at hx
        obtain ⟨y, hy, rfl⟩ := Option.map_eq_some_iff.1 hx
        obtain ⟨hlt, rfl⟩ := List.getElem?_eq_some_iff.1 hy
        rw [Nat.zero_add]
        exact hF j hlt) HS.out (by omega) (by omega) (by
          show (Lib.join ((l.map pairS).map (·.data.toList)) [44, 32]).length ≤ _
          have := HN.out
          omega))
      rw [hml] at CJ
      have HJ := Lib.hid (show (⟨(Lib.join ((l.map pairS).map (·.data.toList)) (ByteArray.mk #[44, 32]).data.toList).toArray⟩ : ByteArray) = joinS l from rfl)
      rw [HJ.out] at CJ
      have hjs : (joinS l).size ≤ 100000 := by
        have e : (joinS l).size = (Lib.join ((l.map pairS).map (·.data.toList)) [44, 32]).length := by simp [joinS, ByteArray.size]
        have := HN.out
        omega
      have HPS := Lib.hid (show printS l = (⟨#[123]⟩ ++ joinS l) ++ ⟨#[125]⟩ from rfl)
      obtain ⟨J, hJ⟩ : ∃ J, joinS l = J := ⟨_, rfl⟩
      rw [hJ] at CJ hjs HPS
      have z1 : 1 + J.size ≤ 9223372036854775807 := by omega
      have z2 : ¬ 9223372036854775807 < 1 + J.size := by omega
      have z3 : 1 + J.size + 1 ≤ 9223372036854775807 := by omega
      have z4 : ¬ 9223372036854775807 < 1 + J.size + 1 := by omega
      clear hall hF hj hfw hml hJ hjs HJ
      go_wp2_with (go_at_call 102; refine CJ.out.mono ?_; rintro e w2 ⟨rfl, hb⟩)
      go_ret
      exact ⟨congrArg (fun x => Ending.returned (.string x)) HPS.out.symm, HB.out.trans (hb.mono HB.out.size)⟩
end Go.Proofs.YtiolghcjndoigaaGreatDoor
namespace Go.Proofs.YtiolghcjndoigaaGreatDoor
set_option linter.unusedVariables false
set_option linter.unusedSimpArgs false
open Go.RowKit Go.PlainAid Go.Shelf
theorem run_len {bs : List Nat} {p : Nat} {go : Bool} {l : List Lm.Lb} (h : Run bs p go l) : l.length + p ≤ bs.length := by
  induction h with
  | close p go h he =>
    have := (List.getElem?_eq_some_iff.1 h).1
    simp only [List.length_nil]
    omega
  | more p e x l hp h hx hc hl ih =>
    have h1 := labOk_lt hx
    have h2 := skipB_ge bs (e + 1) (by have := (List.getElem?_eq_some_iff.1 hc).1; omega)
    simp only [List.length_cons]
    omega
  | last p e x l hp h hx hc hl ih =>
    have h1 := labOk_lt hx
    simp only [List.length_cons]
    omega
/-- a text that has the form, and its labels -/
def Form (bs : List Nat) (L : List Lm.Lb) : Prop := bs[skipB bs 0]? = some 123 ∧ Run bs (skipB bs (skipB bs 0 + 1)) true L
def ParsePost (w : World) (bs : List Nat) (L : List Lm.Lb) (e : Ending) (w' : World) : Prop := ∃ v c out, e = .returned (.tuple #[v, .int .u16 ((c : Nat) : Int), .int .i64 (((if c = 0 then 0 else bs.length) : Nat) : Int)]) ∧ SetIs L c out ∧ OwnL w' w.heap.size v out ∧ Below w.heap.size w w'
theorem setis_none {l out : List Lm.Lb} {c : Nat} (h : SetIs l c out) (hc : c ≠ 0) : out = [] := by
  rcases h with ⟨_, _, h⟩ | ⟨_, l', _, _, ⟨_, _, h⟩ | ⟨_, ⟨_, _, h⟩ | ⟨_, h, _⟩⟩⟩
  · exact h
  · exact h
  · exact h
  · exact absurd h hc
set_option maxHeartbeats 1000000 in
theorem parse_ok (bs : List Nat) (L : List Lm.Lb) (hB : IsB bs) (hl : bs.length ≤ 200000) (hF : Form bs L) (w : World) : Calls Tryz.prog 34 #[.string (strOf bs)] w (ParsePost w bs L) := by
  have CA := Lib.hid (fun R w H => all_ok R bs L hB hl hF.1 hF.2 w H)
  have hln := run_len hF.2
  have CS := Lib.hid (fun a c w H => set_any a c L w H (by omega))
  have hA : Below w.heap.size w (w.alloc (.cells #[.string (strOf bs), .int .i64 0] 139)) := (Below.refl _ w).alloc (Nat.le_refl _) _
  have HR := Lib.hid (show Rr (w.alloc (.cells #[.string (strOf bs), .int .i64 0] 139)) w.heap.size bs 0 from heap_alloc_new w _)
  have HA := Lib.hid hA
  have hsz := strOf_size bs
  obtain ⟨S, hS⟩ : ∃ S, strOf bs = S := ⟨_, rfl⟩
  rw [hS] at HR HA hsz ⊢
  obtain ⟨N, hN⟩ : ∃ N, bs.length = N := ⟨_, rfl⟩
  have HNN := Lib.hid hN
  rw [hN] at hsz
  clear hB hl hF hln hA hS hN
  go_enter Tryz.func34, Tryz.ntmps34
  go_wp2_with fail
  refine (CA.out _ _ HR.out).mono ?_
  rintro e w1 ⟨v, rfl, ho, hb⟩
  have B1 := Lib.hid (show Below w.heap.size w w1 from HA.out.trans (hb.below (B := w.heap.size) (by simp) (by simp)))
  obtain ⟨a, c, rfl, hla, _⟩ := ho.labs
  have C2 := Lib.hid (CS.out a c w1 hla)
  obtain ⟨n, hn⟩ : ∃ n, L.length = n := ⟨_, rfl⟩
  rw [hn] at C2 ⊢
  clear ho hb hla hn CA
  go_wp2_with fail
  refine C2.out.mono ?_
  rintro e w2 ⟨v2, c2, out, rfl, hs, ho, hb⟩
  have S2 := Lib.hid hs
  have O2 := Lib.hid (ho.lower B1.out.size)
  have B2 := Lib.hid (B1.out.trans (hb.mono B1.out.size))
  clear hs ho hb
  by_cases h0 : c2 = 0
  · subst h0
    go_wp2
    go_returns
    exact ⟨_, 0, out, rfl, S2.out, O2.out, B2.out⟩
  · have d1 : ((c2 : Int) == 0) = false := by simp; omega
    have d2 : ¬ ((c2 : Int) = 0) := by omega
    have HE := Lib.hid (setis_none S2.out h0)
    have HI := Lib.hid (show ((if c2 = 0 then 0 else bs.length : Nat) : Int) = (N : Int) by rw [if_neg h0, HNN.out])
    go_wp2
    go_returns
    refine ⟨.slice none 0 0, c2, out, ?_, S2.out, ?_, B2.out⟩
    · rw [HI.out]; rfl
    · rw [HE.out]; exact OwnL.nil _ _
end Go.Proofs.YtiolghcjndoigaaGreatDoor
namespace Go.Proofs.YtiolghcjndoigaaGreatDoor
set_option linter.unusedVariables false
set_option linter.unusedSimpArgs false
open Go.RowKit Go.PlainAid Go.Shelf
/-- two lists that rise and are the same but for their order are the same -/
theorem rises_unique : ∀ (l m : List Lm.Lb), l.Perm m → risesB l = true → risesB m = true → l = m := by
  have head : ∀ (x : Lm.Lb) (l : List Lm.Lb), risesB (x :: l) = true → ∀ y ∈ l, Lm.strC x.1 y.1 < 0 := by
    intro x l
    induction l generalizing x with
    | nil => intro _ y hy; cases hy
    | cons z l ih =>
      intro h y hy
      rw [risesB, Bool.and_eq_true] at h
      have h1 := of_decide_eq_true h.1
      rcases List.mem_cons.1 hy with rfl | hy
      · exact h1
      · have h2 := ih z h.2 y hy
        have t := Lm.strC_lin.trans x.1 z.1 y.1 (by omega) (by omega)
        have s := Lm.strC_lin.same x.1 y.1
        by_cases e : Lm.strC x.1 y.1 = 0
        · exfalso
          have := s.1 e
          rw [← this] at h2
          have := Lm.strC_lin.anti x.1 z.1
          omega
        · omega
  have tail : ∀ (x : Lm.Lb) (l : List Lm.Lb), risesB (x :: l) = true → risesB l = true := by
    intro x l h
    cases l with
    | nil => rfl
    | cons y l => rw [risesB, Bool.and_eq_true] at h; exact h.2
  intro l
  induction l with
  | nil => intro m hp _ _; exact hp.nil_eq
  | cons x l ih =>
    intro m hp h1 h2
    cases m with
    | nil => exact absurd hp.length_eq (by simp)
    | cons y m =>
      have e : x = y := by
        have hx : x ∈ y :: m := hp.subset List.mem_cons_self
        have hy : y ∈ x :: l := hp.symm.subset List.mem_cons_self
        rcases List.mem_cons.1 hx with e | hx
        · exact e
        · rcases List.mem_cons.1 hy with e | hy
          · exact e.symm
          · have a := head x l h1 y hy
            have b := head y m h2 x hx
            have := Lm.strC_lin.anti x.1 y.1
            omega
      subst e
      rw [ih m ((List.perm_cons x).1 hp) (tail x l h1) (tail x m h2)]
/-- what it says of a list whose sorted one is known -/
theorem setis_of {l l' out : List Lm.Lb} {c : Nat} (h : SetIs l c out) (hb : l.any badB = false) (hp : l'.Perm l) (hr : risesB l' = true) (hf : (fullL l').length ≤ 64) (hd : ∀ m, m.Perm l → Rises m → risesB m = true) : c = 0 ∧ out = fullL l' := by
  rcases h with ⟨h, _⟩ | ⟨_, m, hm, hrm, h3⟩
  · rw [hb] at h; cases h
  · have e := hd m hm hrm
    have em : m = l' := rises_unique m l' (hm.trans hp.symm) e hr
    subst em
    rcases h3 with ⟨h, _⟩ | ⟨_, ⟨h, _⟩ | ⟨_, h, h2⟩⟩
    · rw [e] at h; cases h
    · omega
    · exact ⟨h, h2⟩
/-- names that are all different rise strictly once they are sorted -/
theorem rises_strict {l m : List Lm.Lb} (hd : (l.map Prod.fst).Nodup) (hp : m.Perm l) (hr : Rises m) : risesB m = true := by
  have hn : (m.map Prod.fst).Nodup := (hp.map Prod.fst).nodup_iff.2 hd
  rw [risesB_iff]
  intro i hi
  unfold Rises at hr
  rw [List.pairwise_iff_getElem] at hr
  have h1 := hr i (i + 1) (by omega) hi (by omega)
  have h2 := Lm.strC_lin.same m[i].1 m[i + 1].1
  unfold namC at h1
  by_cases e : Lm.strC m[i].1 m[i + 1].1 = 0
  · exfalso
    have e2 := h2.1 e
    rw [List.nodup_iff_pairwise_ne, List.pairwise_iff_getElem] at hn
    have := hn i (i + 1) (by simp; omega) (by simpa using hi) (by omega)
    simp only [List.getElem_map] at this
    exact this e2
  · omega
def lA : Lm.Lb := (⟨#[97]⟩, ⟨#[49]⟩)
def lB : Lm.Lb := (⟨#[98]⟩, ⟨#[50]⟩)
def lC : Lm.Lb := (⟨#[99]⟩, ⟨#[]⟩)
def lX : Lm.Lb := (⟨#[98]⟩, ⟨#[120]⟩)
theorem kset {c : Nat} {out : List Lm.Lb} (h : SetIs [lB, lA, lC] c out) : c = 0 ∧ out = [lA, lB] := by
  have := setis_of (l' := [lA, lB, lC]) h (by decide +kernel) (by decide +kernel) (by decide +kernel) (by decide +kernel) (fun m hp hr => rises_strict (by decide +kernel) hp hr)
  rw [show fullL [lA, lB, lC] = [lA, lB] by decide +kernel] at this
  exact this
theorem kset2 {c : Nat} {out : List Lm.Lb} (h : SetIs [lX, lA] c out) : c = 0 ∧ out = [lA, lX] := by
  have := setis_of (l' := [lA, lX]) h (by decide +kernel) (by decide +kernel) (by decide +kernel) (by decide +kernel) (fun m hp hr => rises_strict (by decide +kernel) hp hr)
  rw [show fullL [lA, lX] = [lA, lX] by decide +kernel] at this
  exact this
theorem kenc {c : Nat} {out : List Nat} (h : EncIs [lA] c out) : c = 0 ∧ out = [1, 1, 0, 97, 1, 0, 49] := by
  obtain ⟨hc, h⟩ := h
  have h0 : c = 0 := by
    rcases hc with ⟨h, _⟩ | ⟨_, h, _⟩ | ⟨_, _, ⟨_, h⟩ | ⟨h, _⟩⟩
    · simp at h
    · rw [show (([lA].any badB) || ([lA].any emptyB)) = false by decide +kernel] at h; cases h
    · exact h
    · cases h
  rcases h with ⟨_, h⟩ | ⟨h, _⟩
  · exact ⟨h0, h.trans (by decide +kernel)⟩
  · exact absurd h0 h
def kText : List Nat := [123, 32, 98, 61, 34, 120, 34, 44, 97, 61, 34, 49, 34, 44, 32, 125]
theorem kform : Form kText [lX, lA] := by
  have v1 : ValOk kText 4 [120] 7 := ⟨2, by unfold IsB; decide +kernel, by decide +kernel, Toks.cons 1 2 2 [120] [] (Tok.plain 120 (by decide +kernel) (by decide) (fun _ => by decide)) (Toks.nil 2 (by decide +kernel)), by decide +kernel⟩
  have v2 : ValOk kText 10 [49] 13 := ⟨2, by unfold IsB; decide +kernel, by decide +kernel, Toks.cons 1 2 2 [49] [] (Tok.plain 49 (by decide +kernel) (by decide) (fun _ => by decide)) (Toks.nil 2 (by decide +kernel)), by decide +kernel⟩
  have l1 : LabOk kText 2 lX 7 := ⟨1, 3, [120], by decide, by decide +kernel, by decide +kernel, by decide +kernel, by rw [show skipB kText (3 + 1) = 4 by decide +kernel]; exact v1, by decide +kernel⟩
  have l2 : LabOk kText 8 lA 13 := ⟨1, 9, [49], by decide, by decide +kernel, by decide +kernel, by decide +kernel, by rw [show skipB kText (9 + 1) = 10 by decide +kernel]; exact v2, by decide +kernel⟩
  refine ⟨by decide +kernel, ?_⟩
  rw [show skipB kText (skipB kText 0 + 1) = 2 by decide +kernel]
  refine Run.more 2 7 lX [lA] (by decide) (by decide +kernel) l1 (by decide +kernel) ?_
  rw [show skipB kText (7 + 1) = 8 by decide +kernel]
  refine Run.more 8 13 lA [] (by decide) (by decide +kernel) l2 (by decide +kernel) ?_
  rw [show skipB kText (13 + 1) = 15 by decide +kernel]
  exact Run.close 15 true (by decide +kernel) (by decide +kernel)
theorem kparse (w : World) : Calls Tryz.prog 34 #[.string ⟨#[123, 32, 98, 61, 34, 120, 34, 44, 97, 61, 34, 49, 34, 44, 32, 125]⟩] w fun e w' => ∃ v, e = .returned (.tuple #[v, .int .u16 0, .int .i64 0]) ∧ OwnL w' w.heap.size v [lA, lX] ∧ Below w.heap.size w w' := by
  refine (parse_ok kText [lX, lA] (by unfold IsB; decide +kernel) (by decide) kform w).mono ?_
  rintro e w' ⟨v, c, out, rfl, hs, ho, hb⟩
  obtain ⟨rfl, rfl⟩ := kset2 hs
  exact ⟨v, rfl, ho, hb⟩
theorem kprint : printS [lA, lX] = ⟨#[123, 97, 61, 34, 49, 34, 44, 32, 98, 61, 34, 120, 34, 125]⟩ := by decide +kernel
theorem labs_new (w : World) (l : List Lm.Lb) (h : l ≠ []) : Labs (w.alloc (.cells (l.flatMap enc2).toArray 94)) (some ⟨w.heap.size, 0, none⟩) l := fun _ => by
  refine ⟨w.heap.size, 0, rfl, by simp, fun i hi => ?_⟩
  obtain ⟨h1, h2⟩ := flat_get l i hi
  rw [Nat.zero_add, cell_of_row _ _ _ _ _ _ (heap_alloc_new w _), cell_of_row _ _ _ _ _ _ (heap_alloc_new w _), List.getElem?_toArray, List.getElem?_toArray]
  exact ⟨h1, h2⟩
set_option maxRecDepth 100000 in
set_option maxHeartbeats 4000000 in
theorem known_any (w : World) : Calls Tryz.prog 19 #[] w (Gives w (.bool true)) := by
  have C1 := Lib.hid (fun w => set_any (some ⟨w.heap.size, 0, none⟩) 3 [lB, lA, lC] (w.alloc (.cells ([lB, lA, lC].flatMap enc2).toArray 94)) (labs_new w _ (by simp)) (by decide))
  have C2 := Lib.hid (fun w => encode_any (some ⟨w.heap.size, 0, none⟩) 1 [lA] (w.alloc (.cells ([lA].flatMap enc2).toArray 94)) (labs_new w _ (by simp)) (by decide))
  have C3 := Lib.hid kparse
  have HA := Lib.hid (fun (w : World) (o : Obj) => (Below.refl w.heap.size w).alloc (Nat.le_refl _) o)
  go_enter Tryz.func19, Tryz.ntmps19
  go_wp2_with fail
  refine (C1.out _).mono ?_
  rintro e w1 ⟨v1, c, out, rfl, hs, ho, hb⟩
  obtain ⟨rfl, rfl⟩ := kset hs
  have B1 := Lib.hid ((HA.out w _).trans (hb.mono (HA.out w (.cells ([lB, lA, lC].flatMap enc2).toArray 94)).size))
  have O1 := Lib.hid (ho.lower (HA.out w (.cells ([lB, lA, lC].flatMap enc2).toArray 94)).size)
  obtain ⟨a1, c1, rfl⟩ := ownL_shape ho
  clear hs ho hb C1
  go_wp2_with fail
  refine (C2.out _).mono ?_
  rintro e w2 ⟨v2, c, out, rfl, hs, ho, _, hb⟩
  obtain ⟨rfl, rfl⟩ := kenc hs
  have hA := HA.out w1 (.cells ([lA].flatMap enc2).toArray 94)
  have hb2 := hA.trans (hb.mono hA.size)
  have B2 := Lib.hid (B1.out.trans (hb2.mono B1.out.size))
  have O2 := Lib.hid (O1.out.below hb2)
  have E2 := Lib.hid (ho.lower hA.size)
  obtain ⟨a2, c2, rfl⟩ := own_shape ho
  clear hs ho hb C2 hA hb2
  go_wp2_with fail
  refine (C3.out _).mono ?_
  rintro e w3 ⟨v3, rfl, ho, hb⟩
  have B3 := Lib.hid (B2.out.trans (hb.mono B2.out.size))
  have O3 := Lib.hid (O2.out.below hb)
  have E3 := Lib.hid (E2.out.below hb)
  have P3 := Lib.hid ho
  obtain ⟨a3, c3, rfl⟩ := ownL_shape ho
  clear ho hb C3
  obtain ⟨_, _, he, L3, _⟩ := O3.out.labs
  cases he
  have hA := HA.out w3 (.cells ([lA, lB].flatMap enc2).toArray 94)
  have C4 := Lib.hid (same_any a1 (some ⟨w3.heap.size, 0, none⟩) c1 2 [lA, lB] [lA, lB] (w3.alloc (.cells ([lA, lB].flatMap enc2).toArray 94)) (L3.below hA) (labs_new w3 _ (by simp)) (by decide))
  have HA4 := Lib.hid hA
  clear hA L3
  go_wp2_with fail
  refine C4.out.mono ?_
  rintro e w4 ⟨rfl, hb⟩
  have hb4 := HA4.out.trans (hb.mono HA4.out.size)
  have B4 := Lib.hid (B3.out.trans (hb4.mono B3.out.size))
  have P4 := Lib.hid (P3.out.below hb4)
  have E4 := Lib.hid (E3.out.below hb4)
  clear hb hb4
  have hcv : (convert 83 9 (.slice a2 7 c2)).run Tryz.prog w4 = .ok (.string ⟨#[1, 1, 0, 97, 1, 0, 49]⟩) w4 := conv_own E4.out (by unfold IsB; decide +kernel)
  obtain ⟨_, _, he, L4, _⟩ := P4.out.labs
  cases he
  have C5 := Lib.hid (print_any a3 c3 [lA, lX] w4 L4 (by unfold Few weigh; decide +kernel))
  rw [kprint] at C5
  clear L4
  go_wp2_with fail
  refine C5.out.mono ?_
  rintro e w5 ⟨rfl, hb⟩
  have B5 := Lib.hid (B4.out.trans (hb.mono B4.out.size))
  clear hb
  go_wp2
  go_ret
  exact ⟨rfl, B5.out⟩
end Go.Proofs.YtiolghcjndoigaaGreatDoor
