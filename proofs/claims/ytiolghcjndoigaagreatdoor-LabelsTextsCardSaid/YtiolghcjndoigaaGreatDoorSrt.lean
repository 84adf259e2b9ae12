/-
  WALKS: a list sorted by its names.
-/
import Derived.Test.YtiolghcjndoigaaGreatDoorSrtM
import Derived.Test.YtiolghcjndoigaaGreatDoorShB
namespace Go.Proofs.YtiolghcjndoigaaGreatDoor
set_option linter.unusedVariables false
set_option linter.unusedSimpArgs false
open Go.RowKit Go.PlainAid Go.Shelf
/-- the order of names -/
def namC (x y : Lm.Lb) : Int := Lm.strC x.1 y.1
theorem swo_names : Sort.SWO (ltOf namC) where
  irrefl x := by
    have := (Lm.strC_lin.same x.1 x.1).2 rfl
    unfold ltOf namC
    rw [this]; rfl
  trans x y z h1 h2 := by
    unfold ltOf namC at *
    have h1 := of_decide_eq_true h1
    have h2 := of_decide_eq_true h2
    refine decide_eq_true ?_
    have t := Lm.strC_lin.trans x.1 y.1 z.1 (by omega) (by omega)
    have s := Lm.strC_lin.same x.1 z.1
    by_cases e : Lm.strC x.1 z.1 = 0
    · exfalso
      have := s.1 e
      rw [← this] at h2
      have := Lm.strC_lin.anti x.1 y.1
      omega
    · omega
  ntrans x y z h1 h2 := by
    unfold ltOf namC at *
    have h1 := of_decide_eq_false h1
    have h2 := of_decide_eq_false h2
    refine decide_eq_false ?_
    have a1 := Lm.strC_lin.anti x.1 y.1
    have a2 := Lm.strC_lin.anti y.1 z.1
    have a3 := Lm.strC_lin.anti x.1 z.1
    have t := Lm.strC_lin.trans z.1 y.1 x.1 (by omega) (by omega)
    omega
theorem eg110 : ∀ args w, (callFunc 110 args).run Tryz.prog w = .ok (.enter 110 args) w := enters_of Tryz.func110 (by kernel_rfl) rfl
theorem cmplays110 (blk off size : Nat) (w : World) : CmpLays Tryz.prog 110 #[] enc2 2 namC blk off size w := fun m os dk hs x y => by
  refine (byname_any x y _).mono ?_
  rintro e w' ⟨rfl, rfl⟩
  exact ⟨rfl, 0, _, by unfold laid2; rw [Sort.alloc_eq_grow, Sort.alloc_eq_grow, Sort.grow_grow]; rfl⟩
/-- the names rise, or stay -/
def Rises (l : List Lm.Lb) : Prop := l.Pairwise fun x y => namC x y ≤ 0
theorem sortfunc_any (base g cap : Nat) (l : List Lm.Lb) (w : World) (h : OwnL w base (.slice (some ⟨g, 0, none⟩) l.length cap) l) (hz : l.length ≤ 4398046511104) :
    Calls Tryz.prog 128 #[.slice (some ⟨g, 0, none⟩) l.length cap, .func (.func 110) #[] #[]] w fun e w' => e = .returned (.tuple #[]) ∧ ∃ l', l'.Perm l ∧ Rises l' ∧ OwnL w' base (.slice (some ⟨g, 0, none⟩) l'.length cap) l' ∧ Go.RowKit.Below base w w' := by
  obtain ⟨hH, hlt, hb⟩ := own_holds h
  have hcon := AnyQ.slices_SortFunc Tryz.sortF 2 Tryz.isAgg94 Tryz.sizeOf94 enc2 enc2_len (fun x v hv => by simp [enc2] at hv; rcases hv with rfl | rfl <;> rfl) namC swo_names 110 #[] g 0 cap l.toArray w eg110 (cmplays110 g 0 _ w) hH hlt (by simp; omega)
  change Calls Tryz.prog 128 _ _ _ at hcon
  refine hcon.mono ?_
  rintro e w' ⟨rfl, d', n, os, hp, hs, rfl⟩
  obtain ⟨p1, p2, p3⟩ := hp
  have hsz : d'.toList.length = l.length := by simpa using p1
  obtain ⟨o1, o2⟩ := own_sorted h hsz n os
  rw [Array.toArray_toList] at o1 o2
  refine ⟨rfl, d'.toList, ?_, ?_, o1, o2⟩
  · have e1 : (d'.extract 0 l.toArray.size).toList = d'.toList := by
      rw [show l.toArray.size = d'.size by rw [p1], Array.extract_size]
    have e2 : (l.toArray.extract 0 l.toArray.size).toList = l := by rw [Array.extract_size]
    rw [e1, e2] at p3
    exact p3
  · unfold Rises
    rw [List.pairwise_iff_getElem]
    intro i j hi hj hij
    have hij2 := hs i j (Nat.zero_le _) hij (by rw [← p1]; simpa using hj)
    have b1 : d'[i]! = d'.toList[i] := by rw [getElem!_pos _ _ (by simpa using hi)]; simp
    have b2 : d'[j]! = d'.toList[j] := by rw [getElem!_pos _ _ (by simpa using hj)]; simp
    rw [b1, b2] at hij2
    unfold ltOf at hij2
    have h1 := of_decide_eq_false hij2
    have h2 := Lm.strC_lin.anti d'.toList[i].1 d'.toList[j].1
    unfold namC at *
    omega
theorem sortnone_any (p : Option Addr) (cap : Nat) (fv : Value) (w : World) : Calls Tryz.prog 128 #[.slice p 0 cap, fv] w fun e w' => e = .returned (.tuple #[]) ∧ w' = w := by
  have hcon := AnyF.slices_SortFunc_none Tryz.sortF p cap fv w
  exact hcon
/-- what is collected -/
theorem collect_in (F : Fence) (n : Nat) (h127 : F.fn 127) (h139 : F.fn 139) (h7 : F.fn 129) (hro : F.round = none) (hn : 5 ≤ n) (Bs cap : Nat) (a : Option Addr) (zs : List Lm.Lb) (w : World) (hBs : Bs < w.heap.size) (hz : zs.length * 32 ≤ 140737488355328)
    (hc : w.cell? ⟨Bs, 0, none⟩ = some (.slice a zs.length cap)) (hI : LabsAt w.heap.size w a zs) :
    CallsIn F n Tryz.prog 127 #[.func (.func 129) #[] #[.pointer (some ⟨Bs, 0, none⟩)]] w fun e w' => ∃ v, e = .returned v ∧ OwnL w' w.heap.size v zs ∧ (v = .slice none 0 0 ↔ zs = []) ∧ Below w.heap.size w w' := by
  have hz2 : zs.length ≤ maxLen := by have : maxLen = 9223372036854775807 := rfl; omega
  have C := Lib.hid (appendSeq_in F (n - 1) h139 h7 hro (by omega) #[.pointer (some ⟨Bs, 0, none⟩)] zs (fun pre => pre <+: zs) w hz (values_stops F (n - 1 - 1) h7 hro (by omega) Bs w.heap.size cap a zs w hBs (Nat.le_refl _) hc hI hz2))
  have h1 : 1 ≤ n := by omega
  refine callsIn_of_wp Tryz.func127 rfl h127 ?_ hro
  simp only [Tryz.ntmps127, List.size_toArray, List.length_cons, List.length_nil, Nat.reduceAdd, Nat.reduceSub, Array.replicate_succ, Array.replicate_zero, List.push_toArray, List.append_toArray, List.nil_append, List.cons_append]
  gi_wp2_with (gi_at_call 139; refine C.out.mono ?_; rintro e w' ⟨v, rfl, hv, hn, hb⟩)
  go_ret
  exact ⟨v, rfl, hv, hn, hb⟩
end Go.Proofs.YtiolghcjndoigaaGreatDoor
