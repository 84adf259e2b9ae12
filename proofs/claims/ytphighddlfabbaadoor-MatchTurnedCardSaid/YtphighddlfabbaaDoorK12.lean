/-
  PACKED: MtD, MtE, QuoA, MtK, Door, Start, Laid
-/
import Derived.Test.YtphighddlfabbaaDoorK04
import Derived.Test.YtphighddlfabbaaDoorK11
import Derived.Test.YtphighddlfabbaaDoorK01
import Derived.Test.YtphighddlfabbaaDoorRows
import Derived.Test.YtphighddlfabbaaDoorK02
import Derived.Deep.AppendLies
import Derived.BigRegion
import Derived.WalkKit
import Derived.ProofKit
import Derived.LaidMore
import Derived.LaidHandle
import Derived.Lay
import Derived.Lib.LaidIn
import Derived.Stop.Joined
import Derived.LaidLaws
import Derived.LaidSub
import Derived.MakeChecks
import Derived.Lib.LaidTab
import Derived.OpenShut
import Derived.Shelf.Vars
namespace Go.Proofs.YtphighddlfabbaaDoor
set_option linter.unusedVariables false
set_option linter.unusedSimpArgs false
open Go.RowKit Go.PlainAid Go.Shelf
/-- what is wrong with a pattern -/
def cerr (v : ByteArray) : Nat := match Rx.compile sg (bytesOf v) with
  | .error (n, _) => n
  | .ok _ => 0
def ReC (w : World) (u : Value) (v : ByteArray) : Prop := ∃ r t g, Rx.compile sg (bytesOf v) = .ok (t, g) ∧ u = .func (.func 25) #[pt r] #[] ∧ Rgx w r t g
def NrC (w : World) (u : Value) (v : ByteArray) : Prop := ∃ d r t g, Rx.compile sg (bytesOf v) = .ok (t, g) ∧ u = .func (.func 23) #[] #[pt d] ∧ w.cell? ⟨d, 0, none⟩ = some (.func (.func 25) #[pt r] #[]) ∧ Rgx w r t g
theorem cerr_at {v : ByteArray} {n p : Nat} (h : Rx.compile sg (bytesOf v) = .error (n, p)) : n = 80 ∨ n = 81 := by
  unfold Rx.compile at h
  split at h
  · cases h; omega
  · split at h
    · cases h; omega
    · split at h
      · cases h; omega
      · split at h
        · cases h; omega
        · cases h
theorem st_nil (W : World) (t : Nat) : (store ⟨W.heap.size, 0, none⟩ .nilFunc).run Tryd.prog (W.alloc (.cells #[.nilFunc] t)) = .ok () ((W.alloc (.cells #[.nilFunc] t)).setCell ⟨W.heap.size, 0, none⟩ .nilFunc) := by
  have cc0 : (W.alloc (.cells #[.nilFunc] t)).cell? ⟨W.heap.size, 0, none⟩ = some .nilFunc := by rw [cell_of_row _ _ _ _ _ _ (heap_alloc_new W _)]; rfl
  have ff0 : (W.alloc (.cells #[.nilFunc] t)).frozen? ⟨W.heap.size, 0, none⟩ = false := frozen_of_row _ _ _ _ _ (heap_alloc_new W _)
  rw [run_store Tryd.prog _ _ _ _ rfl]
  simp only [cc0, ff0]
  rfl
set_option maxHeartbeats 4000000 in
set_option maxRecDepth 100000 in
theorem fitsm_any (v : ByteArray) (hv : v.size ≤ 1000000000) (w : World) (hT : TabAt w) :
    Calls Tryd.prog 19 #[.string v] w fun e w' => ∃ u, e = .returned (.tuple #[u, .int .u16 ((cerr v : Nat) : Int)]) ∧ (cerr v = 0 → ReC w' u v) ∧ (cerr v ≠ 0 → u = .nilFunc) ∧ Below w.heap.size w w' := by
  have CC := Lib.hid (compile_any (bytesOf v) (isB_bytesOf v) w hT (by rw [bytesOf_length]; exact hv))
  have hmf := hmfM
  rw [strOf_bytesOf] at CC
  unfold cerr ReC
  unfold Cmp at CC
  rcases hr : Rx.compile sg (bytesOf v) with ⟨n, p⟩ | ⟨t, g⟩
  · rw [hr] at CC
    have hn := cerr_at hr
    simp only at CC ⊢
    clear hr hv hT
    rcases hn with rfl | rfl
    all_goals
      go_enter Tryd.func19, Tryd.ntmps19
      go_wp2_with fail
      refine CC.out.mono ?_
      rintro e w1 ⟨hb, rfl⟩
      have HB := Lib.hid hb
      clear hb
      go_wp2
      go_ret2
      exact ⟨_, rfl, fun h => (by omega), fun _ => rfl, HB.out⟩
  · rw [hr] at CC
    simp only at CC ⊢
    clear hr hv hT
    go_enter Tryd.func19, Tryd.ntmps19
    go_wp2_with fail
    refine CC.out.mono ?_
    rintro e w1 ⟨hb, b, rfl, hx⟩
    have HB := Lib.hid hb
    have HX := Lib.hid hx
    unfold ptr
    clear hb hx
    go_wp2
    go_ret2
    exact ⟨_, rfl, fun _ => ⟨b, t, g, rfl, rfl, HX.out⟩, fun h => absurd rfl h, HB.out⟩
set_option maxHeartbeats 4000000 in
set_option maxRecDepth 100000 in
theorem opp22_re (v : ByteArray) (hv : v.size ≤ 1000000000) (c : Nat) (w : World) (hT : TabAt w) (hc : w.cell? ⟨c, 0, none⟩ = some (.func (.func 19) #[] #[])) :
    Calls Tryd.prog 22 #[.string v, pt c] w fun e w' => ∃ u, e = .returned (.tuple #[u, .int .u16 ((cerr v : Nat) : Int)]) ∧ (cerr v = 0 → NrC w' u v) ∧ Below w.heap.size w w' := by
  have CC := Lib.hid (fitsm_any v hv w hT)
  have hmf := hmfM
  by_cases h0 : cerr v = 0
  · rw [h0] at CC ⊢
    clear h0 hv hT
    unfold pt at *
    go_enter Tryd.func22, Tryd.ntmps22
    go_wp2_with fail
    go_at_call 19
    refine CC.out.mono ?_
    rintro e w1 ⟨u, rfl, h1, _, hb⟩
    obtain ⟨r, t, g, hcm, rfl, hx⟩ := h1 (by trivial)
    have HX := Lib.hid hx
    have HB := Lib.hid hb
    have HCM := Lib.hid hcm
    have HA := Lib.hid ((Below.refl w1.heap.size w1).alloc (Nat.le_refl _) (.cells #[.func (.func 25) #[pt r] #[]] 34))
    have HC := Lib.hid (show (w1.alloc (.cells #[.func (.func 25) #[pt r] #[]] 34)).cell? ⟨w1.heap.size, 0, none⟩ = some (.func (.func 25) #[pt r] #[]) from World.cell?_alloc_at _ _ _ _ rfl)
    clear h1 hb hx hcm CC
    unfold pt at *
    have hst := st_func w1 25 34 #[.pointer (some ⟨r, 0, none⟩)] #[]
    go_wp2
    go_ret2
    exact ⟨_, rfl, fun _ => ⟨_, r, t, g, HCM.out, rfl, HC.out, HX.out.below HA.out⟩, HB.out.trans (HA.out.mono HB.out.size)⟩
  · have hn : cerr v = 80 ∨ cerr v = 81 := by
      unfold cerr at h0 ⊢
      rcases hr : Rx.compile sg (bytesOf v) with ⟨n, p⟩ | ⟨t, g⟩
      · exact cerr_at hr
      · rw [hr] at h0; exact absurd rfl h0
    obtain ⟨n, hn0⟩ : ∃ n, cerr v = n := ⟨_, rfl⟩
    rw [hn0] at CC hn ⊢
    clear h0 hv hT hn0
    unfold pt at *
    rcases hn with rfl | rfl
    all_goals
      go_enter Tryd.func22, Tryd.ntmps22
      go_wp2_with fail
      go_at_call 19
      refine CC.out.mono ?_
      rintro e w1 ⟨u, rfl, _, h1, hb⟩
      obtain rfl := h1 (by decide)
      have HB := Lib.hid hb
      have HA := Lib.hid ((Below.refl w1.heap.size w1).alloc (Nat.le_refl _) (.cells #[.nilFunc] 34))
      have hst := st_nil w1 34
      clear h1 hb CC
      go_wp2
      go_ret2
      exact ⟨_, rfl, fun h => (by omega), HB.out.trans (HA.out.mono HB.out.size)⟩
/-- what is wrong with a matcher -/
def errM (k : Nat) (n v : ByteArray) : Nat := if 1 ≤ k ∧ k ≤ 4 ∧ nameB n = true ∧ v.size ≤ 1024 then (if k ≤ 2 then 0 else cerr v) else 90
def CondV (k : Nat) (w : World) (u : Value) (v : ByteArray) : Prop := match k with
  | 1 => EqC w u v
  | 2 => NeC w u v
  | 3 => ReC w u v
  | 4 => NrC w u v
  | _ => False
theorem errM_good {k : Nat} {n v : ByteArray} (h1 : 1 ≤ k ∧ k ≤ 4) (h2 : nameB n = true) (h3 : v.size ≤ 1024) : errM k n v = if k ≤ 2 then 0 else cerr v := by unfold errM; rw [if_pos ⟨h1.1, h1.2, h2, h3⟩]
theorem errM_kind {k : Nat} {n v : ByteArray} (h1 : ¬ (1 ≤ k ∧ k ≤ 4)) : errM k n v = 90 := by unfold errM; rw [if_neg]; intro h; exact h1 ⟨h.1, h.2.1⟩
theorem errM_name {k : Nat} {n v : ByteArray} (h1 : nameB n = false) : errM k n v = 90 := by unfold errM; rw [if_neg]; intro h; rw [h1] at h; exact absurd h.2.2.1 (by decide)
theorem errM_long {k : Nat} {n v : ByteArray} (h1 : ¬ v.size ≤ 1024) : errM k n v = 90 := by unfold errM; rw [if_neg]; intro h; exact h1 h.2.2.2
set_option maxHeartbeats 8000000 in
set_option maxRecDepth 100000 in
theorem cond_1 (n v : ByteArray) (w : World) (hT : TabAt w) : Calls Tryd.prog 10 #[mV 1 n v] w fun e w' => ∃ u, e = .returned (.tuple #[u, .int .u16 ((errM 1 n v : Nat) : Int)]) ∧ (errM 1 n v = 0 → CondV 1 w' u v) ∧ Below w.heap.size w w' := by
  have CK := Lib.hid (fun w => kindof_any 1 n v w)
  have CN := Lib.hid (fun w => name_any n w)
  have hb1 := Lib.hid ((Below.refl w.heap.size w).alloc (Nat.le_refl _) (.cells #[.int .u8 ((1 : Nat) : Int), .string n, .string v] 24))
  have hbox := heap_alloc_new w (.cells #[.int .u8 ((1 : Nat) : Int), .string n, .string v] 24)
  have HG := Lib.hid (show TabAt w ∧ 1 < w.heap.size from ⟨hT, hT.lt⟩)

  unfold mV at *
  simp only [kvV, show decide (1 ≤ 1 ∧ 1 ≤ 4) = true from rfl] at CK
  clear hT
  go_enter Tryd.func10, Tryd.ntmps10
  go_wp2_with fail
  go_at_call 11
  refine (CK.out _).mono ?_
  rintro e w1 ⟨B, rfl, hk, hb⟩
  have hB2 : Below w.heap.size w w1 := hb1.out.trans (hb.mono (by simp))
  have hm : w1.heap[w.heap.size]? = some (.cells #[.int .u8 ((1 : Nat) : Int), .string n, .string v] 24 (0, 0)) := (hb.block _ (by simp)).trans hbox
  have hA := (Below.refl w1.heap.size w1).alloc (Nat.le_refl _) (.cells #[.int .u8 1, .string ⟨#[61]⟩, .func (.func 17) #[] #[]] 39)
  have hm2 := (hA.block _ (Array.getElem?_eq_some_iff.1 hm).1).trans hm
  have m1 : (w1.alloc (.cells #[.int .u8 1, .string ⟨#[61]⟩, .func (.func 17) #[] #[]] 39)).cell? ⟨w.heap.size, 1, none⟩ = some (.string n) := (cell_of_row _ _ 1 _ _ _ hm2).trans rfl
  have m2 : (w1.alloc (.cells #[.int .u8 1, .string ⟨#[61]⟩, .func (.func 17) #[] #[]] 39)).cell? ⟨w.heap.size, 2, none⟩ = some (.string v) := (cell_of_row _ _ 2 _ _ _ hm2).trans rfl
  have HB := Lib.hid (hB2.trans (hA.mono hB2.size))
  have HTT := Lib.hid (HG.out.1.below HB.out HG.out.2)
  have HKK := Lib.hid (hk.below hA)
  have hst := st_any (w1.alloc (.cells #[.int .u8 1, .string ⟨#[61]⟩, .nilFunc] 39)) w1.heap.size 2 17 #[] #[] ((cell_of_row _ _ 2 _ _ _ (heap_alloc_new w1 _)).trans rfl) (frozen_of_row _ _ _ _ _ (heap_alloc_new w1 _))
  clear hb hB2 hm hA hm2 hk CK hbox
  by_cases hn : nameB n = true
  · rw [hn] at CN
    by_cases hl : v.size ≤ 1024
    · have E := Lib.hid (errM_good (k := 1) (by decide) hn hl)
      have hd : decide ((v.size : Int) > 1024) = false := decide_eq_false (by omega)
      have hd2 : decide ((1024 : Int) < (v.size : Int)) = false := decide_eq_false (by omega)
      have hd3 : decide (1024 < v.size) = false := decide_eq_false (by omega)
      have HL := Lib.hid hl
      clear hn hl
      have E2 := Lib.hid (E.out.trans (if_pos (by decide)))
      have CG := Lib.hid (equals_any v (w1.alloc (.cells #[.int .u8 1, .string ⟨#[61]⟩, .func (.func 17) #[] #[]] 39)))
      clear E
      unfold pt at *
      go_wp2_with (first | (go_at_call 14; refine (CN.out _).mono ?_; rintro e w2 ⟨rfl, rfl⟩) | (go_at_call 17; refine CG.out.mono ?_; rintro e w2 ⟨u, rfl, hE, hb⟩))
      go_ret2
      exact ⟨_, by rw [E2.out]; rfl, fun _ => hE, HB.out.trans (hb.mono HB.out.size)⟩
    · have E := Lib.hid (errM_long (k := 1) (n := n) hl)
      have hd : decide ((v.size : Int) > 1024) = true := decide_eq_true (by omega)
      have hd2 : decide ((1024 : Int) < (v.size : Int)) = true := decide_eq_true (by omega)
      have hd3 : decide (1024 < v.size) = true := decide_eq_true (by omega)
      clear hn hl
      go_wp2_with (go_at_call 14; refine (CN.out _).mono ?_; rintro e w2 ⟨rfl, rfl⟩)
      go_ret2
      exact ⟨_, by rw [E.out]; rfl, fun h => by rw [E.out] at h; omega, HB.out⟩
  · have hn2 : nameB n = false := by simpa using hn
    rw [hn2] at CN
    have E := Lib.hid (errM_name (k := 1) (v := v) hn2)
    clear hn hn2
    go_wp2_with (go_at_call 14; refine (CN.out _).mono ?_; rintro e w2 ⟨rfl, rfl⟩)
    go_ret2
    exact ⟨_, by rw [E.out]; rfl, fun h => by rw [E.out] at h; omega, HB.out⟩
set_option maxHeartbeats 8000000 in
set_option maxRecDepth 100000 in
theorem cond_2 (n v : ByteArray) (w : World) (hT : TabAt w) : Calls Tryd.prog 10 #[mV 2 n v] w fun e w' => ∃ u, e = .returned (.tuple #[u, .int .u16 ((errM 2 n v : Nat) : Int)]) ∧ (errM 2 n v = 0 → CondV 2 w' u v) ∧ Below w.heap.size w w' := by
  have CK := Lib.hid (fun w => kindof_any 2 n v w)
  have CN := Lib.hid (fun w => name_any n w)
  have hb1 := Lib.hid ((Below.refl w.heap.size w).alloc (Nat.le_refl _) (.cells #[.int .u8 ((2 : Nat) : Int), .string n, .string v] 24))
  have hbox := heap_alloc_new w (.cells #[.int .u8 ((2 : Nat) : Int), .string n, .string v] 24)
  have HG := Lib.hid (show TabAt w ∧ 1 < w.heap.size from ⟨hT, hT.lt⟩)

  unfold mV at *
  simp only [kvV, show decide (1 ≤ 2 ∧ 2 ≤ 4) = true from rfl] at CK
  clear hT
  go_enter Tryd.func10, Tryd.ntmps10
  go_wp2_with fail
  go_at_call 11
  refine (CK.out _).mono ?_
  rintro e w1 ⟨B, rfl, hk, hb⟩
  have hB2 : Below w.heap.size w w1 := hb1.out.trans (hb.mono (by simp))
  have hm : w1.heap[w.heap.size]? = some (.cells #[.int .u8 ((2 : Nat) : Int), .string n, .string v] 24 (0, 0)) := (hb.block _ (by simp)).trans hbox
  have hA := (Below.refl w1.heap.size w1).alloc (Nat.le_refl _) (.cells #[.int .u8 2, .string ⟨#[33, 61]⟩, .func (.func 22) #[] #[pt B]] 39)
  have hm2 := (hA.block _ (Array.getElem?_eq_some_iff.1 hm).1).trans hm
  have m1 : (w1.alloc (.cells #[.int .u8 2, .string ⟨#[33, 61]⟩, .func (.func 22) #[] #[pt B]] 39)).cell? ⟨w.heap.size, 1, none⟩ = some (.string n) := (cell_of_row _ _ 1 _ _ _ hm2).trans rfl
  have m2 : (w1.alloc (.cells #[.int .u8 2, .string ⟨#[33, 61]⟩, .func (.func 22) #[] #[pt B]] 39)).cell? ⟨w.heap.size, 2, none⟩ = some (.string v) := (cell_of_row _ _ 2 _ _ _ hm2).trans rfl
  have HB := Lib.hid (hB2.trans (hA.mono hB2.size))
  have HTT := Lib.hid (HG.out.1.below HB.out HG.out.2)
  have HKK := Lib.hid (hk.below hA)
  have hst := st_any (w1.alloc (.cells #[.int .u8 2, .string ⟨#[33, 61]⟩, .nilFunc] 39)) w1.heap.size 2 22 #[] #[pt B] ((cell_of_row _ _ 2 _ _ _ (heap_alloc_new w1 _)).trans rfl) (frozen_of_row _ _ _ _ _ (heap_alloc_new w1 _))
  clear hb hB2 hm hA hm2 hk CK hbox
  by_cases hn : nameB n = true
  · rw [hn] at CN
    by_cases hl : v.size ≤ 1024
    · have E := Lib.hid (errM_good (k := 2) (by decide) hn hl)
      have hd : decide ((v.size : Int) > 1024) = false := decide_eq_false (by omega)
      have hd2 : decide ((1024 : Int) < (v.size : Int)) = false := decide_eq_false (by omega)
      have hd3 : decide (1024 < v.size) = false := decide_eq_false (by omega)
      have HL := Lib.hid hl
      clear hn hl
      have E2 := Lib.hid (E.out.trans (if_pos (by decide)))
      have CG := Lib.hid (opp22_eq v B (w1.alloc (.cells #[.int .u8 2, .string ⟨#[33, 61]⟩, .func (.func 22) #[] #[pt B]] 39)) HKK.out.one)
      clear E
      unfold pt at *
      go_wp2_with (first | (go_at_call 14; refine (CN.out _).mono ?_; rintro e w2 ⟨rfl, rfl⟩) | (go_at_call 22; refine CG.out.mono ?_; rintro e w2 ⟨u, rfl, hE, hb⟩))
      go_ret2
      exact ⟨_, by rw [E2.out]; rfl, fun _ => hE, HB.out.trans (hb.mono HB.out.size)⟩
    · have E := Lib.hid (errM_long (k := 2) (n := n) hl)
      have hd : decide ((v.size : Int) > 1024) = true := decide_eq_true (by omega)
      have hd2 : decide ((1024 : Int) < (v.size : Int)) = true := decide_eq_true (by omega)
      have hd3 : decide (1024 < v.size) = true := decide_eq_true (by omega)
      clear hn hl
      go_wp2_with (go_at_call 14; refine (CN.out _).mono ?_; rintro e w2 ⟨rfl, rfl⟩)
      go_ret2
      exact ⟨_, by rw [E.out]; rfl, fun h => by rw [E.out] at h; omega, HB.out⟩
  · have hn2 : nameB n = false := by simpa using hn
    rw [hn2] at CN
    have E := Lib.hid (errM_name (k := 2) (v := v) hn2)
    clear hn hn2
    go_wp2_with (go_at_call 14; refine (CN.out _).mono ?_; rintro e w2 ⟨rfl, rfl⟩)
    go_ret2
    exact ⟨_, by rw [E.out]; rfl, fun h => by rw [E.out] at h; omega, HB.out⟩
set_option maxHeartbeats 8000000 in
set_option maxRecDepth 100000 in
theorem cond_3 (n v : ByteArray) (w : World) (hT : TabAt w) : Calls Tryd.prog 10 #[mV 3 n v] w fun e w' => ∃ u, e = .returned (.tuple #[u, .int .u16 ((errM 3 n v : Nat) : Int)]) ∧ (errM 3 n v = 0 → CondV 3 w' u v) ∧ Below w.heap.size w w' := by
  have CK := Lib.hid (fun w => kindof_any 3 n v w)
  have CN := Lib.hid (fun w => name_any n w)
  have hb1 := Lib.hid ((Below.refl w.heap.size w).alloc (Nat.le_refl _) (.cells #[.int .u8 ((3 : Nat) : Int), .string n, .string v] 24))
  have hbox := heap_alloc_new w (.cells #[.int .u8 ((3 : Nat) : Int), .string n, .string v] 24)
  have HG := Lib.hid (show TabAt w ∧ 1 < w.heap.size from ⟨hT, hT.lt⟩)

  unfold mV at *
  simp only [kvV, show decide (1 ≤ 3 ∧ 3 ≤ 4) = true from rfl] at CK
  clear hT
  go_enter Tryd.func10, Tryd.ntmps10
  go_wp2_with fail
  go_at_call 11
  refine (CK.out _).mono ?_
  rintro e w1 ⟨B, rfl, hk, hb⟩
  have hB2 : Below w.heap.size w w1 := hb1.out.trans (hb.mono (by simp))
  have hm : w1.heap[w.heap.size]? = some (.cells #[.int .u8 ((3 : Nat) : Int), .string n, .string v] 24 (0, 0)) := (hb.block _ (by simp)).trans hbox
  have hA := (Below.refl w1.heap.size w1).alloc (Nat.le_refl _) (.cells #[.int .u8 3, .string ⟨#[61, 126]⟩, .func (.func 19) #[] #[]] 39)
  have hm2 := (hA.block _ (Array.getElem?_eq_some_iff.1 hm).1).trans hm
  have m1 : (w1.alloc (.cells #[.int .u8 3, .string ⟨#[61, 126]⟩, .func (.func 19) #[] #[]] 39)).cell? ⟨w.heap.size, 1, none⟩ = some (.string n) := (cell_of_row _ _ 1 _ _ _ hm2).trans rfl
  have m2 : (w1.alloc (.cells #[.int .u8 3, .string ⟨#[61, 126]⟩, .func (.func 19) #[] #[]] 39)).cell? ⟨w.heap.size, 2, none⟩ = some (.string v) := (cell_of_row _ _ 2 _ _ _ hm2).trans rfl
  have HB := Lib.hid (hB2.trans (hA.mono hB2.size))
  have HTT := Lib.hid (HG.out.1.below HB.out HG.out.2)
  have HKK := Lib.hid (hk.below hA)
  have hst := st_any (w1.alloc (.cells #[.int .u8 3, .string ⟨#[61, 126]⟩, .nilFunc] 39)) w1.heap.size 2 19 #[] #[] ((cell_of_row _ _ 2 _ _ _ (heap_alloc_new w1 _)).trans rfl) (frozen_of_row _ _ _ _ _ (heap_alloc_new w1 _))
  clear hb hB2 hm hA hm2 hk CK hbox
  by_cases hn : nameB n = true
  · rw [hn] at CN
    by_cases hl : v.size ≤ 1024
    · have E := Lib.hid (errM_good (k := 3) (by decide) hn hl)
      have hd : decide ((v.size : Int) > 1024) = false := decide_eq_false (by omega)
      have hd2 : decide ((1024 : Int) < (v.size : Int)) = false := decide_eq_false (by omega)
      have hd3 : decide (1024 < v.size) = false := decide_eq_false (by omega)
      have HL := Lib.hid hl
      clear hn hl
      have E2 := Lib.hid (E.out.trans (if_neg (by decide)))
      have CG := Lib.hid (fitsm_any v (by have := HL.out; omega) (w1.alloc (.cells #[.int .u8 3, .string ⟨#[61, 126]⟩, .func (.func 19) #[] #[]] 39)) HTT.out)
      clear E
      obtain ⟨q, hq⟩ : ∃ q, cerr v = q := ⟨_, rfl⟩
      rw [hq] at CG E2
      unfold pt at *
      clear hq
      go_wp2_with (first | (go_at_call 14; refine (CN.out _).mono ?_; rintro e w2 ⟨rfl, rfl⟩) | (go_at_call 19; refine CG.out.mono ?_; rintro e w2 ⟨u, rfl, hE, _, hb⟩))
      go_ret2
      exact ⟨_, by rw [E2.out]; rfl, fun h => hE (by rw [E2.out] at h; exact h), HB.out.trans (hb.mono HB.out.size)⟩
    · have E := Lib.hid (errM_long (k := 3) (n := n) hl)
      have hd : decide ((v.size : Int) > 1024) = true := decide_eq_true (by omega)
      have hd2 : decide ((1024 : Int) < (v.size : Int)) = true := decide_eq_true (by omega)
      have hd3 : decide (1024 < v.size) = true := decide_eq_true (by omega)
      clear hn hl
      go_wp2_with (go_at_call 14; refine (CN.out _).mono ?_; rintro e w2 ⟨rfl, rfl⟩)
      go_ret2
      exact ⟨_, by rw [E.out]; rfl, fun h => by rw [E.out] at h; omega, HB.out⟩
  · have hn2 : nameB n = false := by simpa using hn
    rw [hn2] at CN
    have E := Lib.hid (errM_name (k := 3) (v := v) hn2)
    clear hn hn2
    go_wp2_with (go_at_call 14; refine (CN.out _).mono ?_; rintro e w2 ⟨rfl, rfl⟩)
    go_ret2
    exact ⟨_, by rw [E.out]; rfl, fun h => by rw [E.out] at h; omega, HB.out⟩
set_option maxHeartbeats 8000000 in
set_option maxRecDepth 100000 in
theorem cond_4 (n v : ByteArray) (w : World) (hT : TabAt w) : Calls Tryd.prog 10 #[mV 4 n v] w fun e w' => ∃ u, e = .returned (.tuple #[u, .int .u16 ((errM 4 n v : Nat) : Int)]) ∧ (errM 4 n v = 0 → CondV 4 w' u v) ∧ Below w.heap.size w w' := by
  have CK := Lib.hid (fun w => kindof_any 4 n v w)
  have CN := Lib.hid (fun w => name_any n w)
  have hb1 := Lib.hid ((Below.refl w.heap.size w).alloc (Nat.le_refl _) (.cells #[.int .u8 ((4 : Nat) : Int), .string n, .string v] 24))
  have hbox := heap_alloc_new w (.cells #[.int .u8 ((4 : Nat) : Int), .string n, .string v] 24)
  have HG := Lib.hid (show TabAt w ∧ 1 < w.heap.size from ⟨hT, hT.lt⟩)

  unfold mV at *
  simp only [kvV, show decide (1 ≤ 4 ∧ 4 ≤ 4) = true from rfl] at CK
  clear hT
  go_enter Tryd.func10, Tryd.ntmps10
  go_wp2_with fail
  go_at_call 11
  refine (CK.out _).mono ?_
  rintro e w1 ⟨B, rfl, hk, hb⟩
  have hB2 : Below w.heap.size w w1 := hb1.out.trans (hb.mono (by simp))
  have hm : w1.heap[w.heap.size]? = some (.cells #[.int .u8 ((4 : Nat) : Int), .string n, .string v] 24 (0, 0)) := (hb.block _ (by simp)).trans hbox
  have hA := (Below.refl w1.heap.size w1).alloc (Nat.le_refl _) (.cells #[.int .u8 4, .string ⟨#[33, 126]⟩, .func (.func 22) #[] #[pt (B + 1)]] 39)
  have hm2 := (hA.block _ (Array.getElem?_eq_some_iff.1 hm).1).trans hm
  have m1 : (w1.alloc (.cells #[.int .u8 4, .string ⟨#[33, 126]⟩, .func (.func 22) #[] #[pt (B + 1)]] 39)).cell? ⟨w.heap.size, 1, none⟩ = some (.string n) := (cell_of_row _ _ 1 _ _ _ hm2).trans rfl
  have m2 : (w1.alloc (.cells #[.int .u8 4, .string ⟨#[33, 126]⟩, .func (.func 22) #[] #[pt (B + 1)]] 39)).cell? ⟨w.heap.size, 2, none⟩ = some (.string v) := (cell_of_row _ _ 2 _ _ _ hm2).trans rfl
  have HB := Lib.hid (hB2.trans (hA.mono hB2.size))
  have HTT := Lib.hid (HG.out.1.below HB.out HG.out.2)
  have HKK := Lib.hid (hk.below hA)
  have hst := st_any (w1.alloc (.cells #[.int .u8 4, .string ⟨#[33, 126]⟩, .nilFunc] 39)) w1.heap.size 2 22 #[] #[pt (B + 1)] ((cell_of_row _ _ 2 _ _ _ (heap_alloc_new w1 _)).trans rfl) (frozen_of_row _ _ _ _ _ (heap_alloc_new w1 _))
  clear hb hB2 hm hA hm2 hk CK hbox
  by_cases hn : nameB n = true
  · rw [hn] at CN
    by_cases hl : v.size ≤ 1024
    · have E := Lib.hid (errM_good (k := 4) (by decide) hn hl)
      have hd : decide ((v.size : Int) > 1024) = false := decide_eq_false (by omega)
      have hd2 : decide ((1024 : Int) < (v.size : Int)) = false := decide_eq_false (by omega)
      have hd3 : decide (1024 < v.size) = false := decide_eq_false (by omega)
      have HL := Lib.hid hl
      clear hn hl
      have E2 := Lib.hid (E.out.trans (if_neg (by decide)))
      have CG := Lib.hid (opp22_re v (by have := HL.out; omega) (B + 1) (w1.alloc (.cells #[.int .u8 4, .string ⟨#[33, 126]⟩, .func (.func 22) #[] #[pt (B + 1)]] 39)) HTT.out HKK.out.two)
      clear E
      obtain ⟨q, hq⟩ : ∃ q, cerr v = q := ⟨_, rfl⟩
      rw [hq] at CG E2
      unfold pt at *
      clear hq
      go_wp2_with (first | (go_at_call 14; refine (CN.out _).mono ?_; rintro e w2 ⟨rfl, rfl⟩) | (go_at_call 22; refine CG.out.mono ?_; rintro e w2 ⟨u, rfl, hE, hb⟩))
      go_ret2
      exact ⟨_, by rw [E2.out]; rfl, fun h => hE (by rw [E2.out] at h; exact h), HB.out.trans (hb.mono HB.out.size)⟩
    · have E := Lib.hid (errM_long (k := 4) (n := n) hl)
      have hd : decide ((v.size : Int) > 1024) = true := decide_eq_true (by omega)
      have hd2 : decide ((1024 : Int) < (v.size : Int)) = true := decide_eq_true (by omega)
      have hd3 : decide (1024 < v.size) = true := decide_eq_true (by omega)
      clear hn hl
      go_wp2_with (go_at_call 14; refine (CN.out _).mono ?_; rintro e w2 ⟨rfl, rfl⟩)
      go_ret2
      exact ⟨_, by rw [E.out]; rfl, fun h => by rw [E.out] at h; omega, HB.out⟩
  · have hn2 : nameB n = false := by simpa using hn
    rw [hn2] at CN
    have E := Lib.hid (errM_name (k := 4) (v := v) hn2)
    clear hn hn2
    go_wp2_with (go_at_call 14; refine (CN.out _).mono ?_; rintro e w2 ⟨rfl, rfl⟩)
    go_ret2
    exact ⟨_, by rw [E.out]; rfl, fun h => by rw [E.out] at h; omega, HB.out⟩
set_option maxHeartbeats 8000000 in
set_option maxRecDepth 100000 in
theorem cond_k (k : Nat) (n v : ByteArray) (w : World) (hT : TabAt w) (hk : ¬ (1 ≤ k ∧ k ≤ 4)) : Calls Tryd.prog 10 #[mV k n v] w fun e w' => ∃ u, e = .returned (.tuple #[u, .int .u16 ((errM k n v : Nat) : Int)]) ∧ (errM k n v = 0 → CondV k w' u v) ∧ Below w.heap.size w w' := by
  have CK := Lib.hid (fun w => kindof_any k n v w)
  have HH := Lib.hid hk
  have CN := Lib.hid (fun w => name_any n w)
  have hb1 := Lib.hid ((Below.refl w.heap.size w).alloc (Nat.le_refl _) (.cells #[.int .u8 ((k : Nat) : Int), .string n, .string v] 24))
  have hbox := heap_alloc_new w (.cells #[.int .u8 ((k : Nat) : Int), .string n, .string v] 24)
  have HG := Lib.hid (show TabAt w ∧ 1 < w.heap.size from ⟨hT, hT.lt⟩)

  unfold mV at *
  simp only [kv_far k _ hk, decide_eq_false hk] at CK
  clear hT hk
  go_enter Tryd.func10, Tryd.ntmps10
  go_wp2_with fail
  go_at_call 11
  refine (CK.out _).mono ?_
  rintro e w1 ⟨B, rfl, hkk, hb⟩
  have hB2 : Below w.heap.size w w1 := hb1.out.trans (hb.mono (by simp))
  have hm : w1.heap[w.heap.size]? = some (.cells #[.int .u8 ((k : Nat) : Int), .string n, .string v] 24 (0, 0)) := (hb.block _ (by simp)).trans hbox
  have hA := (Below.refl w1.heap.size w1).alloc (Nat.le_refl _) (.cells #[.int .u8 0, .string ⟨#[]⟩, .nilFunc] 39)
  have hm2 := (hA.block _ (Array.getElem?_eq_some_iff.1 hm).1).trans hm
  have m1 : (w1.alloc (.cells #[.int .u8 0, .string ⟨#[]⟩, .nilFunc] 39)).cell? ⟨w.heap.size, 1, none⟩ = some (.string n) := (cell_of_row _ _ 1 _ _ _ hm2).trans rfl
  have m2 : (w1.alloc (.cells #[.int .u8 0, .string ⟨#[]⟩, .nilFunc] 39)).cell? ⟨w.heap.size, 2, none⟩ = some (.string v) := (cell_of_row _ _ 2 _ _ _ hm2).trans rfl
  have HB := Lib.hid (hB2.trans (hA.mono hB2.size))
  have HTT := Lib.hid (HG.out.1.below HB.out HG.out.2)
  have HKK := Lib.hid (hkk.below hA)
  have hst : (store ⟨w1.heap.size, 2, none⟩ .nilFunc).run Tryd.prog (w1.alloc (.cells #[.int .u8 0, .string ⟨#[]⟩, .nilFunc] 39)) = .ok () ((w1.alloc (.cells #[.int .u8 0, .string ⟨#[]⟩, .nilFunc] 39)).setCell ⟨w1.heap.size, 2, none⟩ .nilFunc) := by
    have cc0 : (w1.alloc (.cells #[.int .u8 0, .string ⟨#[]⟩, .nilFunc] 39)).cell? ⟨w1.heap.size, 2, none⟩ = some .nilFunc := by rw [cell_of_row _ _ _ _ _ _ (heap_alloc_new w1 _)]; rfl
    have ff0 : (w1.alloc (.cells #[.int .u8 0, .string ⟨#[]⟩, .nilFunc] 39)).frozen? ⟨w1.heap.size, 2, none⟩ = false := frozen_of_row _ _ _ _ _ (heap_alloc_new w1 _)
    rw [run_store Tryd.prog _ _ _ _ rfl]
    simp only [cc0, ff0]
    rfl
  clear hb hB2 hm hA hm2 hkk CK hbox
  have E := Lib.hid (errM_kind (k := k) (n := n) (v := v) HH.out)
  go_wp2_with fail
  go_ret2
  exact ⟨_, by rw [E.out]; rfl, fun h => by rw [E.out] at h; omega, HB.out⟩
end Go.Proofs.YtphighddlfabbaaDoor
namespace Go.Proofs.YtphighddlfabbaaDoor
set_option linter.unusedVariables false
set_option linter.unusedSimpArgs false
open Go.RowKit Go.PlainAid Go.Shelf
theorem cond_any (k : Nat) (n v : ByteArray) (w : World) (hT : TabAt w) : Calls Tryd.prog 10 #[mV k n v] w fun e w' => ∃ u, e = .returned (.tuple #[u, .int .u16 ((errM k n v : Nat) : Int)]) ∧ (errM k n v = 0 → CondV k w' u v) ∧ Below w.heap.size w w' := by
  by_cases hk : 1 ≤ k ∧ k ≤ 4
  · have h : k = 1 ∨ k = 2 ∨ k = 3 ∨ k = 4 := by omega
    rcases h with rfl | rfl | rfl | rfl
    · exact cond_1 n v w hT
    · exact cond_2 n v w hT
    · exact cond_3 n v w hT
    · exact cond_4 n v w hT
  · exact cond_k k n v w hT hk
theorem errM_small (k : Nat) (n v : ByteArray) : errM k n v = 0 ∨ errM k n v = 80 ∨ errM k n v = 81 ∨ errM k n v = 90 := by
  unfold errM
  split
  · split
    · exact .inl rfl
    · unfold cerr
      rcases hr : Rx.compile sg (bytesOf v) with ⟨n, p⟩ | ⟨t, g⟩
      · rcases cerr_at hr with rfl | rfl
        · exact .inr (.inl rfl)
        · exact .inr (.inr (.inl rfl))
      · exact .inl rfl
  · exact .inr (.inr (.inr rfl))
set_option maxHeartbeats 4000000 in
theorem check_any (k : Nat) (n v : ByteArray) (w : World) (hT : TabAt w) : Calls Tryd.prog 5 #[mV k n v] w (Gives w (.int .u16 ((errM k n v : Nat) : Int))) := by
  have hA := (Below.refl w.heap.size w).alloc (Nat.le_refl _) (.cells #[.int .u8 (k : Int), .string n, .string v] 24)
  have C := Lib.hid (cond_any k n v _ (hT.below hA hT.lt))
  have HA := Lib.hid hA
  obtain ⟨q, hq⟩ : ∃ q, errM k n v = q := ⟨_, rfl⟩
  rw [hq] at C ⊢
  unfold mV at *
  clear hT hA hq
  go_enter Tryd.func5, Tryd.ntmps5
  go_wp2_with fail
  go_at_call 10
  refine C.out.mono ?_
  rintro e w1 ⟨u, rfl, _, hb⟩
  have HB := Lib.hid (HA.out.trans (hb.mono HA.out.size))
  clear hb
  go_wp2
  go_ret
  exact ⟨rfl, HB.out⟩
/-- does the pattern fit -/
def fitP (v s : ByteArray) : Bool := match Rx.compile sg (bytesOf v) with
  | .error _ => false
  | .ok (t, _) => fitB t (bytesOf s)
def isP (k : Nat) (v s : ByteArray) : Bool := match k with
  | 1 => decide (s = v)
  | 2 => !decide (s = v)
  | 3 => fitP v s
  | _ => !fitP v s
def isM (k : Nat) (n v s : ByteArray) : Bool := decide (errM k n v = 0) && isP k v s
set_option maxHeartbeats 4000000 in
theorem re25_any (v s : ByteArray) (hs : s.size ≤ 10000000000) (r g : Nat) (t : Rx.Node) (hc : Rx.compile sg (bytesOf v) = .ok (t, g)) (w : World) (H : Rgx w r t g) :
    Calls Tryd.prog 25 #[pt r, .string s] w (Gives w (.bool (fitP v s))) := by
  have h := match_any r t g (bytesOf s) (isB_bytesOf s) (by rw [bytesOf_length]; exact hs) w H
  rw [strOf_bytesOf] at h
  have e : fitP v s = fitB t (bytesOf s) := by unfold fitP; rw [hc]
  rw [e]
  exact h
set_option maxHeartbeats 4000000 in
theorem nr23_any (v s : ByteArray) (hs : s.size ≤ 10000000000) (d r g : Nat) (t : Rx.Node) (hc : Rx.compile sg (bytesOf v) = .ok (t, g)) (w : World) (H : Rgx w r t g) (hd : w.cell? ⟨d, 0, none⟩ = some (.func (.func 25) #[pt r] #[])) :
    Calls Tryd.prog 23 #[.string s, pt d] w (Gives w (.bool (!fitP v s))) := by
  have C := Lib.hid (re25_any v s hs r g t hc w H)
  obtain ⟨q, hq⟩ : ∃ q, fitP v s = q := ⟨_, rfl⟩
  rw [hq] at C ⊢
  unfold pt at *
  clear hq H hc hs
  go_enter Tryd.func23, Tryd.ntmps23
  go_wp2_with fail
  go_at_call 25
  refine C.out.mono ?_
  rintro e w1 ⟨rfl, hb⟩
  have HB := Lib.hid hb
  clear hb
  go_wp2
  all_goals (go_ret; exact ⟨rfl, HB.out⟩)
set_option maxHeartbeats 4000000 in
set_option maxRecDepth 100000 in
theorem is_any (k : Nat) (n v s : ByteArray) (hs : s.size ≤ 10000000000) (w : World) (hT : TabAt w) : Calls Tryd.prog 6 #[mV k n v, .string s] w (Gives w (.bool (isM k n v s))) := by
  have hA := (Below.refl w.heap.size w).alloc (Nat.le_refl _) (.cells #[.int .u8 (k : Int), .string n, .string v] 24)
  have C := Lib.hid (cond_any k n v _ (hT.below hA hT.lt))
  have HA := Lib.hid hA
  have HS := Lib.hid hs
  by_cases h0 : errM k n v = 0
  · have hk : k = 1 ∨ k = 2 ∨ k = 3 ∨ k = 4 := by
      have := h0
      unfold errM at this
      split at this
      · omega
      · omega
    have e : isM k n v s = isP k v s := by unfold isM; rw [decide_eq_true h0, Bool.true_and]
    rw [e]
    rw [h0] at C
    clear hT hA h0 hs e
    rcases hk with rfl | rfl | rfl | rfl
    · unfold mV at *
      go_enter Tryd.func6, Tryd.ntmps6
      go_wp2_with fail
      go_at_call 10
      refine C.out.mono ?_
      rintro e w1 ⟨u, rfl, hu, hb⟩
      obtain ⟨c, rfl, hc⟩ := hu (by trivial)
      have HB := Lib.hid (HA.out.trans (hb.mono HA.out.size))
      have D := Lib.hid (eq21_any s v c w1 hc)
      obtain ⟨q, hq⟩ : ∃ q, decide (s = v) = q := ⟨_, rfl⟩
      have HQ := Lib.hid (show isP 1 v s = q from hq)
      rw [hq] at D
      clear hb hu hc hq C
      unfold pt at *
      go_wp2_with (go_at_call 21; refine D.out.mono ?_; rintro e w2 ⟨rfl, rfl⟩)
      all_goals (go_ret; exact ⟨by rw [HQ.out]; rfl, HB.out⟩)
    · unfold mV at *
      go_enter Tryd.func6, Tryd.ntmps6
      go_wp2_with fail
      go_at_call 10
      refine C.out.mono ?_
      rintro e w1 ⟨u, rfl, hu, hb⟩
      obtain ⟨d, c, rfl, hd, hc⟩ := hu (by trivial)
      have HB := Lib.hid (HA.out.trans (hb.mono HA.out.size))
      have D := Lib.hid (ne23_any s v d c w1 hd hc)
      obtain ⟨q, hq⟩ : ∃ q, (!decide (s = v)) = q := ⟨_, rfl⟩
      have HQ := Lib.hid (show isP 2 v s = q from hq)
      rw [hq] at D
      clear hb hu hc hq C hd
      unfold pt at *
      go_wp2_with (go_at_call 23; refine D.out.mono ?_; rintro e w2 ⟨rfl, rfl⟩)
      all_goals (go_ret; exact ⟨by rw [HQ.out]; rfl, HB.out⟩)
    · unfold mV at *
      go_enter Tryd.func6, Tryd.ntmps6
      go_wp2_with fail
      go_at_call 10
      refine C.out.mono ?_
      rintro e w1 ⟨u, rfl, hu, hb⟩
      obtain ⟨r, t, g, hcm, rfl, hx⟩ := hu (by trivial)
      have HB := Lib.hid (HA.out.trans (hb.mono HA.out.size))
      have D := Lib.hid (re25_any v s HS.out r g t hcm w1 hx)
      obtain ⟨q, hq⟩ : ∃ q, fitP v s = q := ⟨_, rfl⟩
      have HQ := Lib.hid (show isP 3 v s = q from hq)
      rw [hq] at D
      clear hb hu hcm hq C hx
      unfold pt at *
      go_wp2_with (go_at_call 25; refine D.out.mono ?_; rintro e w2 ⟨rfl, hb2⟩)
      all_goals (go_ret; exact ⟨by rw [HQ.out]; rfl, HB.out.trans (hb2.mono HB.out.size)⟩)
    · unfold mV at *
      go_enter Tryd.func6, Tryd.ntmps6
      go_wp2_with fail
      go_at_call 10
      refine C.out.mono ?_
      rintro e w1 ⟨u, rfl, hu, hb⟩
      obtain ⟨d, r, t, g, hcm, rfl, hd, hx⟩ := hu (by trivial)
      have HB := Lib.hid (HA.out.trans (hb.mono HA.out.size))
      have D := Lib.hid (nr23_any v s HS.out d r g t hcm w1 hx hd)
      obtain ⟨q, hq⟩ : ∃ q, (!fitP v s) = q := ⟨_, rfl⟩
      have HQ := Lib.hid (show isP 4 v s = q from hq)
      rw [hq] at D
      clear hb hu hcm hq C hx hd
      unfold pt at *
      go_wp2_with (go_at_call 23; refine D.out.mono ?_; rintro e w2 ⟨rfl, hb2⟩)
      all_goals (go_ret; exact ⟨by rw [HQ.out]; rfl, HB.out.trans (hb2.mono HB.out.size)⟩)
  · have e : isM k n v s = false := by unfold isM; rw [decide_eq_false h0, Bool.false_and]
    rw [e]
    have hq0 := errM_small k n v
    obtain ⟨q, hq⟩ : ∃ q, errM k n v = q := ⟨_, rfl⟩
    rw [hq] at C h0 hq0
    clear hT hA hs e hq HS
    have hq1 : q = 80 ∨ q = 81 ∨ q = 90 := by omega
    clear h0 hq0
    unfold mV at *
    rcases hq1 with rfl | rfl | rfl
    all_goals
      go_enter Tryd.func6, Tryd.ntmps6
      go_wp2_with fail
      go_at_call 10
      refine C.out.mono ?_
      rintro e w1 ⟨u, rfl, _, hb⟩
      have HB := Lib.hid (HA.out.trans (hb.mono HA.out.size))
      clear hb
      go_wp2
      go_ret
      exact ⟨rfl, HB.out⟩
end Go.Proofs.YtphighddlfabbaaDoor
namespace Go.Proofs.YtphighddlfabbaaDoor
set_option linter.unusedVariables false
set_option linter.unusedSimpArgs false
open Go.RowKit Go.PlainAid
theorem conv_own {w : World} {base : Nat} {v : Value} {ds : List Nat} (h : Own w base v ds) (hB : IsB ds) : (convert 48 9 v).run Tryd.prog w = .ok (.string (strOf ds)) w := by
  obtain ⟨a, cap, rfl, hc, hcell⟩ := h.cells
  by_cases hd : ds = []
  · subst hd
    obtain ⟨_, h2⟩ := h
    rcases h2 with ⟨hv, _⟩ | ⟨g, cap2, cur, hv, _⟩
    · cases hv
      exact run_convert_bytes_nil w 48 5 Tryd.underlying48 Tryd.underlying5 _ _ 9 Tryd.underlying9
    · cases hv
      have := run_convert_bytes_arg (P := Tryd.prog) w 48 5 Tryd.underlying48 Tryd.underlying5 g 0 0 cap [] rfl (fun i hi => by omega) 9 Tryd.underlying9
      exact this
  · have hp : 0 < ds.length := List.length_pos_iff.2 hd
    obtain ⟨b, rfl, _⟩ := hcell 0 hp
    have := run_convert_bytes_arg (P := Tryd.prog) w 48 5 Tryd.underlying48 Tryd.underlying5 b 0 ds.length cap (ds.map fun (c : Nat) => (c : Int)) (by simp) (fun i hi => by
      obtain ⟨b', hb', hc'⟩ := hcell i hi
      cases hb'
      rw [Nat.zero_add, hc']
      simp [List.getD, List.getElem?_map, List.getElem?_eq_getElem hi]) 9 Tryd.underlying9
    rw [this]
    have e : strOfNums (ds.map fun (c : Nat) => (c : Int)) = strOf ds := by
      unfold strOfNums strOf
      rw [List.map_map]
      rfl
    rw [e]
theorem conv_row {w : World} {base n : Nat} {v : Value} {ds es R : List Nat} (h : w.ownsRow base 5 1 v n (cellsOf ds ++ cellsOf es)) (hn : n = ds.length + es.length) (hR : ds ++ es = R) (hB : IsB R) : (convert 48 9 v).run Tryd.prog w = .ok (.string (strOf R)) w := by
  subst hR
  refine conv_own (base := base) ?_ hB
  unfold Own
  rw [List.length_append, cellsOf_append, ← hn]
  exact h
theorem strCells_of (bs : List Nat) (h : IsB bs) : Lib.strCells (strOf bs) = cellsOf bs := by
  unfold Lib.strCells strOf cellsOf
  simp only [List.map_map]
  apply List.map_congr_left
  intro c hc
  have := h c hc
  show Value.int .u8 ((UInt8.ofNat c).toNat : Int) = _
  rw [UInt8.toNat_ofNat', Nat.mod_eq_of_lt this]
def hexd (n : Nat) : Nat := if n < 10 then 48 + n else 87 + n
def qB (c : Nat) : List Nat :=
  if c = 34 ∨ c = 92 then [92, c] else if c = 10 then [92, 110] else if c = 13 then [92, 114] else if c = 9 then [92, 116]
  else if c < 32 ∨ 126 < c then [92, 120, hexd (c / 16), hexd (c % 16)] else [c]
def qPre (bs : List Nat) (k : Nat) : List Nat := 34 :: (bs.take k).flatMap qB
def quoteL (bs : List Nat) : List Nat := 34 :: bs.flatMap qB ++ [34]
theorem hexd_lt {n : Nat} (h : n < 16) : hexd n < 256 := by unfold hexd; split <;> omega
theorem qB_isB {c : Nat} (h : c < 256) : IsB (qB c) := by
  have h1 : hexd (c / 16) < 256 := hexd_lt (by omega)
  have h2 : hexd (c % 16) < 256 := hexd_lt (by omega)
  unfold qB
  repeat' split
  all_goals (intro x hx; simp at hx; omega)
theorem qB_len (c : Nat) : (qB c).length ≤ 4 ∧ 1 ≤ (qB c).length := by
  unfold qB
  repeat' split
  all_goals simp
theorem isB_flat {bs : List Nat} (h : IsB bs) : IsB (bs.flatMap qB) := fun x hx => by
  obtain ⟨c, hc, hx⟩ := List.mem_flatMap.1 hx
  exact qB_isB (h c hc) x hx
theorem isB_take {bs : List Nat} (h : IsB bs) (k : Nat) : IsB (bs.take k) := fun x hx => h x (List.mem_of_mem_take hx)
theorem qPre_isB {bs : List Nat} (h : IsB bs) (k : Nat) : IsB (qPre bs k) := IsB.cons (by decide) (isB_flat (isB_take h k))
theorem qflat_len (bs : List Nat) : (bs.flatMap qB).length ≤ 4 * bs.length := by
  induction bs with
  | nil => simp
  | cons c bs ih =>
    rw [List.flatMap_cons, List.length_append, List.length_cons]
    have := (qB_len c).1
    omega
theorem qPre_len (bs : List Nat) (k : Nat) : (qPre bs k).length ≤ 1 + 4 * k := by
  unfold qPre
  rw [List.length_cons]
  have := qflat_len (bs.take k)
  rw [List.length_take] at this
  omega
theorem qPre_succ {bs : List Nat} {k : Nat} (h : k < bs.length) : qPre bs (k + 1) = qPre bs k ++ qB bs[k] := by
  unfold qPre
  rw [List.take_succ_eq_append_getElem h, List.flatMap_append, List.cons_append]
  simp
theorem qPre_all (bs : List Nat) : qPre bs bs.length ++ [34] = quoteL bs := by
  unfold qPre quoteL
  rw [List.take_length]
theorem quoteL_isB {bs : List Nat} (h : IsB bs) : IsB (quoteL bs) := IsB.app (IsB.cons (by decide) (isB_flat h)) (IsB.cons (by decide) IsB.nil)
def hexS : ByteArray := { data := #[48, 49, 50, 51, 52, 53, 54, 55, 56, 57, 97, 98, 99, 100, 101, 102] }
theorem hexS_bt (n : Nat) (h : n < 16) : bt { data := #[48, 49, 50, 51, 52, 53, 54, 55, 56, 57, 97, 98, 99, 100, 101, 102] } n = (hexd n : Nat) := by
  have hall : ∀ k : Fin 16, bt { data := #[48, 49, 50, 51, 52, 53, 54, 55, 56, 57, 97, 98, 99, 100, 101, 102] } k.val = (hexd k.val : Nat) := by decide
  exact hall ⟨n, h⟩
theorem and15 (c : Nat) (h : c < 256) : bits .and .u8 (c : Int) 15 = ((c % 16 : Nat) : Int) := by
  have hall : ∀ k : Fin 256, bits .and .u8 ((k.val : Nat) : Int) 15 = ((k.val % 16 : Nat) : Int) := by decide +kernel
  exact hall ⟨c, h⟩
set_option maxRecDepth 100000 in
set_option maxHeartbeats 4000000 in
theorem quote_any (bs : List Nat) (hB : IsB bs) (hl : bs.length ≤ 20000) (w : World) : Calls Tryd.prog 12 #[.string (strOf bs)] w (Gives w (.string (strOf (quoteL bs)))) := by
  obtain ⟨i0, hi, hz0, hz1, hz2⟩ := info_parts info5
  have hsz := strOf_size bs
  have hbt := get_bt (strOf bs)
  have hbx := get_bt { data := #[48, 49, 50, 51, 52, 53, 54, 55, 56, 57, 97, 98, 99, 100, 101, 102] }
  have B0 := Lib.hid (Below.refl w.heap.size w)
  have QA := Lib.hid (qPre_all bs)
  have HS := Lib.hid (strOf_bt bs hB)
  obtain ⟨L, hL⟩ : ∃ L, bs.length = L := ⟨_, rfl⟩
  rw [hL] at hsz hl QA
  have HL := Lib.hid hL
  have HB := Lib.hid hB
  clear hL hB
  go_enter Tryd.func12, Tryd.ntmps12
  go_wp2
  go_loopw [3, 9] (fun b i wr => ∃ (k : Nat), k ≤ L ∧ i = .int .i64 k ∧ Hid (Own wr w.heap.size b (qPre bs k)) ∧ Hid (Below w.heap.size w wr)) (fun _ i _ => (L - intOf i).toNat)
  case atStart => exact ⟨0, by omega, rfl, Lib.hid (Own.laid w [34] (by simp [maxLen]) _ (Nat.le_refl _)), Lib.hid (B0.out.alloc (Nat.le_refl _) _)⟩
  case round =>
    obtain ⟨k, hk, rfl, HO, HB2⟩ := hrel
    obtain ⟨ao, co, rfl⟩ := own_shape HO.out
    have HW := Lib.hid (Below.size HB2.out)
    have hlen := qPre_len bs k
    obtain ⟨n, hn⟩ : ∃ n, (qPre bs k).length = n := ⟨_, rfl⟩
    have HN := Lib.hid hn
    rw [hn] at hlen HO ⊢
    clear hn
    by_cases hkL : k < L
    · have da : decide ((k : Int) < (L : Int)) = true := decide_eq_true (by omega)
      have da2 : decide (k < L) = true := decide_eq_true hkL
      have hkb := HS.out k (by rw [HL.out]; exact hkL)
      have hc256 := HB.out.at k (by rw [HL.out]; exact hkL)
      have hsucc := qPre_succ (bs := bs) (k := k) (by rw [HL.out]; exact hkL)
      obtain ⟨c, hc⟩ : ∃ c, bs[k]'(by rw [HL.out]; exact hkL) = c := ⟨_, rfl⟩
      rw [hc] at hkb hc256 hsucc
      clear hc
      have HO1 : Hid (wr.ownsRow w.heap.size 5 1 (.slice ao n co) n (cellsOf (qPre bs k))) := Lib.hid (by have h := HO.out; unfold Own at h; rw [HN.out] at h; exact h)
      have HOA : Hid (∀ o, (wr.alloc o).ownsRow w.heap.size 5 1 (.slice ao n co) n (cellsOf (qPre bs k))) := Lib.hid (fun o => by
        have h := HO.out.below ((Below.refl wr.heap.size wr).alloc (Nat.le_refl _) o)
        unfold Own at h
        rw [HN.out] at h
        exact h)
      have SUC := Lib.hid hsucc
      clear hsucc
      by_cases h34 : c = 34
      · subst h34
        have SU : Hid (qPre bs (k + 1) = qPre bs k ++ [92, 34]) := Lib.hid (by rw [SUC.out]; congr 1)
        go_wp2_with (at_builtin; refine wpList_append_own _ rfl (.tmp 26) (.tmp 28) 48 rfl w.heap.size 5 i0 (.int .u8 0) 1 1 Tryd.underlying48 hi hz0 hz1 hz2 rfl (by decide) (.slice ao n co) n (cellsOf (qPre bs k)) rfl (HOA.out _) ⟨wr.heap.size, 0, none⟩ 2 2 (cellsOf [92, 34]) rfl rfl (alloc_row _ [92, 34]) (cellsOf_one _) (by unfold maxLen; omega) (by omega) (by have := HW.out; simp; omega) ?_; intro v2 w2 hown2 hgr2 hne2)
        obtain ⟨g1, g2⟩ := own_grow (ds := qPre bs k) (es := [92, 34]) hown2 (by rw [HN.out]; rfl) (own_block HO.out) hgr2 (HB2.out.alloc HW.out _) (by have := HW.out; simp; omega)
        rw [← SU.out] at g1
        have G1 := Lib.hid g1
        have G2 := Lib.hid g2
        clear hown2 hgr2 hne2 g1 g2
        go_wp2
        go_roundw
        case rel => exact ⟨k + 1, by omega, rfl, G1, G2⟩
        case measure => simp [intOf]; omega
      have n34 : ((c : Int) == 34) = false := by simp; omega
      by_cases h92 : c = 92
      · subst h92
        have SU : Hid (qPre bs (k + 1) = qPre bs k ++ [92, 92]) := Lib.hid (by rw [SUC.out]; congr 1)
        go_wp2_with (at_builtin; refine wpList_append_own _ rfl (.tmp 26) (.tmp 28) 48 rfl w.heap.size 5 i0 (.int .u8 0) 1 1 Tryd.underlying48 hi hz0 hz1 hz2 rfl (by decide) (.slice ao n co) n (cellsOf (qPre bs k)) rfl (HOA.out _) ⟨wr.heap.size, 0, none⟩ 2 2 (cellsOf [92, 92]) rfl rfl (alloc_row _ [92, 92]) (cellsOf_one _) (by unfold maxLen; omega) (by omega) (by have := HW.out; simp; omega) ?_; intro v2 w2 hown2 hgr2 hne2)
        obtain ⟨g1, g2⟩ := own_grow (ds := qPre bs k) (es := [92, 92]) hown2 (by rw [HN.out]; rfl) (own_block HO.out) hgr2 (HB2.out.alloc HW.out _) (by have := HW.out; simp; omega)
        rw [← SU.out] at g1
        have G1 := Lib.hid g1
        have G2 := Lib.hid g2
        clear hown2 hgr2 hne2 g1 g2
        go_wp2
        go_roundw
        case rel => exact ⟨k + 1, by omega, rfl, G1, G2⟩
        case measure => simp [intOf]; omega
      have n92 : ((c : Int) == 92) = false := by simp; omega
      by_cases h10 : c = 10
      · subst h10
        have SU : Hid (qPre bs (k + 1) = qPre bs k ++ [92, 110]) := Lib.hid (by rw [SUC.out]; congr 1)
        go_wp2_with (at_builtin; refine Lib.wpList_append_own_string _ rfl (.tmp 33) (.const (.string { data := #[92, 110] })) 48 9 rfl w.heap.size 5 i0 Tryd.underlying48 Tryd.underlying9 hi hz0 hz1 hz2 (.slice ao n co) n (cellsOf (qPre bs k)) rfl (HO1.out) { data := #[92, 110] } rfl (by unfold maxLen; simp [ByteArray.size]; omega) (by simp [ByteArray.size]; omega) HW.out ?_; intro v2 w2 hown2 hgr2 hne2)
        rw [show Lib.strCells { data := #[92, 110] } = cellsOf [92, 110] from rfl] at hown2
        rw [show n + ByteArray.size { data := #[92, 110] } = n + 2 from rfl] at hown2
        obtain ⟨g1, g2⟩ := own_grow (ds := qPre bs k) (es := [92, 110]) hown2 (by rw [HN.out]; rfl) (own_block HO.out) hgr2 HB2.out HW.out
        rw [← SU.out] at g1
        have G1 := Lib.hid g1
        have G2 := Lib.hid g2
        clear hown2 hgr2 hne2 g1 g2
        go_wp2
        go_roundw
        case rel => exact ⟨k + 1, by omega, rfl, G1, G2⟩
        case measure => simp [intOf]; omega
      have n10 : ((c : Int) == 10) = false := by simp; omega
      by_cases h13 : c = 13
      · subst h13
        have SU : Hid (qPre bs (k + 1) = qPre bs k ++ [92, 114]) := Lib.hid (by rw [SUC.out]; congr 1)
        go_wp2_with (at_builtin; refine Lib.wpList_append_own_string _ rfl (.tmp 38) (.const (.string { data := #[92, 114] })) 48 9 rfl w.heap.size 5 i0 Tryd.underlying48 Tryd.underlying9 hi hz0 hz1 hz2 (.slice ao n co) n (cellsOf (qPre bs k)) rfl (HO1.out) { data := #[92, 114] } rfl (by unfold maxLen; simp [ByteArray.size]; omega) (by simp [ByteArray.size]; omega) HW.out ?_; intro v2 w2 hown2 hgr2 hne2)
        rw [show Lib.strCells { data := #[92, 114] } = cellsOf [92, 114] from rfl] at hown2
        rw [show n + ByteArray.size { data := #[92, 114] } = n + 2 from rfl] at hown2
        obtain ⟨g1, g2⟩ := own_grow (ds := qPre bs k) (es := [92, 114]) hown2 (by rw [HN.out]; rfl) (own_block HO.out) hgr2 HB2.out HW.out
        rw [← SU.out] at g1
        have G1 := Lib.hid g1
        have G2 := Lib.hid g2
        clear hown2 hgr2 hne2 g1 g2
        go_wp2
        go_roundw
        case rel => exact ⟨k + 1, by omega, rfl, G1, G2⟩
        case measure => simp [intOf]; omega
      have n13 : ((c : Int) == 13) = false := by simp; omega
      by_cases h9 : c = 9
      · subst h9
        have SU : Hid (qPre bs (k + 1) = qPre bs k ++ [92, 116]) := Lib.hid (by rw [SUC.out]; congr 1)
        go_wp2_with (at_builtin; refine Lib.wpList_append_own_string _ rfl (.tmp 43) (.const (.string { data := #[92, 116] })) 48 9 rfl w.heap.size 5 i0 Tryd.underlying48 Tryd.underlying9 hi hz0 hz1 hz2 (.slice ao n co) n (cellsOf (qPre bs k)) rfl (HO1.out) { data := #[92, 116] } rfl (by unfold maxLen; simp [ByteArray.size]; omega) (by simp [ByteArray.size]; omega) HW.out ?_; intro v2 w2 hown2 hgr2 hne2)
        rw [show Lib.strCells { data := #[92, 116] } = cellsOf [92, 116] from rfl] at hown2
        rw [show n + ByteArray.size { data := #[92, 116] } = n + 2 from rfl] at hown2
        obtain ⟨g1, g2⟩ := own_grow (ds := qPre bs k) (es := [92, 116]) hown2 (by rw [HN.out]; rfl) (own_block HO.out) hgr2 HB2.out HW.out
        rw [← SU.out] at g1
        have G1 := Lib.hid g1
        have G2 := Lib.hid g2
        clear hown2 hgr2 hne2 g1 g2
        go_wp2
        go_roundw
        case rel => exact ⟨k + 1, by omega, rfl, G1, G2⟩
        case measure => simp [intOf]; omega
      have n9 : ((c : Int) == 9) = false := by simp; omega
      by_cases hlo : c < 32
      · have l1 : decide ((c : Int) < 32) = true := decide_eq_true (by omega)
        have l2 : decide (c < 32) = true := decide_eq_true hlo
        obtain ⟨H1, hH1⟩ : ∃ H, hexd (c / 16) = H := ⟨_, rfl⟩
        obtain ⟨H2, hH2⟩ : ∃ H, hexd (c % 16) = H := ⟨_, rfl⟩
        have x1 := hexS_bt (c / 16) (by omega)
        have x2 := hexS_bt (c % 16) (by omega)
        have y1 : (c : Int) / 16 = ((c / 16 : Nat) : Int) := by omega
        have y2 := and15 c hc256
        have y3 : (c : Int) % 16 = ((c % 16 : Nat) : Int) := by omega
        have y4 : (c : Int).tmod 16 = ((c % 16 : Nat) : Int) := by rw [Int.tmod_eq_emod_of_nonneg (by omega)]; exact y3
        have y5 : (c : Int).tdiv 16 = ((c / 16 : Nat) : Int) := by rw [Int.tdiv_eq_ediv_of_nonneg (by omega)]; exact y1
        rw [hH1] at x1
        rw [hH2] at x2
        have hP : c / 16 < 16 := by omega
        have hR : c % 16 < 16 := by omega
        obtain ⟨P1, hP1⟩ : ∃ P, c / 16 = P := ⟨_, rfl⟩
        obtain ⟨P2, hP2⟩ : ∃ P, c % 16 = P := ⟨_, rfl⟩
        rw [hP1] at x1 y1 y5 hP
        rw [hP2] at x2 y2 y3 y4 hR
        clear hP1 hP2
        have hP' : ((P1 : Nat) : Int) < 16 := by omega
        have hR' : ((P2 : Nat) : Int) < 16 := by omega
        have hPw : IntKind.u8.wrap (P1 : Int) = (P1 : Int) := by rw [IntKind.wrap_u8]; omega
        have hRw : IntKind.u8.wrap (P2 : Int) = (P2 : Int) := by rw [IntKind.wrap_u8]; omega
        have hu8 : IntKind.u8.signed = false := rfl
        have HOD : Hid (∀ o, (wr.drew.alloc o).ownsRow w.heap.size 5 1 (.slice ao n co) n (cellsOf (qPre bs k))) := Lib.hid (fun o => HOA.out o)
        have SU : Hid (qPre bs (k + 1) = qPre bs k ++ [92, 120, H1, H2]) := Lib.hid (by rw [SUC.out, show qB c = [92, 120, H1, H2] from by unfold qB; rw [if_neg (by omega), if_neg (by omega), if_neg (by omega), if_neg (by omega), if_pos (by omega), hH1, hH2]])
        clear hH1 hH2
        go_wp2
        go_region_law (refine step_append_lies _ rfl (.tmp 52) (.tmp 59) 48 rfl w.heap.size 5 i0 (.int .u8 0) 1 1 Tryd.underlying48 hi hz0 hz1 hz2 rfl (by decide) (.slice ao n co) n (cellsOf (qPre bs k)) (by simp [Act.eval, Act.put]) (HOA.out (.cells (cellsOf [92, 120, H1, H2]).toArray 5)) ⟨wr.heap.size, 0, none⟩ 4 4 (cellsOf [92, 120, H1, H2]) (by simp [Act.eval, Act.put]) rfl (alloc_row wr [92, 120, H1, H2]) (cellsOf_one _) (by decide) (by unfold maxLen; omega) (by omega) (by have := HW.out; simp; omega) (wr.heap.size + 1) (by simp) ?_; intro g cap w2 hown2 hgr2 hlie hglt)
        all_goals
          obtain ⟨g1, g2⟩ := own_grow (ds := qPre bs k) (es := [92, 120, H1, H2]) hown2 (by rw [HN.out]; rfl) (own_block HO.out) hgr2 (HB2.out.alloc HW.out _).drew (by have := HW.out; simp; omega)
          rw [← SU.out] at g1
          have G1 := Lib.hid g1
          have G2 := Lib.hid g2
          clear hown2 hgr2 hlie hglt g1 g2
          go_wp2
          go_roundw
          case rel => exact ⟨k + 1, by omega, rfl, G1, G2⟩
          case measure => simp [intOf]; omega
      have l1 : decide ((c : Int) < 32) = false := decide_eq_false (by omega)
      have l2 : decide (c < 32) = false := decide_eq_false hlo
      by_cases hhi : 126 < c
      · have l3 : decide ((c : Int) > 126) = true := decide_eq_true (by omega)
        have l4 : decide ((126 : Int) < (c : Int)) = true := decide_eq_true (by omega)
        have l5 : decide (126 < c) = true := decide_eq_true hhi
        obtain ⟨H1, hH1⟩ : ∃ H, hexd (c / 16) = H := ⟨_, rfl⟩
        obtain ⟨H2, hH2⟩ : ∃ H, hexd (c % 16) = H := ⟨_, rfl⟩
        have x1 := hexS_bt (c / 16) (by omega)
        have x2 := hexS_bt (c % 16) (by omega)
        have y1 : (c : Int) / 16 = ((c / 16 : Nat) : Int) := by omega
        have y2 := and15 c hc256
        have y3 : (c : Int) % 16 = ((c % 16 : Nat) : Int) := by omega
        have y4 : (c : Int).tmod 16 = ((c % 16 : Nat) : Int) := by rw [Int.tmod_eq_emod_of_nonneg (by omega)]; exact y3
        have y5 : (c : Int).tdiv 16 = ((c / 16 : Nat) : Int) := by rw [Int.tdiv_eq_ediv_of_nonneg (by omega)]; exact y1
        rw [hH1] at x1
        rw [hH2] at x2
        have hP : c / 16 < 16 := by omega
        have hR : c % 16 < 16 := by omega
        obtain ⟨P1, hP1⟩ : ∃ P, c / 16 = P := ⟨_, rfl⟩
        obtain ⟨P2, hP2⟩ : ∃ P, c % 16 = P := ⟨_, rfl⟩
        rw [hP1] at x1 y1 y5 hP
        rw [hP2] at x2 y2 y3 y4 hR
        clear hP1 hP2
        have hP' : ((P1 : Nat) : Int) < 16 := by omega
        have hR' : ((P2 : Nat) : Int) < 16 := by omega
        have hPw : IntKind.u8.wrap (P1 : Int) = (P1 : Int) := by rw [IntKind.wrap_u8]; omega
        have hRw : IntKind.u8.wrap (P2 : Int) = (P2 : Int) := by rw [IntKind.wrap_u8]; omega
        have hu8 : IntKind.u8.signed = false := rfl
        have HOD : Hid (∀ o, (wr.drew.alloc o).ownsRow w.heap.size 5 1 (.slice ao n co) n (cellsOf (qPre bs k))) := Lib.hid (fun o => HOA.out o)
        have SU : Hid (qPre bs (k + 1) = qPre bs k ++ [92, 120, H1, H2]) := Lib.hid (by rw [SUC.out, show qB c = [92, 120, H1, H2] from by unfold qB; rw [if_neg (by omega), if_neg (by omega), if_neg (by omega), if_neg (by omega), if_pos (by omega), hH1, hH2]])
        clear hH1 hH2
        go_wp2
        go_region_law (refine step_append_lies _ rfl (.tmp 52) (.tmp 59) 48 rfl w.heap.size 5 i0 (.int .u8 0) 1 1 Tryd.underlying48 hi hz0 hz1 hz2 rfl (by decide) (.slice ao n co) n (cellsOf (qPre bs k)) (by simp [Act.eval, Act.put]) (HOA.out (.cells (cellsOf [92, 120, H1, H2]).toArray 5)) ⟨wr.heap.size, 0, none⟩ 4 4 (cellsOf [92, 120, H1, H2]) (by simp [Act.eval, Act.put]) rfl (alloc_row wr [92, 120, H1, H2]) (cellsOf_one _) (by decide) (by unfold maxLen; omega) (by omega) (by have := HW.out; simp; omega) (wr.heap.size + 1) (by simp) ?_; intro g cap w2 hown2 hgr2 hlie hglt)
        all_goals
          obtain ⟨g1, g2⟩ := own_grow (ds := qPre bs k) (es := [92, 120, H1, H2]) hown2 (by rw [HN.out]; rfl) (own_block HO.out) hgr2 (HB2.out.alloc HW.out _).drew (by have := HW.out; simp; omega)
          rw [← SU.out] at g1
          have G1 := Lib.hid g1
          have G2 := Lib.hid g2
          clear hown2 hgr2 hlie hglt g1 g2
          go_wp2
          go_roundw
          case rel => exact ⟨k + 1, by omega, rfl, G1, G2⟩
          case measure => simp [intOf]; omega
      have l3 : decide ((c : Int) > 126) = false := decide_eq_false (by omega)
      have l4 : decide ((126 : Int) < (c : Int)) = false := decide_eq_false (by omega)
      have l5 : decide (126 < c) = false := decide_eq_false hhi
      have SU : Hid (qPre bs (k + 1) = qPre bs k ++ [c]) := Lib.hid (by rw [SUC.out, show qB c = [c] from by unfold qB; rw [if_neg (by omega), if_neg (by omega), if_neg (by omega), if_neg (by omega), if_neg (by omega)]])
      go_wp2_with (at_builtin; refine wpList_append_own _ rfl (.tmp 15) (.tmp 17) 48 rfl w.heap.size 5 i0 (.int .u8 0) 1 1 Tryd.underlying48 hi hz0 hz1 hz2 rfl (by decide) (.slice ao n co) n (cellsOf (qPre bs k)) rfl (HOA.out _) ⟨wr.heap.size, 0, none⟩ 1 1 (cellsOf [c]) rfl rfl (alloc_row _ [c]) (cellsOf_one _) (by unfold maxLen; omega) (by omega) (by have := HW.out; simp; omega) ?_; intro v2 w2 hown2 hgr2 hne2)
      obtain ⟨g1, g2⟩ := own_grow (ds := qPre bs k) (es := [c]) hown2 (by rw [HN.out]; rfl) (own_block HO.out) hgr2 (HB2.out.alloc HW.out _) (by have := HW.out; simp; omega)
      rw [← SU.out] at g1
      have G1 := Lib.hid g1
      have G2 := Lib.hid g2
      clear hown2 hgr2 hne2 g1 g2
      go_wp2
      go_roundw
      case rel => exact ⟨k + 1, by omega, rfl, G1, G2⟩
      case measure => simp [intOf]; omega
    · obtain rfl : k = L := by omega
      have da : decide ((k : Int) < (k : Int)) = false := decide_eq_false (by omega)
      have da2 : decide (k < k) = false := decide_eq_false hkL
      have HO1 : Hid (wr.ownsRow w.heap.size 5 1 (.slice ao n co) n (cellsOf (qPre bs k))) := Lib.hid (by have h := HO.out; unfold Own at h; rw [HN.out] at h; exact h)
      have HOA : Hid (∀ o, (wr.alloc o).ownsRow w.heap.size 5 1 (.slice ao n co) n (cellsOf (qPre bs k))) := Lib.hid (fun o => by
        have h := HO.out.below ((Below.refl wr.heap.size wr).alloc (Nat.le_refl _) o)
        unfold Own at h
        rw [HN.out] at h
        exact h)
      go_wp2_with (at_builtin; refine wpList_append_own _ rfl (.tmp 62) (.tmp 63) 48 rfl w.heap.size 5 i0 (.int .u8 0) 1 1 Tryd.underlying48 hi hz0 hz1 hz2 rfl (by decide) (.slice ao n co) n (cellsOf (qPre bs k)) rfl (HOA.out _) ⟨wr.heap.size, 0, none⟩ 1 1 (cellsOf [34]) rfl rfl (alloc_row _ [34]) (cellsOf_one _) (by unfold maxLen; omega) (by omega) (by have := HW.out; simp; omega) ?_; intro v2 w2 hown2 hgr2 hne2; have hcv := conv_row hown2 (by rw [HN.out]; rfl) QA.out (quoteL_isB HB.out))
      obtain ⟨g1, g2⟩ := own_grow (ds := qPre bs k) (es := [34]) hown2 (by rw [HN.out]; rfl) (own_block HO.out) hgr2 (HB2.out.alloc HW.out _) (by have := HW.out; simp; omega)
      have G2 := Lib.hid g2
      clear hown2 hgr2 hne2 g1 g2
      go_wp2
      go_ret
      exact ⟨rfl, G2.out⟩
end Go.Proofs.YtphighddlfabbaaDoor
namespace Go.Proofs.YtphighddlfabbaaDoor
set_option linter.unusedVariables false
set_option linter.unusedSimpArgs false
open Go.RowKit Go.PlainAid Go.Shelf
set_option maxRecDepth 100000
theorem known_err : errM 3 ⟨#[97]⟩ ⟨#[120, 46, 42]⟩ = 0 := by kernel_rfl
theorem known_is : isM 3 ⟨#[97]⟩ ⟨#[120, 46, 42]⟩ ⟨#[120, 121, 122]⟩ = true := by kernel_rfl
theorem known_empty : isM 3 ⟨#[97]⟩ ⟨#[120, 46, 42]⟩ ⟨#[]⟩ = false := by kernel_rfl
theorem known_five : errM 5 ⟨#[97]⟩ ⟨#[]⟩ = 90 := errM_kind (by decide)
theorem known_quote : strOf (quoteL [120, 46, 42]) = ⟨#[34, 120, 46, 42, 34]⟩ := by kernel_rfl
set_option maxHeartbeats 4000000 in
theorem empty_any (k : Nat) (n v : ByteArray) (w : World) (hT : TabAt w) : Calls Tryd.prog 7 #[mV k n v] w (Gives w (.bool (isM k n v ⟨#[]⟩))) := by
  have hA := (Below.refl w.heap.size w).alloc (Nat.le_refl _) (.cells #[.int .u8 (k : Int), .string n, .string v] 24)
  have C := Lib.hid (is_any k n v ⟨#[]⟩ (by decide) _ (hT.below hA hT.lt))
  have HA := Lib.hid hA
  obtain ⟨q, hq⟩ : ∃ q, isM k n v ⟨#[]⟩ = q := ⟨_, rfl⟩
  rw [hq] at C ⊢
  unfold mV at *
  clear hT hA hq
  go_enter Tryd.func7, Tryd.ntmps7
  go_wp2_with fail
  go_at_call 6
  refine C.out.mono ?_
  rintro e w1 ⟨rfl, hb⟩
  have HB := Lib.hid (HA.out.trans (hb.mono HA.out.size))
  clear hb
  go_wp2
  go_ret
  exact ⟨rfl, HB.out⟩
structure SinceM (w0 w : World) : Prop where
  b : Below w0.heap.size w0 w
theorem SinceM.drew0 (w : World) : SinceM w w.drew := ⟨⟨rfl, rfl, rfl, Nat.le_refl _, fun _ _ => rfl⟩⟩
theorem keepPr {w2 a b : World} {p q r : Addr} {x y z : Value} (h : (a.cell? p = some x ∧ a.cell? q = some y ∧ a.cell? r = some z) ∧ SinceM w2 a) (k : Below a.heap.size a b) : (b.cell? p = some x ∧ b.cell? q = some y ∧ b.cell? r = some z) ∧ SinceM w2 b :=
  ⟨⟨cell_below h.1.1 k, cell_below h.1.2.1 k, cell_below h.1.2.2 k⟩, ⟨h.2.b.trans (k.mono h.2.b.size)⟩⟩
set_option maxHeartbeats 8000000 in
theorem print_known (w : World) (hT : TabAt w) : Calls Tryd.prog 8 #[mV 3 ⟨#[97]⟩ ⟨#[120, 46, 42]⟩] w (Gives w (.string ⟨#[97, 61, 126, 34, 120, 46, 42, 34]⟩)) := by
  have CK := Lib.hid (fun w => kindof_any 3 ⟨#[97]⟩ ⟨#[120, 46, 42]⟩ w)
  have CC := Lib.hid (fun w hT => check_any 3 ⟨#[97]⟩ ⟨#[120, 46, 42]⟩ w hT)
  have CQ := Lib.hid (fun w => quote_any [120, 46, 42] (by intro c hc; simp at hc; omega) (by decide) w)
  rw [known_err] at CC
  rw [known_quote, show strOf [120, 46, 42] = ⟨#[120, 46, 42]⟩ from rfl] at CQ
  have hb1 := Lib.hid ((Below.refl w.heap.size w).alloc (Nat.le_refl _) (.cells #[.int .u8 ((3 : Nat) : Int), .string ⟨#[97]⟩, .string ⟨#[120, 46, 42]⟩] 24))
  have hbox := heap_alloc_new w (.cells #[.int .u8 ((3 : Nat) : Int), .string ⟨#[97]⟩, .string ⟨#[120, 46, 42]⟩] 24)
  have HG := Lib.hid (show TabAt w ∧ 1 < w.heap.size from ⟨hT, hT.lt⟩)
  unfold mV at *
  simp only [kvV, show decide (1 ≤ 3 ∧ 3 ≤ 4) = true from rfl] at CK
  clear hT
  go_enter Tryd.func8, Tryd.ntmps8
  go_wp2_with fail
  go_at_call 11
  refine (CK.out _).mono ?_
  rintro e w1 ⟨B, rfl, hk, hb⟩
  have hB2 : Below w.heap.size w w1 := hb1.out.trans (hb.mono (by simp))
  have hm : w1.heap[w.heap.size]? = some (.cells #[.int .u8 ((3 : Nat) : Int), .string ⟨#[97]⟩, .string ⟨#[120, 46, 42]⟩] 24 (0, 0)) := (hb.block _ (by simp)).trans hbox
  have hA := (Below.refl w1.heap.size w1).alloc (Nat.le_refl _) (.cells #[.int .u8 3, .string ⟨#[61, 126]⟩, .func (.func 19) #[] #[]] 39)
  have hr := heap_alloc_new w1 (.cells #[.int .u8 3, .string ⟨#[61, 126]⟩, .func (.func 19) #[] #[]] 39)
  have hm2 := (hA.block _ (Array.getElem?_eq_some_iff.1 hm).1).trans hm
  have hB3 := hB2.trans (hA.mono hB2.size)
  have hst := st_any (w1.alloc (.cells #[.int .u8 3, .string ⟨#[61, 126]⟩, .nilFunc] 39)) w1.heap.size 2 19 #[] #[] ((cell_of_row _ _ 2 _ _ _ (heap_alloc_new w1 _)).trans rfl) (frozen_of_row _ _ _ _ _ (heap_alloc_new w1 _))
  have x0 : (w1.alloc (.cells #[.int .u8 3, .string ⟨#[61, 126]⟩, .func (.func 19) #[] #[]] 39)).cell? ⟨w.heap.size, 0, none⟩ = some (.int .u8 ((3 : Nat) : Int)) := (cell_of_row _ _ 0 _ _ _ hm2).trans rfl
  have x1 : (w1.alloc (.cells #[.int .u8 3, .string ⟨#[61, 126]⟩, .func (.func 19) #[] #[]] 39)).cell? ⟨w.heap.size, 1, none⟩ = some (.string ⟨#[97]⟩) := (cell_of_row _ _ 1 _ _ _ hm2).trans rfl
  have x2 : (w1.alloc (.cells #[.int .u8 3, .string ⟨#[61, 126]⟩, .func (.func 19) #[] #[]] 39)).cell? ⟨w.heap.size, 2, none⟩ = some (.string ⟨#[120, 46, 42]⟩) := (cell_of_row _ _ 2 _ _ _ hm2).trans rfl
  have hlt : w1.heap.size < (w1.alloc (.cells #[.int .u8 3, .string ⟨#[61, 126]⟩, .func (.func 19) #[] #[]] 39)).heap.size := by simp
  have C1 := Lib.hid (CC.out _ (HG.out.1.below hB3 HG.out.2))
  have HB3 := Lib.hid hB3
  have HF := Lib.hid (show ∀ w2, Below (w1.alloc (.cells #[.int .u8 3, .string ⟨#[61, 126]⟩, .func (.func 19) #[] #[]] 39)).heap.size (w1.alloc (.cells #[.int .u8 3, .string ⟨#[61, 126]⟩, .func (.func 19) #[] #[]] 39)) w2 → w2.cell? ⟨w.heap.size, 1, none⟩ = some (.string ⟨#[97]⟩) ∧ w2.cell? ⟨w.heap.size, 2, none⟩ = some (.string ⟨#[120, 46, 42]⟩) ∧ w2.cell? ⟨w1.heap.size, 1, none⟩ = some (.string ⟨#[61, 126]⟩) from
    fun w2 hb => ⟨cell_below x1 hb, cell_below x2 hb, cell_below ((cell_of_row _ _ 1 _ _ _ hr).trans rfl) hb⟩)
  clear hb hB2 hm hA hm2 hk CK hbox hr hB3 hlt CC
  go_wp2_with fail
  go_at_call 5
  refine C1.out.mono ?_
  rintro e w2 ⟨rfl, hb⟩
  obtain ⟨y1, y2, y3⟩ := HF.out w2 hb
  have HB4 := Lib.hid (HB3.out.trans (hb.mono HB3.out.size))
  clear hb HF C1 hst x0 x1 x2
  have hf1 : ¬ 9223372036854775807 < (ByteArray.mk #[97]).size + (ByteArray.mk #[61, 126]).size := by decide
  have hf2 : ¬ 9223372036854775807 < (ByteArray.mk #[97] ++ ByteArray.mk #[61, 126]).size + (ByteArray.mk #[34, 120, 46, 42, 34]).size := by decide
  go_wp2_with fail
  go_region_held3 (fun w' => (w'.cell? ⟨w.heap.size, 1, none⟩ = some (.string ⟨#[97]⟩) ∧ w'.cell? ⟨w.heap.size, 2, none⟩ = some (.string ⟨#[120, 46, 42]⟩) ∧ w'.cell? ⟨w1.heap.size, 1, none⟩ = some (.string ⟨#[61, 126]⟩)) ∧ SinceM w2 w') ((first | exact ⟨⟨y1, y2, y3⟩, SinceM.drew0 _⟩ | (refine keepPr ?_ (by assumption); assumption)))
    ((go_at_call 12; refine (CQ.out _).mono ?_; rintro e w' ⟨rfl, hb⟩))
  rename_i hH
  have HB5 := Lib.hid (HB4.out.trans (hH.2.b.mono HB4.out.size))
  clear hH
  go_wp2
  go_ret
  exact ⟨rfl, HB5.out⟩
set_option maxHeartbeats 4000000 in
theorem all_nil (w : World) : Calls Tryd.prog 9 #[.slice none 0 0, .slice none 0 0] w fun e w' => e = .returned (.bool true) ∧ w' = w := by
  go_enter Tryd.func9, Tryd.ntmps9
  go_wp2
  refine wp_loop_rounds 1 ?_
  rw [rounds_succ]
  go_wp2
  go_ret
  exact ⟨rfl, rfl⟩
/-- what stays of the matcher that the law has laid -/
structure KnB (w w' : World) : Prop where
  b : Below w.heap.size w w'
  c0 : w'.cell? ⟨w.heap.size, 0, none⟩ = some (.int .u8 3)
  c1 : w'.cell? ⟨w.heap.size, 1, none⟩ = some (.string ⟨#[97]⟩)
  c2 : w'.cell? ⟨w.heap.size, 2, none⟩ = some (.string ⟨#[120, 46, 42]⟩)
theorem KnB.next {w a b : World} (h : KnB w a) (k : Below a.heap.size a b) : KnB w b := ⟨h.b.trans (k.mono h.b.size), cell_below h.c0 k, cell_below h.c1 k, cell_below h.c2 k⟩
theorem knb0 (w : World) : KnB w (w.alloc (.cells #[.int .u8 3, .string ⟨#[97]⟩, .string ⟨#[120, 46, 42]⟩] 24)) :=
  ⟨(Below.refl _ w).alloc (Nat.le_refl _) _, (cell_of_row _ _ 0 _ _ _ (heap_alloc_new w _)).trans rfl, (cell_of_row _ _ 1 _ _ _ (heap_alloc_new w _)).trans rfl, (cell_of_row _ _ 2 _ _ _ (heap_alloc_new w _)).trans rfl⟩
set_option maxHeartbeats 8000000 in
theorem known_any (w : World) (hT : TabAt w) : Calls Tryd.prog 4 #[] w (Gives w (.bool true)) := by
  have HT := Lib.hid (fun w' (h : KnB w w') => hT.below h.b hT.lt)
  have C1 := Lib.hid (fun w' (h : KnB w w') => is_any 3 ⟨#[97]⟩ ⟨#[120, 46, 42]⟩ ⟨#[120, 121, 122]⟩ (by decide) w' (HT.out w' h))
  have C2 := Lib.hid (fun w' (h : KnB w w') => empty_any 3 ⟨#[97]⟩ ⟨#[120, 46, 42]⟩ w' (HT.out w' h))
  have C3 := Lib.hid (fun w' (h : KnB w w') => print_known w' (HT.out w' h))
  have C4 := Lib.hid (fun w' (h : KnB w w') => check_any 5 ⟨#[97]⟩ ⟨#[]⟩ w' (HT.out w' h))
  have C5 := Lib.hid (fun w' => all_nil w')
  rw [known_is] at C1
  rw [known_empty] at C2
  rw [known_five] at C4
  unfold mV at *
  have K0 := Lib.hid (knb0 w)
  clear hT HT
  go_enter Tryd.func4, Tryd.ntmps4
  go_wp2_with fail
  go_at_call 6
  refine (C1.out _ K0.out).mono ?_
  rintro e w1 ⟨rfl, hb⟩
  have K1 := Lib.hid (K0.out.next hb)
  have d0 := K1.out.c0
  have d1 := K1.out.c1
  have d2 := K1.out.c2
  clear hb
  go_wp2_with fail
  go_at_call 7
  refine (C2.out _ K1.out).mono ?_
  rintro e w2 ⟨rfl, hb⟩
  have K2 := Lib.hid (K1.out.next hb)
  have e0 := K2.out.c0
  have e1 := K2.out.c1
  have e2 := K2.out.c2
  clear hb d0 d1 d2
  go_wp2_with fail
  go_at_call 8
  refine (C3.out _ K2.out).mono ?_
  rintro e w3 ⟨rfl, hb⟩
  have K3 := Lib.hid (K2.out.next hb)
  clear hb e0 e1 e2
  go_wp2_with fail
  go_at_call 5
  refine (C4.out _ K3.out).mono ?_
  rintro e w4 ⟨rfl, hb⟩
  have K4 := Lib.hid (K3.out.next hb)
  clear hb
  go_wp2_with fail
  go_at_call 9
  refine (C5.out _).mono ?_
  rintro e w5 ⟨rfl, rfl⟩
  go_wp2
  go_ret
  exact ⟨rfl, K4.out.b⟩
end Go.Proofs.YtphighddlfabbaaDoor
namespace Go.Proofs.YtphighddlfabbaaDoor
open Go.RowKit
abbrev laid1 : List (String × DataW Unit) := Rows.matchTurnedRow.laid
def great1 : List String := []
noncomputable def startWorld (os : Os) : World := (World.doorLaid Tryd.prog 26 os).layVars Tryd.prog ((laid1.filter fun x => x.2.handleName?.isNone).filter fun x => great1.contains x.1)
theorem startWorld_os (os : Os) : (startWorld os).os = os := World.layVars_os _ _ _
set_option maxRecDepth 100000
noncomputable def apartBlocks (os : Os) : List Nat := (List.range (World.doorLaid Tryd.prog 26 os).heap.size).filter fun b => !(([] : List Nat).contains b)
theorem start_fits (os : Os) : (World.doorLaid Tryd.prog 26 os).layFits Tryd.prog ((laid1.filter fun x => x.2.handleName?.isNone).filter fun x => great1.contains x.1) (apartBlocks os) = true := by kernel_rfl
theorem start_ifaces (os : Os) : (World.doorLaid Tryd.prog 26 os).layIfaces Tryd.prog ((laid1.filter fun x => x.2.handleName?.isNone).filter fun x => great1.contains x.1) (startWorld os) = true := by kernel_rfl
theorem start_others (os : Os) : LaidIn Tryd.prog (startWorld os) ((laid1.filter fun x => x.2.handleName?.isNone).filter fun x => !great1.contains x.1) (apartBlocks os) :=
  LaidIn.of_run (apartBlocks os) 8 (by kernel_rfl) (by kernel_rfl) (by kernel_rfl) (by kernel_rfl)
theorem start_met (os : Os) : laidMetH Tryd.prog laid1 (startWorld os) :=
  laidMetH_of_parts3 (fuel := 8) (laidMet_layVars (w0 := World.doorLaid Tryd.prog 26 os) great1 (apartBlocks os) rfl (start_fits os) (start_ifaces os) (start_others os)) (by kernel_rfl) (by kernel_rfl)
theorem door_met (os : Os) (args : Array Value) : laidMetH Tryd.prog laid1 ((startWorld os).forCall (fun _ _ => 0) ⟨#[], args, []⟩).memory :=
  laidMetH.of_heap (by simp [World.memory, World.forCall, Input.heap]) (start_met os)
#print axioms door_met
end Go.Proofs.YtphighddlfabbaaDoor
namespace Go.Proofs.YtphighddlfabbaaDoor
open Go.RowKit
set_option maxRecDepth 100000
theorem start_shaped (os : Os) (args : Array Value) : ((startWorld os).forCall (fun _ _ => 0) ⟨#[], args, []⟩).Shaped Tryd.prog := World.shaped_of_ZipB (by kernel_rfl) (by kernel_rfl)
end Go.Proofs.YtphighddlfabbaaDoor
namespace Go.Proofs.YtphighddlfabbaaDoor
set_option linter.unusedVariables false
set_option linter.unusedSimpArgs false
open Go.RowKit Go.ChangeShapes Go.WideShapes Go.ChangeAt Go.WideMaps Go.WideElems
theorem one_laid {W : World} (h : laidMetH Tryd.prog laid1 W) (n : String) (d : DataW Unit) (he : laid1.filter (fun x => x.1 == n) = [(n, d)]) (hp : ([(n, d)].all fun x => x.2.handleName?.isNone) = true) : laidMet Tryd.prog [(n, d)] W := by
  have h1 := h.filter (fun x => x.1 == n)
  rw [he, MakeChecks.laidMetH_plain _ _ _ hp] at h1
  exact h1
set_option maxRecDepth 100000 in
theorem laid_tab {W : World} (h : laidMetH Tryd.prog laid1 W) : TabAt W := by
  obtain ⟨ps, ⟨g', t', cs, fuel, p, q, hg', ht', hv, hd, _, _⟩, _⟩ := one_laid h "math/bits.deBruijn64tab" Rows.laid_math_bits_deBruijn64tab (by kernel_rfl) (by kernel_rfl)
  have hg : Tryd.prog.globalNamed "math/bits.deBruijn64tab" = some 1 := by kernel_rfl
  obtain rfl := Option.some.inj (hg.symm.trans hg')
  obtain rfl := Option.some.inj ((show (Tryd.prog.globals[1]?).map (·.type) = some 132 by kernel_rfl).symm.trans ht')
  have e := Lib.cells_of_tab (t := 132) (e := 5) (n := 64) (k := .u8) (zs := Lib.deBruijn64tab.map fun (x : Nat) => (x : Int)) (by kernel_rfl) (by kernel_rfl) (by kernel_rfl) (by kernel_rfl) (show DataW.trod (fun _ => ()) Tryd.prog W 0 (fun _ => true) false fuel 132 cs.toList = some (Lib.tabData .u8 (Lib.deBruijn64tab.map fun (x : Nat) => (x : Int)), p) from hd)
  intro j hj
  rw [World.var?_cell hg hv j, ← Array.getElem?_toList, e]
  simp [List.getElem?_map, List.getD, List.getElem?_eq_getElem hj]
end Go.Proofs.YtphighddlfabbaaDoor
