/-
  PACKED: GrK, GrL, GrM, GrN, GrO, GrP, GrQ, GrR, GrX, GrZ
-/
import Derived.Test.YtdlifcpdlbmijaaGreatDoorK06
import Derived.Test.YtdlifcpdlbmijaaGreatDoorK05
import Derived.Test.YtdlifcpdlbmijaaGreatDoorK02
import Derived.Laws.BytesArg
import Derived.OrdersIn
import Derived.Maps.AppendAt
set_option linter.unusedVariables false
set_option linter.unusedSimpArgs false
namespace Go.Proofs.YtdlifcpdlbmijaaGreatDoor
set_option linter.unusedVariables false
set_option linter.unusedSimpArgs false
open Go.RowKit Go.PlainAid Go.Shelf
open B2 (Only Bys Row cellsOf)
open Gm (St Smp)
def strB (bs : List Nat) : ByteArray := ⟨(bs.map UInt8.ofNat).toArray⟩
theorem strB_back (l : List Nat) (hl : ∀ c ∈ l, c < 256) : (strB l).data.toList.map UInt8.toNat = l := by
  unfold strB
  rw [List.map_map]
  have h : l.map (UInt8.toNat ∘ UInt8.ofNat) = l.map id := List.map_congr_left fun c hc => by
    have := hl c hc
    show (UInt8.ofNat c).toNat = c
    rw [UInt8.toNat_ofNat', Nat.mod_eq_of_lt this]
  rw [h, List.map_id]
theorem strB_inj (bs cs : List Nat) (h1 : ∀ c ∈ bs, c < 256) (h2 : ∀ c ∈ cs, c < 256) (h : strB bs = strB cs) : bs = cs := by
  rw [← strB_back bs h1, ← strB_back cs h2, h]
theorem strB_nums (bs : List Nat) : strOfNums (bs.map fun c : Nat => (c : Int)) = strB bs := by
  apply ByteArray.ext
  apply Array.toList_inj.1
  rw [strOfNums_data, List.map_map]
  rfl
theorem toList_eqb (x y : ByteArray) : (x.toList == y.toList) = decide (x = y) := by
  rw [ByteArray.toList_eq, ByteArray.toList_eq]
  by_cases e : x = y
  · rw [decide_eq_true e, e]; simp
  · rw [decide_eq_false e]
    simp only [beq_eq_false_iff_ne, ne_eq]
    intro h
    exact e (ByteArray.ext (Array.toList_inj.1 h))
theorem conv_bys (w : World) (a : Option Addr) (bs : List Nat) (n cap : Nat) (hn : bs.length = n) (H : Bys w a bs) : (convert 24 9 (.slice a n cap)).run Tryz.prog w = .ok (.string (strB bs)) w := by
  by_cases h0 : bs = []
  · subst h0
    subst hn
    show (convert 24 9 (.slice a 0 cap)).run Tryz.prog w = _
    rw [run_convert_bytes_string w 24 9 5 a 0 cap Tryz.underlying24 Tryz.underlying5 Tryz.underlying9]
    cases a <;> simp [Conv.bytesToString, loadCells, strB]
    all_goals rfl
  · obtain ⟨b, off, rfl, hb, hc⟩ := H.2.2 h0
    rw [← strB_nums]
    exact run_convert_bytes_arg (P := Tryz.prog) w 24 5 Tryz.underlying24 Tryz.underlying5 b off n cap (bs.map fun c : Nat => (c : Int)) (by simpa using hn) (fun i hi => by
      rw [hc i (by omega)]
      simp [List.getD, show i < bs.length by omega]) 9 Tryz.underlying9
theorem equal_any (a a2 : Option Addr) (bs cs : List Nat) (n m cap cap2 : Nat) (hn : bs.length = n) (hm : cs.length = m) (w : World) (H : Bys w a bs) (H2 : Bys w a2 cs) :
    Calls Tryz.prog 110 #[.slice a n cap, .slice a2 m cap2] w fun e w' => e = .returned (.bool (decide (bs = cs))) ∧ w' = w := by
  have c1 := conv_bys w a bs n cap hn H
  have c2 := conv_bys w a2 cs m cap2 hm H2
  have he : ((strB bs).toList == (strB cs).toList) = decide (bs = cs) := by
    rw [toList_eqb]
    exact decide_eq_decide.2 ⟨fun h => strB_inj bs cs H.2.1 H2.2.1 h, fun h => by rw [h]⟩
  obtain ⟨x, hx⟩ : ∃ x, decide (bs = cs) = x := ⟨_, rfl⟩
  obtain ⟨y, hy⟩ : ∃ y, strB bs = y := ⟨_, rfl⟩
  obtain ⟨z, hz⟩ : ∃ z, strB cs = z := ⟨_, rfl⟩
  rw [hx] at he ⊢
  rw [hy] at c1 he
  rw [hz] at c2 he
  clear H H2 hx hn hm hy hz
  go_enter Tryz.func110, Tryz.ntmps110
  go_wp2_with fail
  go_ret
  exact ⟨by first | rfl | rw [← he]; rfl, rfl⟩
set_option maxHeartbeats 8000000 in
set_option maxRecDepth 100000 in
theorem same_any (f t N f2 t2 N2 : Int) (a a2 : Option Addr) (bs cs : List Nat) (n m cap cap2 : Nat) (hn : bs.length = n) (hm : cs.length = m) (w : World) (H : Bys w a bs) (H2 : Bys w a2 cs) :
    Calls Tryz.prog 83 #[.agg (chR f t N (.slice a n cap)), .agg (chR f2 t2 N2 (.slice a2 m cap2))] w fun e w' => e = .returned (.bool (decide (f = f2 ∧ t = t2 ∧ N = N2 ∧ bs = cs))) ∧ Below w.heap.size w w' := by
  have A1 := (Below.refl w.heap.size w).alloc (Nat.le_refl _) (.cells (chR f t N (.slice a n cap)) 26)
  have r1 := heap_alloc_new w (.cells (chR f t N (.slice a n cap)) 26)
  have A2 := A1.alloc (by simp) (.cells (chR f2 t2 N2 (.slice a2 m cap2)) 26)
  have r2 := heap_alloc_new (w.alloc (.cells (chR f t N (.slice a n cap)) 26)) (.cells (chR f2 t2 N2 (.slice a2 m cap2)) 26)
  have s1 : (w.alloc (.cells (chR f t N (.slice a n cap)) 26)).heap.size = w.heap.size + 1 := by simp
  rw [s1] at r2
  have r1 := (Below.heap_alloc (w.alloc (.cells (chR f t N (.slice a n cap)) 26)) (.cells (chR f2 t2 N2 (.slice a2 m cap2)) 26) w.heap.size (by rw [s1]; omega)).trans r1
  have C := Lib.hid (equal_any a a2 bs cs n m cap cap2 hn hm _ (H.below A2) (H2.below A2))
  have HA := Lib.hid A2
  unfold chR at *
  generalize hW : (w.alloc (.cells #[.int .i64 f, .int .i64 t, .int .i64 N, .slice a n cap] 26)).alloc (.cells #[.int .i64 f2, .int .i64 t2, .int .i64 N2, .slice a2 m cap2] 26) = W at *
  have a0 : W.cell? ⟨w.heap.size, 0, none⟩ = some (.int .i64 f) := (cell_of_row _ _ 0 _ _ _ r1).trans rfl
  have a1 : W.cell? ⟨w.heap.size, 1, none⟩ = some (.int .i64 t) := (cell_of_row _ _ 1 _ _ _ r1).trans rfl
  have a2' : W.cell? ⟨w.heap.size, 2, none⟩ = some (.int .i64 N) := (cell_of_row _ _ 2 _ _ _ r1).trans rfl
  have a3 : W.cell? ⟨w.heap.size, 3, none⟩ = some (.slice a n cap) := (cell_of_row _ _ 3 _ _ _ r1).trans rfl
  have b0 : W.cell? ⟨w.heap.size + 1, 0, none⟩ = some (.int .i64 f2) := (cell_of_row _ _ 0 _ _ _ r2).trans rfl
  have b1 : W.cell? ⟨w.heap.size + 1, 1, none⟩ = some (.int .i64 t2) := (cell_of_row _ _ 1 _ _ _ r2).trans rfl
  have b2 : W.cell? ⟨w.heap.size + 1, 2, none⟩ = some (.int .i64 N2) := (cell_of_row _ _ 2 _ _ _ r2).trans rfl
  have b3 : W.cell? ⟨w.heap.size + 1, 3, none⟩ = some (.slice a2 m cap2) := (cell_of_row _ _ 3 _ _ _ r2).trans rfl
  subst hW
  clear A1 A2 r1 r2 s1 H H2 hn hm
  by_cases hf : f = f2
  · subst hf
    by_cases ht : t = t2
    · subst ht
      by_cases hN : N = N2
      · subst hN
        have hd : decide (f = f ∧ t = t ∧ N = N ∧ bs = cs) = decide (bs = cs) := decide_eq_decide.2 ⟨fun h => h.2.2.2, fun h => ⟨rfl, rfl, rfl, h⟩⟩
        rw [hd]
        clear hd
        obtain ⟨q, hq⟩ : ∃ q, decide (bs = cs) = q := ⟨_, rfl⟩
        rw [hq] at C ⊢
        clear hq
        go_enter Tryz.func83, Tryz.ntmps83
        go_wp2_with fail
        go_at_call 110
        refine C.out.mono ?_
        rintro e w1 ⟨rfl, rfl⟩
        go_wp2_with fail
        go_ret
        exact ⟨rfl, HA.out⟩
      · have d0 : (N == N2) = false := by simpa using hN
        rw [decide_eq_false (fun h => hN h.2.2.1)]
        clear C
        go_enter Tryz.func83, Tryz.ntmps83
        go_wp2_with fail
        go_ret
        exact ⟨rfl, HA.out⟩
    · have d0 : (t == t2) = false := by simpa using ht
      rw [decide_eq_false (fun h => ht h.2.1)]
      clear C
      go_enter Tryz.func83, Tryz.ntmps83
      go_wp2_with fail
      go_ret
      exact ⟨rfl, HA.out⟩
  · have d0 : (f == f2) = false := by simpa using hf
    rw [decide_eq_false (fun h => hf h.1)]
    clear C
    go_enter Tryz.func83, Tryz.ntmps83
    go_wp2_with fail
    go_ret
    exact ⟨rfl, HA.out⟩
end Go.Proofs.YtdlifcpdlbmijaaGreatDoor
namespace Go.Proofs.YtdlifcpdlbmijaaGreatDoor
set_option linter.unusedVariables false
set_option linter.unusedSimpArgs false
open Go.RowKit Go.PlainAid Go.Shelf
open B2 (Only Bys Row cellsOf)
open Gm (St Smp)
attribute [local go_sem] Oper.semAt_some
theorem Ap.only {w w' : World} {a p d : Nat} {s : St} (h : Ap w a p d s) {S : List Nat} (ho : Only S w w') (h1 : a ∉ S) (h2 : p ∉ S) (h3 : d ∉ S) : Ap w' a p d s :=
  ⟨(ho.block a h.lt h1).trans h.row, h.wr.only ho h2 h3, h.pa, h.da⟩
/-- n: the heap's size when Check began; q: the box of the appender a; B: the heap's size ahead of the loop -/
structure CkI (w : World) (n q a B : Nat) (C : Array Value) (s : St) (T : List Nat) (W : World) : Prop where
  t : ∀ k ∈ T, B ≤ k ∧ k < W.heap.size
  ap : ∃ p d, Ap W a p d s ∧ n + 2 ≤ p ∧ n + 2 ≤ d ∧ p ∉ T ∧ d ∉ T ∧ p ≠ q ∧ d ≠ q
  la : n + 2 ≤ a ∧ a < q
  tab : TabAt W
  lt : 1 < n ∧ n + 1 < q ∧ q < B ∧ B ≤ W.heap.size
  bC : W.heap[n]? = some (.cells C 26 (0, 0))
  bR : W.heap[n + 1]? = some (.cells #[.int .u16 0] 30 (0, 0))
  bA : W.heap[q]? = some (.cells #[pt a] 87 (0, 0))
  sz : w.heap.size = n
  b : Below n w W
theorem CkI.only {w W W' : World} {n q a B : Nat} {C : Array Value} {s : St} {T : List Nat} (h : CkI w n q a B C s T W) (ho : Only T W W') : CkI w n q a B C s T W' := by
  obtain ⟨p, d, h1, h2, h3, h4, h5, h6, h7⟩ := h.ap
  have ht := h.t
  have hl := h.lt
  have ha := h.la
  have hs := ho.size
  have hn : ∀ x, x < B → x ∉ T := fun x hx hm => by have := ht x hm; omega
  exact ⟨fun k hk => ⟨(ht k hk).1, by have := (ht k hk).2; omega⟩, ⟨p, d, h1.only ho (hn a (by omega)) h4 h5, h2, h3, h4, h5, h6, h7⟩, ha, h.tab.only ho (fun x hx => by have := ht x hx; omega), ⟨hl.1, hl.2.1, hl.2.2.1, by omega⟩,
    (ho.block n (by omega) (hn n (by omega))).trans h.bC, (ho.block (n + 1) (by omega) (hn _ (by omega))).trans h.bR, (ho.block q (by omega) (hn q (by omega))).trans h.bA, h.sz,
    h.b.trans (ho.below (by omega) (fun x hx => by have := ht x hx; omega))⟩
theorem CkI.below {w W W' : World} {n q a B : Nat} {C : Array Value} {s : St} {T : List Nat} (h : CkI w n q a B C s T W) (hb : Below W.heap.size W W') : CkI w n q a B C s T W' := h.only (Only.of_below hb T)
theorem kept_below {T : List Nat} {W W' : World} (ht : ∀ k ∈ T, k < W.heap.size) (hb : Below W.heap.size W W') : Kept T W W' := fun k hk => hb.block k (ht k hk)
theorem Kept.trans {T : List Nat} {A B C : World} (h : Kept T A B) (k : Kept T B C) : Kept T A C := fun x hx => (k x hx).trans (h x hx)
/-- behind a sample that is laid behind -/
theorem CkI.put {w W W' : World} {n q a B p d : Nat} {C : Array Value} {s s' : St} {T : List Nat} (h : CkI w n q a B C s T W) (hp : n + 2 ≤ p ∧ n + 2 ≤ d ∧ p ∉ T ∧ d ∉ T ∧ p ≠ q ∧ d ≠ q) (k : ApPost W a p d s' W') : CkI w n q a B C s' T W' ∧ Kept T W W' := by
  obtain ⟨d', k1, k2, ho⟩ := k
  have ht := h.t
  have hl := h.lt
  have ha := h.la
  have hs := ho.size
  have hat : a ∉ T := fun hm => by have := ht a hm; omega
  have hkt : Kept T W W' := fun x hx => ho.block x (ht x hx).2 (fun hm => by
    simp only [List.mem_cons, List.not_mem_nil, or_false] at hm
    rcases hm with rfl | rfl | rfl
    · exact hat hx
    · exact hp.2.2.1 hx
    · exact hp.2.2.2.1 hx)
  have hnm : ∀ x, x < n + 2 → x ∉ [a, p, d] := fun x hx hm => by simp only [List.mem_cons, List.not_mem_nil, or_false] at hm; omega
  refine ⟨⟨fun x hx => ⟨(ht x hx).1, by have := (ht x hx).2; omega⟩, ⟨p, d', k1, hp.1, ?_, hp.2.2.1, ?_, hp.2.2.2.2.1, ?_⟩, ha, h.tab.only ho (fun x hx => by simp only [List.mem_cons, List.not_mem_nil, or_false] at hx; omega), ⟨hl.1, hl.2.1, hl.2.2.1, by omega⟩,
    (ho.block n (by omega) (hnm n (by omega))).trans h.bC, (ho.block (n + 1) (by omega) (hnm _ (by omega))).trans h.bR, (ho.block q (by omega) (fun hm => by simp only [List.mem_cons, List.not_mem_nil, or_false] at hm; omega)).trans h.bA, h.sz,
    h.b.trans (ho.below (by omega) (fun x hx => by simp only [List.mem_cons, List.not_mem_nil, or_false] at hx; omega))⟩, hkt⟩
  · rcases k2 with rfl | k2
    · exact hp.2.1
    · omega
  · rcases k2 with rfl | k2
    · exact hp.2.2.2.1
    · intro hm; have := ht _ hm; omega
  · rcases k2 with rfl | k2
    · exact hp.2.2.2.2.2
    · omega
/-- a sample is laid behind, or it is told why not -/
theorem ck_append (w W : World) (n q a B : Nat) (C : Array Value) (s : St) (T : List Nat) (x : Smp) (hx : Gm.OkS x) (hI : Gm.Inv s) (hn : s.n ≤ 1000) (hB : s.out.length + 1000 ≤ 1000000000) (H : CkI w n q a B C s T W) :
    Calls Tryz.prog 39 #[pt a, smV x] W fun e w' => e = .returned (.int .u16 ((apErr s x : Nat) : Int)) ∧ CkI w n q a B C (if apErr s x = 0 then Gm.put s x else s) T w' ∧ Kept T W w' := by
  obtain ⟨p, d, h1, h2⟩ := H.ap
  have hl := H.lt
  have hla := H.la
  refine (append_any a p d s x hx hI hn hB W h1 H.tab (by omega)).mono ?_
  rintro e w' ⟨rfl, h4, h5⟩
  refine ⟨rfl, ?_⟩
  by_cases h : apErr s x = 0
  · rw [if_pos h]; exact H.put h2 (h4 h)
  · rw [if_neg h]; exact ⟨H.below (h5 h), kept_below (fun k hk => (H.t k hk).2) (h5 h)⟩
/-- an appender takes them all -/
def takesL : St → List Smp → Bool
  | _, [] => true
  | s, x :: l => decide (apErr s x = 0) && takesL (Gm.put s x) l
theorem takesL_app (s : St) (l m : List Smp) : takesL s (l ++ m) = (takesL s l && takesL (l.foldl Gm.put s) m) := by
  induction l generalizing s with
  | nil => simp [takesL]
  | cons a l ih => simp [takesL, ih, Bool.and_assoc]
end Go.Proofs.YtdlifcpdlbmijaaGreatDoor
namespace Go.Proofs.YtdlifcpdlbmijaaGreatDoor
set_option linter.unusedVariables false
set_option linter.unusedSimpArgs false
open Go.RowKit Go.PlainAid Go.Shelf
open B2 (Only Bys Row cellsOf)
open Gm (St Smp)
attribute [local go_sem] Oper.semAt_some
/-- what Check gives of the samples L that the data says -/
def ckE (f t : Int) (N : Nat) (bs : List Nat) (L : List Smp) : Prop :=
  takesL Gm.st0 L = true ∧ (Gm.run L).frm = f ∧ (Gm.run L).last.t = t ∧ (Gm.run L).n = N ∧ ∃ k, k < 8 ∧ B2.Bt.Packs k bs (Gm.run L).out
theorem rdAll_ok : ∀ (N : Nat) (s : Gm.Rd), RdI s → ∀ x ∈ Gm.rdAll N s, Gm.OkS x
  | 0, s, _, x, h => by simp [Gm.rdAll] at h
  | N + 1, s, hI, x, h => by
    unfold Gm.rdAll at h
    simp only at h
    by_cases hq : (Gm.rdNext s).2.c.2 = true
    · rw [if_pos hq] at h; simp at h
    · rw [if_neg hq] at h
      rcases List.mem_cons.1 h with rfl | h
      · exact ⟨(rdTime_bd s).1, (rdTime_bd s).2, (rdNum_bd s _ hI).1⟩
      · exact rdAll_ok N _ (rdNext_I s hI) x h
theorem takes_len : ∀ (l : List Smp) (s : St), s.n ≤ 120 → takesL s l = true → (l.foldl Gm.put s).n ≤ 120
  | [], s, h, _ => h
  | x :: l, s, h, ht => by
    unfold takesL at ht
    rw [Bool.and_eq_true, decide_eq_true_eq] at ht
    have h1 : s.n ≠ 120 := fun e => by
      have h2 := ht.1
      unfold apErr at h2
      rw [if_pos e] at h2
      split at h2
      · simp at h2
      · split at h2 <;> simp at h2
    have h3 : (Gm.put s x).n = s.n + 1 := rfl
    exact takes_len l (Gm.put s x) (by omega) ht.2
theorem takes_pre {l m : List Smp} (h : l <+: m) (hm : takesL Gm.st0 m = true) : takesL Gm.st0 l = true := by
  obtain ⟨r, rfl⟩ := h
  rw [takesL_app, Bool.and_eq_true] at hm
  exact hm.1
theorem takes_snoc (l : List Smp) (x : Smp) : takesL Gm.st0 (l ++ [x]) = (takesL Gm.st0 l && decide (apErr (Gm.run l) x = 0)) := by
  rw [takesL_app]
  simp only [takesL, Bool.and_true]
  rfl
/-- what holds behind a round that has left -/
def CkX (w : World) (n : Nat) (L : List Smp) (c : Code) (T : List Nat) (pre : List Smp) (W : World) : Prop :=
  c = .ret ∧ takesL Gm.st0 L = false ∧ (∀ k ∈ T, n + 2 ≤ k) ∧ n + 1 < W.heap.size ∧ w.heap.size = n ∧ W.heap[n + 1]? = some (.cells #[.int .u16 101] 30 (0, 0)) ∧ Below n w W
theorem CkX.only {w W W' : World} {n : Nat} {L : List Smp} {c : Code} {T : List Nat} {pre : List Smp} (h : CkX w n L c T pre W) (ho : Only T W W') : CkX w n L c T pre W' := by
  obtain ⟨h1, h2, h3, h4, h5, h6, h7⟩ := h
  exact ⟨h1, h2, h3, by have := ho.size; omega, h5, (ho.block _ h4 (fun hm => by have := h3 _ hm; omega)).trans h6, h7.trans (ho.below (by omega) (fun x hx => by have := h3 x hx; omega))⟩
/-- what holds between two samples -/
def CkL (w : World) (n q B : Nat) (C : Array Value) (L : List Smp) (T : List Nat) (pre : List Smp) (W : World) : Prop :=
  CkI w n q (n + 2 + 1) B C (Gm.run pre) T W ∧ takesL Gm.st0 pre = true
theorem four73 {W : World} {n : Nat} {f t N : Int} {d : Value} (h : W.heap[n]? = some (.cells (chR f t N d) 26 (0, 0))) : W.cell? ⟨n, 0, none⟩ = some (.int .i64 f) ∧ W.cell? ⟨n, 1, none⟩ = some (.int .i64 t) ∧ W.cell? ⟨n, 2, none⟩ = some (.int .i64 N) ∧ W.cell? ⟨n, 3, none⟩ = some d :=
  ⟨(cell_of_row _ _ 0 _ _ _ h).trans rfl, (cell_of_row _ _ 1 _ _ _ h).trans rfl, (cell_of_row _ _ 2 _ _ _ h).trans rfl, (cell_of_row _ _ 3 _ _ _ h).trans rfl⟩
theorem row_on {W2 w3 : World} {n m : Nat} {o : Obj} (h : W2.heap[n]? = some o) (hs : W2.heap.size = m) (hb : Below m W2 w3) (o2 : Obj) : (w3.alloc o2).heap[n]? = some o := by
  have hl := (Array.getElem?_eq_some_iff.1 h).1
  exact (Below.heap_alloc _ _ _ (by have := hb.size; omega)).trans ((hb.block n (by omega)).trans h)
theorem u16_cell {W : World} {b : Nat} {x : Int} (h : W.heap[b]? = some (.cells #[.int .u16 x] 30 (0, 0))) : W.cell? ⟨b, 0, none⟩ = some (.int .u16 x) := (cell_of_row _ _ 0 _ _ _ h).trans rfl
theorem res17 {T : Array Value} {W : World} {b : Nat} {x : Int} (h2 : T[2]?.getD undef = .pointer (some ⟨b, 0, none⟩)) (hc : W.cell? ⟨b, 0, none⟩ = some (.int .u16 x)) :
    (results Tryz.f30 T).run Tryz.prog W = .ok (.int .u16 x) W := by
  have hr : Tryz.f30.results = #[.cell 2 30] := by kernel_rfl
  simp [results, hr, h2, asAddr, loadVar, hc, Sem.run_bind, Result.andThen, go_sem]
theorem ck_def {w W w6 : World} {n q a B D : Nat} {C : Array Value} {s : St} {T : List Nat} (hI : CkI w n q a B C s T W.drew) (hK : W.heap[D]? = some (.deferred (some []))) (hD : q + 2 ≤ D) (hb : Below W.drew.heap.size W.drew w6) (v : Value) :
    (w6.setCell ⟨n + 1, 0, none⟩ v).heap[D]? = some (.deferred (some [])) := by
  have hl := hI.lt
  exact (Below.heap_setCell _ _ _ _ (show ¬ D = n + 1 by omega)).trans ((hb.block D (Array.getElem?_eq_some_iff.1 hK).1).trans hK)
theorem ck_fin {w W w6 : World} {n q a B D : Nat} {C : Array Value} {s : St} {T : List Nat} (hn : w.heap.size = n) (hI : CkI w n q a B C s T W.drew) (hD : q + 2 ≤ D) (hb : Below W.drew.heap.size W.drew w6) (hr : w6.heap[n + 1]? = some (.cells #[.int .u16 0] 30 (0, 0))) (x : Int) :
    ((w6.setCell ⟨n + 1, 0, none⟩ (.int .u16 x)).putObj D (.deferred none)).heap[n + 1]? = some (.cells #[.int .u16 x] 30 (0, 0)) ∧ Below w.heap.size w ((w6.setCell ⟨n + 1, 0, none⟩ (.int .u16 x)).putObj D (.deferred none)) := by
  have hl := hI.lt
  have h1 : Below n w w6 := hI.b.trans (hb.mono (by have : W.drew.heap.size = W.heap.size := rfl; omega))
  refine ⟨(World.putObj_heap_other (by omega)).trans ?_, ?_⟩
  · rw [heap_setCell_same _ _ _ _ _ _ hr]
    rfl
  · rw [hn]
    have h2 := h1.setCell (p := ⟨n + 1, 0, none⟩) (by show n ≤ n + 1; omega) (.int .u16 x)
    exact h2.trans ((Only.put _ D _).below (by have := h2.size; omega) (fun y hy => by simp at hy; omega))
set_option maxRecDepth 100000 in
set_option maxHeartbeats 8000000 in
theorem check_any (f t : Int) (N : Nat) (a : Option Addr) (bs : List Nat) (cap : Nat) (hc0 : a = none → cap = 0) (hbd : bs.length ≤ 1000000) (hN : 1 ≤ N ∧ N ≤ 9223372036854775807) (w : World) (H : Bys w a bs) (hT : TabAt w) (L : List Smp) (hL : Gm.rdAll N (Gm.rd0 (B2.Bt.unpack bs)) = L) :
    Calls Tryz.prog 30 #[.agg (chR f t N (.slice a bs.length cap))] w fun e w' => ((e = .returned (.int .u16 0) ∧ ckE f t N bs L) ∨ (e = .returned (.int .u16 101) ∧ ¬ ckE f t N bs L)) ∧ Below w.heap.size w w' := by
  have d1 : decide ((N : Int) < 1) = false := decide_eq_false (by omega)
  have d2 : ¬ (N : Int) < 1 := by omega
  obtain ⟨n, hn⟩ : ∃ n, w.heap.size = n := ⟨_, rfl⟩
  have A1 := (Below.refl w.heap.size w).alloc (Nat.le_refl _) (.cells (chR f t N (.slice a bs.length cap)) 26)
  have r1 := heap_alloc_new w (.cells (chR f t N (.slice a bs.length cap)) 26)
  have A2 := A1.alloc (by simp) (.cells #[.int .u16 0] 30)
  have r2 := heap_alloc_new (w.alloc (.cells (chR f t N (.slice a bs.length cap)) 26)) (.cells #[.int .u16 0] 30)
  have s1 : (w.alloc (.cells (chR f t N (.slice a bs.length cap)) 26)).heap.size = n + 1 := by simp [hn]
  have s2 : ((w.alloc (.cells (chR f t N (.slice a bs.length cap)) 26)).alloc (.cells #[.int .u16 0] 30)).heap.size = n + 2 := by simp [hn]
  rw [hn] at r1 A2
  rw [s1] at r2
  have r1 := (Below.heap_alloc (w.alloc (.cells (chR f t N (.slice a bs.length cap)) 26)) (.cells #[.int .u16 0] 30) n (by rw [s1]; omega)).trans r1
  have x2 : ((w.alloc (.cells (chR f t N (.slice a bs.length cap)) 26)).alloc (.cells #[.int .u16 0] 30)).cell? ⟨n, 2, none⟩ = some (.int .i64 ((N : Nat) : Int)) := (cell_of_row _ _ 2 _ _ _ r1).trans rfl
  obtain ⟨W2, hW2⟩ : ∃ W2, ((w.alloc (.cells (chR f t N (.slice a bs.length cap)) 26)).alloc (.cells #[.int .u16 0] 30)) = W2 := ⟨_, rfl⟩
  have hW2' := hW2
  unfold chR at hW2'
  rw [hW2] at A2 r1 r2 s2 x2
  have CN := Lib.hid (new_any W2)
  have H2 := Lib.hid (And.intro A2 (And.intro r1 (And.intro r2 (And.intro s2 (And.intro (hT.below (by rw [hn]; exact A2) hT.lt) (And.intro H hT))))))
  have HP := Lib.hid (And.intro hc0 (And.intro hbd (And.intro hN hL)))
  rw [s2] at CN
  clear A1 A2 r1 r2 s1 s2 H hT hc0 hbd hN hL hW2
  unfold pt at CN
  refine (callsIn_wide (n := 8)).1 ?_
  refine callsIn_of_wp_marks Tryz.func30 rfl trivial ?_ rfl
  simp only [Tryz.ntmps30, List.size_toArray, List.length_cons, List.length_nil, Nat.reduceAdd, Nat.reduceSub, Array.replicate_succ, Array.replicate_zero, List.push_toArray, List.append_toArray, List.nil_append, List.cons_append]
  unfold chR
  gi_wp2_with (first
    | (refine ⟨trivial, ?_⟩; gi_at_call 25; refine (callsIn_wide.2 CN.out).mono ?_; rintro e w3 ⟨rfl, hAp, hb3⟩; obtain ⟨y0, y1, y2, y3⟩ := four73 (row_on H2.out.2.1 H2.out.2.2.2.1 hb3 (.cells #[.pointer (some ⟨n + 2 + 1, 0, none⟩)] 87)))
    | (refine ⟨trivial, ?_⟩; gi_at_call 32; refine (readseq_in Fence.wide _ trivial rfl f t N _ _).mono ?_; rintro e w5 ⟨rfl, rfl⟩))
  obtain ⟨q, hq⟩ : ∃ q, w3.heap.size = q := ⟨_, rfl⟩
  have b3 := heap_alloc_new w3 (.cells #[pt (n + 2 + 1)] 87)
  have s4 : (w3.alloc (.cells #[pt (n + 2 + 1)] 87)).heap.size = q + 1 := by simp [hq]
  have b4 := heap_alloc_new (w3.alloc (.cells #[pt (n + 2 + 1)] 87)) (.cells (chR f t N (.slice a bs.length cap)) 26)
  have s5 : ((w3.alloc (.cells #[pt (n + 2 + 1)] 87)).alloc (.cells (chR f t N (.slice a bs.length cap)) 26)).heap.size = q + 2 := by simp [hq]
  have hqn : n + 4 ≤ q := by have := hAp.lt; have := H2.out.2.2.2.1; omega
  have hb4 := (((Below.refl w3.heap.size w3).alloc (Nat.le_refl _) (.cells #[pt (n + 2 + 1)] 87)).alloc (by rw [s4]; omega) (.cells (chR f t N (.slice a bs.length cap)) 26))
  have hbw : Below n w ((w3.alloc (.cells #[pt (n + 2 + 1)] 87)).alloc (.cells (chR f t N (.slice a bs.length cap)) 26)) := (H2.out.1.trans (hb3.mono (by omega))).trans (hb4.mono (by omega))
  have hb24 : Below (n + 2) W2 ((w3.alloc (.cells #[pt (n + 2 + 1)] 87)).alloc (.cells (chR f t N (.slice a bs.length cap)) 26)) := hb3.trans (hb4.mono (by omega))
  rw [hq] at b3
  rw [s4] at b4
  have b3 := (Below.heap_alloc (w3.alloc (.cells #[pt (n + 2 + 1)] 87)) (.cells (chR f t N (.slice a bs.length cap)) 26) q (by rw [s4]; omega)).trans b3
  have hck : CkI w n q (n + 2 + 1) (q + 2) (chR f t N (.slice a bs.length cap)) Gm.st0 [] ((w3.alloc (.cells #[pt (n + 2 + 1)] 87)).alloc (.cells (chR f t N (.slice a bs.length cap)) 26)) :=
    ⟨by simp, ⟨n + 2, n + 2, hAp.below hb4, by omega, by omega, by simp, by simp, by omega, by omega⟩, by omega, H2.out.2.2.2.2.1.below hb24 (by have := H2.out.2.2.2.2.2.2.lt; omega), ⟨by have := H2.out.2.2.2.2.2.2.lt; omega, by omega, by omega, by rw [s5]; exact Nat.le_refl _⟩,
      (hb24.block n (by omega)).trans H2.out.2.1, (hb24.block (n + 1) (by omega)).trans H2.out.2.2.1, b3, hn, hbw⟩
  have hBys : Bys ((w3.alloc (.cells #[pt (n + 2 + 1)] 87)).alloc (.cells (chR f t N (.slice a bs.length cap)) 26)) a bs := H2.out.2.2.2.2.2.1.below (by rw [hn]; exact hbw)
  unfold pt at b3 b4 s5 hck hBys
  obtain ⟨W5, hW5⟩ : ∃ W5, ((w3.alloc (.cells #[.pointer (some ⟨n + 2 + 1, 0, none⟩)] 87)).alloc (.cells (chR f t N (.slice a bs.length cap)) 26)) = W5 := ⟨_, rfl⟩
  rw [hW5] at b4 s5 hck hBys
  unfold pt
  rw [hW5, hq]
  have HSQ := Lib.hid (read_stops 7 (by omega) (q + 1) cap N a f t bs HP.out.1 (by have := HP.out.2.1; omega) HP.out.2.2.1.2 W5 b4 hBys)
  rw [HP.out.2.2.2] at HSQ
  have HCK := Lib.hid hck
  have HS5 := Lib.hid s5
  have HBY := Lib.hid hBys
  have HQN := Lib.hid (And.intro hqn hn)
  have HLO := Lib.hid (show ∀ x ∈ L, Gm.OkS x from by rw [← HP.out.2.2.2]; exact rdAll_ok N _ (rd0_I _))
  clear b3 s4 b4 s5 hqn hb4 hbw hb24 hck hBys hAp hb3 y0 y1 y2 y3 x2 hW2' hW5 CN hq r1
  refine wpIn_rangeFunc_ownT rfl (by omega) (gf := 84) (lb := #[.pointer (some ⟨q + 1, 0, none⟩)]) rfl trivial (enters_of Tryz.func84 (by kernel_rfl) rfl) HSQ.out (Below.refl _ _) (fun _ => rfl)
    (CkL w n q (q + 2) (chR f t N (.slice a bs.length cap)) L) (CkX w n L) (fun T pre A B h ho => ⟨h.1.only ho, h.2⟩) (fun c T pre A B h ho => h.only ho) ?start ?round ?done ?stop
  case start =>
    intro T W hb hT
    have h := HCK.out.below hb
    obtain ⟨p, d, h1, h2, h3, h4, h5, h6, h7⟩ := HCK.out.ap
    have hl := h1.wr.lt
    rw [HS5.out] at hT hl hb
    exact ⟨⟨fun k hk => ⟨(hT k hk).1, (hT k hk).2⟩, ⟨p, d, h1.below (by rw [HS5.out]; exact hb), h2, h3, fun hm => by have := hT _ hm; omega, fun hm => by have := hT _ hm; omega, h6, h7⟩, h.la, h.tab, h.lt, h.bC, h.bR, h.bA, h.sz, h.b⟩, rfl⟩
  case round =>
    intro l T pre x W hI hSp
    have hs0 : 1 ≤ 8 - 1 - 1 := by decide
    have hxo : Gm.OkS x := HLO.out x (by obtain ⟨r, hr⟩ := hSp; rw [← hr]; simp)
    have hpo : ∀ y ∈ pre, Gm.OkS y := fun y hy => HLO.out y (by obtain ⟨r, hr⟩ := hSp; rw [← hr]; simp [hy])
    have hlen : pre.length ≤ 120 := by
      have h := takes_len pre Gm.st0 (by decide) hI.2
      rw [show (pre.foldl Gm.put Gm.st0) = Gm.run pre from rfl, Gm.run_n] at h
      exact h
    have hout : (Gm.run pre).out.length ≤ 160 * pre.length := by
      have h := out_len pre hpo pre.length (Nat.le_refl _)
      rwa [List.take_length] at h
    have HX := Lib.hid (And.intro hI (And.intro hSp (And.intro hxo (And.intro hpo (And.intro hlen hout)))))
    clear hI hSp hxo hpo hlen hout
    unfold smV
    gi_wp2
    refine ⟨kept_below (fun k hk => (HX.out.1.1.t k hk).2) ((Below.refl W.heap.size W).alloc (Nat.le_refl _) _), fun W6 ho => ?_⟩
    have hAl := (Below.refl W.heap.size W).alloc (Nat.le_refl _) (.cells #[.int .i64 x.t, .int .u64 ((x.v : Nat) : Int)] 79)
    have hbx := heap_alloc_new W (.cells #[.int .i64 x.t, .int .u64 ((x.v : Nat) : Int)] 79)
    have hI6 := (HX.out.1.1.below hAl).only ho
    have hbx6 := (ho.block W.heap.size (by simp) (fun hm => by have := (HX.out.1.1.t _ hm).2; omega)).trans hbx
    have k0 : W6.cell? ⟨W.heap.size, 0, none⟩ = some (.int .i64 x.t) := (cell_of_row _ _ 0 _ _ _ hbx6).trans rfl
    have k1 : W6.cell? ⟨W.heap.size, 1, none⟩ = some (.int .u64 ((x.v : Nat) : Int)) := (cell_of_row _ _ 1 _ _ _ hbx6).trans rfl
    have kq : W6.cell? ⟨q, 0, none⟩ = some (.pointer (some ⟨n + 2 + 1, 0, none⟩)) := (cell_of_row _ _ 0 _ _ _ hI6.bA).trans rfl
    have CP := Lib.hid (ck_append w W6 n q (n + 2 + 1) (q + 2) _ (Gm.run pre) T x HX.out.2.2.1 (Gm.inv_run _ HX.out.2.2.2.1) (by rw [Gm.run_n]; have := HX.out.2.2.2.2.1; omega) (by have := HX.out.2.2.2.2; omega) hI6)
    have HI6 := Lib.hid hI6
    clear hAl hbx hI6 hbx6 ho
    unfold smV pt at CP
    by_cases hap : apErr (Gm.run pre) x = 0
    · rw [hap, if_pos rfl] at CP
      gi_wp2_with (refine ⟨trivial, ?_⟩; gi_at_call 39; refine (CallsIn.inRound l (callsIn_wide.2 CP.out)).mono ?_; rintro e w5 ⟨rfl, hC5, hk5⟩)
      exact ⟨hk5, by rw [Gm.run_snoc]; exact hC5, by rw [takes_snoc, HX.out.1.2, decide_eq_true hap]; rfl⟩
    · rw [if_neg hap] at CP
      have hne : (((apErr (Gm.run pre) x : Nat) : Int) != 0) = true := by simp; omega
      have hne2 : ¬ ((apErr (Gm.run pre) x : Nat) : Int) = 0 := by omega
      have HN := Lib.hid (show takesL Gm.st0 L = false from by
        cases h : takesL Gm.st0 L with
        | false => rfl
        | true =>
          have h2 := takes_pre HX.out.2.1 h
          rw [takes_snoc, Bool.and_eq_true, decide_eq_true_eq] at h2
          exact absurd h2.2 hap)
      obtain ⟨E, hE⟩ : ∃ E, apErr (Gm.run pre) x = E := ⟨_, rfl⟩
      rw [hE] at CP hne hne2
      gi_wp2_with (refine ⟨trivial, ?_⟩; gi_at_call 39; refine (CallsIn.inRound l (callsIn_wide.2 CP.out)).mono ?_; rintro e w5 ⟨rfl, hC5, hk5⟩; have fR : w5.frozen? ⟨n + 1, 0, none⟩ = false := frozen_of_row _ _ _ _ _ hC5.bR; have cR : w5.cell? ⟨n + 1, 0, none⟩ = some (.int .u16 0) := (cell_of_row _ _ 0 _ _ _ hC5.bR).trans rfl)
      have hl5 := hC5.lt
      refine ⟨hk5.trans (fun k hk => Below.heap_setCell _ _ _ _ (show ¬ k = n + 1 from by have := (hC5.t k hk).1; omega)), rfl, HN.out, fun k hk => by have := (hC5.t k hk).1; omega, by simp [World.setCell]; omega, hC5.sz, ?_, hC5.b.setCell (p := ⟨n + 1, 0, none⟩) (by show n ≤ n + 1; omega) _⟩
      rw [heap_setCell_same _ _ _ _ _ _ hC5.bR]
      rfl
  case done =>
    rintro D T xs W hD hDT rfl ⟨hI, ht⟩ hK
    have hlen : xs.length ≤ 120 := by
      have h := takes_len xs Gm.st0 (by decide) ht
      rw [show (xs.foldl Gm.put Gm.st0) = Gm.run xs from rfl, Gm.run_n] at h
      exact h
    have hout : (Gm.run xs).out.length ≤ 160 * xs.length := by
      have h := out_len xs HLO.out xs.length (Nat.le_refl _)
      rwa [List.take_length] at h
    have hDW := (Array.getElem?_eq_some_iff.1 hK).1
    have hId := hI.below (drew_below W)
    obtain ⟨p, d, h1, h2⟩ := hId.ap
    have kq : W.drew.cell? ⟨q, 0, none⟩ = some (.pointer (some ⟨n + 2 + 1, 0, none⟩)) := (cell_of_row _ _ 0 _ _ _ hId.bA).trans rfl
    have CC := Lib.hid (chunk_any (n + 2 + 1) p d (Gm.run xs) (by omega) W.drew h1)
    unfold ChPost at CC
    obtain ⟨y0, y1, y2, y3⟩ := four73 hId.bC
    have HI := Lib.hid (And.intro hId (And.intro hK hDW))
    have HT := Lib.hid (And.intro ht (And.intro hlen hout))
    clear hI ht hlen hout hId hDW h1 h2
    unfold pt at CC
    have hm := mixed_yes
    have HBW := Lib.hid (show Bys W.drew a bs from (H2.out.2.2.2.2.2.1.below (by rw [hn]; exact HI.out.1.b)))
    have HCZ := Lib.hid (fun (bs2 : List Nat) (k2 : Nat) (hk2 : k2 < 8) (hP2 : B2.Bt.Packs k2 bs2 (Gm.run xs).out) => (show ((Gm.run xs).frm = f ∧ (Gm.run xs).last.t = t ∧ (((Gm.run xs).n : Nat) : Int) = (N : Int) ∧ bs2 = bs) ↔ ckE f t N bs xs from
      ⟨fun h => ⟨HT.out.1, h.1, h.2.1, by omega, k2, hk2, by rw [← h.2.2.2]; exact hP2⟩, fun h => ⟨h.2.1, h.2.2.1, by have := h.2.2.2.1; omega, by obtain ⟨k, hk, hP⟩ := h.2.2.2.2; exact B2.Bt.packs_unique hP2 hP hk2 hk⟩⟩))
    have HD := Lib.hid (show q + 2 ≤ D from by rw [← HS5.out]; exact hD)
    by_cases hck : ckE f t N bs xs
    · gi_wp2
      refine wpIn_region_any (by kernel_rfl) ?_
      change wpAnyIn _ _ _ _ _ _ _ _ _ (World.drew _)
      refine wpAnyIn_ready (rs := [0, 2]) (by kernel_rfl) (by simp) ?_
      refine AllReadyIn.cons rfl (fun K hK => ?_) ?_
      · go_simp
        refine hK _ _ ?_
        clear hK K
        refine wpAnyIn_ready (rs := [1, 2]) (by kernel_rfl) (by simp) ?_
        refine AllReadyIn.cons rfl (fun K hK => ?_) ?_
        · go_simp
          refine ⟨trivial, ?_⟩
          refine (callsIn_wide.2 CC.out).mono ?_
          rintro e w5 ⟨bs2, k2, a2, cap2, g2, hk2, hP2, rfl, hRow, _, hb5⟩
          obtain ⟨z0, z1, z2, z3⟩ := four73 ((hb5.block n (by have := HI.out.1.lt; have h2 : W.drew.heap.size = W.heap.size := rfl; omega)).trans HI.out.1.bC)
          have CS := Lib.hid (same_any (Gm.run xs).frm (Gm.run xs).last.t ((Gm.run xs).n : Nat) f t N a2 a bs2 bs bs2.length bs.length cap2 cap rfl rfl w5 (B2.Row.bys hRow hP2.1).2 (HBW.out.below hb5))
          rw [decide_eq_true ((HCZ.out bs2 k2 hk2 hP2).2 hck)] at CS
          unfold chR at CS
          have HZ5 := Lib.hid hb5
          clear hk2 hP2 hRow hb5
          refine hK _ _ ?_
          clear hK K
          refine wpAnyIn_ready (rs := [2]) (by kernel_rfl) (by simp) ?_
          refine AllReadyIn.cons rfl (fun K hK => ?_) ?_
          · go_simp
            refine hK _ _ ?_
            clear hK K
            refine wpAnyIn_ready (rs := [3]) (by kernel_rfl) (by simp) ?_
            refine AllReadyIn.cons rfl (fun K hK => ?_) ?_
            · go_simp
              refine ⟨trivial, ?_⟩
              refine (callsIn_wide.2 CS.out).mono ?_
              rintro e w6 ⟨rfl, hb6⟩
              have hB6 := HZ5.out.trans (hb6.mono HZ5.out.size)
              have hr6 := (hB6.block (n + 1) (by have := HI.out.1.lt; have h2 : W.drew.heap.size = W.heap.size := rfl; omega)).trans HI.out.1.bR
              have fR6 : w6.frozen? ⟨n + 1, 0, none⟩ = false := frozen_of_row _ _ _ _ _ hr6
              have cR6 := u16_cell hr6
              have HF6 := Lib.hid (And.intro hB6 hr6)
              clear hb6 CS hB6 hr6
              refine hK _ _ ?_
              clear hK K
              refine wpAnyIn_ready (rs := [4]) (by kernel_rfl) (by simp) ?_
              refine AllReadyIn.cons rfl (fun K hK => ?_) ?_
              · go_simp
                refine hK _ _ ?_
                clear hK K
                refine wpAnyIn_done (by kernel_rfl) ?_ _
                gi_wp2
                refine ⟨by simp, .inl ⟨_, _, rfl, run_takeDeferred (ck_def HI.out.1 HI.out.2.1 HD.out HF6.out.1 _), ?_⟩⟩
                obtain ⟨e1, e2⟩ := ck_fin hn HI.out.1 HD.out HF6.out.1 HF6.out.2 0 (D := D)
                exact ⟨_, res17 rfl (u16_cell e1), .inl ⟨rfl, hck⟩, e2⟩
              exact AllReadyIn.nil
            exact AllReadyIn.nil
          exact AllReadyIn.nil
        refine AllReadyIn.cons rfl (fun K hK => ?_) ?_
        · go_simp
          refine hK _ _ ?_
          clear hK K
          refine wpAnyIn_ready (rs := [1]) (by kernel_rfl) (by simp) ?_
          refine AllReadyIn.cons rfl (fun K hK => ?_) ?_
          · go_simp
            refine ⟨trivial, ?_⟩
            refine (callsIn_wide.2 CC.out).mono ?_
            rintro e w5 ⟨bs2, k2, a2, cap2, g2, hk2, hP2, rfl, hRow, _, hb5⟩
            obtain ⟨z0, z1, z2, z3⟩ := four73 ((hb5.block n (by have := HI.out.1.lt; have h2 : W.drew.heap.size = W.heap.size := rfl; omega)).trans HI.out.1.bC)
            have CS := Lib.hid (same_any (Gm.run xs).frm (Gm.run xs).last.t ((Gm.run xs).n : Nat) f t N a2 a bs2 bs bs2.length bs.length cap2 cap rfl rfl w5 (B2.Row.bys hRow hP2.1).2 (HBW.out.below hb5))
            rw [decide_eq_true ((HCZ.out bs2 k2 hk2 hP2).2 hck)] at CS
            unfold chR at CS
            have HZ5 := Lib.hid hb5
            clear hk2 hP2 hRow hb5
            refine hK _ _ ?_
            clear hK K
            refine wpAnyIn_ready (rs := [3]) (by kernel_rfl) (by simp) ?_
            refine AllReadyIn.cons rfl (fun K hK => ?_) ?_
            · go_simp
              refine ⟨trivial, ?_⟩
              refine (callsIn_wide.2 CS.out).mono ?_
              rintro e w6 ⟨rfl, hb6⟩
              have hB6 := HZ5.out.trans (hb6.mono HZ5.out.size)
              have hr6 := (hB6.block (n + 1) (by have := HI.out.1.lt; have h2 : W.drew.heap.size = W.heap.size := rfl; omega)).trans HI.out.1.bR
              have fR6 : w6.frozen? ⟨n + 1, 0, none⟩ = false := frozen_of_row _ _ _ _ _ hr6
              have cR6 := u16_cell hr6
              have HF6 := Lib.hid (And.intro hB6 hr6)
              clear hb6 CS hB6 hr6
              refine hK _ _ ?_
              clear hK K
              refine wpAnyIn_ready (rs := [4]) (by kernel_rfl) (by simp) ?_
              refine AllReadyIn.cons rfl (fun K hK => ?_) ?_
              · go_simp
                refine hK _ _ ?_
                clear hK K
                refine wpAnyIn_done (by kernel_rfl) ?_ _
                gi_wp2
                refine ⟨by simp, .inl ⟨_, _, rfl, run_takeDeferred (ck_def HI.out.1 HI.out.2.1 HD.out HF6.out.1 _), ?_⟩⟩
                obtain ⟨e1, e2⟩ := ck_fin hn HI.out.1 HD.out HF6.out.1 HF6.out.2 0 (D := D)
                exact ⟨_, res17 rfl (u16_cell e1), .inl ⟨rfl, hck⟩, e2⟩
              exact AllReadyIn.nil
            exact AllReadyIn.nil
          exact AllReadyIn.nil
        exact AllReadyIn.nil
      refine AllReadyIn.cons rfl (fun K hK => ?_) ?_
      · go_simp
        refine hK _ _ ?_
        clear hK K
        refine wpAnyIn_ready (rs := [0]) (by kernel_rfl) (by simp) ?_
        refine AllReadyIn.cons rfl (fun K hK => ?_) ?_
        · go_simp
          refine hK _ _ ?_
          clear hK K
          refine wpAnyIn_ready (rs := [1]) (by kernel_rfl) (by simp) ?_
          refine AllReadyIn.cons rfl (fun K hK => ?_) ?_
          · go_simp
            refine ⟨trivial, ?_⟩
            refine (callsIn_wide.2 CC.out).mono ?_
            rintro e w5 ⟨bs2, k2, a2, cap2, g2, hk2, hP2, rfl, hRow, _, hb5⟩
            obtain ⟨z0, z1, z2, z3⟩ := four73 ((hb5.block n (by have := HI.out.1.lt; have h2 : W.drew.heap.size = W.heap.size := rfl; omega)).trans HI.out.1.bC)
            have CS := Lib.hid (same_any (Gm.run xs).frm (Gm.run xs).last.t ((Gm.run xs).n : Nat) f t N a2 a bs2 bs bs2.length bs.length cap2 cap rfl rfl w5 (B2.Row.bys hRow hP2.1).2 (HBW.out.below hb5))
            rw [decide_eq_true ((HCZ.out bs2 k2 hk2 hP2).2 hck)] at CS
            unfold chR at CS
            have HZ5 := Lib.hid hb5
            clear hk2 hP2 hRow hb5
            refine hK _ _ ?_
            clear hK K
            refine wpAnyIn_ready (rs := [3]) (by kernel_rfl) (by simp) ?_
            refine AllReadyIn.cons rfl (fun K hK => ?_) ?_
            · go_simp
              refine ⟨trivial, ?_⟩
              refine (callsIn_wide.2 CS.out).mono ?_
              rintro e w6 ⟨rfl, hb6⟩
              have hB6 := HZ5.out.trans (hb6.mono HZ5.out.size)
              have hr6 := (hB6.block (n + 1) (by have := HI.out.1.lt; have h2 : W.drew.heap.size = W.heap.size := rfl; omega)).trans HI.out.1.bR
              have fR6 : w6.frozen? ⟨n + 1, 0, none⟩ = false := frozen_of_row _ _ _ _ _ hr6
              have cR6 := u16_cell hr6
              have HF6 := Lib.hid (And.intro hB6 hr6)
              clear hb6 CS hB6 hr6
              refine hK _ _ ?_
              clear hK K
              refine wpAnyIn_ready (rs := [4]) (by kernel_rfl) (by simp) ?_
              refine AllReadyIn.cons rfl (fun K hK => ?_) ?_
              · go_simp
                refine hK _ _ ?_
                clear hK K
                refine wpAnyIn_done (by kernel_rfl) ?_ _
                gi_wp2
                refine ⟨by simp, .inl ⟨_, _, rfl, run_takeDeferred (ck_def HI.out.1 HI.out.2.1 HD.out HF6.out.1 _), ?_⟩⟩
                obtain ⟨e1, e2⟩ := ck_fin hn HI.out.1 HD.out HF6.out.1 HF6.out.2 0 (D := D)
                exact ⟨_, res17 rfl (u16_cell e1), .inl ⟨rfl, hck⟩, e2⟩
              exact AllReadyIn.nil
            exact AllReadyIn.nil
          exact AllReadyIn.nil
        exact AllReadyIn.nil
      exact AllReadyIn.nil
    · gi_wp2
      refine wpIn_region_any (by kernel_rfl) ?_
      change wpAnyIn _ _ _ _ _ _ _ _ _ (World.drew _)
      refine wpAnyIn_ready (rs := [0, 2]) (by kernel_rfl) (by simp) ?_
      refine AllReadyIn.cons rfl (fun K hK => ?_) ?_
      · go_simp
        refine hK _ _ ?_
        clear hK K
        refine wpAnyIn_ready (rs := [1, 2]) (by kernel_rfl) (by simp) ?_
        refine AllReadyIn.cons rfl (fun K hK => ?_) ?_
        · go_simp
          refine ⟨trivial, ?_⟩
          refine (callsIn_wide.2 CC.out).mono ?_
          rintro e w5 ⟨bs2, k2, a2, cap2, g2, hk2, hP2, rfl, hRow, _, hb5⟩
          obtain ⟨z0, z1, z2, z3⟩ := four73 ((hb5.block n (by have := HI.out.1.lt; have h2 : W.drew.heap.size = W.heap.size := rfl; omega)).trans HI.out.1.bC)
          have CS := Lib.hid (same_any (Gm.run xs).frm (Gm.run xs).last.t ((Gm.run xs).n : Nat) f t N a2 a bs2 bs bs2.length bs.length cap2 cap rfl rfl w5 (B2.Row.bys hRow hP2.1).2 (HBW.out.below hb5))
          rw [decide_eq_false (fun hh => hck ((HCZ.out bs2 k2 hk2 hP2).1 hh))] at CS
          unfold chR at CS
          have HZ5 := Lib.hid hb5
          clear hk2 hP2 hRow hb5
          refine hK _ _ ?_
          clear hK K
          refine wpAnyIn_ready (rs := [2]) (by kernel_rfl) (by simp) ?_
          refine AllReadyIn.cons rfl (fun K hK => ?_) ?_
          · go_simp
            refine hK _ _ ?_
            clear hK K
            refine wpAnyIn_ready (rs := [3]) (by kernel_rfl) (by simp) ?_
            refine AllReadyIn.cons rfl (fun K hK => ?_) ?_
            · go_simp
              refine ⟨trivial, ?_⟩
              refine (callsIn_wide.2 CS.out).mono ?_
              rintro e w6 ⟨rfl, hb6⟩
              have hB6 := HZ5.out.trans (hb6.mono HZ5.out.size)
              have hr6 := (hB6.block (n + 1) (by have := HI.out.1.lt; have h2 : W.drew.heap.size = W.heap.size := rfl; omega)).trans HI.out.1.bR
              have fR6 : w6.frozen? ⟨n + 1, 0, none⟩ = false := frozen_of_row _ _ _ _ _ hr6
              have cR6 := u16_cell hr6
              have HF6 := Lib.hid (And.intro hB6 hr6)
              clear hb6 CS hB6 hr6
              refine hK _ _ ?_
              clear hK K
              refine wpAnyIn_ready (rs := [4]) (by kernel_rfl) (by simp) ?_
              refine AllReadyIn.cons rfl (fun K hK => ?_) ?_
              · go_simp
                refine hK _ _ ?_
                clear hK K
                refine wpAnyIn_done (by kernel_rfl) ?_ _
                gi_wp2
                refine ⟨by simp, .inl ⟨_, _, rfl, run_takeDeferred (ck_def HI.out.1 HI.out.2.1 HD.out HF6.out.1 _), ?_⟩⟩
                obtain ⟨e1, e2⟩ := ck_fin hn HI.out.1 HD.out HF6.out.1 HF6.out.2 101 (D := D)
                exact ⟨_, res17 rfl (u16_cell e1), .inr ⟨rfl, hck⟩, e2⟩
              exact AllReadyIn.nil
            exact AllReadyIn.nil
          exact AllReadyIn.nil
        refine AllReadyIn.cons rfl (fun K hK => ?_) ?_
        · go_simp
          refine hK _ _ ?_
          clear hK K
          refine wpAnyIn_ready (rs := [1]) (by kernel_rfl) (by simp) ?_
          refine AllReadyIn.cons rfl (fun K hK => ?_) ?_
          · go_simp
            refine ⟨trivial, ?_⟩
            refine (callsIn_wide.2 CC.out).mono ?_
            rintro e w5 ⟨bs2, k2, a2, cap2, g2, hk2, hP2, rfl, hRow, _, hb5⟩
            obtain ⟨z0, z1, z2, z3⟩ := four73 ((hb5.block n (by have := HI.out.1.lt; have h2 : W.drew.heap.size = W.heap.size := rfl; omega)).trans HI.out.1.bC)
            have CS := Lib.hid (same_any (Gm.run xs).frm (Gm.run xs).last.t ((Gm.run xs).n : Nat) f t N a2 a bs2 bs bs2.length bs.length cap2 cap rfl rfl w5 (B2.Row.bys hRow hP2.1).2 (HBW.out.below hb5))
            rw [decide_eq_false (fun hh => hck ((HCZ.out bs2 k2 hk2 hP2).1 hh))] at CS
            unfold chR at CS
            have HZ5 := Lib.hid hb5
            clear hk2 hP2 hRow hb5
            refine hK _ _ ?_
            clear hK K
            refine wpAnyIn_ready (rs := [3]) (by kernel_rfl) (by simp) ?_
            refine AllReadyIn.cons rfl (fun K hK => ?_) ?_
            · go_simp
              refine ⟨trivial, ?_⟩
              refine (callsIn_wide.2 CS.out).mono ?_
              rintro e w6 ⟨rfl, hb6⟩
              have hB6 := HZ5.out.trans (hb6.mono HZ5.out.size)
              have hr6 := (hB6.block (n + 1) (by have := HI.out.1.lt; have h2 : W.drew.heap.size = W.heap.size := rfl; omega)).trans HI.out.1.bR
              have fR6 : w6.frozen? ⟨n + 1, 0, none⟩ = false := frozen_of_row _ _ _ _ _ hr6
              have cR6 := u16_cell hr6
              have HF6 := Lib.hid (And.intro hB6 hr6)
              clear hb6 CS hB6 hr6
              refine hK _ _ ?_
              clear hK K
              refine wpAnyIn_ready (rs := [4]) (by kernel_rfl) (by simp) ?_
              refine AllReadyIn.cons rfl (fun K hK => ?_) ?_
              · go_simp
                refine hK _ _ ?_
                clear hK K
                refine wpAnyIn_done (by kernel_rfl) ?_ _
                gi_wp2
                refine ⟨by simp, .inl ⟨_, _, rfl, run_takeDeferred (ck_def HI.out.1 HI.out.2.1 HD.out HF6.out.1 _), ?_⟩⟩
                obtain ⟨e1, e2⟩ := ck_fin hn HI.out.1 HD.out HF6.out.1 HF6.out.2 101 (D := D)
                exact ⟨_, res17 rfl (u16_cell e1), .inr ⟨rfl, hck⟩, e2⟩
              exact AllReadyIn.nil
            exact AllReadyIn.nil
          exact AllReadyIn.nil
        exact AllReadyIn.nil
      refine AllReadyIn.cons rfl (fun K hK => ?_) ?_
      · go_simp
        refine hK _ _ ?_
        clear hK K
        refine wpAnyIn_ready (rs := [0]) (by kernel_rfl) (by simp) ?_
        refine AllReadyIn.cons rfl (fun K hK => ?_) ?_
        · go_simp
          refine hK _ _ ?_
          clear hK K
          refine wpAnyIn_ready (rs := [1]) (by kernel_rfl) (by simp) ?_
          refine AllReadyIn.cons rfl (fun K hK => ?_) ?_
          · go_simp
            refine ⟨trivial, ?_⟩
            refine (callsIn_wide.2 CC.out).mono ?_
            rintro e w5 ⟨bs2, k2, a2, cap2, g2, hk2, hP2, rfl, hRow, _, hb5⟩
            obtain ⟨z0, z1, z2, z3⟩ := four73 ((hb5.block n (by have := HI.out.1.lt; have h2 : W.drew.heap.size = W.heap.size := rfl; omega)).trans HI.out.1.bC)
            have CS := Lib.hid (same_any (Gm.run xs).frm (Gm.run xs).last.t ((Gm.run xs).n : Nat) f t N a2 a bs2 bs bs2.length bs.length cap2 cap rfl rfl w5 (B2.Row.bys hRow hP2.1).2 (HBW.out.below hb5))
            rw [decide_eq_false (fun hh => hck ((HCZ.out bs2 k2 hk2 hP2).1 hh))] at CS
            unfold chR at CS
            have HZ5 := Lib.hid hb5
            clear hk2 hP2 hRow hb5
            refine hK _ _ ?_
            clear hK K
            refine wpAnyIn_ready (rs := [3]) (by kernel_rfl) (by simp) ?_
            refine AllReadyIn.cons rfl (fun K hK => ?_) ?_
            · go_simp
              refine ⟨trivial, ?_⟩
              refine (callsIn_wide.2 CS.out).mono ?_
              rintro e w6 ⟨rfl, hb6⟩
              have hB6 := HZ5.out.trans (hb6.mono HZ5.out.size)
              have hr6 := (hB6.block (n + 1) (by have := HI.out.1.lt; have h2 : W.drew.heap.size = W.heap.size := rfl; omega)).trans HI.out.1.bR
              have fR6 : w6.frozen? ⟨n + 1, 0, none⟩ = false := frozen_of_row _ _ _ _ _ hr6
              have cR6 := u16_cell hr6
              have HF6 := Lib.hid (And.intro hB6 hr6)
              clear hb6 CS hB6 hr6
              refine hK _ _ ?_
              clear hK K
              refine wpAnyIn_ready (rs := [4]) (by kernel_rfl) (by simp) ?_
              refine AllReadyIn.cons rfl (fun K hK => ?_) ?_
              · go_simp
                refine hK _ _ ?_
                clear hK K
                refine wpAnyIn_done (by kernel_rfl) ?_ _
                gi_wp2
                refine ⟨by simp, .inl ⟨_, _, rfl, run_takeDeferred (ck_def HI.out.1 HI.out.2.1 HD.out HF6.out.1 _), ?_⟩⟩
                obtain ⟨e1, e2⟩ := ck_fin hn HI.out.1 HD.out HF6.out.1 HF6.out.2 101 (D := D)
                exact ⟨_, res17 rfl (u16_cell e1), .inr ⟨rfl, hck⟩, e2⟩
              exact AllReadyIn.nil
            exact AllReadyIn.nil
          exact AllReadyIn.nil
        exact AllReadyIn.nil
      exact AllReadyIn.nil
  case stop =>
    rintro D c T pre W hD hDT hSp ⟨rfl, hx1, hx2, hx3, hx4, hx5, hx6⟩ hK
    gi_wp2
    refine ⟨by simp, .inl ⟨_, _, rfl, run_takeDeferred hK, ?_⟩⟩
    have hDn := hx2 D hDT
    have hDW := (Array.getElem?_eq_some_iff.1 hK).1
    refine ⟨_, res17 rfl (u16_cell ((World.putObj_heap_other (by omega)).trans hx5)), .inr ⟨rfl, fun h => by rw [h.1] at hx1; cases hx1⟩, ?_⟩
    rw [hn]
    exact hx6.trans ((Only.put W D _).below (by have := hx6.size; omega) (fun x hx => by simp at hx; omega))
end Go.Proofs.YtdlifcpdlbmijaaGreatDoor
namespace Go.Proofs.YtdlifcpdlbmijaaGreatDoor
set_option linter.unusedVariables false
set_option linter.unusedSimpArgs false
open Go.RowKit Go.PlainAid Go.Shelf
open B2 (Only Bys Row cellsOf)
open Gm (St Smp Chk)
/-- samples that one chunk has -/
structure OneC (g : List Smp) : Prop where
  ok : ∀ a ∈ g, Gm.OkS a
  inr : ∀ a ∈ g, -9007199254740992 ≤ a.t ∧ a.t ≤ 9007199254740992
  up : ∀ i (h : i + 1 < g.length), g[i].t < g[i + 1].t
  some : 1 ≤ g.length
  len : g.length ≤ 120
theorem run_last' (l : List Smp) (i : Nat) (hi : i + 1 = l.length) : (Gm.run l).last = l[i] := by
  have h := run_last l i (by omega)
  rwa [List.take_of_length_le (by omega)] at h
theorem takes_one (g : List Smp) (hi : ∀ a ∈ g, -9007199254740992 ≤ a.t ∧ a.t ≤ 9007199254740992) (hu : ∀ i (h : i + 1 < g.length), g[i].t < g[i + 1].t) (hl : g.length ≤ 120) : takesL Gm.st0 g = true := by
  have key : ∀ k, k ≤ g.length → takesL Gm.st0 (g.take k) = true := by
    intro k
    induction k with
    | zero => intro _; rfl
    | succ k ih =>
      intro hk
      have hkl : k < g.length := by omega
      rw [List.take_succ_eq_append_getElem hkl, takes_snoc, ih (by omega), Bool.true_and, decide_eq_true_eq]
      have h1 := hi _ (List.getElem_mem hkl)
      have hn : (Gm.run (g.take k)).n = k := by rw [Gm.run_n, List.length_take]; omega
      unfold apErr
      rw [if_neg (fun h => h h1), if_neg, if_neg (by omega)]
      rintro ⟨h2, h3⟩
      obtain ⟨j, rfl⟩ : ∃ j, k = j + 1 := ⟨k - 1, by omega⟩
      rw [run_last g j (by omega)] at h3
      have h4 := hu j (by omega)
      omega
  have h := key g.length (Nat.le_refl _)
  rwa [List.take_length] at h
theorem one_grp {l : List Smp} (R : Gm.Rising l) (j : Nat) (hj : j < Gm.cnt l.length) : OneC (Gm.grp l j) := by
  have hlen := Gm.grp_len l j
  have hg : ∀ r (h : r < (Gm.grp l j).length) (h2 : 120 * j + r < l.length), (Gm.grp l j)[r] = l[120 * j + r] := fun r h h2 => by
    have h3 := Gm.grp_get l j r (by omega)
    rw [List.getElem?_eq_getElem h, List.getElem?_eq_getElem h2] at h3
    injection h3
  refine ⟨fun a ha => R.ok a (Gm.grp_mem ha), fun a ha => R.inr a (Gm.grp_mem ha), fun i h => ?_, by unfold Gm.cnt at hj; omega, by omega⟩
  rw [hg i (by omega) (by omega), hg (i + 1) h (by omega)]
  exact R.up (120 * j + i) (by omega)
theorem one_out {g : List Smp} (G : OneC g) : (Gm.run g).out.length ≤ 19200 := by
  have h := out_len g G.ok g.length (Nat.le_refl _)
  rw [List.take_length] at h
  have := G.len
  omega
theorem one_bs {g : List Smp} {c : Chk} (G : OneC g) (C : Gm.IsChk g c) : c.bs.length ≤ 1000000 := by
  obtain ⟨_, _, _, k, hk, hP⟩ := C
  have h1 := hP.length
  have h2 := one_out G
  omega
theorem one_ne {g : List Smp} {c : Chk} (G : OneC g) (C : Gm.IsChk g c) : c.bs ≠ [] := by
  obtain ⟨_, _, c3, k, hk, hP⟩ := C
  intro e
  have h1 := hP.length
  rw [e] at h1
  have h0 : (Gm.run g).out = [] := List.eq_nil_of_length_eq_zero (by simp at h1; omega)
  have h2 := Gm.rdAll_run g G.ok []
  rw [h0] at h2
  have h3 := G.some
  cases g with
  | nil => simp at h3
  | cons x l =>
    have h4 : (Gm.rdNext (Gm.rd0 ([] ++ []))).2.c.2 = true := by rfl
    rw [List.length_cons] at h2
    unfold Gm.rdAll at h2
    simp only at h2
    rw [if_pos h4] at h2
    cases h2
/-- what its data says -/
theorem one_says {g : List Smp} {c : Chk} (G : OneC g) (C : Gm.IsChk g c) : c.n = g.length ∧ Gm.rdAll c.n (Gm.rd0 (B2.Bt.unpack c.bs)) = g ∧ ckE c.frm c.to c.n c.bs g := by
  obtain ⟨c1, c2, c3, k, hk, hP⟩ := C
  have hn : c.n = g.length := by rw [c3, Gm.run_n]
  refine ⟨hn, ?_, takes_one g G.inr G.up G.len, c1.symm, c2.symm, c3.symm, k, hk, hP⟩
  rw [hn, hP.2]
  exact Gm.rdAll_run g G.ok _
theorem check_good (g : List Smp) (c : Chk) (G : OneC g) (C : Gm.IsChk g c) (a : Option Addr) (cap : Nat) (w : World) (H : Bys w a c.bs) (hT : TabAt w) :
    Calls Tryz.prog 30 #[.agg (chR c.frm c.to c.n (.slice a c.bs.length cap))] w fun e w' => e = .returned (.int .u16 0) ∧ Below w.heap.size w w' := by
  obtain ⟨h1, h2, h3⟩ := one_says G C
  have hs := G.some
  have hl := G.len
  have hne := one_ne G C
  have ha : a ≠ none := by
    obtain ⟨b, off, e, _⟩ := H.2.2 hne
    rw [e]
    simp
  refine (check_any c.frm c.to c.n a c.bs cap (fun h => absurd h ha) (one_bs G C) ⟨by omega, by omega⟩ w H hT g h2).mono ?_
  rintro e w' ⟨(⟨rfl, _⟩ | ⟨_, hn⟩), hb⟩
  · exact ⟨rfl, hb⟩
  · exact absurd h3 hn
end Go.Proofs.YtdlifcpdlbmijaaGreatDoor
namespace Go.Proofs.YtdlifcpdlbmijaaGreatDoor
set_option linter.unusedVariables false
set_option linter.unusedSimpArgs false
open Go.RowKit Go.PlainAid Go.Shelf
open B2 (Only Bys Row cellsOf)
open Gm (St Smp Chk)
/-- chunks of parts -/
def Goods (cs : List Chk) : Prop := ∀ c ∈ cs, ∃ g, OneC g ∧ Gm.IsChk g c
set_option maxRecDepth 100000 in
theorem dec78_good (g : List Smp) (c : Chk) (G : OneC g) (C : Gm.IsChk g c) (a : Option Addr) (cap : Nat) (w : World) (H : Bys w a c.bs) (hT : TabAt w) :
    Calls Tryz.prog 29 #[.agg (chR c.frm c.to c.n (.slice a c.bs.length cap))] w fun e w' => e = .returned (.bool false) ∧ Below w.heap.size w w' := by
  have A1 := (Below.refl w.heap.size w).alloc (Nat.le_refl _) (.cells (chR c.frm c.to c.n (.slice a c.bs.length cap)) 26)
  have r1 := heap_alloc_new w (.cells (chR c.frm c.to c.n (.slice a c.bs.length cap)) 26)
  obtain ⟨y0, y1, y2, y3⟩ := four73 r1
  have CC := Lib.hid (check_good g c G C a cap _ (H.below A1) (hT.below A1 hT.lt))
  have HA := Lib.hid A1
  clear A1 r1 H hT
  unfold chR at *
  go_enter Tryz.func29, Tryz.ntmps29
  go_wp2_with fail
  go_at_call 30
  refine CC.out.mono ?_
  rintro e w1 ⟨rfl, hb⟩
  have HB := Lib.hid (HA.out.trans (hb.mono HA.out.size))
  clear hb CC
  go_wp2_with fail
  go_ret
  exact ⟨rfl, HB.out⟩
set_option maxRecDepth 100000 in
set_option maxHeartbeats 2000000 in
theorem index_good (a : Option Addr) (n c : Nat) (cs : List Chk) (hn : cs.length = n) (hz : n ≤ 1000000000) (hG : Goods cs) (w : World) (H : Chs w a cs) (hT : TabAt w) :
    Calls Tryz.prog 82 #[.slice a n c, .func (.func 29) #[] #[]] w fun e w' => e = .returned (.int .i64 (-1)) ∧ Below w.heap.size w w' := by
  have HL := Lib.hid (And.intro H (And.intro hn (And.intro hG hT)))
  clear H hn hG hT
  go_enter Tryz.func82, Tryz.ntmps82
  go_wp2_with fail
  go_loopw [5, 8] (fun j i wr => ∃ k : Nat, k ≤ n ∧ i = .int .i64 k ∧ Hid (Below w.heap.size w wr)) (fun _ i _ => n - (intOf i).toNat)
  case atStart => exact ⟨0, Nat.zero_le _, rfl, Lib.hid (Below.refl _ _)⟩
  case round =>
    obtain ⟨k, hk, rfl, HB⟩ := hrel
    by_cases hkn : k < n
    · have da : decide ((k : Int) < (n : Int)) = true := decide_eq_true (by omega)
      have da2 : decide (k < n) = true := decide_eq_true hkn
      have hkl : k < cs.length := by rw [HL.out.2.1]; exact hkn
      obtain ⟨b1, o1, rfl, hl1, hc1⟩ := (HL.out.1.below HB.out) (by intro e; rw [e] at hkl; simp at hkl)
      obtain ⟨p1, p2, p3, ad, cap, p4, hB⟩ := hc1 k hkl
      obtain ⟨g, hg1, hg2⟩ := HL.out.2.2.1 _ (List.getElem_mem hkl)
      generalize cs[k] = x at *
      have CO := Lib.hid (dec78_good g x hg1 hg2 ad cap wr hB (HL.out.2.2.2.below HB.out HL.out.2.2.2.lt))
      unfold chR at CO
      clear hc1 hB hg1 hg2
      go_wp2_with fail
      go_at_call 29
      refine CO.out.mono ?_
      rintro e w1 ⟨rfl, hb⟩
      have HB2 := Lib.hid (HB.out.trans (hb.mono HB.out.size))
      clear hb CO
      go_wp2_with fail
      go_roundw
      case rel => exact ⟨k + 1, by omega, by go_num, HB2⟩
      case measure => simp [intOf]; omega
    · obtain rfl : k = n := by omega
      have da : decide ((k : Int) < (k : Int)) = false := by simp
      have da2 : decide (k < k) = false := by simp
      go_wp2_with fail
      go_ret
      exact ⟨rfl, HB.out⟩
set_option maxRecDepth 100000 in
theorem contains_good (a : Option Addr) (n c : Nat) (cs : List Chk) (hn : cs.length = n) (hz : n ≤ 1000000000) (hG : Goods cs) (w : World) (H : Chs w a cs) (hT : TabAt w) :
    Calls Tryz.prog 28 #[.slice a n c, .func (.func 29) #[] #[]] w fun e w' => e = .returned (.bool false) ∧ Below w.heap.size w w' := by
  have C := Lib.hid (index_good a n c cs hn hz hG w H hT)
  clear hn hz hG H hT
  go_enter Tryz.func28, Tryz.ntmps28
  go_wp2_with (go_at_call 82; refine C.out.mono ?_; rintro e w1 ⟨rfl, hb⟩; have HB := Lib.hid hb; clear hb)
  go_ret
  exact ⟨rfl, HB.out⟩
end Go.Proofs.YtdlifcpdlbmijaaGreatDoor
namespace Go.Proofs.YtdlifcpdlbmijaaGreatDoor
set_option linter.unusedVariables false
set_option linter.unusedSimpArgs false
open Go.RowKit Go.PlainAid Go.Shelf
open B2 (Only Bys Row cellsOf owns_only)
open Gm (St Smp Chk)
attribute [local go_sem] Oper.semAt_some
/-- an append of one's own, and where its row lies -/
theorem wpListIn_append_at {F : Fence} {n : Nat} {P : Program} (w : World) {ops : Array Oper} {rest : List Oper} {o : Oper} {a : Act} {Q : Exit → Act → World → Prop}
    (hg : o.guard = none) (s x : Operand) (t : TypeId) (hop : o.op = Op.call { callee := Callee.builtin Builtin.append, args := #[s, x], argTypes := #[t, t] })
    (base : Nat) (e : TypeId) (i : TypeInfo) (z : Value) (size bytes : Nat) (h1 : P.underlying t = some (.slice e)) (h2 : P.info? e = some i) (h3 : i.zero = some z) (h4 : i.size = size) (h5 : i.bytes = bytes) (h6 : z.cells.size = size) (h7 : 0 < size)
    (v : Value) (k : Nat) (xs : List Value) (hs : a.eval s = v) (hown : w.ownsRow base e size v k xs) (ad : Addr) (m c : Nat) (news : List Value) (hx : a.eval x = .slice (some ad) m c) (hn : news.length = m * size)
    (hc : ∀ j u, news[j]? = some u → w.cell? (ad.add j) = some u) (h1c : ∀ u ∈ news, u.oneCell' = true) (b1 : k + m ≤ maxLen) (b2 : (k + m) * bytes ≤ 140737488355328) (b3 : base ≤ w.heap.size)
    (hK : ∀ v' w', w'.ownsRow base e size v' (k + m) (xs ++ news) → w.grownBy w' v.ownBlock → (v'.ownBlock = v.ownBlock ∨ v'.ownBlock = some w.heap.size) → wpListIn F n P ops Q rest (a.put o.dst v') w') :
    wpListIn F n P ops Q (o :: rest) a w := by
  refine wpListIn_plain hg fun K hK' => ?_
  obtain ⟨v', w', hrun, r1, r2, _, r3⟩ := run_append_own_at (P := P) w base t o.type e i z size bytes h1 h2 h3 h4 h5 h6 h7 v k xs hown ad m c news hn hc h1c b1 b2 b3
  unfold Oper.wpIn
  refine ⟨?_, ?_⟩
  · simp [Oper.about, hop, resolve, Target.leads, Sem.run_pure]
  · rw [Oper.semAt_plain F _ _ (by rw [hop]; intro c hc'; cases hc')]
    simp [execOp, hop, resolve, invoke, builtin, hs, hx, hrun, Result.andThen]
    exact hK' _ _ (hK v' w' r1 r2 r3)
/-- what holds between two samples: l0 were there, pre have come; N: the box of the slice -/
structure ApI (w : World) (base N B : Nat) (l0 : List Smp) (T : List Nat) (pre : List Smp) (W : World) : Prop where
  t : ∀ k ∈ T, B ≤ k ∧ k < W.heap.size
  v : ∃ v, Boxed W N 22 v ∧ OwnS W base v (l0 ++ pre) ∧ ∀ g, v.ownBlock = some g → g ∉ T
  lt : base ≤ N ∧ N < B ∧ B ≤ W.heap.size ∧ base ≤ w.heap.size
  b : Below base w W
theorem ApI.only {w W W' : World} {base N B : Nat} {l0 : List Smp} {T : List Nat} {pre : List Smp} (h : ApI w base N B l0 T pre W) (ho : Only T W W') : ApI w base N B l0 T pre W' := by
  obtain ⟨v, h1, h2, h3⟩ := h.v
  have ht := h.t
  have hl := h.lt
  have hs := ho.size
  exact ⟨fun k hk => ⟨(ht k hk).1, by have := (ht k hk).2; omega⟩, ⟨v, (ho.block N (by omega) (fun hm => by have := ht N hm; omega)).trans h1, owns_only h2 ho (fun g hg => h3 g hg), h3⟩, ⟨hl.1, hl.2.1, by omega, hl.2.2.2⟩,
    h.b.trans (ho.below (by omega) (fun x hx => by have := ht x hx; omega))⟩
theorem ApI.below {w W W' : World} {base N B : Nat} {l0 : List Smp} {T : List Nat} {pre : List Smp} (h : ApI w base N B l0 T pre W) (hb : Below W.heap.size W W') : ApI w base N B l0 T pre W' := h.only (Only.of_below hb T)
/-- a sample is laid behind -/
theorem ApI.step {w W w1 : World} {base N B : Nat} {l0 : List Smp} {T : List Nat} {pre : List Smp} {v v' : Value} {tmp : Obj} {x : Smp} (h : ApI w base N B l0 T pre W) (hv : Boxed W N 22 v) (ho : OwnS W base v (l0 ++ pre)) (hT : ∀ g, v.ownBlock = some g → g ∉ T)
    (hown : w1.ownsRow base 79 2 v' ((l0 ++ pre).length + 1) (smC (l0 ++ pre) ++ [.int .i64 x.t, .int .u64 ((x.v : Nat) : Int)])) (hgr : (W.alloc tmp).grownBy w1 v.ownBlock) (hpl : v'.ownBlock = v.ownBlock ∨ v'.ownBlock = some (W.alloc tmp).heap.size) :
    ApI w base N B l0 T (pre ++ [x]) (w1.setCell ⟨N, 0, none⟩ v') ∧ Kept T W (w1.setCell ⟨N, 0, none⟩ v') := by
  have ht := h.t
  have hl := h.lt
  obtain ⟨a1, a2, a3, a4, a5⟩ := Boxed.appended (tmp := tmp) hv (by decide : (22 : TypeId) ≠ 79) ho (by omega) (by omega) hown hgr
  have hs := a5.size
  have hsz : (W.alloc tmp).heap.size = W.heap.size + 1 := by simp
  have hgs := hgr.size
  have hss : (w1.setCell ⟨N, 0, none⟩ v').heap.size = w1.heap.size := by simp [World.setCell]
  refine ⟨⟨fun k hk => ⟨(ht k hk).1, by have := (ht k hk).2; omega⟩, ⟨v', a2, ?_, ?_⟩, ⟨hl.1, hl.2.1, by omega, hl.2.2.2⟩, h.b.trans a5⟩, ?_⟩
  · unfold OwnS
    rw [← List.append_assoc, smC_snoc, List.length_append]
    exact a3
  · intro g hg hm
    rcases hpl with e | e
    · exact hT g (e ▸ hg) hm
    · rw [e] at hg
      injection hg with hg
      have := (ht g hm).2
      omega
  · intro k hk
    have h1 := ht k hk
    rw [Below.heap_setCell _ _ _ _ (show ¬ k = N by omega), hgr.block k (by omega) (fun e => hT k e.symm hk)]
    exact Below.heap_alloc _ _ _ h1.2
end Go.Proofs.YtdlifcpdlbmijaaGreatDoor
namespace Go.Proofs.YtdlifcpdlbmijaaGreatDoor
set_option linter.unusedVariables false
set_option linter.unusedSimpArgs false
open Go.RowKit Go.PlainAid Go.Shelf
open B2 (Only Bys Row cellsOf owns_only)
open Gm (St Smp Chk)
attribute [local go_sem] Oper.semAt_some
set_option maxRecDepth 100000 in
set_option maxHeartbeats 8000000 in
theorem appendseq_any (f t : Int) (N : Nat) (a : Option Addr) (bs : List Nat) (cap b base : Nat) (hc0 : a = none → cap = 0) (hbd : bs.length ≤ 1000000) (hN : N ≤ 100000) (l0 L : List Smp) (hl0 : l0.length ≤ 100000000) (hLl : L.length ≤ 100000) (w : World) (hb : w.heap[b]? = some (.cells (chR f t N (.slice a bs.length cap)) 26 (0, 0))) (H : Bys w a bs)
    (hL : Gm.rdAll N (Gm.rd0 (B2.Bt.unpack bs)) = L) (v : Value) (hv : OwnS w base v l0) (hbase : base ≤ w.heap.size) :
    Calls Tryz.prog 31 #[v, .func (.func 84) #[] #[pt b]] w fun e w' => ∃ v', e = .returned v' ∧ OwnS w' base v' (l0 ++ L) ∧ Below base w w' := by
  obtain ⟨n, hn⟩ : ∃ n, w.heap.size = n := ⟨_, rfl⟩
  have hA := (Below.refl w.heap.size w).alloc (Nat.le_refl _) (.cells #[v] 22)
  have hr := heap_alloc_new w (.cells #[v] 22)
  have hs : (w.alloc (.cells #[v] 22)).heap.size = n + 1 := by simp [hn]
  have hbx : (w.alloc (.cells #[v] 22)).heap[b]? = some (.cells (chR f t N (.slice a bs.length cap)) 26 (0, 0)) := (hA.block b (Array.getElem?_eq_some_iff.1 hb).1).trans hb
  have hvA : OwnS (w.alloc (.cells #[v] 22)) base v l0 := hv.below hA
  have hbl : base ≤ n := by omega
  have HSQ := Lib.hid (read_stops 7 (by omega) b cap N a f t bs hc0 (by omega) (Nat.le_trans hN (by decide)) _ hbx (H.below hA))
  rw [hL] at HSQ
  rw [hn] at hr
  have HQ := Lib.hid (And.intro hr (And.intro hs (And.intro hvA (And.intro hbl (And.intro hA hn)))))
  have HLL := Lib.hid (And.intro hl0 hLl)
  have HVO := Lib.hid (show ∀ g, v.ownBlock = some g → g < n from fun g hg => by
    rcases hv.2 with ⟨rfl, _⟩ | ⟨g2, c2, cur, rfl, _, hh, _⟩
    · cases hg
    · injection hg with hg
      have hg : g2 = g := hg
      subst hg
      rw [← hn]
      exact (Array.getElem?_eq_some_iff.1 hh).1)
  obtain ⟨av, cv, rfl, _⟩ := hv.shape
  clear hr hs hvA hbl hA hbx hb H hL hv hbase hl0 hLl hc0 hbd hN
  refine (callsIn_wide (n := 8)).1 ?_
  refine callsIn_of_wp_marks Tryz.func31 rfl trivial ?_ rfl
  simp only [Tryz.ntmps31, List.size_toArray, List.length_cons, List.length_nil, Nat.reduceAdd, Nat.reduceSub, Array.replicate_succ, Array.replicate_zero, List.push_toArray, List.append_toArray, List.nil_append, List.cons_append]
  unfold pt at *
  gi_wp2
  obtain ⟨W2, hW2⟩ : ∃ W2, w.alloc (.cells #[.slice av l0.length cv] 22) = W2 := ⟨_, rfl⟩
  rw [hW2] at HSQ HQ ⊢
  clear hW2
  refine wpIn_rangeFunc_ownT rfl (by omega) (gf := 84) (lb := #[.pointer (some ⟨b, 0, none⟩)]) rfl trivial (enters_of Tryz.func84 (by kernel_rfl) rfl) HSQ.out (Below.refl _ _) (fun _ => rfl)
    (ApI w base n (n + 1) l0) (fun _ _ _ _ => False) (fun T pre A B h ho => h.only ho) (fun c T pre A B h ho => h) ?start ?round ?done ?stop
  case start =>
    intro T W hb hT
    have hb' := hb
    rw [HQ.out.2.1] at hT hb
    have h1 := HQ.out.2.2.2.2.1
    have hs2 := hb.size
    exact ⟨fun k hk => hT k hk, ⟨_, (hb.block n (by omega)).trans HQ.out.1, by rw [List.append_nil]; exact HQ.out.2.2.1.below hb', fun g hg hm => by have := HVO.out g hg; have := (hT g hm).1; omega⟩, ⟨HQ.out.2.2.2.1, by omega, by have := HQ.out.2.1; omega, by have := HQ.out.2.2.2; omega⟩,
      (h1.mono (by have := HQ.out.2.2.2; omega)).trans (hb'.mono (by have := HQ.out.2.1; have := HQ.out.2.2.2.1; omega))⟩
  case round =>
    intro l T pre x W hI hSp
    have hs0 : 1 ≤ 8 - 1 - 1 := by decide
    have hpl : pre.length ≤ 100000 := by have := hSp.length_le; simp at this; have := HLL.out.2; omega
    have HX := Lib.hid (And.intro hI hpl)
    clear hI hpl hSp
    unfold smV
    gi_wp2
    refine ⟨kept_below (fun k hk => (HX.out.1.t k hk).2) ((Below.refl W.heap.size W).alloc (Nat.le_refl _) _), fun W6 ho => ?_⟩
    have hAl := (Below.refl W.heap.size W).alloc (Nat.le_refl _) (.cells #[.int .i64 x.t, .int .u64 ((x.v : Nat) : Int)] 79)
    have hbx := heap_alloc_new W (.cells #[.int .i64 x.t, .int .u64 ((x.v : Nat) : Int)] 79)
    have hI6 := (HX.out.1.below hAl).only ho
    have hbx6 := (ho.block W.heap.size (by simp) (fun hm => by have := (HX.out.1.t _ hm).2; omega)).trans hbx
    have k0 : W6.cell? ⟨W.heap.size, 0, none⟩ = some (.int .i64 x.t) := (cell_of_row _ _ 0 _ _ _ hbx6).trans rfl
    have k1 : W6.cell? ⟨W.heap.size, 1, none⟩ = some (.int .u64 ((x.v : Nat) : Int)) := (cell_of_row _ _ 1 _ _ _ hbx6).trans rfl
    have HI6 := Lib.hid hI6
    obtain ⟨v6, hv6, ho6, hT6⟩ := hI6.v
    obtain ⟨a6, c6, rfl, _⟩ := ho6.shape
    obtain ⟨m6, hm6⟩ : ∃ m6, (l0 ++ pre).length = m6 := ⟨_, rfl⟩
    have hm6l : m6 ≤ 100100000 := by rw [← hm6, List.length_append]; have := HX.out.2; have := HLL.out.1; omega
    have kb : W6.cell? ⟨n, 0, none⟩ = some (.slice a6 m6 c6) := by rw [← hm6]; exact hv6.cell
    have HV6 := Lib.hid (And.intro hv6 (And.intro ho6 (And.intro hT6 hm6)))
    clear hAl hbx hI6 hbx6 ho hv6 ho6 hT6 hm6
    obtain ⟨i0, hi0, hi1, hi2, hi3⟩ := info_parts info70'
    have HII := Lib.hid (And.intro hi0 (And.intro hi1 (And.intro hi2 hi3)))
    have HOW := Lib.hid (show W6.ownsRow base 79 2 (.slice a6 m6 c6) m6 (smC (l0 ++ pre)) from by
      have h := HV6.out.2.1
      unfold OwnS at h
      rw [HV6.out.2.2.2] at h
      exact h)
    clear hi0 hi1 hi2 hi3
    gi_wp2_with (refine wpListIn_append_at _ rfl (.tmp 8) (.tmp 10) 22 rfl base 79 i0 (.agg #[.int .i64 0, .int .u64 0]) 2 16 Tryz.underlying22 HII.out.1 HII.out.2.1 HII.out.2.2.1 HII.out.2.2.2 rfl (by decide) (.slice a6 m6 c6) m6 (smC (l0 ++ pre)) rfl (HOW.out.alloc _) ⟨W6.heap.size, 0, none⟩ 1 1 [.int .i64 x.t, .int .u64 ((x.v : Nat) : Int)] rfl rfl (two_cellsN W6 x) (by intro u hu; simp at hu; rcases hu with rfl | rfl <;> rfl) (by unfold maxLen; omega) (by omega) (by have := HI6.out.lt; simp; omega) ?_; intro v7 w7 hown7 hgr7 hpl7; obtain ⟨g7, c7, rfl⟩ := ownsRow_succ hown7; have hS7 := HI6.out.step (tmp := .cells #[.int .i64 x.t, .int .u64 ((x.v : Nat) : Int)] 79) HV6.out.1 HV6.out.2.1 HV6.out.2.2.1 (by rw [HV6.out.2.2.2]; exact hown7) (by rw [HV6.out.2.2.2]; exact hgr7) (by rw [HV6.out.2.2.2]; exact hpl7); have hbx7 := (Boxed.appended (tmp := .cells #[.int .i64 x.t, .int .u64 ((x.v : Nat) : Int)] 79) HV6.out.1 (by decide : (22 : TypeId) ≠ 79) HV6.out.2.1 (by have := HI6.out.lt; omega) (by have := HI6.out.lt; omega) hown7 (by rw [HV6.out.2.2.2]; exact hgr7)).1; have cc7 := hbx7.cell; have ff7 := hbx7.frozen; have HS7 := Lib.hid hS7; clear hown7 hgr7 hpl7 hS7 hbx7)
    exact ⟨HS7.out.2, HS7.out.1⟩
  case done =>
    rintro D T xs W hD hDT rfl hI hK
    obtain ⟨v6, hv6, ho6, hT6⟩ := hI.v
    obtain ⟨a6, c6, rfl, _⟩ := ho6.shape
    have hc6 := hv6.cell
    gi_wp2
    refine ⟨by simp, .inl ⟨_, _, rfl, run_takeDeferred hK, ?_⟩⟩
    have hDb : Only [D] W (W.putObj D (.deferred none)) := Only.put W D _
    have hl := hI.lt
    have hs2 := HQ.out.2.1
    have ho7 : OwnS W base (.slice a6 (l0.length + xs.length) c6) (l0 ++ xs) := by rw [← List.length_append]; exact ho6
    have hT7 : ∀ g, (Value.slice a6 (l0.length + xs.length) c6).ownBlock = some g → g ∉ T := by rw [← List.length_append]; exact hT6
    refine ⟨_, results_tmp rfl _ _ _, .slice a6 (l0.length + xs.length) c6, rfl, owns_only ho7 hDb (fun g hg => ?_), hI.b.trans (hDb.below (by omega) (fun x hx => by simp at hx; omega))⟩
    intro hm
    simp only [List.mem_cons, List.not_mem_nil, or_false] at hm
    exact hT7 g hg (hm ▸ hDT)
  case stop =>
    rintro D c T pre W hD hDT hSp h hK
    exact h.elim
end Go.Proofs.YtdlifcpdlbmijaaGreatDoor
namespace Go.Proofs.YtdlifcpdlbmijaaGreatDoor
set_option linter.unusedVariables false
set_option linter.unusedSimpArgs false
open Go.RowKit Go.PlainAid Go.Shelf
open B2 (Only Bys Row cellsOf owns_only)
open Gm (St Smp Chk)
theorem run_frm1 (g : List Smp) (h : 0 < g.length) : (Gm.run g).frm = g[0].t := by
  have key : ∀ (l : List Smp) (s : St), 0 < s.n → (l.foldl Gm.put s).frm = s.frm := by
    intro l
    induction l with
    | nil => intro s _; rfl
    | cons x l ih =>
      intro s hs
      rw [List.foldl_cons, ih _ (by show 0 < s.n + 1; omega)]
      show (if s.n = 0 then x.t else s.frm) = s.frm
      rw [if_neg (by omega)]
  cases g with
  | nil => simp at h
  | cons x l =>
    unfold Gm.run
    rw [List.foldl_cons, key l _ (by show 0 < Gm.st0.n + 1; omega)]
    rfl
theorem goods_enc {l : List Smp} {cs : List Chk} (R : Gm.Rising l) (E : Gm.Enc l cs) : Goods cs := fun c hc => by
  obtain ⟨j, hj, rfl⟩ := List.getElem_of_mem hc
  exact ⟨_, one_grp R j (by rw [← E.len]; exact hj), E.each j hj⟩
theorem grp_at {l : List Smp} {j r : Nat} (h : r < (Gm.grp l j).length) (h2 : 120 * j + r < l.length) : (Gm.grp l j)[r] = l[120 * j + r] := by
  have h3 := Gm.grp_get l j r (by have := Gm.grp_len l j; omega)
  rw [List.getElem?_eq_getElem h, List.getElem?_eq_getElem h2] at h3
  injection h3
/-- chunk after chunk rises -/
theorem enc_up {l : List Smp} {cs : List Chk} (R : Gm.Rising l) (E : Gm.Enc l cs) (i : Nat) (h : i + 1 < cs.length) : cs[i].to < cs[i + 1].frm := by
  have hc := E.len
  obtain ⟨_, e1, _⟩ := E.each i (by omega)
  obtain ⟨e2, _⟩ := E.each (i + 1) h
  have g1 := Gm.grp_len l i
  have g2 := Gm.grp_len l (i + 1)
  have hl : 120 * (i + 1) < l.length := by unfold Gm.cnt at hc; omega
  rw [e1, e2, run_frm1 _ (by omega), run_last' _ 119 (by omega), grp_at (by omega) (by omega), grp_at (by omega) (by omega)]
  have h3 := R.up (120 * i + 119) (by omega)
  simpa only [show 120 * (i + 1) + 0 = 120 * i + 119 + 1 by omega] using h3
theorem take_grp (l : List Smp) (k : Nat) : l.take (120 * k) ++ Gm.grp l k = l.take (120 * (k + 1)) := by
  unfold Gm.grp
  rw [show 120 * (k + 1) = 120 * k + 120 by omega, List.take_add]
theorem dec_seq (c : Chk) (b : Nat) (a : Option Addr) (cap base : Nat) (g l0 : List Smp) (G : OneC g) (C : Gm.IsChk g c) (hl0 : l0.length ≤ 100000000) (w : World) (hb : w.heap[b]? = some (.cells (chR c.frm c.to c.n (.slice a c.bs.length cap)) 26 (0, 0))) (H : Bys w a c.bs) (v : Value) (hv : OwnS w base v l0) (hbase : base ≤ w.heap.size) :
    Calls Tryz.prog 31 #[v, .func (.func 84) #[] #[pt b]] w fun e w' => ∃ v', e = .returned v' ∧ OwnS w' base v' (l0 ++ g) ∧ Below base w w' := by
  obtain ⟨h1, h2, h3⟩ := one_says G C
  have hl := G.len
  have hne := one_ne G C
  have ha : a ≠ none := by
    obtain ⟨b, off, e, _⟩ := H.2.2 hne
    rw [e]
    simp
  exact appendseq_any c.frm c.to c.n a c.bs cap b base (fun h => absurd h ha) (one_bs G C) (by omega) l0 g hl0 (by omega) w hb H h2 v hv hbase
end Go.Proofs.YtdlifcpdlbmijaaGreatDoor
namespace Go.Proofs.YtdlifcpdlbmijaaGreatDoor.Gm
set_option linter.unusedVariables false
set_option linter.unusedSimpArgs false
open B2.Bt (top val vb zz uz rv top_length val_top rv_back zz_lt uz_zz)
/-- k bits, or none -/
def rO (k : Nat) (S : List Bool) : Option (Nat × List Bool) := if S.length < k then none else some (val (S.take k), S.drop k)
/-- a number of groups, or none -/
def vO (S : List Bool) : Option (Nat × List Bool) := if (rv S).2.1 = 0 then some ((rv S).1, S.drop (rv S).2.2) else none
/-- a change of steps; f: how many rows are left -/
def chO : Nat → List Bool → Option (Nat × List Bool)
  | 0, S => rO 64 S
  | f + 1, S => (rO 1 S).bind fun b => if b.1 = 1 then chO f b.2 else if f = 3 then some (0, b.2) else (rO (sz (3 - f)) b.2).map fun d => (subW d.1 (pl (3 - f)), d.2)
structure Dr where
  t : Int
  v : Nat
  step : Nat
  lf : Nat
  rt : Nat
  S : List Bool
def tO (n step : Nat) (S : List Bool) : Option (Nat × List Bool) := if n = 1 then vO S else (chO 4 S).map fun r => ((step + r.1) % 18446744073709551616, r.2)
/-- a window that is told anew -/
def wO (S : List Bool) : Option (Nat × Nat × List Bool) := (rO 5 S).bind fun x => (rO 6 x.2).bind fun y => if 63 < x.1 + y.1 then none else some (x.1, 63 - x.1 - y.1, y.2)
/-- the bits between -/
def xO (s : Dr) (w : Nat × Nat × List Bool) : Option Dr := (rO (64 - w.1 - w.2.1) w.2.2).map fun x => { s with v := s.v ^^^ ((x.1 <<< w.2.1) % 18446744073709551616), lf := w.1, rt := w.2.1, S := x.2 }
def nO (s : Dr) : Option Dr :=
  (rO 1 s.S).bind fun b => if b.1 = 1 then (rO 1 b.2).bind fun u => (if u.1 = 1 then wO u.2 else some (s.lf, s.rt, u.2)).bind (xO s) else some { s with S := b.2 }
def dNext (n : Nat) (s : Dr) : Option Dr := (tO n s.step s.S).bind fun r => nO { s with t := wI (s.t + i64 r.1), step := r.1, S := r.2 }
def dFst (S : List Bool) : Option Dr := (vO S).bind fun a => (rO 64 a.2).map fun v => ⟨uz a.1, v.1, 0, 0, 0, v.2⟩
def dIt : Nat → List Bool → Option (List Smp × Dr)
  | 0, S => (dFst S).map fun s => ([⟨s.t, s.v⟩], s)
  | j + 1, S => (dIt j S).bind fun r => (dNext (j + 1) r.2).map fun s => (r.1 ++ [⟨s.t, s.v⟩], s)
theorem rO_top (k v : Nat) (R : List Bool) (hv : v < 2 ^ k) : rO k (top v k ++ R) = some (v, R) := by
  unfold rO
  rw [if_neg (by simp [top_length])]
  rw [List.take_append_of_le_length (by rw [top_length]; exact Nat.le_refl _), List.take_of_length_le (by rw [top_length]; exact Nat.le_refl _),
    List.drop_append_of_le_length (by rw [top_length]; exact Nat.le_refl _), List.drop_of_length_le (by rw [top_length]; exact Nat.le_refl _), val_top, Nat.mod_eq_of_lt hv, List.nil_append]
theorem rO_cons (b : Bool) (S : List Bool) : rO 1 (b :: S) = some (b.toNat, S) := by cases b <;> simp [rO, val]
theorem vO_vb (v : Nat) (R : List Bool) (h : v < 18446744073709551616) : vO (vb v ++ R) = some (v, R) := by
  unfold vO
  rw [rv_back v R h]
  simp
theorem chO_true (f : Nat) (S : List Bool) : chO (f + 1) (true :: S) = chO f S := by
  rw [chO, rO_cons]
  rfl
theorem chO_zero (S : List Bool) : chO (3 + 1) (false :: S) = some (0, S) := by
  rw [chO, rO_cons]
  rfl
theorem chO_false (f : Nat) (hf : f ≠ 3) (S : List Bool) : chO (f + 1) (false :: S) = (rO (sz (3 - f)) S).map fun d => (subW d.1 (pl (3 - f)), d.2) := by
  rw [chO, rO_cons]
  simp only [Option.bind_some, Bool.toNat_false, show ¬ (0 : Nat) = 1 by decide, if_false, hf]
theorem subW_pl (d k : Nat) (hk : k ≤ 4) (hd : d < 18446744073709551616) : subW ((d + pl k) % 18446744073709551616) (pl k) = d := by
  have hp : pl k < 18446744073709551616 := by
    have hk : k = 0 ∨ k = 1 ∨ k = 2 ∨ k = 3 ∨ k = 4 := by omega
    rcases hk with rfl | rfl | rfl | rfl | rfl <;> decide
  unfold subW
  generalize pl k = q at *
  omega
theorem chO_stepB (d : Nat) (hd : d < 18446744073709551616) (R : List Bool) : chO 4 (stepB d ++ R) = some (d, R) := by
  have hr := row_room d hd
  have hle := rowOf_le d
  have hz : rowOf d = 0 → d = 0 := by
    intro h
    unfold rowOf at h
    by_cases h0 : hasR 0 d = true
    · have := of_decide_eq_true h0
      simp only [pl, sz, Nat.pow_zero, Nat.div_one, Nat.add_zero] at this
      omega
    · rw [if_neg h0] at h
      split at h <;> (try split at h) <;> (try split at h) <;> omega
  unfold stepB
  have hs := subW_pl d (rowOf d) hle hd
  generalize rowOf d = k at *
  obtain ⟨y, hy⟩ : ∃ y, (d + pl k) % 18446744073709551616 = y := ⟨_, rfl⟩
  rw [hy] at hr hs ⊢
  have hk : k = 0 ∨ k = 1 ∨ k = 2 ∨ k = 3 ∨ k = 4 := by omega
  have hb := rO_top (sz k) y R hr
  rw [List.append_assoc]
  generalize top y (sz k) ++ R = Z at *
  have t0 : top 0 1 = [false] := by decide
  have t1 : top 2 2 = [true, false] := by decide
  have t2 : top 6 3 = [true, true, false] := by decide
  have t3 : top 14 4 = [true, true, true, false] := by decide
  have t4 : top 15 4 = [true, true, true, true] := by decide
  rcases hk with rfl | rfl | rfl | rfl | rfl
  · have e : chO 4 (top (mk 0) (ms 0) ++ Z) = some (0, Z) := by
      show chO (3 + 1) (top 0 1 ++ Z) = _
      rw [t0]
      exact chO_zero Z
    have hZ : Z = R := by
      have h : rO 0 Z = some (y, R) := hb
      unfold rO at h
      rw [if_neg (by omega)] at h
      simp only [List.drop_zero, Option.some.injEq, Prod.mk.injEq] at h
      exact h.2
    rw [e, hZ, hz rfl]
  · show chO (3 + 1) (top 2 2 ++ Z) = _
    rw [t1]
    show chO (3 + 1) (true :: false :: Z) = _
    rw [chO_true, chO_false 2 (by decide), show 3 - 2 = 1 from rfl, hb]
    simp only [Option.map_some, hs]
  · show chO (3 + 1) (top 6 3 ++ Z) = _
    rw [t2]
    show chO (3 + 1) (true :: true :: false :: Z) = _
    rw [chO_true, chO_true, chO_false 1 (by decide), show 3 - 1 = 2 from rfl, hb]
    simp only [Option.map_some, hs]
  · show chO (3 + 1) (top 14 4 ++ Z) = _
    rw [t3]
    show chO (3 + 1) (true :: true :: true :: false :: Z) = _
    rw [chO_true, chO_true, chO_true, chO_false 0 (by decide), show 3 - 0 = 3 from rfl, hb]
    simp only [Option.map_some, hs]
  · show chO (3 + 1) (top 15 4 ++ Z) = _
    rw [t4]
    show chO (3 + 1) (true :: true :: true :: true :: Z) = _
    rw [chO_true, chO_true, chO_true, chO_true, chO]
    have h : rO 64 Z = some (y, R) := hb
    have h2 : y = d := by
      have h3 : pl 4 = 0 := rfl
      rw [h3] at hy
      omega
    rw [h, h2]
/-- what the document's reader knows, beside what an appender knows -/
structure Mt (s : St) (d : Dr) : Prop where
  t : d.t = s.last.t
  v : d.v = s.last.v
  step : 2 ≤ s.n → d.step = s.gap
  win : (s.ws = 0 ∧ s.we = 0) ∨ (d.lf = s.ws ∧ d.rt = 64 - s.we)
theorem tO_back (s : St) (d : Dr) (t : Int) (h : Inv s) (hm : Mt s d) (hn : 1 ≤ s.n) (R : List Bool) : tO s.n d.step (timeB s t ++ R) = some (gapOf t s.last.t, R) := by
  unfold tO timeB
  by_cases h1 : s.n = 1
  · rw [if_pos h1, if_pos h1, vO_vb _ _ (gapOf_lt _ _)]
  · rw [if_neg h1, if_neg h1, chO_stepB _ (subW_lt _ _), hm.step (by omega)]
    simp only [Option.map_some, subW_back _ _ (gapOf_lt _ _) h.gap]
theorem wO_back (x : Nat) (h1 : wS x ≤ 31) (h2 : wS x < wE x) (h3 : wE x ≤ 64) (R : List Bool) : wO (top (wS x) 5 ++ (top (wE x - wS x - 1) 6 ++ R)) = some (wS x, 64 - wE x, R) := by
  unfold wO
  rw [rO_top 5 _ _ (by omega)]
  simp only [Option.bind_some]
  rw [rO_top 6 _ _ (by omega)]
  simp only [Option.bind_some]
  rw [if_neg (by omega), show 63 - wS x - (wE x - wS x - 1) = 64 - wE x by omega]
theorem xO_back (s : Dr) (l v x ws we : Nat) (hx0 : x ≠ 0) (hx : x < 18446744073709551616) (h1 : ws ≤ wS x) (h2 : wE x ≤ we) (h3 : we ≤ 64) (hs : s.v = l) (hb : l ^^^ x = v) (R : List Bool) :
    xO s (ws, 64 - we, top (x >>> (64 - we)) (we - ws) ++ R) = some { s with v := v, lf := ws, rt := 64 - we, S := R } := by
  obtain ⟨z1, z2⟩ := win_in x ws we hx0 hx h1 h2 h3
  obtain ⟨w1, w2, w3, w4, _⟩ := win_facts x hx0 hx
  unfold xO
  simp only
  rw [show 64 - ws - (64 - we) = we - ws by omega, rO_top _ _ _ z2]
  simp only [Option.map_some, z1, Nat.mod_eq_of_lt hx, hs, hb]
theorem nO_back (s : St) (d : Dr) (v : Nat) (h : Inv s) (hv : v < 18446744073709551616) (hdv : d.v = s.last.v) (hw : (s.ws = 0 ∧ s.we = 0) ∨ (d.lf = s.ws ∧ d.rt = 64 - s.we)) (R : List Bool) (hS : d.S = numB s.ws s.we (v ^^^ s.last.v) ++ R) :
    ∃ d', nO d = some d' ∧ d'.t = d.t ∧ d'.step = d.step ∧ d'.v = v ∧ d'.S = R ∧ ((numS s.ws s.we (v ^^^ s.last.v) = 0 ∧ numE s.ws s.we (v ^^^ s.last.v) = 0) ∨ (d'.lf = numS s.ws s.we (v ^^^ s.last.v) ∧ d'.rt = 64 - numE s.ws s.we (v ^^^ s.last.v))) := by
  have hx := xor_lt64 hv h.last.2.2
  have hb := xor_back v s.last.v
  unfold nO
  rw [hS]
  unfold numB numS numE
  generalize v ^^^ s.last.v = x at *
  by_cases hx0 : x = 0
  · simp only [hx0, if_true, List.cons_append, List.nil_append]
    rw [rO_cons]
    simp only [Option.bind_some, Bool.toNat_false, show ¬ (0 : Nat) = 1 by decide, if_false]
    refine ⟨_, rfl, rfl, rfl, ?_, rfl, hw⟩
    show d.v = v
    rw [hdv, ← hb, hx0, Nat.xor_zero]
  · simp only [hx0, if_false]
    have hwin := h.win
    obtain ⟨w1, w2, w3, w4, _⟩ := win_facts x hx0 hx
    by_cases hh : holdsW s.ws s.we x = true
    · simp only [hh, if_true, List.cons_append, List.nil_append]
      unfold holdsW at hh
      simp only [Bool.and_eq_true, decide_eq_true_eq] at hh
      have hw2 : d.lf = s.ws ∧ d.rt = 64 - s.we := by
        rcases hw with hw | hw
        · exfalso; omega
        · exact hw
      rw [rO_cons]
      simp only [Option.bind_some, Bool.toNat_true, if_true]
      rw [rO_cons]
      simp only [Option.bind_some, Bool.toNat_false, show ¬ (0 : Nat) = 1 by decide, if_false]
      rw [hw2.1, hw2.2, xO_back d _ v x s.ws s.we hx0 hx hh.1 hh.2 (by omega) hdv hb]
      exact ⟨_, rfl, rfl, rfl, rfl, rfl, .inr ⟨rfl, rfl⟩⟩
    · simp only [hh, Bool.false_eq_true, if_false, List.cons_append, List.nil_append, List.append_assoc]
      rw [rO_cons]
      simp only [Option.bind_some, Bool.toNat_true, if_true]
      rw [rO_cons]
      simp only [Option.bind_some, Bool.toNat_true, if_true]
      rw [wO_back x (by omega) w2 w3]
      simp only [Option.bind_some]
      rw [xO_back d _ v x (wS x) (wE x) hx0 hx (Nat.le_refl _) (Nat.le_refl _) w3 hdv hb]
      exact ⟨_, rfl, rfl, rfl, rfl, rfl, .inr ⟨rfl, rfl⟩⟩
theorem dNext_put (s : St) (a : Smp) (h : Inv s) (ha : OkS a) (hn : 1 ≤ s.n) (d : Dr) (hm : Mt s d) (R : List Bool) (hS : d.S = bitsOf s a ++ R) :
    ∃ d', dNext s.n d = some d' ∧ Mt (put s a) d' ∧ d'.S = R ∧ d'.t = a.t ∧ d'.v = a.v := by
  have e : bitsOf s a = timeB s a.t ++ numB s.ws s.we (a.v ^^^ s.last.v) := by
    unfold bitsOf; rw [if_neg (by omega)]
  unfold dNext
  rw [hS, e, List.append_assoc, tO_back s d a.t h hm hn]
  simp only [Option.bind_some]
  obtain ⟨d', h1, h2, h3, h4, h5, h6⟩ := nO_back s { d with t := wI (d.t + i64 (gapOf a.t s.last.t)), step := gapOf a.t s.last.t, S := numB s.ws s.we (a.v ^^^ s.last.v) ++ R } a.v h ha.2.2 hm.v hm.win R rfl
  have ht : d'.t = a.t := by rw [h2]; show wI (d.t + _) = _; rw [hm.t]; exact gap_back a.t _ ⟨ha.1, ha.2.1⟩
  have en : (put s a).ws = numS s.ws s.we (a.v ^^^ s.last.v) ∧ (put s a).we = numE s.ws s.we (a.v ^^^ s.last.v) := by
    unfold put
    simp only
    rw [if_neg (by omega), if_neg (by omega)]
    exact ⟨rfl, rfl⟩
  refine ⟨d', h1, ⟨ht, h4, fun _ => h3, ?_⟩, h5, ht, h4⟩
  rw [en.1, en.2]
  exact h6
theorem dFst_put (a : Smp) (ha : OkS a) (R : List Bool) : ∃ d', dFst (bitsOf st0 a ++ R) = some d' ∧ Mt (put st0 a) d' ∧ d'.S = R ∧ d'.t = a.t ∧ d'.v = a.v := by
  have e : bitsOf st0 a = vb (zz a.t) ++ top a.v 64 := rfl
  unfold dFst
  rw [e, List.append_assoc, vO_vb _ _ (zz_lt _ ha.1 ha.2.1)]
  simp only [Option.bind_some]
  rw [rO_top 64 _ _ (by have := ha.2.2; omega)]
  simp only [Option.map_some]
  refine ⟨_, rfl, ⟨?_, rfl, fun h => ?_, .inl ⟨rfl, rfl⟩⟩, rfl, ?_, rfl⟩
  · show uz (zz a.t) = a.t; exact uz_zz _
  · exfalso; have h2 : (put st0 a).n = 1 := rfl; omega
  · show uz (zz a.t) = a.t; exact uz_zz _
theorem outOf_app (s : St) (l m : List Smp) : outOf s (l ++ m) = outOf s l ++ outOf (l.foldl put s) m := by
  induction l generalizing s with
  | nil => rfl
  | cons a l ih => simp only [List.cons_append, outOf, List.foldl_cons, ih, List.append_assoc]
/-- WHAT WAS PUT IS READ: sample by sample -/
theorem dIt_run (l : List Smp) (hl : ∀ a ∈ l, OkS a) (R : List Bool) (j : Nat) (hj : j < l.length) :
    ∃ d, dIt j ((run l).out ++ R) = some (l.take (j + 1), d) ∧ Mt (run (l.take (j + 1))) d ∧ d.S = outOf (run (l.take (j + 1))) (l.drop (j + 1)) ++ R := by
  have e : (run l).out = outOf st0 l := by rw [run, foldl_out]; rfl
  rw [e]
  induction j with
  | zero =>
    obtain ⟨a, m, rfl⟩ : ∃ a m, l = a :: m := by
      cases l with
      | nil => simp at hj
      | cons a m => exact ⟨a, m, rfl⟩
    obtain ⟨d, h1, h2, h3, h4, h5⟩ := dFst_put a (hl a (by simp)) (outOf (put st0 a) m ++ R)
    refine ⟨d, ?_, h2, h3⟩
    unfold dIt
    show ((dFst ((bitsOf st0 a ++ outOf (put st0 a) m) ++ R)).map _) = _
    rw [List.append_assoc, h1]
    simp only [Option.map_some, h4, h5]
    rfl
  | succ j ih =>
    obtain ⟨d, h1, h2, h3⟩ := ih (by omega)
    have hd : l.drop (j + 1) = l[j + 1] :: l.drop (j + 2) := List.drop_eq_getElem_cons hj
    have ht : l.take (j + 1 + 1) = l.take (j + 1) ++ [l[j + 1]] := List.take_succ_eq_append_getElem hj
    have hr : run (l.take (j + 1 + 1)) = put (run (l.take (j + 1))) l[j + 1] := by rw [ht, run_snoc]
    have hn : (run (l.take (j + 1))).n = j + 1 := by rw [run_n, List.length_take]; omega
    rw [hd] at h3
    obtain ⟨d', k1, k2, k3, k4, k5⟩ := dNext_put (run (l.take (j + 1))) l[j + 1] (inv_run _ fun b hb => hl b (List.mem_of_mem_take hb)) (hl _ (List.getElem_mem _)) (by omega) d h2 (outOf (put (run (l.take (j + 1))) l[j + 1]) (l.drop (j + 2)) ++ R) (by rw [h3]; show (bitsOf _ _ ++ outOf _ _) ++ R = _; rw [List.append_assoc])
    rw [hn] at k1
    refine ⟨d', ?_, by rw [hr]; exact k2, by rw [hr]; exact k3⟩
    unfold dIt
    rw [h1]
    simp only [Option.bind_some]
    rw [k1]
    simp only [Option.map_some, k4, k5]
    rw [ht]
/-- none stays none -/
theorem dIt_none (B : List Bool) (i j : Nat) (hij : i ≤ j) (h : dIt i B = none) : dIt j B = none := by
  induction j with
  | zero =>
    have e : i = 0 := by omega
    rw [e] at h
    exact h
  | succ j ih =>
    by_cases he : i = j + 1
    · rw [← he]; exact h
    · unfold dIt
      rw [ih (by omega)]
      rfl
theorem dIt_len (B : List Bool) (j : Nat) (l : List Smp) (d : Dr) (h : dIt j B = some (l, d)) : l.length = j + 1 := by
  induction j generalizing l d with
  | zero =>
    unfold dIt at h
    cases hf : dFst B with
    | none => rw [hf] at h; simp at h
    | some s => rw [hf] at h; simp at h; rw [← h.1]; rfl
  | succ j ih =>
    unfold dIt at h
    cases hf : dIt j B with
    | none => rw [hf] at h; simp at h
    | some r =>
      rw [hf] at h
      simp only [Option.bind_some] at h
      cases hg : dNext (j + 1) r.2 with
      | none => rw [hg] at h; simp at h
      | some s =>
        rw [hg] at h
        simp at h
        rw [← h.1, List.length_append, ih r.1 r.2 hf]
        rfl
end Go.Proofs.YtdlifcpdlbmijaaGreatDoor.Gm
namespace Go.Proofs.YtdlifcpdlbmijaaGreatDoor
set_option linter.unusedVariables false
set_option linter.unusedSimpArgs false
open Go.RowKit Go.PlainAid Go.Shelf
open B2 (Only Bys Row cellsOf Rf)
open Gm (St Smp Dr)
theorem rd_o (S : List Bool) (k : Nat) (hk : k ≤ 64) : (Gm.rO k S = none ∧ B2.Bt.rd S k = (0, 20, 0)) ∨ (∃ v, Gm.rO k S = some (v, S.drop k) ∧ B2.Bt.rd S k = (v, 0, k) ∧ k ≤ S.length ∧ v < 2 ^ k) := by
  have e : B2.Bt.rd S k = if S.length < k then (0, 20, 0) else (B2.Bt.val (S.take k), 0, k) := by
    unfold B2.Bt.rd
    rw [if_neg (by omega), show ((k : Nat) : Int).toNat = k by omega]
  rw [e]
  unfold Gm.rO
  by_cases h : S.length < k
  · rw [if_pos h, if_pos h]
    exact .inl ⟨rfl, rfl⟩
  · rw [if_neg h, if_neg h]
    refine .inr ⟨_, rfl, rfl, by omega, ?_⟩
    have h1 := B2.Bt.val_lt (S.take k)
    rw [List.length_take] at h1
    exact Nat.lt_of_lt_of_le h1 (Nat.pow_le_pow_right (by decide) (Nat.min_le_left _ _))
/-- what a look at the next bits gives -/
def NxPost (w : World) (p g : Nat) (B : List Bool) (at_ k : Nat) (e : Ending) (w' : World) : Prop :=
  (Gm.rO k (B.drop at_) = none ∧ e = .returned (.tuple #[.int .u64 0, .int .u16 20]) ∧ Rf w' p g B at_ ∧ Only [p] w w') ∨
  (∃ v, Gm.rO k (B.drop at_) = some (v, B.drop (at_ + k)) ∧ v < 2 ^ k ∧ at_ + k ≤ B.length ∧ e = .returned (.tuple #[.int .u64 ((v : Nat) : Int), .int .u16 0]) ∧ Rf w' p g B (at_ + k) ∧ Only [p] w w')
theorem next_at (p g : Nat) (B : List Bool) (at_ k : Nat) (hk : k ≤ 64) (w : World) (H : Rf w p g B at_) (hat : at_ ≤ B.length) (hbd : B.length ≤ 1000000000) :
    Calls Tryz.prog 95 #[pt p, .int .i64 ((k : Nat) : Int)] w (NxPost w p g B at_ k) := by
  refine (B2.fnext_any p g B at_ ((k : Nat) : Int) w H hat hbd).mono ?_
  rintro e w' ⟨rfl, h2, h3⟩
  rcases rd_o (B.drop at_) k hk with ⟨h4, h5⟩ | ⟨v, h4, h5, h6, h7⟩
  · rw [h5] at h2
    rw [h5]
    exact .inl ⟨h4, rfl, h2, h3⟩
  · rw [h5] at h2
    rw [h5]
    rw [List.drop_drop] at h4
    rw [List.length_drop] at h6
    exact .inr ⟨v, h4, h7, by omega, rfl, h2, h3⟩
/-- what a look at the next number of groups gives -/
def NvPost (w : World) (p g : Nat) (B : List Bool) (at_ : Nat) (e : Ending) (w' : World) : Prop :=
  (Gm.vO (B.drop at_) = none ∧ (∃ x : Nat, e = .returned (.tuple #[.int .u64 0, .int .u16 x]) ∧ x ≠ 0) ∧ Rf w' p g B at_ ∧ Only [p] w w') ∨
  (∃ v at', Gm.vO (B.drop at_) = some (v, B.drop at') ∧ v < 18446744073709551616 ∧ at' ≤ B.length ∧ e = .returned (.tuple #[.int .u64 ((v : Nat) : Int), .int .u16 0]) ∧ Rf w' p g B at' ∧ Only [p] w w')
theorem var_at (p g : Nat) (B : List Bool) (at_ : Nat) (w : World) (H : Rf w p g B at_) (hat : at_ ≤ B.length) (hbd : B.length ≤ 1000000000) :
    Calls Tryz.prog 96 #[pt p] w (NvPost w p g B at_) := by
  refine (B2.fvarint_any p g B at_ w H hat hbd).mono ?_
  rintro e w' ⟨rfl, h2, h3⟩
  by_cases h0 : (B2.Bt.rv (B.drop at_)).2.1 = 0
  · have ht := B2.Bt.rv_take (B.drop at_)
    rw [List.length_drop] at ht
    refine .inr ⟨(B2.Bt.rv (B.drop at_)).1, at_ + (B2.Bt.rv (B.drop at_)).2.2, ?_, B2.Bt.rv_lt _, by omega, ?_, h2, h3⟩
    · unfold Gm.vO
      rw [if_pos h0, List.drop_drop]
    · rw [h0]; rfl
  · rcases B2.Bt.rv_err (B.drop at_) with h | ⟨h4, h5, h6⟩
    · exact absurd h h0
    · rw [h5] at h2
      refine .inl ⟨by unfold Gm.vO; rw [if_neg h0], ⟨(B2.Bt.rv (B.drop at_)).2.1, ?_, h0⟩, h2, h3⟩
      rw [h4]; rfl
/-- what a look at the next number that may be below 0 gives -/
def NsPost (w : World) (p g : Nat) (B : List Bool) (at_ : Nat) (e : Ending) (w' : World) : Prop :=
  (Gm.vO (B.drop at_) = none ∧ (∃ x : Nat, e = .returned (.tuple #[.int .i64 0, .int .u16 x]) ∧ x ≠ 0) ∧ Rf w' p g B at_ ∧ Only [p] w w') ∨
  (∃ v at', Gm.vO (B.drop at_) = some (v, B.drop at') ∧ v < 18446744073709551616 ∧ at' ≤ B.length ∧ e = .returned (.tuple #[.int .i64 (B2.Bt.uz v), .int .u16 0]) ∧ Rf w' p g B at' ∧ Only [p] w w')
theorem sgn_at (p g : Nat) (B : List Bool) (at_ : Nat) (w : World) (H : Rf w p g B at_) (hat : at_ ≤ B.length) (hbd : B.length ≤ 1000000000) :
    Calls Tryz.prog 94 #[pt p] w (NsPost w p g B at_) := by
  refine (B2.fsigned_any p g B at_ w H hat hbd).mono ?_
  rintro e w' ⟨rfl, h2, h3⟩
  by_cases h0 : (B2.Bt.rv (B.drop at_)).2.1 = 0
  · have ht := B2.Bt.rv_take (B.drop at_)
    rw [List.length_drop] at ht
    refine .inr ⟨(B2.Bt.rv (B.drop at_)).1, at_ + (B2.Bt.rv (B.drop at_)).2.2, ?_, B2.Bt.rv_lt _, by omega, ?_, h2, h3⟩
    · unfold Gm.vO
      rw [if_pos h0, List.drop_drop]
    · rw [h0]; rfl
  · rcases B2.Bt.rv_err (B.drop at_) with h | ⟨h4, h5, h6⟩
    · exact absurd h h0
    · rw [h5] at h2
      refine .inl ⟨by unfold Gm.vO; rw [if_neg h0], ⟨(B2.Bt.rv (B.drop at_)).2.1, ?_, h0⟩, h2, h3⟩
      rw [h4]; rfl
end Go.Proofs.YtdlifcpdlbmijaaGreatDoor
