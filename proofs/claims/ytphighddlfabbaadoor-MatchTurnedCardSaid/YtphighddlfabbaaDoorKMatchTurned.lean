/-
  PROVED: a matcher and its turned one say unlike things of every value.
-/
import Derived.Test.YtphighddlfabbaaDoorK12
import Derived.Test.YtphighddlfabbaaDoorKFMatchTurned
import Derived.Test.YtphighddlfabbaaDoorTie
import Derived.Test.YtphighddlfabbaaDoorCards
import Derived.Deep.DeepHandedRow
import Derived.SevenTiedAt
import Derived.WalkKit
import Derived.ProofKit
import Derived.OpenShut
import Derived.ShutString
import Derived.ChangeOld
import Derived.Below
namespace Go.Proofs.YtphighddlfabbaaDoor
set_option linter.unusedVariables false
set_option linter.unusedSimpArgs false
open Go.RowKit Go.PlainAid Go.Shelf
theorem errM_12 (n v : ByteArray) : errM 1 n v = errM 2 n v ∧ (errM 1 n v = 0 ∨ errM 1 n v = 90) := by
  by_cases h1 : nameB n = true
  · by_cases h2 : v.size ≤ 1024
    · rw [errM_good (k := 1) (by decide) h1 h2, errM_good (k := 2) (by decide) h1 h2]; exact ⟨rfl, .inl rfl⟩
    · rw [errM_long h2, errM_long h2]; exact ⟨rfl, .inr rfl⟩
  · have h1 : nameB n = false := by simpa using h1
    rw [errM_name h1, errM_name h1]; exact ⟨rfl, .inr rfl⟩
theorem errM_34 (n v : ByteArray) : errM 3 n v = errM 4 n v ∧ (errM 1 n v = 90 → errM 3 n v = 90) := by
  by_cases h1 : nameB n = true
  · by_cases h2 : v.size ≤ 1024
    · rw [errM_good (k := 1) (by decide) h1 h2, errM_good (k := 3) (by decide) h1 h2, errM_good (k := 4) (by decide) h1 h2]; exact ⟨rfl, fun h => by simp at h⟩
    · rw [errM_long h2, errM_long h2]; exact ⟨rfl, fun _ => rfl⟩
  · have h1 : nameB n = false := by simpa using h1
    rw [errM_name h1, errM_name h1]; exact ⟨rfl, fun _ => rfl⟩
theorem isM_bad {k : Nat} {n v s : ByteArray} (h : errM k n v ≠ 0) : isM k n v s = false := by unfold isM; rw [decide_eq_false h, Bool.false_and]
theorem isM_good {k : Nat} {n v s : ByteArray} (h : errM k n v = 0) : isM k n v s = isP k v s := by unfold isM; rw [decide_eq_true h, Bool.true_and]
/-- the four matchers lie there -/
structure LwB (w w' : World) (n v : ByteArray) : Prop where
  b : Below w.heap.size w w'
  c : (w'.cell? ⟨w.heap.size, 0, none⟩ = some (.int .u8 1) ∧ w'.cell? ⟨w.heap.size, 1, none⟩ = some (.string n) ∧ w'.cell? ⟨w.heap.size, 2, none⟩ = some (.string v) ∧ w'.cell? ⟨w.heap.size + 1, 0, none⟩ = some (.int .u8 2) ∧ w'.cell? ⟨w.heap.size + 1, 1, none⟩ = some (.string n) ∧ w'.cell? ⟨w.heap.size + 1, 2, none⟩ = some (.string v) ∧ w'.cell? ⟨w.heap.size + 1 + 1, 0, none⟩ = some (.int .u8 3) ∧ w'.cell? ⟨w.heap.size + 1 + 1, 1, none⟩ = some (.string n) ∧ w'.cell? ⟨w.heap.size + 1 + 1, 2, none⟩ = some (.string v) ∧ w'.cell? ⟨w.heap.size + 1 + 1 + 1, 0, none⟩ = some (.int .u8 4) ∧ w'.cell? ⟨w.heap.size + 1 + 1 + 1, 1, none⟩ = some (.string n) ∧ w'.cell? ⟨w.heap.size + 1 + 1 + 1, 2, none⟩ = some (.string v))
theorem LwB.next {w a b : World} {n v : ByteArray} (h : LwB w a n v) (k : Below a.heap.size a b) : LwB w b n v := by
  obtain ⟨hb, h0, h1, h2, h3, h4, h5, h6, h7, h8, h9, h10, h11⟩ := h
  exact ⟨hb.trans (k.mono hb.size), cell_below h0 k, cell_below h1 k, cell_below h2 k, cell_below h3 k, cell_below h4 k, cell_below h5 k, cell_below h6 k, cell_below h7 k, cell_below h8 k, cell_below h9 k, cell_below h10 k, cell_below h11 k⟩
theorem LwB.drew {w a : World} {n v : ByteArray} (h : LwB w a n v) : LwB w a.drew n v := h.next ⟨rfl, rfl, rfl, Nat.le_refl _, fun _ _ => rfl⟩
theorem box_at (W : World) (k : Int) (n v : ByteArray) {N : Nat} (hN : W.heap.size = N) : (W.alloc (.cells #[.int .u8 k, .string n, .string v] 24)).cell? ⟨N, 0, none⟩ = some (.int .u8 k) ∧ (W.alloc (.cells #[.int .u8 k, .string n, .string v] 24)).cell? ⟨N, 1, none⟩ = some (.string n) ∧ (W.alloc (.cells #[.int .u8 k, .string n, .string v] 24)).cell? ⟨N, 2, none⟩ = some (.string v) := by
  subst hN
  exact ⟨(cell_of_row _ _ 0 _ _ _ (heap_alloc_new W _)).trans rfl, (cell_of_row _ _ 1 _ _ _ (heap_alloc_new W _)).trans rfl, (cell_of_row _ _ 2 _ _ _ (heap_alloc_new W _)).trans rfl⟩
def lay4 (w : World) (n v : ByteArray) : World := (((w.alloc (.cells #[.int .u8 1, .string n, .string v] 24)).alloc (.cells #[.int .u8 2, .string n, .string v] 24)).alloc (.cells #[.int .u8 3, .string n, .string v] 24)).alloc (.cells #[.int .u8 4, .string n, .string v] 24)
theorem lwb0 (w : World) (n v : ByteArray) {B : Nat} {w0 : World} : LwB w (lay4 w n v) n v := by
  unfold lay4
  have b1 := (Below.refl w.heap.size w).alloc (Nat.le_refl _) (.cells #[.int .u8 1, .string n, .string v] 24)
  have x1 := box_at w 1 n v rfl
  have s1 : (w.alloc (.cells #[.int .u8 1, .string n, .string v] 24)).heap.size = w.heap.size + 1 := by simp
  generalize w.alloc (.cells #[.int .u8 1, .string n, .string v] 24) = W1 at *
  have b2 := (Below.refl W1.heap.size W1).alloc (Nat.le_refl _) (.cells #[.int .u8 2, .string n, .string v] 24)
  have x2 := box_at W1 2 n v s1
  have s2 : (W1.alloc (.cells #[.int .u8 2, .string n, .string v] 24)).heap.size = w.heap.size + 1 + 1 := by simp [s1]
  generalize W1.alloc (.cells #[.int .u8 2, .string n, .string v] 24) = W2 at *
  have b3 := (Below.refl W2.heap.size W2).alloc (Nat.le_refl _) (.cells #[.int .u8 3, .string n, .string v] 24)
  have x3 := box_at W2 3 n v s2
  have s3 : (W2.alloc (.cells #[.int .u8 3, .string n, .string v] 24)).heap.size = w.heap.size + 1 + 1 + 1 := by simp [s2]
  generalize W2.alloc (.cells #[.int .u8 3, .string n, .string v] 24) = W3 at *
  have b4 := (Below.refl W3.heap.size W3).alloc (Nat.le_refl _) (.cells #[.int .u8 4, .string n, .string v] 24)
  have x4 := box_at W3 4 n v s3
  generalize W3.alloc (.cells #[.int .u8 4, .string n, .string v] 24) = W4 at *
  have c34 := b4
  have c24 := b3.trans (b4.mono b3.size)
  have c14 := b2.trans (c24.mono b2.size)
  exact ⟨b1.trans (c14.mono b1.size), cell_below x1.1 c14, cell_below x1.2.1 c14, cell_below x1.2.2 c14, cell_below x2.1 c24, cell_below x2.2.1 c24, cell_below x2.2.2 c24, cell_below x3.1 c34, cell_below x3.2.1 c34, cell_below x3.2.2 c34, x4.1, x4.2.1, x4.2.2⟩
theorem keepLB {A : Prop} {w b : World} {n v : ByteArray} (h : A ∧ LwB w b n v) : LwB w b n v := h.2
theorem keepL {w a b : World} {n v : ByteArray} {A : World → Prop} (F : ∀ W, LwB w W n v → A W) (h : A a ∧ LwB w a n v) (k : Below a.heap.size a b) : A b ∧ LwB w b n v := ⟨F _ (h.2.next k), h.2.next k⟩
set_option maxHeartbeats 16000000 in
set_option maxRecDepth 100000 in
theorem law_turned (n v s : ByteArray) (w : World) (hT : TabAt w) : Calls Tryd.prog 3 #[.string n, .string v, .string s] w (Gives w (.bool true)) := by
  have CK := Lib.hid (known_any w hT)
  rcases Nat.lt_or_ge 5000 n.size with hn | hn
  · have d1 : decide ((n.size : Int) > 5000) = true := decide_eq_true (by omega)
    have d2 : decide ((5000 : Int) < (n.size : Int)) = true := decide_eq_true (by omega)
    have d3 : decide (5000 < n.size) = true := decide_eq_true (by omega)
    clear hn hT
    go_enter Tryd.func3, Tryd.ntmps3
    go_wp2_with (go_at_call 4; refine CK.out.mono ?_; rintro e w1 ⟨rfl, hb⟩)
    go_ret
    exact ⟨rfl, hb⟩
  have a1 : decide ((n.size : Int) > 5000) = false := decide_eq_false (by omega)
  have a2 : decide ((5000 : Int) < (n.size : Int)) = false := decide_eq_false (by omega)
  have a3 : decide (5000 < n.size) = false := decide_eq_false (by omega)
  rcases Nat.lt_or_ge 5000 v.size with hv | hv
  · have d1 : decide ((v.size : Int) > 5000) = true := decide_eq_true (by omega)
    have d2 : decide ((5000 : Int) < (v.size : Int)) = true := decide_eq_true (by omega)
    have d3 : decide (5000 < v.size) = true := decide_eq_true (by omega)
    clear hn hv hT
    go_enter Tryd.func3, Tryd.ntmps3
    go_wp2_with (go_at_call 4; refine CK.out.mono ?_; rintro e w1 ⟨rfl, hb⟩)
    go_ret
    exact ⟨rfl, hb⟩
  have b1 : decide ((v.size : Int) > 5000) = false := decide_eq_false (by omega)
  have b2 : decide ((5000 : Int) < (v.size : Int)) = false := decide_eq_false (by omega)
  have b3 : decide (5000 < v.size) = false := decide_eq_false (by omega)
  rcases Nat.lt_or_ge 5000 s.size with hs | hs
  · have d1 : decide ((s.size : Int) > 5000) = true := decide_eq_true (by omega)
    have d2 : decide ((5000 : Int) < (s.size : Int)) = true := decide_eq_true (by omega)
    have d3 : decide (5000 < s.size) = true := decide_eq_true (by omega)
    clear hn hv hs hT
    go_enter Tryd.func3, Tryd.ntmps3
    go_wp2_with (go_at_call 4; refine CK.out.mono ?_; rintro e w1 ⟨rfl, hb⟩)
    go_ret
    exact ⟨rfl, hb⟩
  have c1 : decide ((s.size : Int) > 5000) = false := decide_eq_false (by omega)
  have c2 : decide ((5000 : Int) < (s.size : Int)) = false := decide_eq_false (by omega)
  have c3 : decide (5000 < s.size) = false := decide_eq_false (by omega)
  have HTT := Lib.hid (fun w1 (h1 : Below w.heap.size w w1) w' (h : LwB w1 w' n v) => hT.below (h1.trans (h.b.mono h1.size)) hT.lt)
  obtain ⟨e12, ep⟩ := errM_12 n v
  obtain ⟨e34, er⟩ := errM_34 n v
  have er2 := errM_small 3 n v
  have HCHK := Lib.hid (fun w1 h1 w' (h : LwB w1 w' n v) => And.intro (check_any 1 n v w' (HTT.out w1 h1 w' h)) (And.intro (check_any 2 n v w' (HTT.out w1 h1 w' h)) (And.intro (check_any 3 n v w' (HTT.out w1 h1 w' h)) (check_any 4 n v w' (HTT.out w1 h1 w' h)))))
  have HIS := Lib.hid (fun w1 h1 w' (h : LwB w1 w' n v) => And.intro (is_any 1 n v s (by omega) w' (HTT.out w1 h1 w' h)) (And.intro (is_any 2 n v s (by omega) w' (HTT.out w1 h1 w' h)) (And.intro (is_any 3 n v s (by omega) w' (HTT.out w1 h1 w' h)) (And.intro (is_any 4 n v s (by omega) w' (HTT.out w1 h1 w' h)) (is_any 1 n v v (by omega) w' (HTT.out w1 h1 w' h))))))
  rw [← e12, ← e34] at HCHK
  rcases ep with e1 | e1
  · rw [e1] at HCHK
    rw [isM_good (s := s) e1, isM_good (s := s) (by rw [← e12]; exact e1), isM_good (s := v) e1] at HIS
    have hP1 : isP 1 v v = true := decide_eq_true rfl
    have hP2 : isP 2 v s = !isP 1 v s := rfl
    rw [hP1, hP2] at HIS
    obtain ⟨b, hb0⟩ : ∃ b, isP 1 v s = b := ⟨_, rfl⟩
    have hxy : errM 3 n v = 0 → isM 4 n v s = !isM 3 n v s := fun h => by rw [isM_good h, isM_good (by rw [← e34]; exact h)]; rfl
    obtain ⟨x, hx⟩ : ∃ x, isM 3 n v s = x := ⟨_, rfl⟩
    obtain ⟨y, hy⟩ : ∃ y, isM 4 n v s = y := ⟨_, rfl⟩
    obtain ⟨r, hr⟩ : ∃ r, errM 3 n v = r := ⟨_, rfl⟩
    rw [hr] at HCHK er2 hxy
    rw [hb0, hx, hy] at HIS
    rw [hx, hy] at hxy
    clear hT hn hv hs e12 e34 er e1 HTT hb0 hx hy hP1 hP2 hr
    have hg : (r = 0 ∧ y = !x) ∨ r = 80 ∨ r = 81 ∨ r = 90 := by
      rcases er2 with h | h | h | h
      · exact .inl ⟨h, hxy h⟩
      · exact .inr (.inl h)
      · exact .inr (.inr (.inl h))
      · exact .inr (.inr (.inr h))
    clear er2 hxy
    rcases hg with ⟨rfl, rfl⟩ | rfl | rfl | rfl
    · cases b <;> cases x
      all_goals (
      have HB1 : Hid (∀ w1, Below w.heap.size w w1 → LwB w1 (lay4 w1 n v) n v) := Lib.hid fun w1 _ => lwb0 w1 n v (B := 0) (w0 := w1)
      go_enter Tryd.func3, Tryd.ntmps3
      go_wp2_with fail
      go_at_call 4
      refine CK.out.mono ?_
      rintro e w1 ⟨rfl, hb⟩
      have HW1 := Lib.hid hb
      have HL := Lib.hid (HB1.out w1 hb)
      have CH := Lib.hid (HCHK.out w1 hb)
      have CI := Lib.hid (HIS.out w1 hb)
      unfold mV at CH CI
      unfold lay4 at HL
      clear hb HB1 CK HCHK HIS a1 a2 a3 b1 b2 b3 c1 c2 c3
      have hc := HL.out.c
      obtain ⟨k0, k1, k2, k3, k4, k5, k6, k7, k8, k9, k10, k11⟩ := hc
      go_wp2_with fail
      go_region_held3 (fun w' => (w'.cell? ⟨w1.heap.size, 0, none⟩ = some (.int .u8 1) ∧ w'.cell? ⟨w1.heap.size, 1, none⟩ = some (.string n) ∧ w'.cell? ⟨w1.heap.size, 2, none⟩ = some (.string v) ∧ w'.cell? ⟨w1.heap.size + 1, 0, none⟩ = some (.int .u8 2) ∧ w'.cell? ⟨w1.heap.size + 1, 1, none⟩ = some (.string n) ∧ w'.cell? ⟨w1.heap.size + 1, 2, none⟩ = some (.string v) ∧ w'.cell? ⟨w1.heap.size + 1 + 1, 0, none⟩ = some (.int .u8 3) ∧ w'.cell? ⟨w1.heap.size + 1 + 1, 1, none⟩ = some (.string n) ∧ w'.cell? ⟨w1.heap.size + 1 + 1, 2, none⟩ = some (.string v) ∧ w'.cell? ⟨w1.heap.size + 1 + 1 + 1, 0, none⟩ = some (.int .u8 4) ∧ w'.cell? ⟨w1.heap.size + 1 + 1 + 1, 1, none⟩ = some (.string n) ∧ w'.cell? ⟨w1.heap.size + 1 + 1 + 1, 2, none⟩ = some (.string v)) ∧ LwB w1 w' n v) ((first | exact ⟨HL.out.drew.c, HL.out.drew⟩ | (refine keepL (A := fun w' => (w'.cell? ⟨w1.heap.size, 0, none⟩ = some (.int .u8 1) ∧ w'.cell? ⟨w1.heap.size, 1, none⟩ = some (.string n) ∧ w'.cell? ⟨w1.heap.size, 2, none⟩ = some (.string v) ∧ w'.cell? ⟨w1.heap.size + 1, 0, none⟩ = some (.int .u8 2) ∧ w'.cell? ⟨w1.heap.size + 1, 1, none⟩ = some (.string n) ∧ w'.cell? ⟨w1.heap.size + 1, 2, none⟩ = some (.string v) ∧ w'.cell? ⟨w1.heap.size + 1 + 1, 0, none⟩ = some (.int .u8 3) ∧ w'.cell? ⟨w1.heap.size + 1 + 1, 1, none⟩ = some (.string n) ∧ w'.cell? ⟨w1.heap.size + 1 + 1, 2, none⟩ = some (.string v) ∧ w'.cell? ⟨w1.heap.size + 1 + 1 + 1, 0, none⟩ = some (.int .u8 4) ∧ w'.cell? ⟨w1.heap.size + 1 + 1 + 1, 1, none⟩ = some (.string n) ∧ w'.cell? ⟨w1.heap.size + 1 + 1 + 1, 2, none⟩ = some (.string v))) (fun W h => h.c) ?_ (by assumption); assumption)))
        ((first
          | (go_at_call_of 5 (Value.agg #[.int .u8 1, .string n, .string v]); refine (CH.out _ (keepLB (by assumption))).1.mono ?_; rintro e w' ⟨rfl, hb⟩)
          | (go_at_call_of 5 (Value.agg #[.int .u8 2, .string n, .string v]); refine (CH.out _ (keepLB (by assumption))).2.1.mono ?_; rintro e w' ⟨rfl, hb⟩)
          | (go_at_call_of 5 (Value.agg #[.int .u8 3, .string n, .string v]); refine (CH.out _ (keepLB (by assumption))).2.2.1.mono ?_; rintro e w' ⟨rfl, hb⟩)
          | (go_at_call_of 5 (Value.agg #[.int .u8 4, .string n, .string v]); refine (CH.out _ (keepLB (by assumption))).2.2.2.mono ?_; rintro e w' ⟨rfl, hb⟩)))
      rename_i hH
      have L2 := Lib.hid hH.2
      obtain ⟨k0, k1, k2, k3, k4, k5, k6, k7, k8, k9, k10, k11⟩ := hH.1
      clear HL hH
      go_wp2_with fail
      go_at_call 5
      refine (CH.out _ L2.out).1.mono ?_
      rintro e w3 ⟨rfl, hb⟩
      have L3 := Lib.hid (L2.out.next hb)
      clear hb L2 k0 k1 k2 k3 k4 k5 k6 k7 k8 k9 k10 k11
      obtain ⟨k0, k1, k2, k3, k4, k5, k6, k7, k8, k9, k10, k11⟩ := L3.out.c
      go_wp2_with fail
      go_region_held3 (fun w' => (w'.cell? ⟨w1.heap.size, 0, none⟩ = some (.int .u8 1) ∧ w'.cell? ⟨w1.heap.size, 1, none⟩ = some (.string n) ∧ w'.cell? ⟨w1.heap.size, 2, none⟩ = some (.string v) ∧ w'.cell? ⟨w1.heap.size + 1, 0, none⟩ = some (.int .u8 2) ∧ w'.cell? ⟨w1.heap.size + 1, 1, none⟩ = some (.string n) ∧ w'.cell? ⟨w1.heap.size + 1, 2, none⟩ = some (.string v) ∧ w'.cell? ⟨w1.heap.size + 1 + 1, 0, none⟩ = some (.int .u8 3) ∧ w'.cell? ⟨w1.heap.size + 1 + 1, 1, none⟩ = some (.string n) ∧ w'.cell? ⟨w1.heap.size + 1 + 1, 2, none⟩ = some (.string v) ∧ w'.cell? ⟨w1.heap.size + 1 + 1 + 1, 0, none⟩ = some (.int .u8 4) ∧ w'.cell? ⟨w1.heap.size + 1 + 1 + 1, 1, none⟩ = some (.string n) ∧ w'.cell? ⟨w1.heap.size + 1 + 1 + 1, 2, none⟩ = some (.string v)) ∧ LwB w1 w' n v) ((first | exact ⟨L3.out.drew.c, L3.out.drew⟩ | (refine keepL (A := fun w' => (w'.cell? ⟨w1.heap.size, 0, none⟩ = some (.int .u8 1) ∧ w'.cell? ⟨w1.heap.size, 1, none⟩ = some (.string n) ∧ w'.cell? ⟨w1.heap.size, 2, none⟩ = some (.string v) ∧ w'.cell? ⟨w1.heap.size + 1, 0, none⟩ = some (.int .u8 2) ∧ w'.cell? ⟨w1.heap.size + 1, 1, none⟩ = some (.string n) ∧ w'.cell? ⟨w1.heap.size + 1, 2, none⟩ = some (.string v) ∧ w'.cell? ⟨w1.heap.size + 1 + 1, 0, none⟩ = some (.int .u8 3) ∧ w'.cell? ⟨w1.heap.size + 1 + 1, 1, none⟩ = some (.string n) ∧ w'.cell? ⟨w1.heap.size + 1 + 1, 2, none⟩ = some (.string v) ∧ w'.cell? ⟨w1.heap.size + 1 + 1 + 1, 0, none⟩ = some (.int .u8 4) ∧ w'.cell? ⟨w1.heap.size + 1 + 1 + 1, 1, none⟩ = some (.string n) ∧ w'.cell? ⟨w1.heap.size + 1 + 1 + 1, 2, none⟩ = some (.string v))) (fun W h => h.c) ?_ (by assumption); assumption)))
        ((first
          | (go_at_call_of 6 (Value.agg #[.int .u8 1, .string n, .string v]); go_at_call_of 6 (Value.string s); refine (CI.out _ (keepLB (by assumption))).1.mono ?_; rintro e w' ⟨rfl, hb⟩)
          | (go_at_call_of 6 (Value.agg #[.int .u8 2, .string n, .string v]); refine (CI.out _ (keepLB (by assumption))).2.1.mono ?_; rintro e w' ⟨rfl, hb⟩)
          | (go_at_call_of 6 (Value.agg #[.int .u8 1, .string n, .string v]); refine (CI.out _ (keepLB (by assumption))).2.2.2.2.mono ?_; rintro e w' ⟨rfl, hb⟩)))
      rename_i hH
      have L4 := Lib.hid hH.2
      clear hH L3 k0 k1 k2 k3 k4 k5 k6 k7 k8 k9 k10 k11
      obtain ⟨k0, k1, k2, k3, k4, k5, k6, k7, k8, k9, k10, k11⟩ := L4.out.c
      go_wp2_with fail
      go_region_held3 (fun w' => (w'.cell? ⟨w1.heap.size, 0, none⟩ = some (.int .u8 1) ∧ w'.cell? ⟨w1.heap.size, 1, none⟩ = some (.string n) ∧ w'.cell? ⟨w1.heap.size, 2, none⟩ = some (.string v) ∧ w'.cell? ⟨w1.heap.size + 1, 0, none⟩ = some (.int .u8 2) ∧ w'.cell? ⟨w1.heap.size + 1, 1, none⟩ = some (.string n) ∧ w'.cell? ⟨w1.heap.size + 1, 2, none⟩ = some (.string v) ∧ w'.cell? ⟨w1.heap.size + 1 + 1, 0, none⟩ = some (.int .u8 3) ∧ w'.cell? ⟨w1.heap.size + 1 + 1, 1, none⟩ = some (.string n) ∧ w'.cell? ⟨w1.heap.size + 1 + 1, 2, none⟩ = some (.string v) ∧ w'.cell? ⟨w1.heap.size + 1 + 1 + 1, 0, none⟩ = some (.int .u8 4) ∧ w'.cell? ⟨w1.heap.size + 1 + 1 + 1, 1, none⟩ = some (.string n) ∧ w'.cell? ⟨w1.heap.size + 1 + 1 + 1, 2, none⟩ = some (.string v)) ∧ LwB w1 w' n v) ((first | exact ⟨L4.out.drew.c, L4.out.drew⟩ | (refine keepL (A := fun w' => (w'.cell? ⟨w1.heap.size, 0, none⟩ = some (.int .u8 1) ∧ w'.cell? ⟨w1.heap.size, 1, none⟩ = some (.string n) ∧ w'.cell? ⟨w1.heap.size, 2, none⟩ = some (.string v) ∧ w'.cell? ⟨w1.heap.size + 1, 0, none⟩ = some (.int .u8 2) ∧ w'.cell? ⟨w1.heap.size + 1, 1, none⟩ = some (.string n) ∧ w'.cell? ⟨w1.heap.size + 1, 2, none⟩ = some (.string v) ∧ w'.cell? ⟨w1.heap.size + 1 + 1, 0, none⟩ = some (.int .u8 3) ∧ w'.cell? ⟨w1.heap.size + 1 + 1, 1, none⟩ = some (.string n) ∧ w'.cell? ⟨w1.heap.size + 1 + 1, 2, none⟩ = some (.string v) ∧ w'.cell? ⟨w1.heap.size + 1 + 1 + 1, 0, none⟩ = some (.int .u8 4) ∧ w'.cell? ⟨w1.heap.size + 1 + 1 + 1, 1, none⟩ = some (.string n) ∧ w'.cell? ⟨w1.heap.size + 1 + 1 + 1, 2, none⟩ = some (.string v))) (fun W h => h.c) ?_ (by assumption); assumption)))
        ((first
          | (go_at_call_of 5 (Value.agg #[.int .u8 3, .string n, .string v]); refine (CH.out _ (keepLB (by assumption))).2.2.1.mono ?_; rintro e w' ⟨rfl, hb⟩)
          | (go_at_call_of 6 (Value.agg #[.int .u8 3, .string n, .string v]); refine (CI.out _ (keepLB (by assumption))).2.2.1.mono ?_; rintro e w' ⟨rfl, hb⟩)
          | (go_at_call_of 6 (Value.agg #[.int .u8 4, .string n, .string v]); refine (CI.out _ (keepLB (by assumption))).2.2.2.1.mono ?_; rintro e w' ⟨rfl, hb⟩)))
      rename_i hH
      have L5 := Lib.hid hH.2
      clear hH L4 k0 k1 k2 k3 k4 k5 k6 k7 k8 k9 k10 k11
      go_wp2
      go_ret
      exact ⟨rfl, HW1.out.trans (L5.out.b.mono HW1.out.size)⟩)
    · cases b
      all_goals (
      have HB1 : Hid (∀ w1, Below w.heap.size w w1 → LwB w1 (lay4 w1 n v) n v) := Lib.hid fun w1 _ => lwb0 w1 n v (B := 0) (w0 := w1)
      go_enter Tryd.func3, Tryd.ntmps3
      go_wp2_with fail
      go_at_call 4
      refine CK.out.mono ?_
      rintro e w1 ⟨rfl, hb⟩
      have HW1 := Lib.hid hb
      have HL := Lib.hid (HB1.out w1 hb)
      have CH := Lib.hid (HCHK.out w1 hb)
      have CI := Lib.hid (HIS.out w1 hb)
      unfold mV at CH CI
      unfold lay4 at HL
      clear hb HB1 CK HCHK HIS a1 a2 a3 b1 b2 b3 c1 c2 c3
      have hc := HL.out.c
      obtain ⟨k0, k1, k2, k3, k4, k5, k6, k7, k8, k9, k10, k11⟩ := hc
      go_wp2_with fail
      go_region_held3 (fun w' => (w'.cell? ⟨w1.heap.size, 0, none⟩ = some (.int .u8 1) ∧ w'.cell? ⟨w1.heap.size, 1, none⟩ = some (.string n) ∧ w'.cell? ⟨w1.heap.size, 2, none⟩ = some (.string v) ∧ w'.cell? ⟨w1.heap.size + 1, 0, none⟩ = some (.int .u8 2) ∧ w'.cell? ⟨w1.heap.size + 1, 1, none⟩ = some (.string n) ∧ w'.cell? ⟨w1.heap.size + 1, 2, none⟩ = some (.string v) ∧ w'.cell? ⟨w1.heap.size + 1 + 1, 0, none⟩ = some (.int .u8 3) ∧ w'.cell? ⟨w1.heap.size + 1 + 1, 1, none⟩ = some (.string n) ∧ w'.cell? ⟨w1.heap.size + 1 + 1, 2, none⟩ = some (.string v) ∧ w'.cell? ⟨w1.heap.size + 1 + 1 + 1, 0, none⟩ = some (.int .u8 4) ∧ w'.cell? ⟨w1.heap.size + 1 + 1 + 1, 1, none⟩ = some (.string n) ∧ w'.cell? ⟨w1.heap.size + 1 + 1 + 1, 2, none⟩ = some (.string v)) ∧ LwB w1 w' n v) ((first | exact ⟨HL.out.drew.c, HL.out.drew⟩ | (refine keepL (A := fun w' => (w'.cell? ⟨w1.heap.size, 0, none⟩ = some (.int .u8 1) ∧ w'.cell? ⟨w1.heap.size, 1, none⟩ = some (.string n) ∧ w'.cell? ⟨w1.heap.size, 2, none⟩ = some (.string v) ∧ w'.cell? ⟨w1.heap.size + 1, 0, none⟩ = some (.int .u8 2) ∧ w'.cell? ⟨w1.heap.size + 1, 1, none⟩ = some (.string n) ∧ w'.cell? ⟨w1.heap.size + 1, 2, none⟩ = some (.string v) ∧ w'.cell? ⟨w1.heap.size + 1 + 1, 0, none⟩ = some (.int .u8 3) ∧ w'.cell? ⟨w1.heap.size + 1 + 1, 1, none⟩ = some (.string n) ∧ w'.cell? ⟨w1.heap.size + 1 + 1, 2, none⟩ = some (.string v) ∧ w'.cell? ⟨w1.heap.size + 1 + 1 + 1, 0, none⟩ = some (.int .u8 4) ∧ w'.cell? ⟨w1.heap.size + 1 + 1 + 1, 1, none⟩ = some (.string n) ∧ w'.cell? ⟨w1.heap.size + 1 + 1 + 1, 2, none⟩ = some (.string v))) (fun W h => h.c) ?_ (by assumption); assumption)))
        ((first
          | (go_at_call_of 5 (Value.agg #[.int .u8 1, .string n, .string v]); refine (CH.out _ (keepLB (by assumption))).1.mono ?_; rintro e w' ⟨rfl, hb⟩)
          | (go_at_call_of 5 (Value.agg #[.int .u8 2, .string n, .string v]); refine (CH.out _ (keepLB (by assumption))).2.1.mono ?_; rintro e w' ⟨rfl, hb⟩)
          | (go_at_call_of 5 (Value.agg #[.int .u8 3, .string n, .string v]); refine (CH.out _ (keepLB (by assumption))).2.2.1.mono ?_; rintro e w' ⟨rfl, hb⟩)
          | (go_at_call_of 5 (Value.agg #[.int .u8 4, .string n, .string v]); refine (CH.out _ (keepLB (by assumption))).2.2.2.mono ?_; rintro e w' ⟨rfl, hb⟩)))
      rename_i hH
      have L2 := Lib.hid hH.2
      obtain ⟨k0, k1, k2, k3, k4, k5, k6, k7, k8, k9, k10, k11⟩ := hH.1
      clear HL hH
      go_wp2_with fail
      go_at_call 5
      refine (CH.out _ L2.out).1.mono ?_
      rintro e w3 ⟨rfl, hb⟩
      have L3 := Lib.hid (L2.out.next hb)
      clear hb L2 k0 k1 k2 k3 k4 k5 k6 k7 k8 k9 k10 k11
      obtain ⟨k0, k1, k2, k3, k4, k5, k6, k7, k8, k9, k10, k11⟩ := L3.out.c
      go_wp2_with fail
      go_region_held3 (fun w' => (w'.cell? ⟨w1.heap.size, 0, none⟩ = some (.int .u8 1) ∧ w'.cell? ⟨w1.heap.size, 1, none⟩ = some (.string n) ∧ w'.cell? ⟨w1.heap.size, 2, none⟩ = some (.string v) ∧ w'.cell? ⟨w1.heap.size + 1, 0, none⟩ = some (.int .u8 2) ∧ w'.cell? ⟨w1.heap.size + 1, 1, none⟩ = some (.string n) ∧ w'.cell? ⟨w1.heap.size + 1, 2, none⟩ = some (.string v) ∧ w'.cell? ⟨w1.heap.size + 1 + 1, 0, none⟩ = some (.int .u8 3) ∧ w'.cell? ⟨w1.heap.size + 1 + 1, 1, none⟩ = some (.string n) ∧ w'.cell? ⟨w1.heap.size + 1 + 1, 2, none⟩ = some (.string v) ∧ w'.cell? ⟨w1.heap.size + 1 + 1 + 1, 0, none⟩ = some (.int .u8 4) ∧ w'.cell? ⟨w1.heap.size + 1 + 1 + 1, 1, none⟩ = some (.string n) ∧ w'.cell? ⟨w1.heap.size + 1 + 1 + 1, 2, none⟩ = some (.string v)) ∧ LwB w1 w' n v) ((first | exact ⟨L3.out.drew.c, L3.out.drew⟩ | (refine keepL (A := fun w' => (w'.cell? ⟨w1.heap.size, 0, none⟩ = some (.int .u8 1) ∧ w'.cell? ⟨w1.heap.size, 1, none⟩ = some (.string n) ∧ w'.cell? ⟨w1.heap.size, 2, none⟩ = some (.string v) ∧ w'.cell? ⟨w1.heap.size + 1, 0, none⟩ = some (.int .u8 2) ∧ w'.cell? ⟨w1.heap.size + 1, 1, none⟩ = some (.string n) ∧ w'.cell? ⟨w1.heap.size + 1, 2, none⟩ = some (.string v) ∧ w'.cell? ⟨w1.heap.size + 1 + 1, 0, none⟩ = some (.int .u8 3) ∧ w'.cell? ⟨w1.heap.size + 1 + 1, 1, none⟩ = some (.string n) ∧ w'.cell? ⟨w1.heap.size + 1 + 1, 2, none⟩ = some (.string v) ∧ w'.cell? ⟨w1.heap.size + 1 + 1 + 1, 0, none⟩ = some (.int .u8 4) ∧ w'.cell? ⟨w1.heap.size + 1 + 1 + 1, 1, none⟩ = some (.string n) ∧ w'.cell? ⟨w1.heap.size + 1 + 1 + 1, 2, none⟩ = some (.string v))) (fun W h => h.c) ?_ (by assumption); assumption)))
        ((first
          | (go_at_call_of 6 (Value.agg #[.int .u8 1, .string n, .string v]); go_at_call_of 6 (Value.string s); refine (CI.out _ (keepLB (by assumption))).1.mono ?_; rintro e w' ⟨rfl, hb⟩)
          | (go_at_call_of 6 (Value.agg #[.int .u8 2, .string n, .string v]); refine (CI.out _ (keepLB (by assumption))).2.1.mono ?_; rintro e w' ⟨rfl, hb⟩)
          | (go_at_call_of 6 (Value.agg #[.int .u8 1, .string n, .string v]); refine (CI.out _ (keepLB (by assumption))).2.2.2.2.mono ?_; rintro e w' ⟨rfl, hb⟩)))
      rename_i hH
      have L4 := Lib.hid hH.2
      clear hH L3 k0 k1 k2 k3 k4 k5 k6 k7 k8 k9 k10 k11
      obtain ⟨k0, k1, k2, k3, k4, k5, k6, k7, k8, k9, k10, k11⟩ := L4.out.c
      go_wp2_with fail
      refine wp_region_held_drew (S := fun w' => (w'.cell? ⟨w1.heap.size, 0, none⟩ = some (.int .u8 1) ∧ w'.cell? ⟨w1.heap.size, 1, none⟩ = some (.string n) ∧ w'.cell? ⟨w1.heap.size, 2, none⟩ = some (.string v) ∧ w'.cell? ⟨w1.heap.size + 1, 0, none⟩ = some (.int .u8 2) ∧ w'.cell? ⟨w1.heap.size + 1, 1, none⟩ = some (.string n) ∧ w'.cell? ⟨w1.heap.size + 1, 2, none⟩ = some (.string v) ∧ w'.cell? ⟨w1.heap.size + 1 + 1, 0, none⟩ = some (.int .u8 3) ∧ w'.cell? ⟨w1.heap.size + 1 + 1, 1, none⟩ = some (.string n) ∧ w'.cell? ⟨w1.heap.size + 1 + 1, 2, none⟩ = some (.string v) ∧ w'.cell? ⟨w1.heap.size + 1 + 1 + 1, 0, none⟩ = some (.int .u8 4) ∧ w'.cell? ⟨w1.heap.size + 1 + 1 + 1, 1, none⟩ = some (.string n) ∧ w'.cell? ⟨w1.heap.size + 1 + 1 + 1, 2, none⟩ = some (.string v)) ∧ LwB w1 w' n v) (by kernel_rfl) ?_ (fun hHeld => ?_)
      · exact ⟨L4.out.drew.c, L4.out.drew⟩
      refine wpAnyH_take (i := 0) (oi := { dst := some 96, op := Op.load 24 (Operand.tmp 9), type := 24, pos := "law.go:89", after := #[], guard := none }) (v := .agg #[.int .u8 3, .string n, .string v]) rfl (by kernel_rfl) (by kernel_rfl) (by kernel_rfl) (fun _ _ _ h => h) (Or.inl ⟨by rfl, ?_⟩) (by assumption) ?_
      · intro w' hSw
        (try dsimp only at hSw)
        go_simp
      (try simp only [Act.put, List.setIfInBounds_toArray, List.set_cons_zero, List.set_cons_succ])
      refine wpAnyH_ready (rs := [1]) (by kernel_rfl) (by simp) ?_
      refine AllReadyH.cons (o := { dst := some 97, op := Op.call { callee := Callee.value (Operand.func 5), args := #[Operand.tmp 96], argTypes := #[24] }, type := 26, pos := "law.go:89", after := #[{ on := 0, ground := Ground.data }], guard := none }) rfl (fun K hK => ?_) ?_
      · go_simp
        go_at_call 5
        refine (CH.out _ (keepLB (by assumption))).2.2.1.mono ?_
        rintro e w' ⟨rfl, hb⟩
        go_wp2_with fail
        refine hK.out _ _ ?_ (fun hHeld2 => ?_)
        · exact keepL (A := fun w' => (w'.cell? ⟨w1.heap.size, 0, none⟩ = some (.int .u8 1) ∧ w'.cell? ⟨w1.heap.size, 1, none⟩ = some (.string n) ∧ w'.cell? ⟨w1.heap.size, 2, none⟩ = some (.string v) ∧ w'.cell? ⟨w1.heap.size + 1, 0, none⟩ = some (.int .u8 2) ∧ w'.cell? ⟨w1.heap.size + 1, 1, none⟩ = some (.string n) ∧ w'.cell? ⟨w1.heap.size + 1, 2, none⟩ = some (.string v) ∧ w'.cell? ⟨w1.heap.size + 1 + 1, 0, none⟩ = some (.int .u8 3) ∧ w'.cell? ⟨w1.heap.size + 1 + 1, 1, none⟩ = some (.string n) ∧ w'.cell? ⟨w1.heap.size + 1 + 1, 2, none⟩ = some (.string v) ∧ w'.cell? ⟨w1.heap.size + 1 + 1 + 1, 0, none⟩ = some (.int .u8 4) ∧ w'.cell? ⟨w1.heap.size + 1 + 1 + 1, 1, none⟩ = some (.string n) ∧ w'.cell? ⟨w1.heap.size + 1 + 1 + 1, 2, none⟩ = some (.string v))) (fun W h => h.c) hHeld hb
        clear hK K hHeld
        (try simp only [Act.put, List.setIfInBounds_toArray, List.set_cons_zero, List.set_cons_succ])
        refine wpAnyH_take (i := 2) (oi := { dst := some 98, op := Op.binOp BinOp.neq 26 (Operand.tmp 97) (Operand.const (Value.int IntKind.u16 0)) 26, type := 4, pos := "law.go:89", after := #[{ on := 1, ground := Ground.data }], guard := none }) (v := .bool true) rfl (by kernel_rfl) (by kernel_rfl) (by kernel_rfl) (fun _ _ _ h => h) (Or.inl ⟨by rfl, ?_⟩) (by assumption) ?_
        · intro w' hSw
          (try dsimp only at hSw)
          go_simp
        (try simp only [Act.put, List.setIfInBounds_toArray, List.set_cons_zero, List.set_cons_succ])
        refine wpAnyH_take (i := 3) (oi := { dst := some 99, op := Op.move (Operand.tmp 98), type := 4, pos := "law.go:89", after := #[{ on := 2, ground := Ground.data }, { on := 1, ground := Ground.chain }], guard := none }) (v := .bool true) rfl (by kernel_rfl) (by kernel_rfl) (by kernel_rfl) (fun _ _ _ h => h) (Or.inl ⟨by rfl, ?_⟩) (by assumption) ?_
        · intro w' hSw
          (try dsimp only at hSw)
          go_simp
        (try simp only [Act.put, List.setIfInBounds_toArray, List.set_cons_zero, List.set_cons_succ])
        refine wpAnyH_take (i := 4) (oi := { dst := some 100, op := Op.load 24 (Operand.tmp 9), type := 24, pos := "law.go:89", after := #[{ on := 3, ground := Ground.guard }], guard := some (3, false) }) (v := undef) rfl (by kernel_rfl) (by kernel_rfl) (by kernel_rfl) (fun _ _ _ h => h) (Or.inr ⟨by rfl, rfl⟩) (by assumption) ?_
        (try simp only [Act.put, List.setIfInBounds_toArray, List.set_cons_zero, List.set_cons_succ])
        refine wpAnyH_take (i := 5) (oi := { dst := some 101, op := Op.move (Operand.tmp 2), type := 9, pos := "law.go:89", after := #[{ on := 3, ground := Ground.guard }], guard := some (3, false) }) (v := undef) rfl (by kernel_rfl) (by kernel_rfl) (by kernel_rfl) (fun _ _ _ h => h) (Or.inr ⟨by rfl, rfl⟩) (by assumption) ?_
        (try simp only [Act.put, List.setIfInBounds_toArray, List.set_cons_zero, List.set_cons_succ])
        refine wpAnyH_take (i := 6) (oi := { dst := some 102, op := Op.call { callee := Callee.value (Operand.func 6), args := #[Operand.tmp 100, Operand.tmp 101], argTypes := #[24, 9] }, type := 4, pos := "law.go:89", after := #[{ on := 4, ground := Ground.data }, { on := 5, ground := Ground.data }, { on := 3, ground := Ground.chain }, { on := 3, ground := Ground.guard }], guard := some (3, false) }) (v := undef) rfl (by kernel_rfl) (by kernel_rfl) (by kernel_rfl) (fun _ _ _ h => h) (Or.inr ⟨by rfl, rfl⟩) (by assumption) ?_
        (try simp only [Act.put, List.setIfInBounds_toArray, List.set_cons_zero, List.set_cons_succ])
        refine wpAnyH_take (i := 7) (oi := { dst := some 103, op := Op.load 24 (Operand.tmp 10), type := 24, pos := "law.go:89", after := #[{ on := 3, ground := Ground.guard }], guard := some (3, false) }) (v := undef) rfl (by kernel_rfl) (by kernel_rfl) (by kernel_rfl) (fun _ _ _ h => h) (Or.inr ⟨by rfl, rfl⟩) (by assumption) ?_
        (try simp only [Act.put, List.setIfInBounds_toArray, List.set_cons_zero, List.set_cons_succ])
        refine wpAnyH_take (i := 8) (oi := { dst := some 104, op := Op.move (Operand.tmp 2), type := 9, pos := "law.go:89", after := #[{ on := 3, ground := Ground.guard }], guard := some (3, false) }) (v := undef) rfl (by kernel_rfl) (by kernel_rfl) (by kernel_rfl) (fun _ _ _ h => h) (Or.inr ⟨by rfl, rfl⟩) (by assumption) ?_
        (try simp only [Act.put, List.setIfInBounds_toArray, List.set_cons_zero, List.set_cons_succ])
        refine wpAnyH_take (i := 9) (oi := { dst := some 105, op := Op.call { callee := Callee.value (Operand.func 6), args := #[Operand.tmp 103, Operand.tmp 104], argTypes := #[24, 9] }, type := 4, pos := "law.go:89", after := #[{ on := 7, ground := Ground.data }, { on := 8, ground := Ground.data }, { on := 6, ground := Ground.chain }, { on := 3, ground := Ground.guard }], guard := some (3, false) }) (v := undef) rfl (by kernel_rfl) (by kernel_rfl) (by kernel_rfl) (fun _ _ _ h => h) (Or.inr ⟨by rfl, rfl⟩) (by assumption) ?_
        (try simp only [Act.put, List.setIfInBounds_toArray, List.set_cons_zero, List.set_cons_succ])
        refine wpAnyH_take (i := 10) (oi := { dst := some 106, op := Op.binOp BinOp.neq 4 (Operand.tmp 102) (Operand.tmp 105) 4, type := 4, pos := "law.go:89", after := #[{ on := 6, ground := Ground.data }, { on := 9, ground := Ground.data }, { on := 3, ground := Ground.guard }], guard := some (3, false) }) (v := undef) rfl (by kernel_rfl) (by kernel_rfl) (by kernel_rfl) (fun _ _ _ h => h) (Or.inr ⟨by rfl, rfl⟩) (by assumption) ?_
        (try simp only [Act.put, List.setIfInBounds_toArray, List.set_cons_zero, List.set_cons_succ])
        refine wpAnyH_take (i := 11) (oi := { dst := some 107, op := Op.pick (Operand.tmp 99) (Operand.const (Value.bool true)) (Operand.tmp 106), type := 4, pos := "law.go:89", after := #[{ on := 3, ground := Ground.data }, { on := 10, ground := Ground.data }], guard := none }) (v := .bool true) rfl (by kernel_rfl) (by kernel_rfl) (by kernel_rfl) (fun _ _ _ h => h) (Or.inl ⟨by rfl, ?_⟩) (by assumption) ?_
        · intro w' hSw
          (try dsimp only at hSw)
          go_simp
        (try simp only [Act.put, List.setIfInBounds_toArray, List.set_cons_zero, List.set_cons_succ])
        refine wpAnyH_take (i := 12) (oi := { dst := some 13, op := Op.assign (Operand.tmp 107), type := 4, pos := "law.go:89", after := #[{ on := 11, ground := Ground.data }, { on := 9, ground := Ground.chain }, { on := 0, ground := Ground.phase }, { on := 1, ground := Ground.phase }, { on := 2, ground := Ground.phase }, { on := 3, ground := Ground.phase }, { on := 4, ground := Ground.phase }, { on := 5, ground := Ground.phase }, { on := 6, ground := Ground.phase }, { on := 7, ground := Ground.phase }, { on := 8, ground := Ground.phase }, { on := 9, ground := Ground.phase }, { on := 10, ground := Ground.phase }, { on := 11, ground := Ground.phase }], guard := none }) (v := .bool true) rfl (by kernel_rfl) (by kernel_rfl) (by kernel_rfl) (fun _ _ _ h => h) (Or.inl ⟨by rfl, ?_⟩) (by assumption) ?_
        · intro w' hSw
          (try dsimp only at hSw)
          go_simp
        (try simp only [Act.put, List.setIfInBounds_toArray, List.set_cons_zero, List.set_cons_succ])
        refine wpAnyH_done (by kernel_rfl) ?_ _
        have L5 := Lib.hid hHeld2.2
        clear hHeld2 L4 k0 k1 k2 k3 k4 k5 k6 k7 k8 k9 k10 k11
        go_wp2
        go_ret
        exact ⟨rfl, HW1.out.trans (L5.out.b.mono HW1.out.size)⟩
      · exact AllReadyH.nil)
    · cases b
      all_goals (
      have HB1 : Hid (∀ w1, Below w.heap.size w w1 → LwB w1 (lay4 w1 n v) n v) := Lib.hid fun w1 _ => lwb0 w1 n v (B := 0) (w0 := w1)
      go_enter Tryd.func3, Tryd.ntmps3
      go_wp2_with fail
      go_at_call 4
      refine CK.out.mono ?_
      rintro e w1 ⟨rfl, hb⟩
      have HW1 := Lib.hid hb
      have HL := Lib.hid (HB1.out w1 hb)
      have CH := Lib.hid (HCHK.out w1 hb)
      have CI := Lib.hid (HIS.out w1 hb)
      unfold mV at CH CI
      unfold lay4 at HL
      clear hb HB1 CK HCHK HIS a1 a2 a3 b1 b2 b3 c1 c2 c3
      have hc := HL.out.c
      obtain ⟨k0, k1, k2, k3, k4, k5, k6, k7, k8, k9, k10, k11⟩ := hc
      go_wp2_with fail
      go_region_held3 (fun w' => (w'.cell? ⟨w1.heap.size, 0, none⟩ = some (.int .u8 1) ∧ w'.cell? ⟨w1.heap.size, 1, none⟩ = some (.string n) ∧ w'.cell? ⟨w1.heap.size, 2, none⟩ = some (.string v) ∧ w'.cell? ⟨w1.heap.size + 1, 0, none⟩ = some (.int .u8 2) ∧ w'.cell? ⟨w1.heap.size + 1, 1, none⟩ = some (.string n) ∧ w'.cell? ⟨w1.heap.size + 1, 2, none⟩ = some (.string v) ∧ w'.cell? ⟨w1.heap.size + 1 + 1, 0, none⟩ = some (.int .u8 3) ∧ w'.cell? ⟨w1.heap.size + 1 + 1, 1, none⟩ = some (.string n) ∧ w'.cell? ⟨w1.heap.size + 1 + 1, 2, none⟩ = some (.string v) ∧ w'.cell? ⟨w1.heap.size + 1 + 1 + 1, 0, none⟩ = some (.int .u8 4) ∧ w'.cell? ⟨w1.heap.size + 1 + 1 + 1, 1, none⟩ = some (.string n) ∧ w'.cell? ⟨w1.heap.size + 1 + 1 + 1, 2, none⟩ = some (.string v)) ∧ LwB w1 w' n v) ((first | exact ⟨HL.out.drew.c, HL.out.drew⟩ | (refine keepL (A := fun w' => (w'.cell? ⟨w1.heap.size, 0, none⟩ = some (.int .u8 1) ∧ w'.cell? ⟨w1.heap.size, 1, none⟩ = some (.string n) ∧ w'.cell? ⟨w1.heap.size, 2, none⟩ = some (.string v) ∧ w'.cell? ⟨w1.heap.size + 1, 0, none⟩ = some (.int .u8 2) ∧ w'.cell? ⟨w1.heap.size + 1, 1, none⟩ = some (.string n) ∧ w'.cell? ⟨w1.heap.size + 1, 2, none⟩ = some (.string v) ∧ w'.cell? ⟨w1.heap.size + 1 + 1, 0, none⟩ = some (.int .u8 3) ∧ w'.cell? ⟨w1.heap.size + 1 + 1, 1, none⟩ = some (.string n) ∧ w'.cell? ⟨w1.heap.size + 1 + 1, 2, none⟩ = some (.string v) ∧ w'.cell? ⟨w1.heap.size + 1 + 1 + 1, 0, none⟩ = some (.int .u8 4) ∧ w'.cell? ⟨w1.heap.size + 1 + 1 + 1, 1, none⟩ = some (.string n) ∧ w'.cell? ⟨w1.heap.size + 1 + 1 + 1, 2, none⟩ = some (.string v))) (fun W h => h.c) ?_ (by assumption); assumption)))
        ((first
          | (go_at_call_of 5 (Value.agg #[.int .u8 1, .string n, .string v]); refine (CH.out _ (keepLB (by assumption))).1.mono ?_; rintro e w' ⟨rfl, hb⟩)
          | (go_at_call_of 5 (Value.agg #[.int .u8 2, .string n, .string v]); refine (CH.out _ (keepLB (by assumption))).2.1.mono ?_; rintro e w' ⟨rfl, hb⟩)
          | (go_at_call_of 5 (Value.agg #[.int .u8 3, .string n, .string v]); refine (CH.out _ (keepLB (by assumption))).2.2.1.mono ?_; rintro e w' ⟨rfl, hb⟩)
          | (go_at_call_of 5 (Value.agg #[.int .u8 4, .string n, .string v]); refine (CH.out _ (keepLB (by assumption))).2.2.2.mono ?_; rintro e w' ⟨rfl, hb⟩)))
      rename_i hH
      have L2 := Lib.hid hH.2
      obtain ⟨k0, k1, k2, k3, k4, k5, k6, k7, k8, k9, k10, k11⟩ := hH.1
      clear HL hH
      go_wp2_with fail
      go_at_call 5
      refine (CH.out _ L2.out).1.mono ?_
      rintro e w3 ⟨rfl, hb⟩
      have L3 := Lib.hid (L2.out.next hb)
      clear hb L2 k0 k1 k2 k3 k4 k5 k6 k7 k8 k9 k10 k11
      obtain ⟨k0, k1, k2, k3, k4, k5, k6, k7, k8, k9, k10, k11⟩ := L3.out.c
      go_wp2_with fail
      go_region_held3 (fun w' => (w'.cell? ⟨w1.heap.size, 0, none⟩ = some (.int .u8 1) ∧ w'.cell? ⟨w1.heap.size, 1, none⟩ = some (.string n) ∧ w'.cell? ⟨w1.heap.size, 2, none⟩ = some (.string v) ∧ w'.cell? ⟨w1.heap.size + 1, 0, none⟩ = some (.int .u8 2) ∧ w'.cell? ⟨w1.heap.size + 1, 1, none⟩ = some (.string n) ∧ w'.cell? ⟨w1.heap.size + 1, 2, none⟩ = some (.string v) ∧ w'.cell? ⟨w1.heap.size + 1 + 1, 0, none⟩ = some (.int .u8 3) ∧ w'.cell? ⟨w1.heap.size + 1 + 1, 1, none⟩ = some (.string n) ∧ w'.cell? ⟨w1.heap.size + 1 + 1, 2, none⟩ = some (.string v) ∧ w'.cell? ⟨w1.heap.size + 1 + 1 + 1, 0, none⟩ = some (.int .u8 4) ∧ w'.cell? ⟨w1.heap.size + 1 + 1 + 1, 1, none⟩ = some (.string n) ∧ w'.cell? ⟨w1.heap.size + 1 + 1 + 1, 2, none⟩ = some (.string v)) ∧ LwB w1 w' n v) ((first | exact ⟨L3.out.drew.c, L3.out.drew⟩ | (refine keepL (A := fun w' => (w'.cell? ⟨w1.heap.size, 0, none⟩ = some (.int .u8 1) ∧ w'.cell? ⟨w1.heap.size, 1, none⟩ = some (.string n) ∧ w'.cell? ⟨w1.heap.size, 2, none⟩ = some (.string v) ∧ w'.cell? ⟨w1.heap.size + 1, 0, none⟩ = some (.int .u8 2) ∧ w'.cell? ⟨w1.heap.size + 1, 1, none⟩ = some (.string n) ∧ w'.cell? ⟨w1.heap.size + 1, 2, none⟩ = some (.string v) ∧ w'.cell? ⟨w1.heap.size + 1 + 1, 0, none⟩ = some (.int .u8 3) ∧ w'.cell? ⟨w1.heap.size + 1 + 1, 1, none⟩ = some (.string n) ∧ w'.cell? ⟨w1.heap.size + 1 + 1, 2, none⟩ = some (.string v) ∧ w'.cell? ⟨w1.heap.size + 1 + 1 + 1, 0, none⟩ = some (.int .u8 4) ∧ w'.cell? ⟨w1.heap.size + 1 + 1 + 1, 1, none⟩ = some (.string n) ∧ w'.cell? ⟨w1.heap.size + 1 + 1 + 1, 2, none⟩ = some (.string v))) (fun W h => h.c) ?_ (by assumption); assumption)))
        ((first
          | (go_at_call_of 6 (Value.agg #[.int .u8 1, .string n, .string v]); go_at_call_of 6 (Value.string s); refine (CI.out _ (keepLB (by assumption))).1.mono ?_; rintro e w' ⟨rfl, hb⟩)
          | (go_at_call_of 6 (Value.agg #[.int .u8 2, .string n, .string v]); refine (CI.out _ (keepLB (by assumption))).2.1.mono ?_; rintro e w' ⟨rfl, hb⟩)
          | (go_at_call_of 6 (Value.agg #[.int .u8 1, .string n, .string v]); refine (CI.out _ (keepLB (by assumption))).2.2.2.2.mono ?_; rintro e w' ⟨rfl, hb⟩)))
      rename_i hH
      have L4 := Lib.hid hH.2
      clear hH L3 k0 k1 k2 k3 k4 k5 k6 k7 k8 k9 k10 k11
      obtain ⟨k0, k1, k2, k3, k4, k5, k6, k7, k8, k9, k10, k11⟩ := L4.out.c
      go_wp2_with fail
      refine wp_region_held_drew (S := fun w' => (w'.cell? ⟨w1.heap.size, 0, none⟩ = some (.int .u8 1) ∧ w'.cell? ⟨w1.heap.size, 1, none⟩ = some (.string n) ∧ w'.cell? ⟨w1.heap.size, 2, none⟩ = some (.string v) ∧ w'.cell? ⟨w1.heap.size + 1, 0, none⟩ = some (.int .u8 2) ∧ w'.cell? ⟨w1.heap.size + 1, 1, none⟩ = some (.string n) ∧ w'.cell? ⟨w1.heap.size + 1, 2, none⟩ = some (.string v) ∧ w'.cell? ⟨w1.heap.size + 1 + 1, 0, none⟩ = some (.int .u8 3) ∧ w'.cell? ⟨w1.heap.size + 1 + 1, 1, none⟩ = some (.string n) ∧ w'.cell? ⟨w1.heap.size + 1 + 1, 2, none⟩ = some (.string v) ∧ w'.cell? ⟨w1.heap.size + 1 + 1 + 1, 0, none⟩ = some (.int .u8 4) ∧ w'.cell? ⟨w1.heap.size + 1 + 1 + 1, 1, none⟩ = some (.string n) ∧ w'.cell? ⟨w1.heap.size + 1 + 1 + 1, 2, none⟩ = some (.string v)) ∧ LwB w1 w' n v) (by kernel_rfl) ?_ (fun hHeld => ?_)
      · exact ⟨L4.out.drew.c, L4.out.drew⟩
      refine wpAnyH_take (i := 0) (oi := { dst := some 96, op := Op.load 24 (Operand.tmp 9), type := 24, pos := "law.go:89", after := #[], guard := none }) (v := .agg #[.int .u8 3, .string n, .string v]) rfl (by kernel_rfl) (by kernel_rfl) (by kernel_rfl) (fun _ _ _ h => h) (Or.inl ⟨by rfl, ?_⟩) (by assumption) ?_
      · intro w' hSw
        (try dsimp only at hSw)
        go_simp
      (try simp only [Act.put, List.setIfInBounds_toArray, List.set_cons_zero, List.set_cons_succ])
      refine wpAnyH_ready (rs := [1]) (by kernel_rfl) (by simp) ?_
      refine AllReadyH.cons (o := { dst := some 97, op := Op.call { callee := Callee.value (Operand.func 5), args := #[Operand.tmp 96], argTypes := #[24] }, type := 26, pos := "law.go:89", after := #[{ on := 0, ground := Ground.data }], guard := none }) rfl (fun K hK => ?_) ?_
      · go_simp
        go_at_call 5
        refine (CH.out _ (keepLB (by assumption))).2.2.1.mono ?_
        rintro e w' ⟨rfl, hb⟩
        go_wp2_with fail
        refine hK.out _ _ ?_ (fun hHeld2 => ?_)
        · exact keepL (A := fun w' => (w'.cell? ⟨w1.heap.size, 0, none⟩ = some (.int .u8 1) ∧ w'.cell? ⟨w1.heap.size, 1, none⟩ = some (.string n) ∧ w'.cell? ⟨w1.heap.size, 2, none⟩ = some (.string v) ∧ w'.cell? ⟨w1.heap.size + 1, 0, none⟩ = some (.int .u8 2) ∧ w'.cell? ⟨w1.heap.size + 1, 1, none⟩ = some (.string n) ∧ w'.cell? ⟨w1.heap.size + 1, 2, none⟩ = some (.string v) ∧ w'.cell? ⟨w1.heap.size + 1 + 1, 0, none⟩ = some (.int .u8 3) ∧ w'.cell? ⟨w1.heap.size + 1 + 1, 1, none⟩ = some (.string n) ∧ w'.cell? ⟨w1.heap.size + 1 + 1, 2, none⟩ = some (.string v) ∧ w'.cell? ⟨w1.heap.size + 1 + 1 + 1, 0, none⟩ = some (.int .u8 4) ∧ w'.cell? ⟨w1.heap.size + 1 + 1 + 1, 1, none⟩ = some (.string n) ∧ w'.cell? ⟨w1.heap.size + 1 + 1 + 1, 2, none⟩ = some (.string v))) (fun W h => h.c) hHeld hb
        clear hK K hHeld
        (try simp only [Act.put, List.setIfInBounds_toArray, List.set_cons_zero, List.set_cons_succ])
        refine wpAnyH_take (i := 2) (oi := { dst := some 98, op := Op.binOp BinOp.neq 26 (Operand.tmp 97) (Operand.const (Value.int IntKind.u16 0)) 26, type := 4, pos := "law.go:89", after := #[{ on := 1, ground := Ground.data }], guard := none }) (v := .bool true) rfl (by kernel_rfl) (by kernel_rfl) (by kernel_rfl) (fun _ _ _ h => h) (Or.inl ⟨by rfl, ?_⟩) (by assumption) ?_
        · intro w' hSw
          (try dsimp only at hSw)
          go_simp
        (try simp only [Act.put, List.setIfInBounds_toArray, List.set_cons_zero, List.set_cons_succ])
        refine wpAnyH_take (i := 3) (oi := { dst := some 99, op := Op.move (Operand.tmp 98), type := 4, pos := "law.go:89", after := #[{ on := 2, ground := Ground.data }, { on := 1, ground := Ground.chain }], guard := none }) (v := .bool true) rfl (by kernel_rfl) (by kernel_rfl) (by kernel_rfl) (fun _ _ _ h => h) (Or.inl ⟨by rfl, ?_⟩) (by assumption) ?_
        · intro w' hSw
          (try dsimp only at hSw)
          go_simp
        (try simp only [Act.put, List.setIfInBounds_toArray, List.set_cons_zero, List.set_cons_succ])
        refine wpAnyH_take (i := 4) (oi := { dst := some 100, op := Op.load 24 (Operand.tmp 9), type := 24, pos := "law.go:89", after := #[{ on := 3, ground := Ground.guard }], guard := some (3, false) }) (v := undef) rfl (by kernel_rfl) (by kernel_rfl) (by kernel_rfl) (fun _ _ _ h => h) (Or.inr ⟨by rfl, rfl⟩) (by assumption) ?_
        (try simp only [Act.put, List.setIfInBounds_toArray, List.set_cons_zero, List.set_cons_succ])
        refine wpAnyH_take (i := 5) (oi := { dst := some 101, op := Op.move (Operand.tmp 2), type := 9, pos := "law.go:89", after := #[{ on := 3, ground := Ground.guard }], guard := some (3, false) }) (v := undef) rfl (by kernel_rfl) (by kernel_rfl) (by kernel_rfl) (fun _ _ _ h => h) (Or.inr ⟨by rfl, rfl⟩) (by assumption) ?_
        (try simp only [Act.put, List.setIfInBounds_toArray, List.set_cons_zero, List.set_cons_succ])
        refine wpAnyH_take (i := 6) (oi := { dst := some 102, op := Op.call { callee := Callee.value (Operand.func 6), args := #[Operand.tmp 100, Operand.tmp 101], argTypes := #[24, 9] }, type := 4, pos := "law.go:89", after := #[{ on := 4, ground := Ground.data }, { on := 5, ground := Ground.data }, { on := 3, ground := Ground.chain }, { on := 3, ground := Ground.guard }], guard := some (3, false) }) (v := undef) rfl (by kernel_rfl) (by kernel_rfl) (by kernel_rfl) (fun _ _ _ h => h) (Or.inr ⟨by rfl, rfl⟩) (by assumption) ?_
        (try simp only [Act.put, List.setIfInBounds_toArray, List.set_cons_zero, List.set_cons_succ])
        refine wpAnyH_take (i := 7) (oi := { dst := some 103, op := Op.load 24 (Operand.tmp 10), type := 24, pos := "law.go:89", after := #[{ on := 3, ground := Ground.guard }], guard := some (3, false) }) (v := undef) rfl (by kernel_rfl) (by kernel_rfl) (by kernel_rfl) (fun _ _ _ h => h) (Or.inr ⟨by rfl, rfl⟩) (by assumption) ?_
        (try simp only [Act.put, List.setIfInBounds_toArray, List.set_cons_zero, List.set_cons_succ])
        refine wpAnyH_take (i := 8) (oi := { dst := some 104, op := Op.move (Operand.tmp 2), type := 9, pos := "law.go:89", after := #[{ on := 3, ground := Ground.guard }], guard := some (3, false) }) (v := undef) rfl (by kernel_rfl) (by kernel_rfl) (by kernel_rfl) (fun _ _ _ h => h) (Or.inr ⟨by rfl, rfl⟩) (by assumption) ?_
        (try simp only [Act.put, List.setIfInBounds_toArray, List.set_cons_zero, List.set_cons_succ])
        refine wpAnyH_take (i := 9) (oi := { dst := some 105, op := Op.call { callee := Callee.value (Operand.func 6), args := #[Operand.tmp 103, Operand.tmp 104], argTypes := #[24, 9] }, type := 4, pos := "law.go:89", after := #[{ on := 7, ground := Ground.data }, { on := 8, ground := Ground.data }, { on := 6, ground := Ground.chain }, { on := 3, ground := Ground.guard }], guard := some (3, false) }) (v := undef) rfl (by kernel_rfl) (by kernel_rfl) (by kernel_rfl) (fun _ _ _ h => h) (Or.inr ⟨by rfl, rfl⟩) (by assumption) ?_
        (try simp only [Act.put, List.setIfInBounds_toArray, List.set_cons_zero, List.set_cons_succ])
        refine wpAnyH_take (i := 10) (oi := { dst := some 106, op := Op.binOp BinOp.neq 4 (Operand.tmp 102) (Operand.tmp 105) 4, type := 4, pos := "law.go:89", after := #[{ on := 6, ground := Ground.data }, { on := 9, ground := Ground.data }, { on := 3, ground := Ground.guard }], guard := some (3, false) }) (v := undef) rfl (by kernel_rfl) (by kernel_rfl) (by kernel_rfl) (fun _ _ _ h => h) (Or.inr ⟨by rfl, rfl⟩) (by assumption) ?_
        (try simp only [Act.put, List.setIfInBounds_toArray, List.set_cons_zero, List.set_cons_succ])
        refine wpAnyH_take (i := 11) (oi := { dst := some 107, op := Op.pick (Operand.tmp 99) (Operand.const (Value.bool true)) (Operand.tmp 106), type := 4, pos := "law.go:89", after := #[{ on := 3, ground := Ground.data }, { on := 10, ground := Ground.data }], guard := none }) (v := .bool true) rfl (by kernel_rfl) (by kernel_rfl) (by kernel_rfl) (fun _ _ _ h => h) (Or.inl ⟨by rfl, ?_⟩) (by assumption) ?_
        · intro w' hSw
          (try dsimp only at hSw)
          go_simp
        (try simp only [Act.put, List.setIfInBounds_toArray, List.set_cons_zero, List.set_cons_succ])
        refine wpAnyH_take (i := 12) (oi := { dst := some 13, op := Op.assign (Operand.tmp 107), type := 4, pos := "law.go:89", after := #[{ on := 11, ground := Ground.data }, { on := 9, ground := Ground.chain }, { on := 0, ground := Ground.phase }, { on := 1, ground := Ground.phase }, { on := 2, ground := Ground.phase }, { on := 3, ground := Ground.phase }, { on := 4, ground := Ground.phase }, { on := 5, ground := Ground.phase }, { on := 6, ground := Ground.phase }, { on := 7, ground := Ground.phase }, { on := 8, ground := Ground.phase }, { on := 9, ground := Ground.phase }, { on := 10, ground := Ground.phase }, { on := 11, ground := Ground.phase }], guard := none }) (v := .bool true) rfl (by kernel_rfl) (by kernel_rfl) (by kernel_rfl) (fun _ _ _ h => h) (Or.inl ⟨by rfl, ?_⟩) (by assumption) ?_
        · intro w' hSw
          (try dsimp only at hSw)
          go_simp
        (try simp only [Act.put, List.setIfInBounds_toArray, List.set_cons_zero, List.set_cons_succ])
        refine wpAnyH_done (by kernel_rfl) ?_ _
        have L5 := Lib.hid hHeld2.2
        clear hHeld2 L4 k0 k1 k2 k3 k4 k5 k6 k7 k8 k9 k10 k11
        go_wp2
        go_ret
        exact ⟨rfl, HW1.out.trans (L5.out.b.mono HW1.out.size)⟩
      · exact AllReadyH.nil)
    · cases b
      all_goals (
      have HB1 : Hid (∀ w1, Below w.heap.size w w1 → LwB w1 (lay4 w1 n v) n v) := Lib.hid fun w1 _ => lwb0 w1 n v (B := 0) (w0 := w1)
      go_enter Tryd.func3, Tryd.ntmps3
      go_wp2_with fail
      go_at_call 4
      refine CK.out.mono ?_
      rintro e w1 ⟨rfl, hb⟩
      have HW1 := Lib.hid hb
      have HL := Lib.hid (HB1.out w1 hb)
      have CH := Lib.hid (HCHK.out w1 hb)
      have CI := Lib.hid (HIS.out w1 hb)
      unfold mV at CH CI
      unfold lay4 at HL
      clear hb HB1 CK HCHK HIS a1 a2 a3 b1 b2 b3 c1 c2 c3
      have hc := HL.out.c
      obtain ⟨k0, k1, k2, k3, k4, k5, k6, k7, k8, k9, k10, k11⟩ := hc
      go_wp2_with fail
      go_region_held3 (fun w' => (w'.cell? ⟨w1.heap.size, 0, none⟩ = some (.int .u8 1) ∧ w'.cell? ⟨w1.heap.size, 1, none⟩ = some (.string n) ∧ w'.cell? ⟨w1.heap.size, 2, none⟩ = some (.string v) ∧ w'.cell? ⟨w1.heap.size + 1, 0, none⟩ = some (.int .u8 2) ∧ w'.cell? ⟨w1.heap.size + 1, 1, none⟩ = some (.string n) ∧ w'.cell? ⟨w1.heap.size + 1, 2, none⟩ = some (.string v) ∧ w'.cell? ⟨w1.heap.size + 1 + 1, 0, none⟩ = some (.int .u8 3) ∧ w'.cell? ⟨w1.heap.size + 1 + 1, 1, none⟩ = some (.string n) ∧ w'.cell? ⟨w1.heap.size + 1 + 1, 2, none⟩ = some (.string v) ∧ w'.cell? ⟨w1.heap.size + 1 + 1 + 1, 0, none⟩ = some (.int .u8 4) ∧ w'.cell? ⟨w1.heap.size + 1 + 1 + 1, 1, none⟩ = some (.string n) ∧ w'.cell? ⟨w1.heap.size + 1 + 1 + 1, 2, none⟩ = some (.string v)) ∧ LwB w1 w' n v) ((first | exact ⟨HL.out.drew.c, HL.out.drew⟩ | (refine keepL (A := fun w' => (w'.cell? ⟨w1.heap.size, 0, none⟩ = some (.int .u8 1) ∧ w'.cell? ⟨w1.heap.size, 1, none⟩ = some (.string n) ∧ w'.cell? ⟨w1.heap.size, 2, none⟩ = some (.string v) ∧ w'.cell? ⟨w1.heap.size + 1, 0, none⟩ = some (.int .u8 2) ∧ w'.cell? ⟨w1.heap.size + 1, 1, none⟩ = some (.string n) ∧ w'.cell? ⟨w1.heap.size + 1, 2, none⟩ = some (.string v) ∧ w'.cell? ⟨w1.heap.size + 1 + 1, 0, none⟩ = some (.int .u8 3) ∧ w'.cell? ⟨w1.heap.size + 1 + 1, 1, none⟩ = some (.string n) ∧ w'.cell? ⟨w1.heap.size + 1 + 1, 2, none⟩ = some (.string v) ∧ w'.cell? ⟨w1.heap.size + 1 + 1 + 1, 0, none⟩ = some (.int .u8 4) ∧ w'.cell? ⟨w1.heap.size + 1 + 1 + 1, 1, none⟩ = some (.string n) ∧ w'.cell? ⟨w1.heap.size + 1 + 1 + 1, 2, none⟩ = some (.string v))) (fun W h => h.c) ?_ (by assumption); assumption)))
        ((first
          | (go_at_call_of 5 (Value.agg #[.int .u8 1, .string n, .string v]); refine (CH.out _ (keepLB (by assumption))).1.mono ?_; rintro e w' ⟨rfl, hb⟩)
          | (go_at_call_of 5 (Value.agg #[.int .u8 2, .string n, .string v]); refine (CH.out _ (keepLB (by assumption))).2.1.mono ?_; rintro e w' ⟨rfl, hb⟩)
          | (go_at_call_of 5 (Value.agg #[.int .u8 3, .string n, .string v]); refine (CH.out _ (keepLB (by assumption))).2.2.1.mono ?_; rintro e w' ⟨rfl, hb⟩)
          | (go_at_call_of 5 (Value.agg #[.int .u8 4, .string n, .string v]); refine (CH.out _ (keepLB (by assumption))).2.2.2.mono ?_; rintro e w' ⟨rfl, hb⟩)))
      rename_i hH
      have L2 := Lib.hid hH.2
      obtain ⟨k0, k1, k2, k3, k4, k5, k6, k7, k8, k9, k10, k11⟩ := hH.1
      clear HL hH
      go_wp2_with fail
      go_at_call 5
      refine (CH.out _ L2.out).1.mono ?_
      rintro e w3 ⟨rfl, hb⟩
      have L3 := Lib.hid (L2.out.next hb)
      clear hb L2 k0 k1 k2 k3 k4 k5 k6 k7 k8 k9 k10 k11
      obtain ⟨k0, k1, k2, k3, k4, k5, k6, k7, k8, k9, k10, k11⟩ := L3.out.c
      go_wp2_with fail
      go_region_held3 (fun w' => (w'.cell? ⟨w1.heap.size, 0, none⟩ = some (.int .u8 1) ∧ w'.cell? ⟨w1.heap.size, 1, none⟩ = some (.string n) ∧ w'.cell? ⟨w1.heap.size, 2, none⟩ = some (.string v) ∧ w'.cell? ⟨w1.heap.size + 1, 0, none⟩ = some (.int .u8 2) ∧ w'.cell? ⟨w1.heap.size + 1, 1, none⟩ = some (.string n) ∧ w'.cell? ⟨w1.heap.size + 1, 2, none⟩ = some (.string v) ∧ w'.cell? ⟨w1.heap.size + 1 + 1, 0, none⟩ = some (.int .u8 3) ∧ w'.cell? ⟨w1.heap.size + 1 + 1, 1, none⟩ = some (.string n) ∧ w'.cell? ⟨w1.heap.size + 1 + 1, 2, none⟩ = some (.string v) ∧ w'.cell? ⟨w1.heap.size + 1 + 1 + 1, 0, none⟩ = some (.int .u8 4) ∧ w'.cell? ⟨w1.heap.size + 1 + 1 + 1, 1, none⟩ = some (.string n) ∧ w'.cell? ⟨w1.heap.size + 1 + 1 + 1, 2, none⟩ = some (.string v)) ∧ LwB w1 w' n v) ((first | exact ⟨L3.out.drew.c, L3.out.drew⟩ | (refine keepL (A := fun w' => (w'.cell? ⟨w1.heap.size, 0, none⟩ = some (.int .u8 1) ∧ w'.cell? ⟨w1.heap.size, 1, none⟩ = some (.string n) ∧ w'.cell? ⟨w1.heap.size, 2, none⟩ = some (.string v) ∧ w'.cell? ⟨w1.heap.size + 1, 0, none⟩ = some (.int .u8 2) ∧ w'.cell? ⟨w1.heap.size + 1, 1, none⟩ = some (.string n) ∧ w'.cell? ⟨w1.heap.size + 1, 2, none⟩ = some (.string v) ∧ w'.cell? ⟨w1.heap.size + 1 + 1, 0, none⟩ = some (.int .u8 3) ∧ w'.cell? ⟨w1.heap.size + 1 + 1, 1, none⟩ = some (.string n) ∧ w'.cell? ⟨w1.heap.size + 1 + 1, 2, none⟩ = some (.string v) ∧ w'.cell? ⟨w1.heap.size + 1 + 1 + 1, 0, none⟩ = some (.int .u8 4) ∧ w'.cell? ⟨w1.heap.size + 1 + 1 + 1, 1, none⟩ = some (.string n) ∧ w'.cell? ⟨w1.heap.size + 1 + 1 + 1, 2, none⟩ = some (.string v))) (fun W h => h.c) ?_ (by assumption); assumption)))
        ((first
          | (go_at_call_of 6 (Value.agg #[.int .u8 1, .string n, .string v]); go_at_call_of 6 (Value.string s); refine (CI.out _ (keepLB (by assumption))).1.mono ?_; rintro e w' ⟨rfl, hb⟩)
          | (go_at_call_of 6 (Value.agg #[.int .u8 2, .string n, .string v]); refine (CI.out _ (keepLB (by assumption))).2.1.mono ?_; rintro e w' ⟨rfl, hb⟩)
          | (go_at_call_of 6 (Value.agg #[.int .u8 1, .string n, .string v]); refine (CI.out _ (keepLB (by assumption))).2.2.2.2.mono ?_; rintro e w' ⟨rfl, hb⟩)))
      rename_i hH
      have L4 := Lib.hid hH.2
      clear hH L3 k0 k1 k2 k3 k4 k5 k6 k7 k8 k9 k10 k11
      obtain ⟨k0, k1, k2, k3, k4, k5, k6, k7, k8, k9, k10, k11⟩ := L4.out.c
      go_wp2_with fail
      refine wp_region_held_drew (S := fun w' => (w'.cell? ⟨w1.heap.size, 0, none⟩ = some (.int .u8 1) ∧ w'.cell? ⟨w1.heap.size, 1, none⟩ = some (.string n) ∧ w'.cell? ⟨w1.heap.size, 2, none⟩ = some (.string v) ∧ w'.cell? ⟨w1.heap.size + 1, 0, none⟩ = some (.int .u8 2) ∧ w'.cell? ⟨w1.heap.size + 1, 1, none⟩ = some (.string n) ∧ w'.cell? ⟨w1.heap.size + 1, 2, none⟩ = some (.string v) ∧ w'.cell? ⟨w1.heap.size + 1 + 1, 0, none⟩ = some (.int .u8 3) ∧ w'.cell? ⟨w1.heap.size + 1 + 1, 1, none⟩ = some (.string n) ∧ w'.cell? ⟨w1.heap.size + 1 + 1, 2, none⟩ = some (.string v) ∧ w'.cell? ⟨w1.heap.size + 1 + 1 + 1, 0, none⟩ = some (.int .u8 4) ∧ w'.cell? ⟨w1.heap.size + 1 + 1 + 1, 1, none⟩ = some (.string n) ∧ w'.cell? ⟨w1.heap.size + 1 + 1 + 1, 2, none⟩ = some (.string v)) ∧ LwB w1 w' n v) (by kernel_rfl) ?_ (fun hHeld => ?_)
      · exact ⟨L4.out.drew.c, L4.out.drew⟩
      refine wpAnyH_take (i := 0) (oi := { dst := some 96, op := Op.load 24 (Operand.tmp 9), type := 24, pos := "law.go:89", after := #[], guard := none }) (v := .agg #[.int .u8 3, .string n, .string v]) rfl (by kernel_rfl) (by kernel_rfl) (by kernel_rfl) (fun _ _ _ h => h) (Or.inl ⟨by rfl, ?_⟩) (by assumption) ?_
      · intro w' hSw
        (try dsimp only at hSw)
        go_simp
      (try simp only [Act.put, List.setIfInBounds_toArray, List.set_cons_zero, List.set_cons_succ])
      refine wpAnyH_ready (rs := [1]) (by kernel_rfl) (by simp) ?_
      refine AllReadyH.cons (o := { dst := some 97, op := Op.call { callee := Callee.value (Operand.func 5), args := #[Operand.tmp 96], argTypes := #[24] }, type := 26, pos := "law.go:89", after := #[{ on := 0, ground := Ground.data }], guard := none }) rfl (fun K hK => ?_) ?_
      · go_simp
        go_at_call 5
        refine (CH.out _ (keepLB (by assumption))).2.2.1.mono ?_
        rintro e w' ⟨rfl, hb⟩
        go_wp2_with fail
        refine hK.out _ _ ?_ (fun hHeld2 => ?_)
        · exact keepL (A := fun w' => (w'.cell? ⟨w1.heap.size, 0, none⟩ = some (.int .u8 1) ∧ w'.cell? ⟨w1.heap.size, 1, none⟩ = some (.string n) ∧ w'.cell? ⟨w1.heap.size, 2, none⟩ = some (.string v) ∧ w'.cell? ⟨w1.heap.size + 1, 0, none⟩ = some (.int .u8 2) ∧ w'.cell? ⟨w1.heap.size + 1, 1, none⟩ = some (.string n) ∧ w'.cell? ⟨w1.heap.size + 1, 2, none⟩ = some (.string v) ∧ w'.cell? ⟨w1.heap.size + 1 + 1, 0, none⟩ = some (.int .u8 3) ∧ w'.cell? ⟨w1.heap.size + 1 + 1, 1, none⟩ = some (.string n) ∧ w'.cell? ⟨w1.heap.size + 1 + 1, 2, none⟩ = some (.string v) ∧ w'.cell? ⟨w1.heap.size + 1 + 1 + 1, 0, none⟩ = some (.int .u8 4) ∧ w'.cell? ⟨w1.heap.size + 1 + 1 + 1, 1, none⟩ = some (.string n) ∧ w'.cell? ⟨w1.heap.size + 1 + 1 + 1, 2, none⟩ = some (.string v))) (fun W h => h.c) hHeld hb
        clear hK K hHeld
        (try simp only [Act.put, List.setIfInBounds_toArray, List.set_cons_zero, List.set_cons_succ])
        refine wpAnyH_take (i := 2) (oi := { dst := some 98, op := Op.binOp BinOp.neq 26 (Operand.tmp 97) (Operand.const (Value.int IntKind.u16 0)) 26, type := 4, pos := "law.go:89", after := #[{ on := 1, ground := Ground.data }], guard := none }) (v := .bool true) rfl (by kernel_rfl) (by kernel_rfl) (by kernel_rfl) (fun _ _ _ h => h) (Or.inl ⟨by rfl, ?_⟩) (by assumption) ?_
        · intro w' hSw
          (try dsimp only at hSw)
          go_simp
        (try simp only [Act.put, List.setIfInBounds_toArray, List.set_cons_zero, List.set_cons_succ])
        refine wpAnyH_take (i := 3) (oi := { dst := some 99, op := Op.move (Operand.tmp 98), type := 4, pos := "law.go:89", after := #[{ on := 2, ground := Ground.data }, { on := 1, ground := Ground.chain }], guard := none }) (v := .bool true) rfl (by kernel_rfl) (by kernel_rfl) (by kernel_rfl) (fun _ _ _ h => h) (Or.inl ⟨by rfl, ?_⟩) (by assumption) ?_
        · intro w' hSw
          (try dsimp only at hSw)
          go_simp
        (try simp only [Act.put, List.setIfInBounds_toArray, List.set_cons_zero, List.set_cons_succ])
        refine wpAnyH_take (i := 4) (oi := { dst := some 100, op := Op.load 24 (Operand.tmp 9), type := 24, pos := "law.go:89", after := #[{ on := 3, ground := Ground.guard }], guard := some (3, false) }) (v := undef) rfl (by kernel_rfl) (by kernel_rfl) (by kernel_rfl) (fun _ _ _ h => h) (Or.inr ⟨by rfl, rfl⟩) (by assumption) ?_
        (try simp only [Act.put, List.setIfInBounds_toArray, List.set_cons_zero, List.set_cons_succ])
        refine wpAnyH_take (i := 5) (oi := { dst := some 101, op := Op.move (Operand.tmp 2), type := 9, pos := "law.go:89", after := #[{ on := 3, ground := Ground.guard }], guard := some (3, false) }) (v := undef) rfl (by kernel_rfl) (by kernel_rfl) (by kernel_rfl) (fun _ _ _ h => h) (Or.inr ⟨by rfl, rfl⟩) (by assumption) ?_
        (try simp only [Act.put, List.setIfInBounds_toArray, List.set_cons_zero, List.set_cons_succ])
        refine wpAnyH_take (i := 6) (oi := { dst := some 102, op := Op.call { callee := Callee.value (Operand.func 6), args := #[Operand.tmp 100, Operand.tmp 101], argTypes := #[24, 9] }, type := 4, pos := "law.go:89", after := #[{ on := 4, ground := Ground.data }, { on := 5, ground := Ground.data }, { on := 3, ground := Ground.chain }, { on := 3, ground := Ground.guard }], guard := some (3, false) }) (v := undef) rfl (by kernel_rfl) (by kernel_rfl) (by kernel_rfl) (fun _ _ _ h => h) (Or.inr ⟨by rfl, rfl⟩) (by assumption) ?_
        (try simp only [Act.put, List.setIfInBounds_toArray, List.set_cons_zero, List.set_cons_succ])
        refine wpAnyH_take (i := 7) (oi := { dst := some 103, op := Op.load 24 (Operand.tmp 10), type := 24, pos := "law.go:89", after := #[{ on := 3, ground := Ground.guard }], guard := some (3, false) }) (v := undef) rfl (by kernel_rfl) (by kernel_rfl) (by kernel_rfl) (fun _ _ _ h => h) (Or.inr ⟨by rfl, rfl⟩) (by assumption) ?_
        (try simp only [Act.put, List.setIfInBounds_toArray, List.set_cons_zero, List.set_cons_succ])
        refine wpAnyH_take (i := 8) (oi := { dst := some 104, op := Op.move (Operand.tmp 2), type := 9, pos := "law.go:89", after := #[{ on := 3, ground := Ground.guard }], guard := some (3, false) }) (v := undef) rfl (by kernel_rfl) (by kernel_rfl) (by kernel_rfl) (fun _ _ _ h => h) (Or.inr ⟨by rfl, rfl⟩) (by assumption) ?_
        (try simp only [Act.put, List.setIfInBounds_toArray, List.set_cons_zero, List.set_cons_succ])
        refine wpAnyH_take (i := 9) (oi := { dst := some 105, op := Op.call { callee := Callee.value (Operand.func 6), args := #[Operand.tmp 103, Operand.tmp 104], argTypes := #[24, 9] }, type := 4, pos := "law.go:89", after := #[{ on := 7, ground := Ground.data }, { on := 8, ground := Ground.data }, { on := 6, ground := Ground.chain }, { on := 3, ground := Ground.guard }], guard := some (3, false) }) (v := undef) rfl (by kernel_rfl) (by kernel_rfl) (by kernel_rfl) (fun _ _ _ h => h) (Or.inr ⟨by rfl, rfl⟩) (by assumption) ?_
        (try simp only [Act.put, List.setIfInBounds_toArray, List.set_cons_zero, List.set_cons_succ])
        refine wpAnyH_take (i := 10) (oi := { dst := some 106, op := Op.binOp BinOp.neq 4 (Operand.tmp 102) (Operand.tmp 105) 4, type := 4, pos := "law.go:89", after := #[{ on := 6, ground := Ground.data }, { on := 9, ground := Ground.data }, { on := 3, ground := Ground.guard }], guard := some (3, false) }) (v := undef) rfl (by kernel_rfl) (by kernel_rfl) (by kernel_rfl) (fun _ _ _ h => h) (Or.inr ⟨by rfl, rfl⟩) (by assumption) ?_
        (try simp only [Act.put, List.setIfInBounds_toArray, List.set_cons_zero, List.set_cons_succ])
        refine wpAnyH_take (i := 11) (oi := { dst := some 107, op := Op.pick (Operand.tmp 99) (Operand.const (Value.bool true)) (Operand.tmp 106), type := 4, pos := "law.go:89", after := #[{ on := 3, ground := Ground.data }, { on := 10, ground := Ground.data }], guard := none }) (v := .bool true) rfl (by kernel_rfl) (by kernel_rfl) (by kernel_rfl) (fun _ _ _ h => h) (Or.inl ⟨by rfl, ?_⟩) (by assumption) ?_
        · intro w' hSw
          (try dsimp only at hSw)
          go_simp
        (try simp only [Act.put, List.setIfInBounds_toArray, List.set_cons_zero, List.set_cons_succ])
        refine wpAnyH_take (i := 12) (oi := { dst := some 13, op := Op.assign (Operand.tmp 107), type := 4, pos := "law.go:89", after := #[{ on := 11, ground := Ground.data }, { on := 9, ground := Ground.chain }, { on := 0, ground := Ground.phase }, { on := 1, ground := Ground.phase }, { on := 2, ground := Ground.phase }, { on := 3, ground := Ground.phase }, { on := 4, ground := Ground.phase }, { on := 5, ground := Ground.phase }, { on := 6, ground := Ground.phase }, { on := 7, ground := Ground.phase }, { on := 8, ground := Ground.phase }, { on := 9, ground := Ground.phase }, { on := 10, ground := Ground.phase }, { on := 11, ground := Ground.phase }], guard := none }) (v := .bool true) rfl (by kernel_rfl) (by kernel_rfl) (by kernel_rfl) (fun _ _ _ h => h) (Or.inl ⟨by rfl, ?_⟩) (by assumption) ?_
        · intro w' hSw
          (try dsimp only at hSw)
          go_simp
        (try simp only [Act.put, List.setIfInBounds_toArray, List.set_cons_zero, List.set_cons_succ])
        refine wpAnyH_done (by kernel_rfl) ?_ _
        have L5 := Lib.hid hHeld2.2
        clear hHeld2 L4 k0 k1 k2 k3 k4 k5 k6 k7 k8 k9 k10 k11
        go_wp2
        go_ret
        exact ⟨rfl, HW1.out.trans (L5.out.b.mono HW1.out.size)⟩
      · exact AllReadyH.nil)
  · have e3 := er e1
    rw [e1, e3] at HCHK
    rw [isM_bad (s := s) (by rw [e1]; decide), isM_bad (s := s) (by rw [← e12, e1]; decide), isM_bad (s := s) (by rw [e3]; decide), isM_bad (s := s) (by rw [← e34, e3]; decide)] at HIS
    clear hT hn hv hs e12 e34 er er2 e1 e3 HTT
    have HB1 : Hid (∀ w1, Below w.heap.size w w1 → LwB w1 (lay4 w1 n v) n v) := Lib.hid fun w1 _ => lwb0 w1 n v (B := 0) (w0 := w1)
    go_enter Tryd.func3, Tryd.ntmps3
    go_wp2_with fail
    go_at_call 4
    refine CK.out.mono ?_
    rintro e w1 ⟨rfl, hb⟩
    have HW1 := Lib.hid hb
    have HL := Lib.hid (HB1.out w1 hb)
    have CH := Lib.hid (HCHK.out w1 hb)
    have CI := Lib.hid (HIS.out w1 hb)
    unfold mV at CH CI
    unfold lay4 at HL
    clear hb HB1 CK HCHK HIS a1 a2 a3 b1 b2 b3 c1 c2 c3
    have hc := HL.out.c
    obtain ⟨k0, k1, k2, k3, k4, k5, k6, k7, k8, k9, k10, k11⟩ := hc
    go_wp2_with fail
    go_region_held3 (fun w' => (w'.cell? ⟨w1.heap.size, 0, none⟩ = some (.int .u8 1) ∧ w'.cell? ⟨w1.heap.size, 1, none⟩ = some (.string n) ∧ w'.cell? ⟨w1.heap.size, 2, none⟩ = some (.string v) ∧ w'.cell? ⟨w1.heap.size + 1, 0, none⟩ = some (.int .u8 2) ∧ w'.cell? ⟨w1.heap.size + 1, 1, none⟩ = some (.string n) ∧ w'.cell? ⟨w1.heap.size + 1, 2, none⟩ = some (.string v) ∧ w'.cell? ⟨w1.heap.size + 1 + 1, 0, none⟩ = some (.int .u8 3) ∧ w'.cell? ⟨w1.heap.size + 1 + 1, 1, none⟩ = some (.string n) ∧ w'.cell? ⟨w1.heap.size + 1 + 1, 2, none⟩ = some (.string v) ∧ w'.cell? ⟨w1.heap.size + 1 + 1 + 1, 0, none⟩ = some (.int .u8 4) ∧ w'.cell? ⟨w1.heap.size + 1 + 1 + 1, 1, none⟩ = some (.string n) ∧ w'.cell? ⟨w1.heap.size + 1 + 1 + 1, 2, none⟩ = some (.string v)) ∧ LwB w1 w' n v) ((first | exact ⟨HL.out.drew.c, HL.out.drew⟩ | (refine keepL (A := fun w' => (w'.cell? ⟨w1.heap.size, 0, none⟩ = some (.int .u8 1) ∧ w'.cell? ⟨w1.heap.size, 1, none⟩ = some (.string n) ∧ w'.cell? ⟨w1.heap.size, 2, none⟩ = some (.string v) ∧ w'.cell? ⟨w1.heap.size + 1, 0, none⟩ = some (.int .u8 2) ∧ w'.cell? ⟨w1.heap.size + 1, 1, none⟩ = some (.string n) ∧ w'.cell? ⟨w1.heap.size + 1, 2, none⟩ = some (.string v) ∧ w'.cell? ⟨w1.heap.size + 1 + 1, 0, none⟩ = some (.int .u8 3) ∧ w'.cell? ⟨w1.heap.size + 1 + 1, 1, none⟩ = some (.string n) ∧ w'.cell? ⟨w1.heap.size + 1 + 1, 2, none⟩ = some (.string v) ∧ w'.cell? ⟨w1.heap.size + 1 + 1 + 1, 0, none⟩ = some (.int .u8 4) ∧ w'.cell? ⟨w1.heap.size + 1 + 1 + 1, 1, none⟩ = some (.string n) ∧ w'.cell? ⟨w1.heap.size + 1 + 1 + 1, 2, none⟩ = some (.string v))) (fun W h => h.c) ?_ (by assumption); assumption)))
      ((first
        | (go_at_call_of 5 (Value.agg #[.int .u8 1, .string n, .string v]); refine (CH.out _ (keepLB (by assumption))).1.mono ?_; rintro e w' ⟨rfl, hb⟩)
        | (go_at_call_of 5 (Value.agg #[.int .u8 2, .string n, .string v]); refine (CH.out _ (keepLB (by assumption))).2.1.mono ?_; rintro e w' ⟨rfl, hb⟩)
        | (go_at_call_of 5 (Value.agg #[.int .u8 3, .string n, .string v]); refine (CH.out _ (keepLB (by assumption))).2.2.1.mono ?_; rintro e w' ⟨rfl, hb⟩)
        | (go_at_call_of 5 (Value.agg #[.int .u8 4, .string n, .string v]); refine (CH.out _ (keepLB (by assumption))).2.2.2.mono ?_; rintro e w' ⟨rfl, hb⟩)))
    rename_i hH
    have L2 := Lib.hid hH.2
    obtain ⟨k0, k1, k2, k3, k4, k5, k6, k7, k8, k9, k10, k11⟩ := hH.1
    clear HL hH
    go_wp2_with fail
    go_at_call 5
    refine (CH.out _ L2.out).1.mono ?_
    rintro e w3 ⟨rfl, hb⟩
    have L3 := Lib.hid (L2.out.next hb)
    clear hb L2 k0 k1 k2 k3 k4 k5 k6 k7 k8 k9 k10 k11
    obtain ⟨k0, k1, k2, k3, k4, k5, k6, k7, k8, k9, k10, k11⟩ := L3.out.c
    go_wp2_with fail
    go_at_call 6
    refine (CI.out _ L3.out).1.mono ?_
    rintro e w4 ⟨rfl, hb⟩
    have L4 := Lib.hid (L3.out.next hb)
    clear hb L3 k0 k1 k2 k3 k4 k5 k6 k7 k8 k9 k10 k11
    obtain ⟨k0, k1, k2, k3, k4, k5, k6, k7, k8, k9, k10, k11⟩ := L4.out.c
    go_wp2_with fail
    go_at_call 6
    refine (CI.out _ L4.out).2.1.mono ?_
    rintro e w5 ⟨rfl, hb⟩
    have L5 := Lib.hid (L4.out.next hb)
    clear hb L4 k0 k1 k2 k3 k4 k5 k6 k7 k8 k9 k10 k11
    obtain ⟨k0, k1, k2, k3, k4, k5, k6, k7, k8, k9, k10, k11⟩ := L5.out.c
    go_wp2_with fail
    go_at_call 6
    refine (CI.out _ L5.out).2.2.1.mono ?_
    rintro e w6 ⟨rfl, hb⟩
    have L6 := Lib.hid (L5.out.next hb)
    clear hb L5 k0 k1 k2 k3 k4 k5 k6 k7 k8 k9 k10 k11
    obtain ⟨k0, k1, k2, k3, k4, k5, k6, k7, k8, k9, k10, k11⟩ := L6.out.c
    go_wp2_with fail
    go_at_call 6
    refine (CI.out _ L6.out).2.2.2.1.mono ?_
    rintro e w7 ⟨rfl, hb⟩
    have L7 := Lib.hid (L6.out.next hb)
    clear hb L6 k0 k1 k2 k3 k4 k5 k6 k7 k8 k9 k10 k11
    obtain ⟨k0, k1, k2, k3, k4, k5, k6, k7, k8, k9, k10, k11⟩ := L7.out.c
    go_wp2
    go_ret
    exact ⟨rfl, HW1.out.trans (L7.out.b.mono HW1.out.size)⟩
end Go.Proofs.YtphighddlfabbaaDoor
namespace Go.Proofs.YtphighddlfabbaaDoor.matchTurned
open Go.ChangeShapes Go.WideShapes Go.ChangeAt Go.RowKit
open Go.ChangeMaps (open_string shut_string)
set_option linter.unusedVariables false
theorem own : ownKnob Tryd.prog.godebug = none := by kernel_rfl
set_option maxRecDepth 100000 in
theorem lifted (os : Os) (started : os.Started) (H : Type) (enc : TypeId × Value → H) (F : Stop.Interp) :
    ReturnsInHanded {} Tryd.checked os 3 .any ((OpenSpec.ofChange Rows.matchTurnedSpec).preRow enc Tryd.prog Tryd.f3 [] false laid1) (((OpenSpec.ofChange Rows.matchTurnedSpec).at F).post enc Tryd.prog Tryd.f3 false true false false) := by
  refine returnsInHanded_of_row (C := Tryd.checked) (s := OpenSpec.ofChange Rows.matchTurnedSpec) (F := F) (laid := laid1) own started (by kernel_rfl) Tryd.func3
    (ChangeSpec.witness_shaped (enc := enc) (C := Tryd.checked) (os := os) (s := Rows.matchTurnedSpec) (X := fun w _ => laidMetH Tryd.prog laid1 w) false (startWorld os) #[.string ByteArray.empty, .string ByteArray.empty, .string ByteArray.empty] 8 (startWorld_os os) (start_shaped os _) (by kernel_rfl) (by kernel_rfl) (by kernel_rfl) (door_met os _)) ?_
  intro W base args ds gs before hval0 hW hcnd _ _ hL hsh _
  have hval : ∀ (j : Nat) t v, Tryd.f3.params[j]? = some t → args[j]? = some v → Value.okWide Tryd.prog W .any base t v := hval0
  have hW' := hW
  obtain ⟨p, q, hA0, hV, rfl, hfz, hnd⟩ := hW
  have hA : DataW.TrodAll enc Tryd.prog W 0 (fun _ => true) true Tryd.f3.params.toList args.toList ds p := hA0
  rw [Tryd.params3] at hA hval
  obtain ⟨v0, vs0, d0, ds0, p0, q0, hargs, rfl, rfl, h0, r0⟩ := trodAll_cons hA
  obtain ⟨v1, vs1, d1, ds1, p1, q1, rfl, rfl, rfl, h1, r1⟩ := trodAll_cons r0
  obtain ⟨v2, vs2, d2, ds2, p2, q2, rfl, rfl, rfl, h2, r2⟩ := trodAll_cons r1
  obtain ⟨rfl, rfl, rfl⟩ := trodAll_nil r2
  obtain rfl : args = #[v0, v1, v2] := by cases args; simp_all
  obtain ⟨rfl, rfl⟩ := trodVars_none hV
  obtain ⟨a0, rfl, rfl, rfl, w0⟩ := open_string Tryd.underlying9 (hval 0 9 v0 rfl rfl) h0
  obtain ⟨a1, rfl, rfl, rfl, w1⟩ := open_string Tryd.underlying9 (hval 1 9 v1 rfl rfl) h1
  obtain ⟨a2, rfl, rfl, rfl, w2⟩ := open_string Tryd.underlying9 (hval 2 9 v2 rfl rfl) h2
  have hT : TabAt W := laid_tab hL
  clear hA0 hval0 hL hsh
  refine (law_turned a0 a1 a2 W hT).mono fun e W' ⟨he, bel⟩ => ?_
  subst he
  exact ⟨_, rfl, _, _, _, [], _, [], hW', trodAll_mk1 (shut_bool Tryd.underlying4 _), (trodAll_cons_mk (shut_string Tryd.underlying9 w0) (trodAll_cons_mk (shut_string Tryd.underlying9 w1) (trodAll_cons_mk (shut_string Tryd.underlying9 w2) trodAll_mk0))), rfl, bel.frame _, fun h => by cases h⟩
theorem over : Rows.matchTurnedRow.holds Tryd.pinned (OpenSpec.ofChange Rows.matchTurnedSpec) :=
  OpenClaim.holds_of_cond 3 Tryd.f3 rfl rfl rfl rfl rfl rfl rfl ⟨rfl, rfl, rfl, rfl, rfl⟩ rfl rfl rfl rfl rfl f1 Tryd.func3 f2 f3 f4
    (fun os started H enc _ F => by rw [OpenClaim.pre_eq_preRow]; exact lifted os started H enc F)
theorem proved : Rows.MatchTurnedSaid := over
/-- the tied card -/
theorem card : Rows.MatchTurnedCardSaid :=
  Claim7.holds_tied_plain_at .later [] [.data] true (true, "4a9b92723e0dccc173ed7a87f9614d6be68fc1bd54c599fb53625504cecbe808") false
    proved (fun _ h => by cases h) (by kernel_rfl) (fun _ h => by cases h) matchTurned_row_tie rfl ⟨rfl, rfl⟩ (by kernel_rfl) rfl
    (fun f fn hf hfn => by
      obtain rfl : f = 3 := Option.some.inj ((show Tryd.prog.funcNamed "barograph/barographlaw09.MatchTurned" = some 3 by kernel_rfl).symm.trans hf) |>.symm
      obtain rfl : fn = Tryd.f3 := (Option.some.inj (Tryd.func3.symm.trans hfn)).symm
      exact ⟨by kernel_rfl, fun j t ht => by
        rw [Tryd.params3] at ht
        have hm : t ∈ [9, 9, 9] := by simpa using Array.mem_of_getElem? ht
        have hall : ([9, 9, 9].all fun u => !Tryd.prog.wantsStandIn u) = true := by kernel_rfl
        exact (show Tryd.prog.wantsStandIn t = false by simpa using List.all_eq_true.1 hall t hm)⟩)
    (by kernel_rfl)
#print axioms card
end Go.Proofs.YtphighddlfabbaaDoor.matchTurned
