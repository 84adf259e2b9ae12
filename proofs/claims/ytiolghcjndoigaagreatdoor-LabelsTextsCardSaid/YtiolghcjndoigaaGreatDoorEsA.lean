/-
  WALKS: what the reader answers where it can't go on: the two kinds of errors; digits of any text.
-/
import Derived.Test.YtiolghcjndoigaaGreatDoorUnA
namespace Go.Proofs.YtiolghcjndoigaaGreatDoor
set_option linter.unusedVariables false
set_option linter.unusedSimpArgs false
open Go.RowKit Go.PlainAid
/-- an error that says that something is wrong, and wraps nothing: made behind N -/
def BadErr (N : Nat) (w : World) (x : Value) : Prop := x = .iface 26 (.int .u16 42) ∨ ∃ (q : Nat) (a : Int), x = .iface 294 (.pointer (some ⟨q, 0, none⟩)) ∧ w.heap[q]? = some (.cells #[.int .u16 42, .int .i64 a, .nilIface] 297 (0, 0)) ∧ N ≤ q
/-- an error that says that the text ends at n -/
def EndErr (N : Nat) (w : World) (x : Value) (n : Nat) : Prop := ∃ (q : Nat), x = .iface 289 (.pointer (some ⟨q, 0, none⟩)) ∧ w.heap[q]? = some (.cells #[.int .i64 ((n : Nat) : Int)] 293 (0, 0)) ∧ N ≤ q
theorem BadErr.stay {N : Nat} {w w' : World} {x : Value} (h : BadErr N w x) (hb : Below w.heap.size w w') : BadErr N w' x := by
  rcases h with h | ⟨q, a, h1, h2, h3⟩
  · exact .inl h
  · exact .inr ⟨q, a, h1, (hb.block q (Array.getElem?_eq_some_iff.1 h2).1).trans h2, h3⟩
theorem EndErr.stay {N : Nat} {w w' : World} {x : Value} {n : Nat} (h : EndErr N w x n) (hb : Below w.heap.size w w') : EndErr N w' x n := by
  obtain ⟨q, h1, h2, h3⟩ := h
  exact ⟨q, h1, (hb.block q (Array.getElem?_eq_some_iff.1 h2).1).trans h2, h3⟩
theorem BadErr.mono {N M : Nat} {w : World} {x : Value} (h : BadErr N w x) (hm : M ≤ N) : BadErr M w x := by
  rcases h with h | ⟨q, a, h1, h2, h3⟩
  · exact .inl h
  · exact .inr ⟨q, a, h1, h2, Nat.le_trans hm h3⟩
theorem EndErr.mono {N M : Nat} {w : World} {x : Value} {n : Nat} (h : EndErr N w x n) (hm : M ≤ N) : EndErr M w x n := by
  obtain ⟨q, h1, h2, h3⟩ := h
  exact ⟨q, h1, h2, Nat.le_trans hm h3⟩
theorem grown_far {w w2 : World} {ob : Obj} {row : Option Nat} {q : Nat} {o : Obj} (h : w.heap[q]? = some o) (hg : (w.alloc ob).grownBy w2 row) (hr : row ≠ some q) : w2.heap[q]? = some o := by
  have hq := (Array.getElem?_eq_some_iff.1 h).1
  exact (hg.block q (by simp; omega) (fun e => hr e.symm)).trans ((Below.heap_alloc _ _ _ hq).trans h)
theorem own_far {w : World} {B : Nat} {v : Value} {ds : List Nat} (h : Own w B v ds) {q : Nat} (hq : w.heap.size ≤ q) : v.ownBlock ≠ some q := by
  intro hk
  rcases h.2 with ⟨rfl, _⟩ | ⟨g, cap, cur, rfl, hg, hc, _⟩
  · cases hk
  · simp only [Value.ownBlock, Option.some.injEq] at hk
    have := (Array.getElem?_eq_some_iff.1 hc).1
    omega
theorem BadErr.grown {N : Nat} {w w2 : World} {ob : Obj} {row : Option Nat} {x : Value} (h : BadErr N w x) (hg : (w.alloc ob).grownBy w2 row) (hr : ∀ q, N ≤ q → row ≠ some q) : BadErr N w2 x := by
  rcases h with h | ⟨q, a, h1, h2, h3⟩
  · exact .inl h
  · exact .inr ⟨q, a, h1, grown_far h2 hg (hr q h3), h3⟩
theorem EndErr.grown {N : Nat} {w w2 : World} {ob : Obj} {row : Option Nat} {x : Value} {n : Nat} (h : EndErr N w x n) (hg : (w.alloc ob).grownBy w2 row) (hr : ∀ q, N ≤ q → row ≠ some q) : EndErr N w2 x n := by
  obtain ⟨q, h1, h2, h3⟩ := h
  exact ⟨q, h1, grown_far h2 hg (hr q h3), h3⟩
/-- there is no next byte -/
theorem next_end (R : Nat) (bs : List Nat) (w : World) (H : Rd w R bs bs.length) :
    Calls Tryz.prog 179 #[.pointer (some ⟨R, 0, none⟩)] w fun e w' => ∃ x, e = .returned (.tuple #[.int .u8 0, x]) ∧ Below w.heap.size w w' ∧ EndErr w.heap.size w' x bs.length := by
  have CD := Lib.hid (isdone_any R bs bs.length w H)
  rw [decide_eq_true rfl] at CD
  have HH := Lib.hid H
  obtain ⟨L, hL⟩ : ∃ L, bs.length = L := ⟨_, rfl⟩
  rw [hL] at HH ⊢
  clear hL H
  go_enter Tryz.func179, Tryz.ntmps179
  go_wp2_with fail
  refine CD.out.mono ?_
  rintro e w1 ⟨rfl, hb⟩
  have H1 := HH.out.stay hb
  have BB := Lib.hid hb
  have h1 := H1.c1
  clear H1 hb
  go_wp2_with fail
  go_region
  all_goals go_wp2
  all_goals go_ret2
  all_goals exact ⟨_, rfl, below_drewN (BB.out.trans (((Below.refl w1.heap.size w1).alloc (Nat.le_refl _) _).mono BB.out.size)) 1, _, rfl, heap_alloc_new w1 _, BB.out.size⟩
/-- what so many digits say -/
inductive DigR where
  | val (v : Nat)
  | bad
  | ends
def digsN (bs : List Nat) (base : Nat) : Nat → Nat → Nat → DigR
  | 0, _, v => .val v
  | n + 1, p, v => match bs[p]? with
    | none => .ends
    | some c => if hexV c < base then digsN bs base n (p + 1) (v * base + hexV c) else .bad
def DigPost (R : Nat) (bs : List Nat) (p : Nat) (w : World) : DigR → Ending → World → Prop
  | .val v, e, w' => e = .returned (.tuple #[.int .u32 ((v : Nat) : Int), .nilIface]) ∧ Only [R] w w' ∧ Rd w' R bs p ∧ v < 4294967296
  | .bad, e, w' => ∃ x, e = .returned (.tuple #[.int .u32 0, x]) ∧ Only [R] w w' ∧ BadErr w.heap.size w' x
  | .ends, e, w' => ∃ x, e = .returned (.tuple #[.int .u32 0, x]) ∧ Only [R] w w' ∧ EndErr w.heap.size w' x bs.length
theorem endErr_ne {N : Nat} {w : World} {x : Value} {n : Nat} (h : EndErr N w x n) : ∃ q, x = .iface 289 (.pointer (some ⟨q, 0, none⟩)) := ⟨_, h.choose_spec.1⟩
set_option maxRecDepth 100000 in
set_option maxHeartbeats 1000000 in
theorem digits_any (R : Nat) (bs : List Nat) (p n base : Nat) (hB : IsB bs) (hl : bs.length ≤ 200000) (hn : n ≤ 8) (hbase : base ≤ 16) (hp : p ≤ bs.length) (w : World) (H : Rd w R bs p) :
    Calls Tryz.prog 198 #[.pointer (some ⟨R, 0, none⟩), .int .i64 (n : Int), .int .u32 (base : Int)] w (DigPost R bs (p + n) w (digsN bs base n p 0)) := by
  have HN := Lib.hid (fun (q c : Nat) (hc : bs[q]? = some c) w H => next_at R bs q c hB hc hl w H)
  have HE := Lib.hid (fun (w : World) (H : Rd w R bs bs.length) => next_end R bs w H)
  have HB := Lib.hid hB
  have HL := Lib.hid hl
  have H0 := Lib.hid H
  have HP := Lib.hid hp
  obtain ⟨T, hT⟩ : ∃ T, digsN bs base n p 0 = T := ⟨_, rfl⟩
  have HT := Lib.hid hT
  rw [hT]
  clear hB H hl hT hp
  go_enter Tryz.func198, Tryz.ntmps198
  go_wp2
  go_loopw [8, 12] (fun v i wr => ∃ (k a : Nat), k ≤ n ∧ i = .int .i64 k ∧ v = .int .u32 ((a : Nat) : Int) ∧ Hid (a + 1 ≤ 16 ^ k) ∧ Hid (p + k ≤ bs.length) ∧ Hid (digsN bs base (n - k) (p + k) a = T) ∧ Hid (Only [R] w wr) ∧ Hid (Rd wr R bs (p + k))) (fun _ i _ => (n - intOf i).toNat)
  case atStart => exact ⟨0, 0, by omega, rfl, rfl, Lib.hid (by decide), HP, HT, Lib.hid (Only.refl _ _), H0⟩
  case round =>
    obtain ⟨k, a, hk, rfl, rfl, HA, HQ, HD, HO, HR⟩ := hrel
    by_cases hkn : k < n
    · have da : decide ((k : Int) < (n : Int)) = true := decide_eq_true (by omega)
      have da2 : decide (k < n) = true := decide_eq_true hkn
      have hstep := HD.out
      obtain ⟨m, hm⟩ : ∃ m, n - k = m + 1 := ⟨n - k - 1, by omega⟩
      have HMm := Lib.hid (show n - (k + 1) = m by omega)
      rw [hm] at hstep
      unfold digsN at hstep
      clear hm
      cases hcc : bs[p + k]? with
      | none =>
        have hpe : p + k = bs.length := by
          have h1 := List.getElem?_eq_none_iff.1 hcc
          have h2 := HQ.out
          omega
        rw [hcc] at hstep
        have HS := Lib.hid hstep
        have R1 := HR.out
        rw [hpe] at R1
        have CN := Lib.hid (HE.out wr R1)
        clear hstep hcc hpe R1
        go_wp2_with fail
        refine CN.out.mono ?_
        rintro e w1 ⟨x, rfl, hb, he⟩
        obtain ⟨q, rfl⟩ := endErr_ne he
        have HEE := Lib.hid he
        have HBB := Lib.hid hb
        clear he hb
        go_wp2
        go_ret2
        rw [← HS.out]
        exact ⟨_, rfl, HO.out.trans (Only.of_below HBB.out [R]) (fun x hx => .inl hx), HEE.out.mono HO.out.size⟩
      | some c =>
        rw [hcc] at hstep
        have CN := Lib.hid (HN.out (p + k) c hcc wr HR.out)
        have hc := at_isB HB.out hcc
        have CV := Lib.hid (fun w => digitof_any c hc w)
        by_cases hv : hexV c < base
        · simp only [if_pos hv] at hstep
          obtain ⟨h, hh⟩ : ∃ h, hexV c = h := ⟨_, rfl⟩
          rw [hh] at CV hstep hv
          have HPC := Lib.hid (show p + (k + 1) ≤ bs.length by have := (List.getElem?_eq_some_iff.1 hcc).1; omega)
          have hpow : 16 ^ (k + 1) ≤ 16 ^ 8 := Nat.pow_le_pow_right (by decide) (by omega)
          have hA2 : (a + 1) * 16 ≤ 16 ^ (k + 1) := by rw [Nat.pow_succ]; exact Nat.mul_le_mul_right _ HA.out
          have hA3 : a * base ≤ a * 16 := Nat.mul_le_mul_left _ hbase
          have HAA := Lib.hid (show a * base + h + 1 ≤ 16 ^ (k + 1) by omega)
          obtain ⟨m2, hm2⟩ : ∃ m, a * base = m := ⟨_, rfl⟩
          rw [hm2] at HAA hstep hA3
          have em : ((a : Int) * (base : Int)) = (m2 : Int) := by rw [← hm2]; simp
          have e1 : IntKind.u32.wrap (m2 : Int) = (m2 : Int) := by rw [IntKind.wrap_u32]; omega
          have e2 : IntKind.u32.wrap ((m2 : Int) + (h : Int)) = ((m2 + h : Nat) : Int) := by rw [IntKind.wrap_u32]; omega
          have dg : decide ((h : Int) ≥ (base : Int)) = false := decide_eq_false (by omega)
          have dg2 : decide ((base : Int) ≤ (h : Int)) = false := decide_eq_false (by omega)
          have dg3 : decide (base ≤ h) = false := decide_eq_false (by omega)
          have HS := Lib.hid hstep
          have HK1 := Lib.hid (show k + 1 ≤ n by omega)
          clear hh hm2 hc hcc hpow hA2 hA3 hstep hv
          go_wp2_with fail
          refine CN.out.mono ?_
          rintro e w1 ⟨rfl, ho, hr⟩
          have O1 := Lib.hid (HO.out.trans ho (by intro x hx; exact .inl hx))
          have R1 := Lib.hid hr
          clear ho hr
          go_wp2_with fail
          refine (CV.out _).mono ?_
          rintro e w2 ⟨rfl, rfl⟩
          go_wp2_with fail
          refine (CV.out _).mono ?_
          rintro e w3 ⟨rfl, rfl⟩
          go_wp2
          go_roundw
          case rel => exact ⟨k + 1, m2 + h, HK1.out, rfl, rfl, HAA, HPC, Lib.hid (by rw [HMm.out]; exact HS.out), O1, R1⟩
          case measure => simp [intOf]; omega
        · simp only [if_neg hv] at hstep
          obtain ⟨h, hh⟩ : ∃ h, hexV c = h := ⟨_, rfl⟩
          rw [hh] at CV hv
          have dg : decide ((h : Int) ≥ (base : Int)) = true := decide_eq_true (by omega)
          have dg2 : decide ((base : Int) ≤ (h : Int)) = true := decide_eq_true (by omega)
          have dg3 : decide (base ≤ h) = true := decide_eq_true (by omega)
          have HS := Lib.hid hstep
          have e1 : IntKind.i64.wrap (((p + k + 1 : Nat) : Int) - 1) = ((p + k : Nat) : Int) := by
            have h1 := (List.getElem?_eq_some_iff.1 hcc).1
            have h2 := HL.out
            rw [IntKind.wrap_i64]
            omega
          clear hh hc hcc hstep hv
          go_wp2_with fail
          refine CN.out.mono ?_
          rintro e w1 ⟨rfl, ho, hr⟩
          have O1 := Lib.hid (HO.out.trans ho (by intro x hx; exact .inl hx))
          have h1 := hr.c1
          clear ho hr
          obtain ⟨P1, hP1⟩ : ∃ P1, p + k + 1 = P1 := ⟨_, rfl⟩
          rw [hP1] at h1 e1
          obtain ⟨P0, hP0⟩ : ∃ P1, p + k = P1 := ⟨_, rfl⟩
          rw [hP0] at e1
          clear hP1 hP0
          go_wp2_with fail
          refine (CV.out _).mono ?_
          rintro e w2 ⟨rfl, rfl⟩
          go_wp2_with fail
          go_region
          all_goals go_wp2
          all_goals go_ret2
          all_goals (rw [← HS.out]; exact ⟨_, rfl, (O1.out.alloc _).drew, .inr ⟨_, _, rfl, heap_alloc_new _ _, O1.out.size⟩⟩)
    · obtain rfl : k = n := by omega
      have da : decide ((k : Int) < (k : Int)) = false := decide_eq_false (by omega)
      have da2 : decide (k < k) = false := decide_eq_false hkn
      have hstep := HD.out
      rw [Nat.sub_self] at hstep
      unfold digsN at hstep
      have HS := Lib.hid hstep
      have hlim := Lib.hid (Nat.le_trans HA.out (Nat.pow_le_pow_right (show 16 > 0 by decide) hn))
      clear hstep
      go_wp2
      go_ret2
      rw [← HS.out]
      exact ⟨rfl, HO.out, HR.out, by have := hlim.out; omega⟩
end Go.Proofs.YtiolghcjndoigaaGreatDoor
