/-
  WALKS: are two lists the same; more than is looked at.
-/
import Derived.Test.YtiolghcjndoigaaGreatDoorCmp
import Derived.Laws.StructEq
namespace Go.Proofs.YtiolghcjndoigaaGreatDoor
set_option linter.unusedVariables false
set_option linter.unusedSimpArgs false
open Go.RowKit Go.PlainAid
theorem toList_iff (a b : ByteArray) : a.toList = b.toList ↔ a = b := by
  rw [ByteArray.toList_eq, ByteArray.toList_eq]
  constructor
  · intro h; exact ByteArray.ext (Array.toList_inj.1 h)
  · rintro rfl; rfl
theorem neq94 (x y : Lm.Lb) (W : World) : (binOp .neq 94 (.agg #[.string x.1, .string x.2]) (.agg #[.string y.1, .string y.2])).run Tryz.prog W = .ok (.bool (!decide (x = y))) W := by
  have u9 := Tryz.underlying9
  have a9 := Tryz.isAgg9
  have z9 := Tryz.sizeOf9
  have hS : Tryz.prog.underlying 94 = some (.struct (Tryz.prog.fieldsOf 94)) := by kernel_rfl
  have hp : Tryz.prog.stoodInHeld 94 = false := by kernel_rfl
  rw [run_neq_struct, show (10000 : Nat) = 9999 + 1 from rfl, run_equalIn_agg W 9999 94 _ _ hS hp]
  simp only [Program.fieldsOf, Tryz.underlying94]
  go_simp
  have e1 := toList_iff x.1 y.1
  have e2 := toList_iff x.2 y.2
  by_cases h1 : x.1 = y.1 <;> by_cases h2 : x.2 = y.2 <;> simp [h1, h2, Prod.ext_iff, e1, e2]
theorem guard94 (x y : Operand) (p q : Lm.Lb) (W : World) : (eqGuard .neq 94 x y (.agg #[.string p.1, .string p.2]) (.agg #[.string q.1, .string q.2])).run Tryz.prog W = .ok () W := run_eqGuard_agg _ _ _ _ _ _ _ (by kernel_rfl)
/-- are two lists the same -/
theorem same_any (a1 a2 : Option Addr) (c1 c2 : Nat) (l m : List Lm.Lb) (w : World) (H1 : Labs w a1 l) (H2 : Labs w a2 m) (hz : l.length ≤ maxLen) : Calls Tryz.prog 18 #[.slice a1 l.length c1, .slice a2 m.length c2] w (Gives w (.bool (decide (l = m)))) := by
  by_cases hlen : l.length = m.length
  · have HL := Lib.hid H1
    have HM := Lib.hid H2
    have HE := Lib.hid hlen
    rw [← hlen]
    obtain ⟨n, hn⟩ : ∃ n, l.length = n := ⟨_, rfl⟩
    have HN := Lib.hid hn
    have hz' : n ≤ 9223372036854775807 := by rw [← hn]; exact hz
    rw [hn]
    clear H1 H2 hz hn hlen
    go_enter Tryz.func18, Tryz.ntmps18
    go_wp2
    go_loopw [5] (fun i wr => ∃ k : Nat, k ≤ n ∧ i = .int .i64 k ∧ Hid (Below w.heap.size w wr) ∧ Hid (l.take k = m.take k)) (fun i _ => (n - (intOf i).toNat))
    case atStart => exact ⟨0, Nat.zero_le _, rfl, Lib.hid (Below.refl _ _), Lib.hid rfl⟩
    case round =>
      obtain ⟨k, hk1, rfl, HB, HT⟩ := hrel
      by_cases hkn : k < n
      · have da : decide ((k : Int) < (n : Int)) = true := decide_eq_true (by omega)
        have da2 : decide (k < n) = true := decide_eq_true hkn
        have hkl : k < l.length := by rw [HN.out]; exact hkn
        have hkm : k < m.length := by rw [← HE.out]; exact hkl
        obtain ⟨b1, o1, rfl, hb1, hc1⟩ := (HL.out.below HB.out) (by intro e; rw [e] at hkl; simp at hkl)
        obtain ⟨b2, o2, rfl, hb2, hc2⟩ := (HM.out.below HB.out) (by intro e; rw [e] at hkm; simp at hkm)
        obtain ⟨p1, p2⟩ := hc1 k hkl
        obtain ⟨q1, q2⟩ := hc2 k hkm
        obtain ⟨x, hx⟩ : ∃ x, l[k] = x := ⟨_, rfl⟩
        obtain ⟨y, hy⟩ : ∃ y, m[k] = y := ⟨_, rfl⟩
        have HX := Lib.hid (And.intro ((List.getElem?_eq_getElem hkl).trans (congrArg some hx)) ((List.getElem?_eq_getElem hkm).trans (congrArg some hy)))
        rw [hx] at p1 p2
        rw [hy] at q1 q2
        have hne := fun W => neq94 x y W
        clear hx hy hc1 hc2
        by_cases hxy : x = y
        · have hd : (!decide (x = y)) = false := by rw [decide_eq_true hxy]; rfl
          rw [hd] at hne
          have T2 := Lib.hid (show l.take (k + 1) = m.take (k + 1) by
            obtain ⟨h1, h2⟩ := HX.out
            rw [List.take_add_one, List.take_add_one, h1, h2, HT.out, hxy])
          clear hd hxy
          go_wp2_with (go_quiet (fail))
          go_roundw
          case rel => exact ⟨k + 1, by omega, by simp, Lib.hid (by have := HB.out; exact ⟨this.os, this.tape, this.output, this.size, this.block⟩), T2⟩
          case measure => simp [intOf]; omega
        · have hd : (!decide (x = y)) = true := by rw [decide_eq_false hxy]; rfl
          rw [hd] at hne
          have E := Lib.hid (show decide (l = m) = false by
            obtain ⟨h1, h2⟩ := HX.out
            refine decide_eq_false (fun e => hxy ?_)
            rw [e, h2] at h1
            exact (Option.some.inj h1).symm)
          clear hd hxy
          go_wp2_with (go_quiet (fail))
          go_ret
          exact ⟨congrArg (fun x => Ending.returned (.bool x)) E.out.symm, (by have := HB.out; exact ⟨this.os, this.tape, this.output, this.size, this.block⟩)⟩
      · have hk : k = n := by omega
        subst hk
        have da : decide ((k : Int) < (k : Int)) = false := decide_eq_false (by omega)
        have da2 : decide (k < k) = false := decide_eq_false (by omega)
        have E := Lib.hid (show decide (l = m) = true by
          refine decide_eq_true ?_
          have h := HT.out
          rw [← HN.out, List.take_length, HE.out, List.take_length] at h
          exact h)
        go_wp2
        go_ret
        exact ⟨congrArg (fun x => Ending.returned (.bool x)) E.out.symm, HB.out⟩
  · have E := Lib.hid (show decide (l = m) = false from decide_eq_false (fun e => hlen (by rw [e])))
    obtain ⟨n, hn⟩ : ∃ n, l.length = n := ⟨_, rfl⟩
    obtain ⟨k, hk⟩ : ∃ n, m.length = n := ⟨_, rfl⟩
    rw [hn, hk] at hlen ⊢
    have h2 : ¬ ((n : Int) = (k : Int)) := by omega
    clear H1 H2 hz hn hk
    go_enter Tryz.func18, Tryz.ntmps18
    go_wp2
    go_ret
    exact ⟨congrArg (fun x => Ending.returned (.bool x)) E.out.symm, Below.refl _ _⟩
theorem wrap64_small {x : Int} (h1 : -9223372036854775808 ≤ x) (h2 : x ≤ 9223372036854775807) : wrap64 x = x := by
  unfold wrap64
  omega
/-- what is counted of the first labels -/
def weigh (l : List Lm.Lb) : Nat := (l.map fun x => x.1.size + x.2.size).sum
theorem weigh_snoc (l : List Lm.Lb) (x : Lm.Lb) : weigh (l ++ [x]) = weigh l + (x.1.size + x.2.size) := by simp [weigh]
/-- no string is greater than any that there is -/
def Small (l : List Lm.Lb) : Prop := ∀ x ∈ l, x.1.size ≤ 140737488355328 ∧ x.2.size ≤ 140737488355328
def Much (w : World) (l : List Lm.Lb) (e : Ending) (w' : World) : Prop := ∃ b, e = .returned (.bool b) ∧ Below w.heap.size w w' ∧ (b = false → l.length ≤ 300 ∧ (Small l → weigh l ≤ 20000))
/-- more than is looked at: either answer; if no, few labels, and few bytes unless a string is greater than any -/
theorem much_any (a : Option Addr) (c : Nat) (l : List Lm.Lb) (w : World) (H : Labs w a l) (hz : l.length ≤ maxLen) : Calls Tryz.prog 9 #[.slice a l.length c] w (Much w l) := by
  have HL := Lib.hid H
  obtain ⟨n, hn⟩ : ∃ n, l.length = n := ⟨_, rfl⟩
  have HN := Lib.hid hn
  have hz' : n ≤ 9223372036854775807 := by rw [← hn]; exact hz
  rw [hn]
  clear H hz hn
  obtain ⟨PP, hPP⟩ : ∃ PP : Prop, PP = Small l := ⟨_, rfl⟩
  have HP := Lib.hid hPP
  clear hPP
  go_enter Tryz.func9, Tryz.ntmps9
  go_wp2
  go_loopw [3, 4] (fun v i wr => ∃ (k : Nat) (m : Int), k ≤ n ∧ i = .int .i64 k ∧ v = .int .i64 m ∧ Hid (Below w.heap.size w wr) ∧ Hid (PP → n ≤ 300 → m = ((n + weigh (l.take k) : Nat) : Int))) (fun _ i _ => (n - (intOf i).toNat))
  case atStart => exact ⟨0, n, Nat.zero_le _, rfl, rfl, Lib.hid (Below.refl _ _), Lib.hid (fun _ h => by simp [weigh])⟩
  case round =>
    obtain ⟨k, m, hk1, rfl, rfl, HB, HS⟩ := hrel
    by_cases hm : m ≤ 20000
    · have dm : decide (m ≤ 20000) = true := decide_eq_true hm
      have dm2 : decide (m > 20000) = false := decide_eq_false (by omega)
      have dm3 : decide (20000 < m) = false := decide_eq_false (by omega)
      by_cases hkn : k < n
      · have da : decide ((k : Int) < (n : Int)) = true := decide_eq_true (by omega)
        have da2 : decide (k < n) = true := decide_eq_true hkn
        have hkl : k < l.length := by rw [HN.out]; exact hkn
        obtain ⟨b1, o1, rfl, hb1, hc1⟩ := (HL.out.below HB.out) (by intro e; rw [e] at hkl; simp at hkl)
        obtain ⟨p1, p2⟩ := hc1 k hkl
        obtain ⟨⟨x, y⟩, hx⟩ : ∃ x, l[k] = x := ⟨_, rfl⟩
        rw [hx] at p1 p2
        simp only at p1 p2
        have S2 := Lib.hid (show PP → n ≤ 300 → wrap64 (m + wrap64 ((x.size : Int) + (y.size : Int))) = ((n + weigh (l.take (k + 1)) : Nat) : Int) by
          intro hp hn
          have h1 := HS.out hp hn
          rw [HP.out] at hp
          have h2 := hp (x, y) (by rw [← hx]; exact List.getElem_mem hkl)
          simp only at h2
          rw [List.take_succ_eq_append_getElem hkl, hx, weigh_snoc]
          simp only
          rw [wrap64_small (x := (x.size : Int) + (y.size : Int)) (by omega) (by omega), wrap64_small (by omega) (by omega), h1]
          omega)
        clear hx hc1
        go_wp2_with (go_quiet (fail))
        go_roundw
        case rel => exact ⟨k + 1, _, by omega, by simp, rfl, Lib.hid (by have := HB.out; exact ⟨this.os, this.tape, this.output, this.size, this.block⟩), S2⟩
        case measure => simp [intOf]; omega
      · have hk : k = n := by omega
        subst hk
        have da : decide ((k : Int) < (k : Int)) = false := decide_eq_false (by omega)
        have da2 : decide (k < k) = false := decide_eq_false (by omega)
        have E := Lib.hid (show PP → k ≤ 300 → weigh l ≤ 20000 by
          intro hp hn
          have h1 := HS.out hp hn
          rw [← HN.out, List.take_length, HN.out] at h1
          omega)
        by_cases h3 : k ≤ 300
        · have d3 : decide ((k : Int) > 300) = false := decide_eq_false (by omega)
          have d4 : decide (300 < (k : Int)) = false := decide_eq_false (by omega)
          have d5 : decide (300 < k) = false := decide_eq_false (by omega)
          go_wp2
          go_ret
          exact ⟨false, rfl, HB.out, fun _ => ⟨by rw [HN.out]; exact h3, fun hp => E.out (by rw [HP.out]; exact hp) h3⟩⟩
        · have d3 : decide ((k : Int) > 300) = true := decide_eq_true (by omega)
          have d4 : decide (300 < (k : Int)) = true := decide_eq_true (by omega)
          have d5 : decide (300 < k) = true := decide_eq_true (by omega)
          go_wp2
          go_ret
          exact ⟨true, rfl, HB.out, fun h => by cases h⟩
    · have dm : decide (m ≤ 20000) = false := decide_eq_false hm
      have dm2 : decide (m > 20000) = true := decide_eq_true (by omega)
      have dm3 : decide (20000 < m) = true := decide_eq_true (by omega)
      by_cases hkn : k < n
      · have da : decide ((k : Int) < (n : Int)) = true := decide_eq_true (by omega)
        have da2 : decide (k < n) = true := decide_eq_true hkn
        go_wp2
        go_ret
        exact ⟨true, rfl, HB.out, fun h => by cases h⟩
      · have hk : k = n := by omega
        subst hk
        have da : decide ((k : Int) < (k : Int)) = false := decide_eq_false (by omega)
        have da2 : decide (k < k) = false := decide_eq_false (by omega)
        go_wp2
        go_ret
        exact ⟨true, rfl, HB.out, fun h => by cases h⟩
end Go.Proofs.YtiolghcjndoigaaGreatDoor
