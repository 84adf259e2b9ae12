/-
  WALKS: a text cut off behind its length.
-/
import Derived.Test.YtiolghcjndoigaaGreatDoorEnc
import Derived.Handy
namespace Go.Proofs.YtiolghcjndoigaaGreatDoor
set_option linter.unusedVariables false
set_option linter.unusedSimpArgs false
open Go.RowKit Go.PlainAid Go.Shelf
/-- bytes as a slice -/
def Byt (w : World) (a : Option Addr) (bs : List Nat) : Prop := (a = none ∧ bs = []) ∨ ∃ b off, a = some ⟨b, off, none⟩ ∧ b < w.heap.size ∧ ∀ i (h : i < bs.length), w.cell? ⟨b, off + i, none⟩ = some (.int .u8 ((bs[i] : Nat) : Int))
theorem Byt.below {w w' : World} {a : Option Addr} {bs : List Nat} (h : Byt w a bs) (hb : Below w.heap.size w w') : Byt w' a bs := by
  rcases h with h | ⟨b, off, ha, hlt, hc⟩
  · exact .inl h
  · exact .inr ⟨b, off, ha, Nat.lt_of_lt_of_le hlt hb.size, fun i hi => (hb.cell (p := ⟨b, off + i, none⟩) hlt).trans (hc i hi)⟩
theorem Own.byt {w : World} {base : Nat} {v : Value} {ds : List Nat} (h : Own w base v ds) : ∃ a cap, v = .slice a ds.length cap ∧ ds.length ≤ cap ∧ Byt w a ds := by
  obtain ⟨h1, h2⟩ := h
  rcases h2 with ⟨rfl, h0⟩ | ⟨g, cap, cur, rfl, hg, hc, h3, h4, h5, h6⟩
  · have : ds = [] := List.eq_nil_of_length_eq_zero h0
    subst this
    exact ⟨none, 0, rfl, Nat.le_refl _, .inl ⟨rfl, rfl⟩⟩
  · refine ⟨_, cap, rfl, h3, .inr ⟨g, 0, rfl, (Array.getElem?_eq_some_iff.1 hc).1, fun i hi => ?_⟩⟩
    rw [Nat.zero_add, cell_of_row _ _ _ _ _ _ hc, ← Array.getElem?_toList]
    have := congrArg (fun l => l[i]?) h6
    simp only [Nat.mul_one, List.getElem?_take, if_pos hi, cellsOf_get ds i hi] at this
    exact this
theorem conv_byt {w : World} {a : Option Addr} {bs : List Nat} (h : Byt w a bs) (c : Nat) : (convert 83 9 (.slice a bs.length c)).run Tryz.prog w = .ok (.string (strOf bs)) w := by
  rcases h with ⟨rfl, rfl⟩ | ⟨b, off, rfl, _, hc⟩
  · exact run_convert_bytes_nil w 83 5 Tryz.underlying83 Tryz.underlying5 _ _ 9 Tryz.underlying9
  · have := run_convert_bytes_arg (P := Tryz.prog) w 83 5 Tryz.underlying83 Tryz.underlying5 b off bs.length c (bs.map fun (c : Nat) => (c : Int)) (by simp) (fun i hi => by
      rw [hc i hi]
      simp [List.getD, List.getElem?_map, List.getElem?_eq_getElem hi]) 9 Tryz.underlying9
    rw [this]
    have e : strOfNums (bs.map fun (c : Nat) => (c : Int)) = strOf bs := by
      unfold strOfNums strOf
      rw [List.map_map]
      rfl
    rw [e]
/-- behind the first k -/
theorem byt_drop (a : Option Addr) (bs : List Nat) (k : Nat) (hk : k ≤ bs.length) (c : Nat) (hc : bs.length ≤ c) :
    ∃ a', (∀ w, (Instr.slice 83 (.slice a bs.length c) (some (.int .i64 ((k : Nat) : Int))) none none).run Tryz.prog w = .ok (.slice a' (bs.length - k) (c - k)) w) ∧ ∀ w, Byt w a bs → Byt w a' (bs.drop k) := by
  refine ⟨if c = k then a else a.map (·.add (k * 1)), fun w => ?_, fun w h => ?_⟩
  · rw [run_slice_l w 83 a bs.length c (show Tryz.prog.underlying 83 = some (.slice (Tryz.prog.elem 83)) by kernel_rfl) .i64 (k : Int) (by omega) (by omega)]
    rw [show (sizeOf (Tryz.prog.elem 83)).run Tryz.prog w = .ok 1 w by kernel_rfl]
    rfl
  · rcases h with ⟨rfl, rfl⟩ | ⟨b, off, rfl, hlt, hcl⟩
    · exact .inl ⟨by split <;> rfl, by simp⟩
    · by_cases e : c = k
      · rw [if_pos e]
        exact .inr ⟨b, off, rfl, hlt, fun i hi => by rw [List.length_drop] at hi; omega⟩
      · rw [if_neg e]
        refine .inr ⟨b, off + k, by rw [Nat.mul_one]; exact congrArg some (add_at b off k), hlt, fun i hi => ?_⟩
        rw [List.length_drop] at hi
        rw [List.getElem_drop, Nat.add_assoc]
        exact hcl (k + i) (by omega)
/-- from the k-th to the e-th -/
theorem byt_mid (a : Option Addr) (bs : List Nat) (k e : Nat) (hk : k ≤ e) (he : e ≤ bs.length) (c : Nat) (hc : bs.length ≤ c) :
    ∃ a', (∀ w, (Instr.slice 83 (.slice a bs.length c) (some (.int .i64 ((k : Nat) : Int))) (some (.int .i64 ((e : Nat) : Int))) none).run Tryz.prog w = .ok (.slice a' (e - k) (c - k)) w) ∧ ∀ w, Byt w a bs → Byt w a' ((bs.drop k).take (e - k)) := by
  refine ⟨if c = k then a else a.map (·.add (k * 1)), fun w => ?_, fun w h => ?_⟩
  · rw [run_slice_lh w 83 a bs.length c (show Tryz.prog.underlying 83 = some (.slice (Tryz.prog.elem 83)) by kernel_rfl) .i64 .i64 (k : Int) (e : Int) (by omega) (by omega) (by omega)]
    rw [show (sizeOf (Tryz.prog.elem 83)).run Tryz.prog w = .ok 1 w by kernel_rfl]
    rfl
  · rcases h with ⟨rfl, rfl⟩ | ⟨b, off, rfl, hlt, hcl⟩
    · exact .inl ⟨by split <;> rfl, by simp⟩
    · by_cases h2 : c = k
      · rw [if_pos h2]
        exact .inr ⟨b, off, rfl, hlt, fun i hi => by rw [List.length_take, List.length_drop] at hi; omega⟩
      · rw [if_neg h2]
        refine .inr ⟨b, off + k, by rw [Nat.mul_one]; exact congrArg some (add_at b off k), hlt, fun i hi => ?_⟩
        rw [List.length_take, List.length_drop] at hi
        rw [List.getElem_take, List.getElem_drop, Nat.add_assoc]
        exact hcl (k + i) (by omega)
/-- the text that bytes begin with, and what follows -/
def cutM : List Nat → Option (List Nat × List Nat)
  | d0 :: d1 :: r => if d0 + 256 * d1 ≤ r.length then some (r.take (d0 + 256 * d1), r.drop (d0 + 256 * d1)) else none
  | _ => none
def CutPost (w : World) (ab : Option Addr) (bs : List Nat) (e : Ending) (w' : World) : Prop := Below w.heap.size w w' ∧
  ((cutM bs = none ∧ e = .returned (.tuple #[.string ⟨#[]⟩, .slice none 0 0, .bool false])) ∨ ∃ t r a c, cutM bs = some (t, r) ∧ e = .returned (.tuple #[.string (strOf t), .slice a r.length c, .bool true]) ∧ r.length ≤ c ∧ ∀ w0, Byt w0 ab bs → Byt w0 a r)
theorem cutM_short {bs : List Nat} (h : bs.length < 2) : cutM bs = none := by
  match bs, h with
  | [], _ => rfl
  | [_], _ => rfl
  | _ :: _ :: r, h => simp only [List.length_cons] at h; omega
set_option maxRecDepth 100000 in
set_option maxHeartbeats 1000000 in
theorem cut_any (a : Option Addr) (c : Nat) (bs : List Nat) (hB : IsB bs) (hc : bs.length ≤ c) (hl : bs.length ≤ 4611686018427387904) (w : World) (H : Byt w a bs) : Calls Tryz.prog 106 #[.slice a bs.length c] w (CutPost w a bs) := by
  by_cases h2 : bs.length < 2
  · have HN := Lib.hid (cutM_short h2)
    obtain ⟨n, hn⟩ : ∃ n, bs.length = n := ⟨_, rfl⟩
    rw [hn] at h2 ⊢
    have d1 : decide ((n : Int) < 2) = true := decide_eq_true (by omega)
    have d2 : decide (n < 2) = true := decide_eq_true h2
    clear hB hc hl H hn
    go_enter Tryz.func106, Tryz.ntmps106
    go_wp2
    go_returns
    exact ⟨Below.refl _ _, .inl ⟨HN.out, rfl⟩⟩
  · obtain ⟨d0, d1, r, rfl⟩ : ∃ d0 d1 r, bs = d0 :: d1 :: r := by
      rcases bs with _ | ⟨d0, _ | ⟨d1, r⟩⟩
      · exact absurd (by simp) h2
      · exact absurd (by simp) h2
      · exact ⟨d0, d1, r, rfl⟩
    have g0 : d0 < 256 := hB d0 List.mem_cons_self
    have g1 : d1 < 256 := hB d1 (List.mem_cons_of_mem _ List.mem_cons_self)
    have hlen : (d0 :: d1 :: r).length = r.length + 2 := rfl
    obtain ⟨q, hq⟩ : ∃ q, d0 + 256 * d1 = q := ⟨_, rfl⟩
    have HM := Lib.hid (show cutM (d0 :: d1 :: r) = if q ≤ r.length then some (r.take q, r.drop q) else none by rw [← hq]; rfl)
    rcases H with ⟨_, h⟩ | ⟨b, off, rfl, hlt, hcl⟩
    · cases h
    have x0 := hcl 0 (by rw [hlen]; omega)
    have x1 := hcl 1 (by rw [hlen]; omega)
    simp only [List.getElem_cons_zero, List.getElem_cons_succ, Nat.add_zero] at x0 x1
    have HY := Lib.hid (show Byt w (some ⟨b, off, none⟩) (d0 :: d1 :: r) from .inr ⟨b, off, rfl, hlt, hcl⟩)
    have e1 : IntKind.i64.wrap (2 + (d0 : Int)) = ((2 + d0 : Nat) : Int) := by rw [IntKind.wrap_i64]; omega
    obtain ⟨n, hn⟩ : ∃ n, (d0 :: d1 :: r).length = n := ⟨_, rfl⟩
    have HNN := Lib.hid hn
    rw [hn] at hc hl ⊢
    have hn2 : n = r.length + 2 := by rw [← hn]; exact hlen
    have t1 : decide ((n : Int) < 2) = false := decide_eq_false (by omega)
    have t2 : decide (n < 2) = false := decide_eq_false (by omega)
    have m0 : IntKind.i64.wrap (d0 : Int) = (d0 : Int) := by rw [IntKind.wrap_i64]; omega
    have m1 : IntKind.i64.wrap (d1 : Int) = (d1 : Int) := by rw [IntKind.wrap_i64]; omega
    have i0 : 0 < n := by omega
    have i1 : 1 < n := by omega
    have i2 : (0 : Int) < (n : Int) := by omega
    have i3 : (1 : Int) < (n : Int) := by omega
    have HN2 := Lib.hid hn2
    clear hcl hB hlen hn hn2
    go_enter Tryz.func106, Tryz.ntmps106
    go_wp2_with fail
    go_quiet (fail)
    obtain ⟨m, hm⟩ : ∃ m, q + 2 = m := ⟨_, rfl⟩
    have hE : 2 + (d0 : Int) + (d1 : Int) * 256 = (m : Int) := by omega
    rw [hE]
    have hnr := HN2.out
    by_cases hmn : n < m
    · have u1 : decide ((m : Int) > (n : Int)) = true := decide_eq_true (by omega)
      have u2 : decide ((n : Int) < (m : Int)) = true := decide_eq_true (by omega)
      have u3 : decide (n < m) = true := decide_eq_true hmn
      have HX := Lib.hid (show cutM (d0 :: d1 :: r) = none by rw [HM.out, if_neg (by omega)])
      clear hE hnr
      go_wp2
      go_returns
      exact ⟨below_drewN (Below.refl _ _) nq, .inl ⟨HX.out, rfl⟩⟩
    · have u1 : decide ((m : Int) > (n : Int)) = false := decide_eq_false (by omega)
      have u2 : decide ((n : Int) < (m : Int)) = false := decide_eq_false (by omega)
      have u3 : decide (n < m) = false := decide_eq_false hmn
      have HX := Lib.hid (show cutM (d0 :: d1 :: r) = some (r.take q, r.drop q) by rw [HM.out, if_pos (by omega)])
      obtain ⟨a2, hs2, hy2'⟩ := byt_mid (some ⟨b, off, none⟩) (d0 :: d1 :: r) 2 m (by omega) (by rw [HNN.out]; omega) c (by rw [HNN.out]; exact hc)
      obtain ⟨a3, hs3, hy3⟩ := byt_drop (some ⟨b, off, none⟩) (d0 :: d1 :: r) m (by rw [HNN.out]; omega) c (by rw [HNN.out]; exact hc)
      rw [HNN.out] at hs2 hs3
      have em : ((d0 :: d1 :: r).drop 2).take (m - 2) = r.take q := by rw [← hm]; rfl
      have er : (d0 :: d1 :: r).drop m = r.drop q := by rw [← hm]; rfl
      have hy2 := hy2' w HY.out
      rw [em] at hy2
      rw [er] at hy3
      have lm : (r.take q).length = m - 2 := by rw [List.length_take]; omega
      have lr : (r.drop q).length = n - m := by rw [List.length_drop]; omega
      have hcv : ∀ k, (convert 83 9 (.slice a2 (m - 2) (c - 2))).run Tryz.prog (w.drewN k) = .ok (.string (strOf (r.take q))) (w.drewN k) := fun k => by
        have := conv_byt (show Byt (w.drewN k) a2 (r.take q) from hy2) (c - 2)
        rw [lm] at this
        exact this
      have hs2' : ∀ w, (Instr.slice 83 (.slice (some ⟨b, off, none⟩) n c) (some (.int .i64 2)) (some (.int .i64 (m : Int))) none).run Tryz.prog w = .ok (.slice a2 (m - 2) (c - 2)) w := hs2
      have HY3 := Lib.hid hy3
      obtain ⟨T, hT⟩ : ∃ T, strOf (r.take q) = T := ⟨_, rfl⟩
      have HTT := Lib.hid hT
      rw [hT] at hcv
      have HLR := Lib.hid lr
      have hmc : m ≤ c := by omega
      have HMC := Lib.hid (show (r.drop q).length ≤ c - m by rw [lr]; omega)
      clear hE hnr hs2 hy2 hy2' hy3 em er lm lr hT
      go_wp2_with fail
      go_quiet (fail)
      go_wp2
      go_returns
      exact ⟨below_drewN (below_drewN (Below.refl _ _) _) _, .inr ⟨r.take q, r.drop q, a3, c - m, HX.out, by rw [HLR.out, HTT.out]; rfl, HMC.out, HY3.out⟩⟩
end Go.Proofs.YtiolghcjndoigaaGreatDoor
