/-
  MATHEMATICS: a set is written and read again.
-/
import Derived.Test.YtiolghcjndoigaaGreatDoorEnc
import Derived.Test.YtiolghcjndoigaaGreatDoorRda
import Derived.Test.YtiolghcjndoigaaGreatDoorJKno
import Derived.Handy
namespace Go.Proofs.YtiolghcjndoigaaGreatDoor
set_option linter.unusedVariables false
set_option linter.unusedSimpArgs false
open Go.RowKit Go.PlainAid Go.Shelf
/-- bytes as a slice -/
def Byt (w : World) (a : Option Addr) (bs : List Nat) : Prop := (a = none ∧ bs = []) ∨ ∃ b off, a = some ⟨b, off, none⟩ ∧ b < w.heap.size ∧ ∀ i (h : i < bs.length), w.cell? ⟨b, off + i, none⟩ = some (.int .u8 ((bs[i] : Nat) : Int))
theorem Byt.below {w w' : World} {a : Option Addr} {bs : List Nat} (h : Byt w a bs) (hb : Below w.heap.size w w') : Byt w' a bs := by
  rcases h with h | ⟨b, off, ha, hlt, hc⟩
  · exact .inl h
  · exact .inr ⟨b, off, ha, Nat.lt_of_lt_of_le hlt hb.size, fun i hi => (hb.cell (p := ⟨b, off + i, none⟩) hlt).trans (hc i hi)⟩
theorem Own.byt {w : World} {base : Nat} {v : Value} {ds : List Nat} (h : Own w base v ds) : ∃ a cap, v = .slice a ds.length cap ∧ ds.length ≤ cap ∧ Byt w a ds := by
  obtain ⟨h1, h2⟩ := h
  rcases h2 with ⟨rfl, h0⟩ | ⟨g, cap, cur, rfl, hg, hc, h3, h4, h5, h6⟩
  · have : ds = [] := List.eq_nil_of_length_eq_zero h0
    subst this
    exact ⟨none, 0, rfl, Nat.le_refl _, .inl ⟨rfl, rfl⟩⟩
  · refine ⟨_, cap, rfl, h3, .inr ⟨g, 0, rfl, (Array.getElem?_eq_some_iff.1 hc).1, fun i hi => ?_⟩⟩
    rw [Nat.zero_add, cell_of_row _ _ _ _ _ _ hc, ← Array.getElem?_toList]
    have := congrArg (fun l => l[i]?) h6
    simp only [Nat.mul_one, List.getElem?_take, if_pos hi, cellsOf_get ds i hi] at this
    exact this
theorem conv_byt {w : World} {a : Option Addr} {bs : List Nat} (h : Byt w a bs) (c : Nat) : (convert 83 9 (.slice a bs.length c)).run Tryz.prog w = .ok (.string (strOf bs)) w := by
  rcases h with ⟨rfl, rfl⟩ | ⟨b, off, rfl, _, hc⟩
  · exact run_convert_bytes_nil w 83 5 Tryz.underlying83 Tryz.underlying5 _ _ 9 Tryz.underlying9
  · have := run_convert_bytes_arg (P := Tryz.prog) w 83 5 Tryz.underlying83 Tryz.underlying5 b off bs.length c (bs.map fun (c : Nat) => (c : Int)) (by simp) (fun i hi => by
      rw [hc i hi]
      simp [List.getD, List.getElem?_map, List.getElem?_eq_getElem hi]) 9 Tryz.underlying9
    rw [this]
    have e : strOfNums (bs.map fun (c : Nat) => (c : Int)) = strOf bs := by
      unfold strOfNums strOf
      rw [List.map_map]
      rfl
    rw [e]
/-- behind the first k -/
theorem byt_drop (a : Option Addr) (bs : List Nat) (k : Nat) (hk : k ≤ bs.length) (c : Nat) (hc : bs.length ≤ c) :
    ∃ a', (∀ w, (Instr.slice 83 (.slice a bs.length c) (some (.int .i64 ((k : Nat) : Int))) none none).run Tryz.prog w = .ok (.slice a' (bs.length - k) (c - k)) w) ∧ ∀ w, Byt w a bs → Byt w a' (bs.drop k) := by
  refine ⟨if c = k then a else a.map (·.add (k * 1)), fun w => ?_, fun w h => ?_⟩
  · rw [run_slice_l w 83 a bs.length c (show Tryz.prog.underlying 83 = some (.slice (Tryz.prog.elem 83)) by kernel_rfl) .i64 (k : Int) (by omega) (by omega)]
    rw [show (sizeOf (Tryz.prog.elem 83)).run Tryz.prog w = .ok 1 w by kernel_rfl]
    rfl
  · rcases h with ⟨rfl, rfl⟩ | ⟨b, off, rfl, hlt, hcl⟩
    · exact .inl ⟨by split <;> rfl, by simp⟩
    · by_cases e : c = k
      · rw [if_pos e]
        exact .inr ⟨b, off, rfl, hlt, fun i hi => by rw [List.length_drop] at hi; omega⟩
      · rw [if_neg e]
        refine .inr ⟨b, off + k, by rw [Nat.mul_one]; exact congrArg some (add_at b off k), hlt, fun i hi => ?_⟩
        rw [List.length_drop] at hi
        rw [List.getElem_drop, Nat.add_assoc]
        exact hcl (k + i) (by omega)
/-- from the k-th to the e-th -/
theorem byt_mid (a : Option Addr) (bs : List Nat) (k e : Nat) (hk : k ≤ e) (he : e ≤ bs.length) (c : Nat) (hc : bs.length ≤ c) :
    ∃ a', (∀ w, (Instr.slice 83 (.slice a bs.length c) (some (.int .i64 ((k : Nat) : Int))) (some (.int .i64 ((e : Nat) : Int))) none).run Tryz.prog w = .ok (.slice a' (e - k) (c - k)) w) ∧ ∀ w, Byt w a bs → Byt w a' ((bs.drop k).take (e - k)) := by
  refine ⟨if c = k then a else a.map (·.add (k * 1)), fun w => ?_, fun w h => ?_⟩
  · rw [run_slice_lh w 83 a bs.length c (show Tryz.prog.underlying 83 = some (.slice (Tryz.prog.elem 83)) by kernel_rfl) .i64 .i64 (k : Int) (e : Int) (by omega) (by omega) (by omega)]
    rw [show (sizeOf (Tryz.prog.elem 83)).run Tryz.prog w = .ok 1 w by kernel_rfl]
    rfl
  · rcases h with ⟨rfl, rfl⟩ | ⟨b, off, rfl, hlt, hcl⟩
    · exact .inl ⟨by split <;> rfl, by simp⟩
    · by_cases h2 : c = k
      · rw [if_pos h2]
        exact .inr ⟨b, off, rfl, hlt, fun i hi => by rw [List.length_take, List.length_drop] at hi; omega⟩
      · rw [if_neg h2]
        refine .inr ⟨b, off + k, by rw [Nat.mul_one]; exact congrArg some (add_at b off k), hlt, fun i hi => ?_⟩
        rw [List.length_take, List.length_drop] at hi
        rw [List.getElem_take, List.getElem_drop, Nat.add_assoc]
        exact hcl (k + i) (by omega)
/-- the text that bytes begin with, and what follows -/
def cutM : List Nat → Option (List Nat × List Nat)
  | d0 :: d1 :: r => if d0 + 256 * d1 ≤ r.length then some (r.take (d0 + 256 * d1), r.drop (d0 + 256 * d1)) else none
  | _ => none
def CutPost (w : World) (ab : Option Addr) (bs : List Nat) (e : Ending) (w' : World) : Prop := Below w.heap.size w w' ∧
  ((cutM bs = none ∧ e = .returned (.tuple #[.string ⟨#[]⟩, .slice none 0 0, .bool false])) ∨ ∃ t r a c, cutM bs = some (t, r) ∧ e = .returned (.tuple #[.string (strOf t), .slice a r.length c, .bool true]) ∧ r.length ≤ c ∧ ∀ w0, Byt w0 ab bs → Byt w0 a r)
theorem cutM_short {bs : List Nat} (h : bs.length < 2) : cutM bs = none := by
  match bs, h with
  | [], _ => rfl
  | [_], _ => rfl
  | _ :: _ :: r, h => simp only [List.length_cons] at h; omega
set_option maxRecDepth 100000 in
set_option maxHeartbeats 1000000 in
theorem cut_any (a : Option Addr) (c : Nat) (bs : List Nat) (hB : IsB bs) (hc : bs.length ≤ c) (hl : bs.length ≤ 4611686018427387904) (w : World) (H : Byt w a bs) : Calls Tryz.prog 106 #[.slice a bs.length c] w (CutPost w a bs) := by
  by_cases h2 : bs.length < 2
  · have HN := Lib.hid (cutM_short h2)
    obtain ⟨n, hn⟩ : ∃ n, bs.length = n := ⟨_, rfl⟩
    rw [hn] at h2 ⊢
    have d1 : decide ((n : Int) < 2) = true := decide_eq_true (by omega)
    have d2 : decide (n < 2) = true := decide_eq_true h2
    clear hB hc hl H hn
    go_enter Tryz.func106, Tryz.ntmps106
    go_wp2
    go_returns
    exact ⟨Below.refl _ _, .inl ⟨HN.out, rfl⟩⟩
  · obtain ⟨d0, d1, r, rfl⟩ : ∃ d0 d1 r, bs = d0 :: d1 :: r := by
      rcases bs with _ | ⟨d0, _ | ⟨d1, r⟩⟩
      · exact absurd (by simp) h2
      · exact absurd (by simp) h2
      · exact ⟨d0, d1, r, rfl⟩
    have g0 : d0 < 256 := hB d0 List.mem_cons_self
    have g1 : d1 < 256 := hB d1 (List.mem_cons_of_mem _ List.mem_cons_self)
    have hlen : (d0 :: d1 :: r).length = r.length + 2 := rfl
    obtain ⟨q, hq⟩ : ∃ q, d0 + 256 * d1 = q := ⟨_, rfl⟩
    have HM := Lib.hid (show cutM (d0 :: d1 :: r) = if q ≤ r.length then some (r.take q, r.drop q) else none by rw [← hq]; rfl)
    rcases H with ⟨_, h⟩ | ⟨b, off, rfl, hlt, hcl⟩
    · cases h
    have x0 := hcl 0 (by rw [hlen]; omega)
    have x1 := hcl 1 (by rw [hlen]; omega)
    simp only [List.getElem_cons_zero, List.getElem_cons_succ, Nat.add_zero] at x0 x1
    have HY := Lib.hid (show Byt w (some ⟨b, off, none⟩) (d0 :: d1 :: r) from .inr ⟨b, off, rfl, hlt, hcl⟩)
    have e1 : IntKind.i64.wrap (2 + (d0 : Int)) = ((2 + d0 : Nat) : Int) := by rw [IntKind.wrap_i64]; omega
    obtain ⟨n, hn⟩ : ∃ n, (d0 :: d1 :: r).length = n := ⟨_, rfl⟩
    have HNN := Lib.hid hn
    rw [hn] at hc hl ⊢
    have hn2 : n = r.length + 2 := by rw [← hn]; exact hlen
    have t1 : decide ((n : Int) < 2) = false := decide_eq_false (by omega)
    have t2 : decide (n < 2) = false := decide_eq_false (by omega)
    have m0 : IntKind.i64.wrap (d0 : Int) = (d0 : Int) := by rw [IntKind.wrap_i64]; omega
    have m1 : IntKind.i64.wrap (d1 : Int) = (d1 : Int) := by rw [IntKind.wrap_i64]; omega
    have i0 : 0 < n := by omega
    have i1 : 1 < n := by omega
    have i2 : (0 : Int) < (n : Int) := by omega
    have i3 : (1 : Int) < (n : Int) := by omega
    have HN2 := Lib.hid hn2
    clear hcl hB hlen hn hn2
    go_enter Tryz.func106, Tryz.ntmps106
    go_wp2_with fail
    go_quiet (fail)
    obtain ⟨m, hm⟩ : ∃ m, q + 2 = m := ⟨_, rfl⟩
    have hE : 2 + (d0 : Int) + (d1 : Int) * 256 = (m : Int) := by omega
    rw [hE]
    have hnr := HN2.out
    by_cases hmn : n < m
    · have u1 : decide ((m : Int) > (n : Int)) = true := decide_eq_true (by omega)
      have u2 : decide ((n : Int) < (m : Int)) = true := decide_eq_true (by omega)
      have u3 : decide (n < m) = true := decide_eq_true hmn
      have HX := Lib.hid (show cutM (d0 :: d1 :: r) = none by rw [HM.out, if_neg (by omega)])
      clear hE hnr
      go_wp2
      go_returns
      exact ⟨below_drewN (Below.refl _ _) nq, .inl ⟨HX.out, rfl⟩⟩
    · have u1 : decide ((m : Int) > (n : Int)) = false := decide_eq_false (by omega)
      have u2 : decide ((n : Int) < (m : Int)) = false := decide_eq_false (by omega)
      have u3 : decide (n < m) = false := decide_eq_false hmn
      have HX := Lib.hid (show cutM (d0 :: d1 :: r) = some (r.take q, r.drop q) by rw [HM.out, if_pos (by omega)])
      obtain ⟨a2, hs2, hy2'⟩ := byt_mid (some ⟨b, off, none⟩) (d0 :: d1 :: r) 2 m (by omega) (by rw [HNN.out]; omega) c (by rw [HNN.out]; exact hc)
      obtain ⟨a3, hs3, hy3⟩ := byt_drop (some ⟨b, off, none⟩) (d0 :: d1 :: r) m (by rw [HNN.out]; omega) c (by rw [HNN.out]; exact hc)
      rw [HNN.out] at hs2 hs3
      have em : ((d0 :: d1 :: r).drop 2).take (m - 2) = r.take q := by rw [← hm]; rfl
      have er : (d0 :: d1 :: r).drop m = r.drop q := by rw [← hm]; rfl
      have hy2 := hy2' w HY.out
      rw [em] at hy2
      rw [er] at hy3
      have lm : (r.take q).length = m - 2 := by rw [List.length_take]; omega
      have lr : (r.drop q).length = n - m := by rw [List.length_drop]; omega
      have hcv : ∀ k, (convert 83 9 (.slice a2 (m - 2) (c - 2))).run Tryz.prog (w.drewN k) = .ok (.string (strOf (r.take q))) (w.drewN k) := fun k => by
        have := conv_byt (show Byt (w.drewN k) a2 (r.take q) from hy2) (c - 2)
        rw [lm] at this
        exact this
      have hs2' : ∀ w, (Instr.slice 83 (.slice (some ⟨b, off, none⟩) n c) (some (.int .i64 2)) (some (.int .i64 (m : Int))) none).run Tryz.prog w = .ok (.slice a2 (m - 2) (c - 2)) w := hs2
      have HY3 := Lib.hid hy3
      obtain ⟨T, hT⟩ : ∃ T, strOf (r.take q) = T := ⟨_, rfl⟩
      have HTT := Lib.hid hT
      rw [hT] at hcv
      have HLR := Lib.hid lr
      have hmc : m ≤ c := by omega
      have HMC := Lib.hid (show (r.drop q).length ≤ c - m by rw [lr]; omega)
      clear hE hnr hs2 hy2 hy2' hy3 em er lm lr hT
      go_wp2_with fail
      go_quiet (fail)
      go_wp2
      go_returns
      exact ⟨below_drewN (below_drewN (Below.refl _ _) _) _, .inr ⟨r.take q, r.drop q, a3, c - m, HX.out, by rw [HLR.out, HTT.out]; rfl, HMC.out, HY3.out⟩⟩
end Go.Proofs.YtiolghcjndoigaaGreatDoor
namespace Go.Proofs.YtiolghcjndoigaaGreatDoor
set_option linter.unusedVariables false
set_option linter.unusedSimpArgs false
open Go.RowKit Go.PlainAid Go.Shelf
/-- so many labels, and what follows -/
def decL : Nat → List Nat → Option (List Lm.Lb × List Nat)
  | 0, r => some ([], r)
  | k + 1, r => match cutM r with
    | none => none
    | some (n, r1) => match cutM r1 with
      | none => none
      | some (v, r2) => (decL k r2).map fun p => ((strOf n, strOf v) :: p.1, p.2)
/-- what Decode says of bytes -/
def DecIs (bs : List Nat) (n c : Nat) (out : List Lm.Lb) : Prop :=
  (c = 70 ∧ n = 0 ∧ out = [] ∧ (bs = [] ∨ ∃ d r, bs = d :: r ∧ (decL d r = none ∨ ∃ l r3 ce, decL d r = some (l, r3) ∧ CheckIs l ce ∧ ce ≠ 0))) ∨
  (c = 0 ∧ ∃ d r r3, bs = d :: r ∧ decL d r = some (out, r3) ∧ CheckIs out 0 ∧ n = bs.length - r3.length)
def DecPost (w : World) (bs : List Nat) (e : Ending) (w' : World) : Prop := ∃ v n c out, e = .returned (.tuple #[v, .int .i64 ((n : Nat) : Int), .int .u16 ((c : Nat) : Int)]) ∧ DecIs bs n c out ∧ OwnL w' w.heap.size v out ∧ Below w.heap.size w w'
theorem cutM_isB {bs t r : List Nat} (h : cutM bs = some (t, r)) (hB : IsB bs) : IsB t ∧ IsB r ∧ t.length + r.length + 2 = bs.length := by
  rcases bs with _ | ⟨d0, _ | ⟨d1, q⟩⟩
  · cases h
  · cases h
  · rw [show cutM (d0 :: d1 :: q) = if d0 + 256 * d1 ≤ q.length then some (q.take (d0 + 256 * d1), q.drop (d0 + 256 * d1)) else none from rfl] at h
    by_cases hq : d0 + 256 * d1 ≤ q.length
    · rw [if_pos hq] at h
      have h1 := congrArg Prod.fst (Option.some.inj h)
      have h2 := congrArg Prod.snd (Option.some.inj h)
      simp only at h1 h2
      subst h1 h2
      refine ⟨fun c hc => hB c (List.mem_cons_of_mem _ (List.mem_cons_of_mem _ (List.mem_of_mem_take hc))), fun c hc => hB c (List.mem_cons_of_mem _ (List.mem_cons_of_mem _ (List.mem_of_mem_drop hc))), ?_⟩
      rw [List.length_take, List.length_drop, List.length_cons, List.length_cons]
      omega
    · rw [if_neg hq] at h; cases h
theorem shape_nil {w : World} {base : Nat} {a : Option Addr} {n c : Nat} {l : List Lm.Lb} (h : OwnL w base (.slice a n c) l) : n = l.length := by
  obtain ⟨_, h2⟩ := h
  rcases h2 with ⟨hv, h0⟩ | ⟨g, cap, cur, hv, _⟩
  · cases hv; omega
  · cases hv; rfl
theorem decL_zero (r : List Nat) : decL 0 r = some ([], r) := rfl
theorem decL_none1 {k : Nat} {r : List Nat} (h : cutM r = none) : decL (k + 1) r = none := by rw [decL, h]
theorem decL_none2 {k : Nat} {r n r1 : List Nat} (h : cutM r = some (n, r1)) (h2 : cutM r1 = none) : decL (k + 1) r = none := by rw [decL, h]; simp only; rw [h2]
theorem decL_step {k : Nat} {r n r1 v r2 : List Nat} (h : cutM r = some (n, r1)) (h2 : cutM r1 = some (v, r2)) : decL (k + 1) r = (decL k r2).map fun p => ((strOf n, strOf v) :: p.1, p.2) := by rw [decL, h]; simp only; rw [h2]
theorem append_map (s : List Lm.Lb) (x : Lm.Lb) (o : Option (List Lm.Lb × List Nat)) : (o.map fun p => (x :: p.1, p.2)).map (fun p => (s ++ p.1, p.2)) = o.map fun p => ((s ++ [x]) ++ p.1, p.2) := by
  cases o with
  | none => rfl
  | some p => simp
set_option maxRecDepth 100000 in
set_option maxHeartbeats 4000000 in
theorem decode_any (a : Option Addr) (c : Nat) (bs : List Nat) (hB : IsB bs) (hc : bs.length ≤ c) (hl : bs.length ≤ 4611686018427387904) (w : World) (H : Byt w a bs) : Calls Tryz.prog 43 #[.slice a bs.length c] w (DecPost w bs) := by
  obtain ⟨i0, hi, hz0, hz1, hz2⟩ := info_parts info94
  rcases bs with _ | ⟨d, r⟩
  · clear hB hc hl H
    show Calls Tryz.prog 43 #[.slice a 0 c] w (DecPost w [])
    go_enter Tryz.func43, Tryz.ntmps43
    go_wp2
    go_returns
    exact ⟨.slice none 0 0, 0, 70, [], rfl, .inl ⟨rfl, rfl, rfl, .inl rfl⟩, OwnL.nil _ _, Below.refl _ _⟩
  · have hd : d < 256 := hB d List.mem_cons_self
    have hBr : IsB r := fun x hx => hB x (List.mem_cons_of_mem _ hx)
    obtain ⟨a1, hs1, hy1'⟩ := byt_drop a (d :: r) 1 (by simp) c hc
    have hy1 := hy1' w H
    have hd1 : (d :: r).drop 1 = r := rfl
    rw [hd1] at hy1
    rcases H with ⟨_, h⟩ | ⟨b, off, rfl, hlt, hcl⟩
    · cases h
    have x0 := hcl 0 (by simp)
    simp only [List.getElem_cons_zero, Nat.add_zero] at x0
    obtain ⟨n, hn⟩ : ∃ n, (d :: r).length = n := ⟨_, rfl⟩
    have HNN := Lib.hid hn
    rw [hn] at hc hl hs1 ⊢
    have hnr : n - 1 = r.length := by rw [← hn]; rfl
    rw [hnr] at hs1
    have hs1' : ∀ w, (Instr.slice 83 (.slice (some ⟨b, off, none⟩) n c) (some (.int .i64 1)) none none).run Tryz.prog w = .ok (.slice a1 r.length (c - 1)) w := hs1
    have i0' : 0 < n := by rw [← hn]; simp
    have i1' : (0 : Int) < (n : Int) := by omega
    have t1 : ((n : Int) == 0) = false := by simp; omega
    have t2 : ¬ ((n : Int) = 0) := by omega
    have t3 : ¬ (n = 0) := by omega
    have HY := Lib.hid hy1
    have HBR := Lib.hid hBr
    have HRC := Lib.hid (show r.length ≤ c - 1 by omega)
    have HCUT := Lib.hid cut_any
    have HRL := Lib.hid (show r.length ≤ 4611686018427387904 by omega)
    have HNR := Lib.hid hnr
    obtain ⟨m, hm⟩ : ∃ m, r.length = m := ⟨_, rfl⟩
    have HMM := Lib.hid hm
    rw [hm] at hs1'
    clear hs1 hy1 hy1' hB hBr hcl hn hnr hd1 hm
    go_enter Tryz.func43, Tryz.ntmps43
    go_wp2
    go_loopw [5, 6, 20] (fun v rv i wr => ∃ (k : Nat) (sofar : List Lm.Lb) (rr : List Nat) (ar : Option Addr) (cr : Nat), k ≤ d ∧ i = .int .u8 ((k : Nat) : Int) ∧ rv = .slice ar rr.length cr ∧ Hid (OwnL wr w.heap.size v sofar) ∧ Hid (Byt w ar rr) ∧ Hid (IsB rr) ∧ Hid (rr.length ≤ cr ∧ rr.length ≤ 4611686018427387904 ∧ sofar.length = k ∧ rr.length ≤ n) ∧ Hid (decL d r = (decL (d - k) rr).map fun p => (sofar ++ p.1, p.2)) ∧ Hid (Below w.heap.size w wr)) (fun _ _ i _ => (d - intOf i).toNat)
    case atStart => exact ⟨0, [], r, a1, c - 1, Nat.zero_le _, rfl, by rw [HMM.out], Lib.hid (World.ownsRow_nil _ _ _ _), HY, HBR, Lib.hid ⟨HRC.out, HRL.out, rfl, by have := HNR.out; omega⟩, Lib.hid (by cases decL (d - 0) r with | none => rfl | some p => rfl), Lib.hid (Below.refl _ _)⟩
    case round =>
      obtain ⟨k, sofar, rr, ar, cr, hkd, rfl, rfl, HO, HYR, HBB, HNS, HE, HBW⟩ := hrel
      by_cases hk : k < d
      · have da : decide ((k : Int) < (d : Int)) = true := decide_eq_true (by omega)
        have da2 : decide (k < d) = true := decide_eq_true hk
        have e8 : IntKind.u8.wrap ((k : Int) + 1) = ((k + 1 : Nat) : Int) := by rw [IntKind.wrap_u8]; omega
        have C1 := Lib.hid (HCUT.out ar cr rr HBB.out HNS.out.1 HNS.out.2.1 wr (HYR.out.below HBW.out))
        obtain ⟨M, hM⟩ : ∃ M, rr.length = M := ⟨_, rfl⟩
        have HMR := Lib.hid hM
        rw [hM] at C1 ⊢
        clear hM
        go_wp2_with fail
        refine C1.out.mono ?_
        rintro e w1 ⟨hb, ⟨hcm, rfl⟩ | ⟨t, r1, a2, c2, hcm, rfl, hlc, hy⟩⟩
        · have B1 := Lib.hid (HBW.out.trans (hb.mono HBW.out.size))
          have HCN := Lib.hid (HCUT.out none 0 [] IsB.nil (Nat.le_refl _) (by simp) w1 (.inl ⟨rfl, rfl⟩))
          have HX := Lib.hid (show decL d r = none by rw [HE.out, show d - k = (d - k - 1) + 1 by omega, decL_none1 hcm]; rfl)
          clear hb hcm
          go_wp2_with fail
          refine HCN.out.mono ?_
          rintro e w2 ⟨hb, ⟨_, rfl⟩ | ⟨t, r1, a2, c2, hcm, _⟩⟩
          · have B2 := Lib.hid (B1.out.trans (hb.mono B1.out.size))
            clear hb
            go_wp2
            go_returns
            exact ⟨.slice none 0 0, 0, 70, [], rfl, .inl ⟨rfl, rfl, rfl, .inr ⟨d, r, rfl, .inl HX.out⟩⟩, OwnL.nil _ _, B2.out⟩
          · cases hcm
        · obtain ⟨q1, q2, q3⟩ := cutM_isB hcm HBB.out
          have B1 := Lib.hid (HBW.out.trans (hb.mono HBW.out.size))
          have O1 := Lib.hid (HO.out.below hb)
          have HCM := Lib.hid hcm
          have C2 := Lib.hid (HCUT.out a2 c2 r1 q2 hlc (by have := HNS.out.2.1; omega) w1 ((hy w HYR.out).below B1.out))
          have HY1 := Lib.hid (hy w HYR.out)
          have HQ := Lib.hid (show r1.length ≤ n by have := HNS.out.2.2.2; omega)
          have HQ2 := Lib.hid q2
          obtain ⟨M1, hM1⟩ : ∃ M, r1.length = M := ⟨_, rfl⟩
          have HM1 := Lib.hid hM1
          rw [hM1] at C2 ⊢
          obtain ⟨T1, hT1⟩ : ∃ T, strOf t = T := ⟨_, rfl⟩
          have HT1 := Lib.hid hT1
          rw [hT1]
          clear hb hcm q1 q2 q3 hlc hy hM1 hT1
          go_wp2_with fail
          refine C2.out.mono ?_
          rintro e w2 ⟨hb, ⟨hcm, rfl⟩ | ⟨t2, r2, a3, c3, hcm, rfl, hlc, hy⟩⟩
          · have B2 := Lib.hid (B1.out.trans (hb.mono B1.out.size))
            have HX := Lib.hid (show decL d r = none by rw [HE.out, show d - k = (d - k - 1) + 1 by omega, decL_none2 HCM.out hcm]; rfl)
            clear hb hcm
            go_wp2
            go_returns
            exact ⟨.slice none 0 0, 0, 70, [], rfl, .inl ⟨rfl, rfl, rfl, .inr ⟨d, r, rfl, .inl HX.out⟩⟩, OwnL.nil _ _, B2.out⟩
          · obtain ⟨q1, q2, q3⟩ := cutM_isB hcm HQ2.out
            have B2 := Lib.hid (B1.out.trans (hb.mono B1.out.size))
            have O2 := Lib.hid (O1.out.below hb)
            have HX := Lib.hid (show decL d r = (decL (d - (k + 1)) r2).map fun p => ((sofar ++ [(strOf t, strOf t2)]) ++ p.1, p.2) by
              rw [HE.out, show d - k = (d - (k + 1)) + 1 by omega, decL_step HCM.out hcm, append_map])
            have HQ3 := Lib.hid (show r2.length ≤ c3 ∧ r2.length ≤ 4611686018427387904 ∧ r2.length ≤ n from ⟨hlc, by have := HQ.out; omega, by have := HQ.out; omega⟩)
            have HQ4 := Lib.hid q2
            have HY2 := Lib.hid (hy w HY1.out)
            obtain ⟨T2, hT2⟩ : ∃ T, strOf t2 = T := ⟨_, rfl⟩
            rw [HT1.out, hT2] at HX
            rw [hT2]
            obtain ⟨av, cv, rfl⟩ := ownL_shape O2.out
            have hsk := HNS.out.2.2.1
            rw [hsk] at O2 ⊢
            have HON5 : Hid (∀ o : Obj, (w2.alloc o).ownsRow w.heap.size 94 2 (.slice av k cv) k (sofar.flatMap enc2)) := Lib.hid (fun o => by
              have h := O2.out.below ((Below.refl w2.heap.size w2).alloc (Nat.le_refl _) o)
              unfold OwnL at h
              rw [hsk] at h
              exact h)
            have HOB := Lib.hid (ownL_block O2.out)
            have hw2 : w.heap.size ≤ w2.heap.size := B2.out.size
            have hk255 : k ≤ 255 := by omega
            obtain ⟨M2, hM2⟩ : ∃ M, r2.length = M := ⟨_, rfl⟩
            have HM2 := Lib.hid hM2
            rw [hM2] at ⊢
            have HSK := Lib.hid hsk
            clear hb hcm q1 q2 q3 hlc hy hT2 hM2 hsk
            go_wp2_with (first
              | (at_builtin; refine wpList_append_own _ rfl (.tmp 40) (.tmp 44) 22 rfl w.heap.size 94 i0 (.agg #[.string ⟨#[]⟩, .string ⟨#[]⟩]) 2 32 Tryz.underlying22 hi hz0 hz1 hz2 rfl (by decide) (.slice av k cv) k (sofar.flatMap enc2) rfl (HON5.out _) ⟨w2.heap.size, 0, none⟩ 1 1 (enc2 (T1, T2)) rfl rfl (two_new w2 (T1, T2)) (by simp [Value.oneCell', enc2]) (by unfold maxLen; omega) (by omega) (by simp; omega) ?_; intro v5 w5 hown5 hgr5 hne5
                 have g1 : OwnL w5 w.heap.size v5 (sofar ++ [(T1, T2)]) := (by unfold OwnL; rw [List.length_append, List.flatMap_append, HSK.out]; simpa using hown5)
                 have hbA : Below w2.heap.size w2 (w2.alloc (.cells #[.string T1, .string T2] 94)) := (Below.refl _ w2).alloc (Nat.le_refl _) _
                 have B5 := Lib.hid ((B2.out.trans (hbA.mono hw2)).grown hgr5 (by simp; omega) (fun j hj => HOB.out j hj))
                 have O5 := Lib.hid g1
                 obtain ⟨a5, c5, rfl⟩ := ownL_shape g1
                 obtain ⟨n5, hn5⟩ : ∃ n, (sofar ++ [(T1, T2)]).length = n := ⟨_, rfl⟩
                 rw [hn5] at O5 ⊢
                 clear hown5 hgr5 hne5 g1 hn5 hbA)
              | fail)
            go_roundw
            case rel => exact ⟨k + 1, sofar ++ [(T1, T2)], r2, a3, c3, by omega, by simp, by rw [HM2.out], O5, HY2, HQ4, Lib.hid ⟨HQ3.out.1, HQ3.out.2.1, by rw [List.length_append, HSK.out]; rfl, HQ3.out.2.2⟩, HX, B5⟩
            case measure => simp [intOf]; omega
      · have hkd2 : k = d := by omega
        subst hkd2
        have da : decide ((k : Int) < (k : Int)) = false := decide_eq_false (by omega)
        have da2 : decide (k < k) = false := decide_eq_false (by omega)
        have HX := Lib.hid (show decL k r = some (sofar, rr) by rw [HE.out, Nat.sub_self, decL_zero]; simp)
        obtain ⟨av, cv, rfl, hla, _⟩ := HO.out.labs
        have CC := Lib.hid (check_any av cv sofar wr hla (by have := HNS.out.2.2.1; omega))
        have HS := Lib.hid (show k ≤ 255 by omega)
        obtain ⟨ns, hns⟩ : ∃ n, sofar.length = n := ⟨_, rfl⟩
        rw [hns] at CC HO ⊢
        obtain ⟨M, hM⟩ : ∃ M, rr.length = M := ⟨_, rfl⟩
        have HMR := Lib.hid hM
        have hMn : M ≤ n := by rw [← hM]; exact HNS.out.2.2.2
        rw [hM]
        have e1 : wrap64 ((n : Int) - (M : Int)) = ((n - M : Nat) : Int) := by rw [wrap64_small (by omega) (by omega)]; omega
        clear hla hns hM
        go_wp2_with fail
        refine CC.out.mono ?_
        rintro e w2 ⟨ce, rfl, hce, hb⟩
        have B2 := Lib.hid (HBW.out.trans (hb.mono HBW.out.size))
        have O2 := Lib.hid (HO.out.below hb)
        have HC := Lib.hid hce
        clear hb hce
        by_cases h0 : ce = 0
        · subst h0
          go_wp2
          go_returns
          exact ⟨.slice av ns cv, n - M, 0, sofar, by rw [show ((n - M : Nat) : Int) = (n : Int) - (M : Int) by omega]; rfl, .inr ⟨rfl, k, r, rr, rfl, HX.out, HC.out, by rw [HNN.out, HMR.out]⟩, O2.out, B2.out⟩
        · have d1 : ((ce : Int) == 0) = false := by simp; omega
          have d2 : ¬ ((ce : Int) = 0) := by omega
          have d3 : ¬ (ce = 0) := h0
          go_wp2
          go_returns
          exact ⟨.slice none 0 0, 0, 70, [], rfl, .inl ⟨rfl, rfl, rfl, .inr ⟨k, r, rfl, .inr ⟨sofar, rr, ce, HX.out, HC.out, h0⟩⟩⟩, OwnL.nil _ _, B2.out⟩
end Go.Proofs.YtiolghcjndoigaaGreatDoor
namespace Go.Proofs.YtiolghcjndoigaaGreatDoor
set_option linter.unusedVariables false
set_option linter.unusedSimpArgs false
open Go.RowKit Go.PlainAid Go.Shelf
/-- a set -/
structure IsSet (S : List Lm.Lb) : Prop where
  len : S.length ≤ 64
  good : ∀ x ∈ S, badB x = false
  full : ∀ x ∈ S, emptyB x = false
  rise : risesB S = true
theorem rises_pair {l : List Lm.Lb} (h : risesB l = true) : l.Pairwise fun x y => Lm.strC x.1 y.1 < 0 := by
  induction l with
  | nil => exact List.Pairwise.nil
  | cons x l ih =>
    cases l with
    | nil => exact List.pairwise_singleton _ _
    | cons y l =>
      rw [risesB, Bool.and_eq_true] at h
      have h1 := of_decide_eq_true h.1
      have h2 := ih h.2
      refine List.pairwise_cons.2 ⟨fun z hz => ?_, h2⟩
      rcases List.mem_cons.1 hz with rfl | hz
      · exact h1
      · have h3 := (List.pairwise_cons.1 h2).1 z hz
        have t := Lm.strC_lin.trans x.1 y.1 z.1 (by omega) (by omega)
        have s := Lm.strC_lin.same x.1 z.1
        by_cases e : Lm.strC x.1 z.1 = 0
        · exfalso
          have := s.1 e
          rw [← this] at h3
          have := Lm.strC_lin.anti x.1 y.1
          omega
        · omega
theorem pair_rises {l : List Lm.Lb} (h : l.Pairwise fun x y => Lm.strC x.1 y.1 < 0) : risesB l = true := by
  rw [risesB_iff]
  rw [List.pairwise_iff_getElem] at h
  exact fun i hi => h i (i + 1) (by omega) hi (by omega)
theorem rises_nodup {l : List Lm.Lb} (h : risesB l = true) : (l.map Prod.fst).Nodup := by
  rw [List.nodup_iff_pairwise_ne, List.pairwise_map]
  refine (rises_pair h).imp ?_
  intro x y hxy e
  have := (Lm.strC_lin.same x.1 y.1).2 e
  omega
theorem any_of {α : Type} {p : α → Bool} {l : List α} (h : ∀ x ∈ l, p x = false) : l.any p = false := by
  cases hp : l.any p with
  | false => rfl
  | true =>
    obtain ⟨x, hx, h1⟩ := List.any_eq_true.1 hp
    rw [h x hx] at h1; cases h1
theorem full_self {S : List Lm.Lb} (h : ∀ x ∈ S, emptyB x = false) : fullL S = S := List.filter_eq_self.2 fun x hx => by rw [h x hx]; rfl
theorem check_set {S : List Lm.Lb} {c : Nat} (hs : IsSet S) (h : CheckIs S c) : c = 0 := by
  have h1 : (S.any badB || S.any emptyB) = false := by rw [any_of hs.good, any_of hs.full]; rfl
  have h64 := hs.len
  rcases h with ⟨h, _⟩ | ⟨_, h, _⟩ | ⟨_, _, ⟨_, h⟩ | ⟨h, _⟩⟩
  · omega
  · rw [h1] at h; cases h
  · exact h
  · rw [hs.rise] at h; cases h
theorem set_set {S out : List Lm.Lb} {c : Nat} (hs : IsSet S) (h : SetIs S c out) : c = 0 ∧ out = S := by
  have hf := full_self hs.full
  have := setis_of (l' := S) h (any_of hs.good) (List.Perm.refl _) hs.rise (by rw [hf]; exact hs.len) (fun m hp hr => rises_strict (rises_nodup hs.rise) hp hr)
  rw [hf] at this
  exact this
theorem weigh_perm {l m : List Lm.Lb} (h : l.Perm m) : weigh l = weigh m := by
  unfold weigh
  exact (h.map _).sum_nat
theorem weigh_filter (p : Lm.Lb → Bool) : ∀ l : List Lm.Lb, weigh (l.filter p) ≤ weigh l
  | [] => Nat.le_refl _
  | x :: l => by
    have ih := weigh_filter p l
    unfold weigh at *
    rw [List.filter_cons]
    split
    · rw [List.map_cons, List.sum_cons, List.map_cons, List.sum_cons]; omega
    · rw [List.map_cons, List.sum_cons]; omega
theorem set_of {l S : List Lm.Lb} (h : SetIs l 0 S) : IsSet S ∧ weigh S ≤ weigh l ∧ ∀ x ∈ l, badB x = false := by
  rcases h with ⟨_, h, _⟩ | ⟨hb, l', hp, _, ⟨_, h, _⟩ | ⟨hr, ⟨_, h, _⟩ | ⟨h64, _, rfl⟩⟩⟩
  · cases h
  · cases h
  · cases h
  · have hbad := any_false hb
    refine ⟨⟨h64, fun x hx => hbad x (hp.subset (List.mem_filter.1 hx).1), fun x hx => ?_, ?_⟩, ?_, hbad⟩
    · have := (List.mem_filter.1 hx).2
      simpa using this
    · exact pair_rises ((rises_pair hr).filter _)
    · rw [← weigh_perm hp]
      exact weigh_filter _ _
/-! bytes -/
theorem cut_text (s : ByteArray) (hs : s.size ≤ 65535) (r : List Nat) : cutM (textL s ++ r) = some (bytesOf s, r) := by
  unfold textL
  have hl := bytesOf_length s
  show (if s.size % 256 + 256 * (s.size / 256 % 256) ≤ (bytesOf s ++ r).length then some ((bytesOf s ++ r).take (s.size % 256 + 256 * (s.size / 256 % 256)), (bytesOf s ++ r).drop (s.size % 256 + 256 * (s.size / 256 % 256))) else none) = _
  have e : s.size % 256 + 256 * (s.size / 256 % 256) = (bytesOf s).length := by rw [hl]; omega
  rw [e, if_pos (by rw [List.length_append]; omega), List.take_left, List.drop_left]
theorem dec_enc : ∀ (S : List Lm.Lb) (r : List Nat), (∀ x ∈ S, x.1.size ≤ 1024 ∧ x.2.size ≤ 1024) → decL S.length (S.flatMap label1 ++ r) = some (S, r)
  | [], r, _ => rfl
  | x :: S, r, h => by
    have hx := h x List.mem_cons_self
    have ih := dec_enc S r fun y hy => h y (List.mem_cons_of_mem _ hy)
    have e : (x :: S).flatMap label1 ++ r = textL x.1 ++ (textL x.2 ++ (S.flatMap label1 ++ r)) := by
      rw [List.flatMap_cons, label1, List.append_assoc, List.append_assoc]
    rw [e, List.length_cons, decL_step (cut_text x.1 (by omega) _) (cut_text x.2 (by omega) _), ih, strOf_bytesOf, strOf_bytesOf]
    rfl
theorem dec_set {S out : List Lm.Lb} {r : List Nat} {n c : Nat} (hs : IsSet S) (h : DecIs (encL S ++ r) n c out) : c = 0 ∧ out = S ∧ n = (encL S).length := by
  have hd := dec_enc S r fun x hx => badB_size (hs.good x hx)
  have h64 := hs.len
  have e : encL S ++ r = S.length :: (S.flatMap label1 ++ r) := by unfold encL; rw [Nat.mod_eq_of_lt (by omega)]; rfl
  rw [e] at h
  rcases h with ⟨_, _, _, h | ⟨d, q, h1, h2⟩⟩ | ⟨hc, d, q, r3, h1, h2, _, hn⟩
  · cases h
  · cases h1
    rcases h2 with h2 | ⟨l, r3, ce, h2, h3, h4⟩
    · rw [hd] at h2; cases h2
    · rw [hd] at h2
      cases h2
      exact absurd (check_set hs h3) h4
  · cases h1
    rw [hd] at h2
    cases h2
    refine ⟨hc, rfl, ?_⟩
    rw [hn, List.length_cons, List.length_append]
    unfold encL
    rw [List.length_cons]
    omega
end Go.Proofs.YtiolghcjndoigaaGreatDoor
