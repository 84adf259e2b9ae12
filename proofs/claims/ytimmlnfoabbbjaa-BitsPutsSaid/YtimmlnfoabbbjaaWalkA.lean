/-
  WALKS of the writer: New, Len, put.
-/
import Derived.Test.YtimmlnfoabbbjaaFrame
import Derived.Deep.DeepMust
namespace Go.Proofs.Ytimmlnfoabbbjaa
open Go.RowKit
/-- a writer: its struct's block, its bytes' block, its bits -/
def Wr (w : World) (p d : Nat) (B : List Bool) : Prop :=
  ∃ (v : Value) (ds : List Nat) (k : Nat), w.heap[p]? = some (.cells #[v, .int .i64 (B.length : Nat)] 95 (0, 0)) ∧ k < 8 ∧ Bt.Packs k ds B ∧ Row w d v ds ∧ (v.ownBlock = none ∨ d ≠ p) ∧ d < w.heap.size
theorem Wr.lt {w : World} {p d : Nat} {B : List Bool} (h : Wr w p d B) : p < w.heap.size ∧ d < w.heap.size := by
  obtain ⟨v, ds, k, hp, _, _, _, _, hd⟩ := h
  exact ⟨(Array.getElem?_eq_some_iff.1 hp).1, hd⟩
theorem Wr.only {w w' : World} {p d : Nat} {B : List Bool} (h : Wr w p d B) {S : List Nat} (ho : Only S w w') (hp : p ∉ S) (hd : d ∉ S) : Wr w' p d B := by
  obtain ⟨v, ds, k, h1, h2, h3, h4, h5, h6⟩ := h
  exact ⟨v, ds, k, (ho.block p (Array.getElem?_eq_some_iff.1 h1).1 hp).trans h1, h2, h3, h4.only ho hd, h5, Nat.lt_of_lt_of_le h6 ho.size⟩
theorem Wr.below {w w' : World} {p d : Nat} {B : List Bool} (h : Wr w p d B) (ho : Below w.heap.size w w') : Wr w' p d B := h.only (Only.of_below ho []) (by simp) (by simp)
theorem cell2 {w : World} {p : Nat} {a b : Value} {t : TypeId} (h : w.heap[p]? = some (.cells #[a, b] t (0, 0))) : w.cell? ⟨p, 0, none⟩ = some a ∧ w.cell? ⟨p, 1, none⟩ = some b ∧ w.frozen? ⟨p, 0, none⟩ = false ∧ w.frozen? ⟨p, 1, none⟩ = false :=
  ⟨by rw [cell_of_row _ _ _ _ _ _ h]; rfl, by rw [cell_of_row _ _ _ _ _ _ h]; rfl, frozen_of_row _ _ _ _ _ h, frozen_of_row _ _ _ _ _ h⟩
theorem set2a {w : World} {p : Nat} {a b c : Value} {t : TypeId} (h : w.heap[p]? = some (.cells #[a, b] t (0, 0))) : (w.setCell ⟨p, 0, none⟩ c).heap[p]? = some (.cells #[c, b] t (0, 0)) := by
  rw [heap_setCell_same _ _ _ _ _ _ h]; rfl
theorem set2b {w : World} {p : Nat} {a b c : Value} {t : TypeId} (h : w.heap[p]? = some (.cells #[a, b] t (0, 0))) : (w.setCell ⟨p, 1, none⟩ c).heap[p]? = some (.cells #[a, c] t (0, 0)) := by
  rw [heap_setCell_same _ _ _ _ _ _ h]; rfl
def NewPost (w : World) (e : Ending) (w' : World) : Prop := e = .returned (.pointer (some ⟨w.heap.size, 0, none⟩)) ∧ Wr w' w.heap.size w.heap.size [] ∧ Below w.heap.size w w' ∧ w'.heap.size = w.heap.size + 1
theorem new_any (w : World) : Calls Try.prog 7 #[] w (NewPost w) := by
  go_enter Try.func7, Try.ntmps7
  go_wp2
  go_ret
  exact ⟨rfl, ⟨_, [], 0, heap_alloc_new _ _, by omega, Bt.packs_nil, Row.nil _ _, .inl rfl, by simp⟩, (Below.refl _ _).alloc (Nat.le_refl _) _, by simp⟩
theorem len_any (p d : Nat) (B : List Bool) (w : World) (H : Wr w p d B) :
    Calls Try.prog 10 #[.pointer (some ⟨p, 0, none⟩)] w fun e w' => e = .returned (.int .i64 (B.length : Nat)) ∧ w = w' := by
  obtain ⟨v, ds, k, h1, _⟩ := H
  have h := (cell2 h1).2.1
  clear h1
  go_enter Try.func10, Try.ntmps10
  go_wp2
  go_ret
  exact ⟨rfl, rfl⟩
theorem or_piece (c v a b f : Nat) (hc : c < 256) : bits .or .u8 (c : Int) ((v : Int) / 2 ^ a % 256 * 2 ^ b % 256 / 2 ^ f) = ((c ||| (((v >>> a) % 256) <<< b % 256) >>> f : Nat) : Int) := by
  have e : ((v : Int) / 2 ^ a % 256 * 2 ^ b % 256 / 2 ^ f) = (((((v >>> a) % 256) <<< b % 256) >>> f : Nat) : Int) := by
    rw [Nat.shiftRight_eq_div_pow, Nat.shiftRight_eq_div_pow, Nat.shiftLeft_eq]
    simp only [Int.natCast_ediv, Int.natCast_emod, Int.natCast_mul, Int.natCast_pow, Int.cast_ofNat_Int]
  rw [e]
  exact u8_or_nat _ _ hc (Bt.piece_lt _ _)
def PutPost (w : World) (p d : Nat) (B : List Bool) (w' : World) : Prop := ∃ d', Wr w' p d' B ∧ (d' = d ∨ w.heap.size ≤ d') ∧ Only [p, d] w w'
theorem PutPost.drew {w w' : World} {p d : Nat} {B : List Bool} (h : PutPost w p d B w') : PutPost w p d B w'.drew := by
  obtain ⟨d', h1, h2, h3⟩ := h
  exact ⟨d', h1, h2, h3.drew⟩
theorem put_end {w W : World} {p d d1 m n k s v c cap : Nat} {B B1 : List Bool} {ini : List Nat} (h1 : W.heap[p]? = some (.cells #[.slice (some ⟨d1, 0, none⟩) (ini ++ [c]).length cap, .int .i64 (B1.length : Nat)] 95 (0, 0)))
    (hP : Bt.Packs k (ini ++ [c]) B1) (hR : Row W d1 (.slice (some ⟨d1, 0, none⟩) (ini ++ [c]).length cap) (ini ++ [c])) (hne : d1 ≠ p) (hlt : d1 < W.heap.size) (hO : Only [p, d] w W) (hd1 : d1 = d ∨ w.heap.size ≤ d1)
    (hk : k ≤ 8) (hsk : s ≤ k) (hs0 : 0 < s) (hsm : s ≤ m) (hmn : m ≤ n) (hB : B ++ Bt.top (v >>> m) (n - m) = B1) (x : Int) (hx : x = bits .or .u8 (c : Int) ((v : Int) / 2 ^ (m - s) % 256 * 2 ^ (8 - s) % 256 / 2 ^ (8 - k))) :
    PutPost w p d (B ++ Bt.top (v >>> (m - s)) (n - (m - s))) ((W.setCell ⟨d1, ini.length, none⟩ (.int .u8 x)).setCell ⟨p, 1, none⟩ (.int .i64 ((B1.length : Int) + (s : Int)))) := by
  rw [hx, or_piece c v (m - s) (8 - s) (8 - k) (hP.1 c (by simp))]
  have hP2 := hP.fill (x := v >>> (m - s)) hk hsk
  generalize (c ||| ((((v >>> (m - s)) % 256) <<< (8 - s)) % 256) >>> (8 - k)) = c' at *
  have e : B ++ Bt.top (v >>> (m - s)) (n - (m - s)) = B1 ++ Bt.top (v >>> (m - s)) s := by
    have h := Bt.top_split (v >>> (m - s)) (n - m) s
    rw [← Nat.shiftRight_add, show m - s + s = m by omega] at h
    rw [show n - (m - s) = n - m + s by omega, h, ← List.append_assoc, hB]
  rw [e]
  have h2 : (W.setCell ⟨d1, ini.length, none⟩ (.int .u8 (c' : Int))).heap[p]? = some (.cells #[.slice (some ⟨d1, 0, none⟩) (ini ++ [c]).length cap, .int .i64 (B1.length : Nat)] 95 (0, 0)) :=
    (Below.heap_setCell _ _ _ _ (fun h => hne h.symm)).trans h1
  have hR2 := hR.set (c' := c')
  have h3 := set2b (c := .int .i64 ((B1.length : Int) + (s : Int))) h2
  have hsz : d1 < ((W.setCell ⟨d1, ini.length, none⟩ (.int .u8 (c' : Int))).setCell ⟨p, 1, none⟩ (.int .i64 ((B1.length : Int) + (s : Int)))).heap.size := by simpa [World.setCell] using hlt
  refine ⟨d1, ⟨.slice (some ⟨d1, 0, none⟩) (ini ++ [c]).length cap, ini ++ [c'], k - s, ?_, by omega, hP2, ?_, .inr hne, hsz⟩, hd1, ?_⟩
  · have el : (B1 ++ Bt.top (v >>> (m - s)) s).length = B1.length + s := by rw [List.length_append, Bt.top_length]
    rw [h3, el]; rfl
  · exact hR2.only ((Only.refl [p] _).setCell (p := ⟨p, 1, none⟩) (.inl (by simp)) _) (by simpa using hne)
  · exact (hO.setCell (by rcases hd1 with rfl | h; exact .inl (by simp); exact .inr h) _).setCell (.inl (by simp)) _
theorem grow_row {W w' : World} {va v' : Value} {d1 N : Nat} {ds ns : List Nat} (hR : Row W d1 va ds) (hown : w'.ownsRow 0 5 1 v' (ds.length + ns.length) (cellsOf ds ++ cellsOf ns)) (hpl : v'.ownBlock = va.ownBlock ∨ ∃ g, v'.ownBlock = some g ∧ N ≤ g) (hn : 0 < ns.length) :
    ∃ d2 cap, v' = .slice (some ⟨d2, 0, none⟩) (ds.length + ns.length) cap ∧ ds.length + ns.length ≤ cap ∧ Row w' d2 (.slice (some ⟨d2, 0, none⟩) (ds.length + ns.length) cap) (ds ++ ns) ∧ ((va.ownBlock = some d1 ∧ d2 = d1) ∨ N ≤ d2) ∧ d2 < w'.heap.size := by
  have hown2 := hown
  rw [← cellsOf_append] at hown2
  rcases hown.2 with ⟨_, h0⟩ | ⟨g, cap, cur, rfl, _, hg, hcap, _⟩
  · omega
  · refine ⟨g, cap, rfl, hcap, ⟨?_, .inr rfl⟩, ?_, (Array.getElem?_eq_some_iff.1 hg).1⟩
    · rw [List.length_append]; exact hown2
    · rcases hpl with h | ⟨g', h, hl⟩
      · rcases hR.2 with h2 | h2
        · rw [h2] at h; cases h
        · rw [h2] at h
          simp only [Value.ownBlock, Option.some.injEq] at h
          exact .inl ⟨h2, h⟩
      · simp only [Value.ownBlock, Option.some.injEq] at h
        exact .inr (by omega)
theorem app_head {wr w2 : World} {p nq : Nat} {va b : Value} (h : wr.heap[p]? = some (.cells #[va, b] 95 (0, 0))) {o : Obj} (hg : ((wr.drewN nq).alloc o).grownBy w2 va.ownBlock) (hn : some p ≠ va.ownBlock) : w2.heap[p]? = some (.cells #[va, b] 95 (0, 0)) := by
  have hl : p < wr.heap.size := (Array.getElem?_eq_some_iff.1 h).1
  exact (hg.block p (by simp; omega) hn).trans ((Below.heap_alloc _ _ _ hl).trans h)
theorem app_row {wr w : World} {va : Value} {d d1 p : Nat} {ds : List Nat} (hR : Row wr d1 va ds) (hd : d1 = d ∨ w.heap.size ≤ d1) : ∀ k, va.ownBlock = some k → k ∈ [p, d] ∨ w.heap.size ≤ k := by
  intro k hk
  rcases hR.2 with h | h
  · rw [h] at hk; cases hk
  · rw [h] at hk; injection hk with hk; subst hk
    rcases hd with rfl | hd
    · exact .inl (by simp)
    · exact .inr hd
theorem app_apart {wr : World} {va b : Value} {p d1 d2 N : Nat} (hN : wr.heap.size ≤ N) (hn : some p ≠ va.ownBlock) (h : wr.heap[p]? = some (.cells #[va, b] 95 (0, 0))) (hd : (va.ownBlock = some d1 ∧ d2 = d1) ∨ N ≤ d2) : d2 ≠ p := by
  have hl : p < wr.heap.size := (Array.getElem?_eq_some_iff.1 h).1
  rcases hd with ⟨h1, rfl⟩ | h1
  · rw [h1] at hn; intro e; exact hn (by rw [e])
  · omega
theorem app_place {w wr : World} {d d1 d2 N : Nat} {va : Value} (hN : wr.heap.size ≤ N) (hd1 : d1 = d ∨ w.heap.size ≤ d1) (hs : w.heap.size ≤ wr.heap.size) (hd : (va.ownBlock = some d1 ∧ d2 = d1) ∨ N ≤ d2) : d2 = d ∨ w.heap.size ≤ d2 := by
  rcases hd with ⟨_, rfl⟩ | h1
  · exact hd1
  · omega
theorem one_zero (W : World) : ∀ (j : Nat) (u : Value), (cellsOf [0])[j]? = some u → (W.alloc (.cells #[.int .u8 0] 5)).cell? ((⟨W.heap.size, 0, none⟩ : Addr).add j) = some u := by
  intro j u hu
  rw [add_here, cell_of_row _ _ _ _ _ _ (heap_alloc_new W _)]
  rw [show (#[Value.int .u8 0] : Array Value) = (cellsOf [0]).toArray from rfl, List.getElem?_toArray]
  exact hu
set_option maxRecDepth 100000 in
set_option maxHeartbeats 400000 in
theorem put_any (p d : Nat) (B : List Bool) (v n : Nat) (hn : n ≤ 64) (w : World) (H : Wr w p d B) (hB : B.length + n ≤ 1000000000) :
    Calls Try.prog 73 #[.pointer (some ⟨p, 0, none⟩), .int .u64 (v : Nat), .int .i64 (n : Nat)] w fun e w' => e = .returned (.tuple #[]) ∧ PutPost w p d (B ++ Bt.top v n) w' := by
  have H0 := Lib.hid H
  clear H
  go_enter Try.func73, Try.ntmps73
  go_wp2
  go_loopw [2] (fun i wr => ∃ m : Nat, m ≤ n ∧ i = .int .i64 m ∧ Hid (PutPost w p d (B ++ Bt.top (v >>> m) (n - m)) wr)) (fun i _ => (intOf i).toNat)
  case atStart => exact ⟨n, Nat.le_refl _, rfl, Lib.hid ⟨d, by simpa [Bt.top] using H0.out, .inl rfl, Only.refl _ _⟩⟩
  case round =>
    obtain ⟨m, hm, rfl, d1, HW, hd1, HO⟩ := hrel
    by_cases hlt : 0 < m
    · have hd : decide ((m : Int) > 0) = true := by simp; omega
      have hBl : (B ++ Bt.top (v >>> m) (n - m)).length ≤ 1000000000 := by rw [List.length_append, Bt.top_length]; omega
      generalize hB1 : B ++ Bt.top (v >>> m) (n - m) = B1 at *
      have HB1 := Lib.hid hB1
      clear hB1
      obtain ⟨va, ds, k, h1, hk, hP, hR, hne, hdl⟩ := HW
      obtain ⟨c0, c1, f0, f1⟩ := cell2 h1
      have HH1 := Lib.hid h1
      clear h1
      have hl := hP.length
      by_cases hk0 : k = 0
      · subst hk0
        obtain ⟨i0, hi, hz0, hz1, hz2⟩ := info_parts info5
        obtain ⟨s, hsk, hsm, hs0, hsmin⟩ : ∃ s : Nat, s ≤ 8 ∧ s ≤ m ∧ 0 < s ∧ (if (m : Int) < 8 then (m : Int) else (8 : Int)) = (s : Int) := by
          by_cases h : m < 8
          · exact ⟨m, by omega, by omega, by omega, by rw [if_pos (by omega)]⟩
          · exact ⟨8, by omega, by omega, by omega, by rw [if_neg (by omega)]; rfl⟩
        have hms : (m : Int) - (s : Int) = ((m - s : Nat) : Int) := by omega
        have HR := Lib.hid hR
        have HP := Lib.hid hP
        have Hne := Lib.hid hne
        have hfree : (ds.length : Int) * 8 - (B1.length : Int) = 0 := by omega
        have hlen2 : ∃ a' cap', va = .slice a' ds.length cap' := by
          rcases hR.value with ⟨h, h'⟩ | ⟨cap, _, h, _⟩
          · rw [h, h']; exact ⟨_, _, rfl⟩
          · exact ⟨_, _, h⟩
        obtain ⟨a', cap', rfl⟩ := hlen2
        have hpo : some p ≠ (Value.slice a' ds.length cap').ownBlock := by
          intro e
          rcases hne with h | h
          · rw [h] at e; cases e
          · rcases hR.2 with h2 | h2
            · rw [h2] at e; cases e
            · rw [h2] at e; injection e with e; exact h e.symm
        have HPO := Lib.hid hpo
        clear hR hP hne hpo
        go_wp2
        go_quiet (fail)
        go_wp2_with (at_builtin; go_must (refine wpList_append_place _ rfl (.tmp 27) (.tmp 28) 27 rfl 5 i0 (.int .u8 0) 1 1 Try.underlying27 hi hz0 hz1 hz2 rfl (by decide) (.slice a' ds.length cap') ds.length (cellsOf ds) rfl (HR.out.below ((Below.refl _ _).alloc (Nat.le_refl _) _)).1 ⟨wr.heap.size, 0, none⟩ 1 1 (cellsOf [0]) rfl rfl (one_zero (wr.drewN nq)) (cellsOf_one _) (by unfold maxLen; omega) (by omega) ?_))
        intro v2 w2 hown2 hgr2 hpl2
        obtain ⟨d2, cap2, rfl, hcap2, R2, hd2, hd2l⟩ := grow_row (ns := [0]) HR.out hown2 hpl2 (by decide)
        have hp2 := app_head HH1.out hgr2 HPO.out
        have HO2 := Lib.hid (((HO.drewN nq).alloc _).grown hgr2 (app_row HR.out hd1))
        obtain ⟨e0, e1, g0, g1⟩ := cell2 hp2
        have HP2 := Lib.hid hp2
        clear hp2 hown2 hgr2
        have hdp := app_apart (Nat.le_succ _) HPO.out HH1.out hd2
        have HD2 := Lib.hid (app_place (Nat.le_succ _) hd1 HO.size hd2)
        clear hd2 hpl2
        obtain ⟨_, _, _, _, hcell, hfr⟩ := R2.cell ds.length (by simp)
        simp only [List.getElem_concat_length] at hcell
        have HR2 := Lib.hid R2
        clear R2
        have HL := Lib.hid hcap2
        clear hcap2
        go_wp2
        have E1 : IntKind.i64.wrap (ds.length : Int) = (ds.length : Int) := IntWalk.i64_in _ (by omega)
        have E3 : IntKind.i64.wrap (8 - (s : Int)) = ((8 - s : Nat) : Int) := by rw [show (8 : Int) - (s : Int) = ((8 - s : Nat) : Int) by omega]; exact IntWalk.i64_in _ (by omega)
        have E0 : IntKind.i64.wrap 0 = 0 := rfl
        have hi1 : (ds.length : Int) < (ds.length : Int) + 1 := by omega
        generalize hW : w2.setCell ⟨p, 0, none⟩ (.slice (some ⟨d2, 0, none⟩) (ds.length + 1) cap2) = W at *
        have c0' : W.cell? ⟨p, 0, none⟩ = some (.slice (some ⟨d2, 0, none⟩) (ds.length + 1) cap2) := by rw [← hW]; exact (cell2 (set2a HP2.out)).1
        have c1' : W.cell? ⟨p, 1, none⟩ = some (.int .i64 (B1.length : Nat)) := by rw [← hW]; exact (cell2 (set2a HP2.out)).2.1
        have f1' : W.frozen? ⟨p, 1, none⟩ = false := by rw [← hW]; exact (cell2 (set2a HP2.out)).2.2.2
        have hcell' : W.cell? ⟨d2, ds.length, none⟩ = some (.int .u8 0) := by rw [← hW]; exact (World.cell?_of_block (w := w2) (Below.heap_setCell _ _ _ _ hdp)).trans hcell
        have hfr' : W.frozen? ⟨d2, ds.length, none⟩ = false := by rw [← hW]; exact (World.frozen?_of_block (w := w2) (Below.heap_setCell _ _ _ _ hdp)).trans hfr
        have HW := Lib.hid hW
        clear hW hcell hfr e0 e1 g0 g1
        refine wp_region_still_tail 24 (by kernel_rfl) (by kernel_rfl) ?_
        change wpStill _ _ W.drew (fun a' => wpList _ _ _ _ a' W.drew) _ _
        simp only [List.take_succ_cons, List.take_zero, List.drop_succ_cons, List.drop_zero]
        repeat still_step
        refine wpStill_nil ?_
        clear E1 E3 hi1 E0
        go_wp2
        have hW2 := HW.out
        go_roundw
        case rel => exact ⟨m - s, by omega, rfl, Lib.hid (PutPost.drew (put_end (W := W) (ini := ds) (c := 0) (k := 8) (d1 := d2) (cap := cap2) (by rw [List.length_append, ← hW2]; exact set2a HP2.out) HP.out.grow (by rw [List.length_append, ← hW2]; exact HR2.out.only ((Only.refl [p] _).setCell (p := ⟨p, 0, none⟩) (.inl (by simp)) _) (by simpa using hdp)) hdp (by rw [← hW2]; simpa [World.setCell] using hd2l) (by rw [← hW2]; exact HO2.out.setCell (p := ⟨p, 0, none⟩) (.inl (by simp)) _) HD2.out (by omega) hsk hs0 hsm hm HB1.out _ (by simp)))⟩
        case measure => simp [intOf]; omega
      · have hds : 0 < ds.length := by omega
        obtain ⟨ini, c, rfl⟩ : ∃ ini c, ds = ini ++ [c] := ⟨ds.dropLast, ds.getLast (by intro h; rw [h] at hds; simp at hds), (List.dropLast_concat_getLast _).symm⟩
        obtain ⟨cap, rfl, hcap, hdw, hcell, hfr⟩ := hR.cell ini.length (by simp)
        have HR := Lib.hid hR
        have HP := Lib.hid hP
        clear hR hP
        have hc : c < 256 := HP.out.1 c (by simp)
        simp only [List.length_append, List.length_singleton] at hl hcap c0 hcell hds
        rw [List.getElem_append_right (Nat.le_refl _)] at hcell
        simp only [Nat.sub_self, List.getElem_singleton] at hcell
        have hfree : ((ini.length : Int) + 1) * 8 - (B1.length : Int) = (k : Int) := by omega
        have hk1 : ((k : Int) == 0) = false := by simp; omega
        have hdp : d1 ≠ p := by
          rcases hne with h | h
          · cases h
          · exact h
        obtain ⟨s, hsk, hsm, hs0, hsmin⟩ : ∃ s : Nat, s ≤ k ∧ s ≤ m ∧ 0 < s ∧ (if m < k then (m : Int) else (k : Int)) = (s : Int) := by
          by_cases h : m < k
          · exact ⟨m, by omega, by omega, by omega, by rw [if_pos (by omega)]⟩
          · exact ⟨k, by omega, by omega, by omega, by rw [if_neg (by omega)]⟩
        have hms : (m : Int) - (s : Int) = ((m - s : Nat) : Int) := by omega
        clear hk0
        go_wp2
        go_quiet (fail)
        go_wp2
        have E1 : IntKind.i64.wrap (ini.length : Int) = (ini.length : Int) := IntWalk.i64_in _ (by omega)
        have E2 : IntKind.i64.wrap (8 - (k : Int)) = ((8 - k : Nat) : Int) := by rw [show (8 : Int) - (k : Int) = ((8 - k : Nat) : Int) by omega]; exact IntWalk.i64_in _ (by omega)
        have E3 : IntKind.i64.wrap (8 - (s : Int)) = ((8 - s : Nat) : Int) := by rw [show (8 : Int) - (s : Int) = ((8 - s : Nat) : Int) by omega]; exact IntWalk.i64_in _ (by omega)
        have hi1 : (ini.length : Int) < (ini.length : Int) + 1 := by omega
        have E4 := or_piece c v (m - s) (8 - s) (8 - k) hc
        generalize (c ||| ((((v >>> (m - s)) % 256) <<< (8 - s)) % 256) >>> (8 - k)) = c' at E4
        refine wp_region_still_tail 24 (by kernel_rfl) (by kernel_rfl) ?_
        change wpStill _ _ (wr.drewN nq).drew (fun a' => wpList _ _ _ _ a' (wr.drewN nq).drew) _ _
        simp only [List.take_succ_cons, List.take_zero, List.drop_succ_cons, List.drop_zero]
        repeat still_step
        refine wpStill_nil ?_
        clear E1 E2 E3 E4 hi1
        go_wp2
        go_roundw
        case rel => exact ⟨m - s, by omega, rfl, Lib.hid (put_end (W := wr.drewN (nq + 1)) HH1.out HP.out HR.out hdp hdl (HO.drewN _) hd1 (by omega) hsk hs0 hsm hm HB1.out _ rfl)⟩
        case measure => simp [intOf]; omega
    · obtain rfl : m = 0 := by omega
      go_wp2
      go_end0
      exact ⟨rfl, d1, by simpa using HW, hd1, HO⟩
end Go.Proofs.Ytimmlnfoabbbjaa
