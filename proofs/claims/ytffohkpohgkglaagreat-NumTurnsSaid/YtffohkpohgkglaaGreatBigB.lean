/-
  WALKS of the document's whole numbers: From, Plus, Minus.
-/
import Derived.Test.YtffohkpohgkglaaGreatBigA
namespace Go.Proofs.YtffohkpohgkglaaGreat
set_option linter.unusedVariables false
set_option linter.unusedSimpArgs false
open Go.RowKit
theorem info75 : (Tryz.prog.info? 67).map (fun i => (i.zero, i.size, i.bytes)) = some (some (.int .u32 0), 1, 4) := by kernel_rfl
/-- a row of the call's own -/
def Own (w : World) (base : Nat) (v : Value) (ds : List Nat) : Prop := w.ownsRow base 67 1 v ds.length (cells32 ds)
theorem Own.nil (w : World) (base : Nat) : Own w base (.slice none 0 0) [] := World.ownsRow_nil w base 67 1
theorem Own.below {w w' : World} {base : Nat} {v : Value} {ds : List Nat} (h : Own w base v ds) (hb : Below w.heap.size w w') : Own w' base v ds := by
  obtain ⟨h1, h2⟩ := h
  refine ⟨h1, ?_⟩
  rcases h2 with h2 | ⟨g, cap, cur, hv, hg, hc, h3, h4, h5, h6⟩
  · exact .inl h2
  · exact .inr ⟨g, cap, cur, hv, hg, (hb.block g (Array.getElem?_eq_some_iff.1 hc).1).trans hc, h3, h4, h5, h6⟩
theorem Own.wd {w : World} {base : Nat} {v : Value} {ds : List Nat} (h : Own w base v ds) (hl : ds.length ≤ 1000000) (h32 : ∀ c ∈ ds, c < Nm.B) : ∃ a cap, v = .slice a ds.length cap ∧ ds.length ≤ cap ∧ Wd w a ds := by
  obtain ⟨h1, h2⟩ := h
  rcases h2 with ⟨rfl, h0⟩ | ⟨g, cap, cur, rfl, hg, hc, h3, h4, h5, h6⟩
  · have : ds = [] := List.eq_nil_of_length_eq_zero h0
    subst this
    exact ⟨none, 0, rfl, Nat.le_refl _, Wd.nil _ _⟩
  · refine ⟨_, cap, rfl, h3, hl, h32, fun _ => ⟨g, rfl, (Array.getElem?_eq_some_iff.1 hc).1, fun i hi => ?_⟩⟩
    rw [cell_of_row _ _ _ _ _ _ hc, ← Array.getElem?_toList]
    have := congrArg (fun l => l[i]?) h6
    simp only [Nat.mul_one, List.getElem?_take, if_pos hi, cells32_get ds i hi] at this
    exact this
theorem own_block {w : World} {base : Nat} {v : Value} {ds : List Nat} (h : Own w base v ds) : ∀ k, v.ownBlock = some k → base ≤ k := by
  intro k hk
  rcases h.2 with ⟨rfl, _⟩ | ⟨g, cap, cur, rfl, hg, _⟩
  · cases hk
  · simp only [Value.ownBlock, Option.some.injEq] at hk
    omega
theorem own_shape {w : World} {base : Nat} {v : Value} {ds : List Nat} (h : Own w base v ds) : ∃ a cap, v = .slice a ds.length cap := by
  rcases h.2 with ⟨rfl, h0⟩ | ⟨g, cap, cur, rfl, _⟩
  · exact ⟨none, 0, by rw [h0]⟩
  · exact ⟨_, _, rfl⟩
theorem alloc_row (W : World) (ds : List Nat) (j : Nat) (u : Value) (hu : (cells32 ds)[j]? = some u) : (W.alloc (.cells (cells32 ds).toArray 67)).cell? ((⟨W.heap.size, 0, none⟩ : Addr).add j) = some u := by
  have e : (⟨W.heap.size, 0, none⟩ : Addr).add j = ⟨W.heap.size, j, none⟩ := by unfold Addr.add; split <;> simp_all
  rw [e, cell_of_row _ _ _ _ _ _ (heap_alloc_new W _), List.getElem?_toArray]
  exact hu
theorem lo_bits (n : Nat) (h : n < 2 ^ 64) : bits .and .u64 (n : Int) 4294967295 = ((n % Nm.B : Nat) : Int) := by
  have := u64_and_nat n 4294967295 (by omega) (by decide)
  rw [show ((4294967295 : Nat) : Int) = 4294967295 from rfl] at this
  rw [this]
  congr 1
  exact Nat.and_two_pow_sub_one_eq_mod n 32
theorem from_val (n : Nat) (h : n < 2 ^ 64) : Nm.val [n % Nm.B, n / Nm.B] = n := by
  simp only [Nm.val, Nat.mul_zero, Nat.add_zero]
  rw [Nat.add_comm]
  exact Nat.div_add_mod n Nm.B
theorem from_any (n : Nat) (h : n < 2 ^ 64) (w : World) : Calls Tryz.prog 75 #[.int .u64 (n : Int)] w (BigPost w n) := by
  obtain ⟨i0, hi, hz0, hz1, hz2⟩ := info_parts info75
  have h1 := lo_bits n h
  have h2 : (n : Int) / 4294967296 = ((n / Nm.B : Nat) : Int) := by rw [Nm.B_eq]; omega
  have l1 : n % Nm.B < 4294967296 := Nat.mod_lt _ Nm.B_pos
  have l2 : n / Nm.B < 4294967296 := by rw [Nm.B_eq]; omega
  have hv := from_val n h
  obtain ⟨c, hc⟩ : ∃ c, n % Nm.B = c := ⟨_, rfl⟩
  obtain ⟨d, hd⟩ : ∃ d, n / Nm.B = d := ⟨_, rfl⟩
  rw [hc] at h1 l1 hv
  rw [hd] at h2 l2 hv
  have HV := Lib.hid hv
  clear h hc hd hv
  go_enter Tryz.func75, Tryz.ntmps75
  go_wp2_with (at_builtin; refine wpList_append_own _ rfl (.tmp 4) (.tmp 11) 45 rfl w.heap.size 67 i0 (.int .u32 0) 1 4 Tryz.underlying45 hi hz0 hz1 hz2 rfl (by decide) (.slice none 0 0) 0 [] rfl (World.ownsRow_nil _ _ 67 1) ⟨w.heap.size, 0, none⟩ 2 2 (cells32 [c, d]) rfl rfl (alloc_row w [c, d]) (cells32_one _) (by unfold maxLen; omega) (by omega) (by simp) ?_; intro v2 w2 hown2 hgr2 hne2)
  have hB2 := ((Below.refl w.heap.size w).alloc (Nat.le_refl _) (.cells (cells32 [c, d]).toArray 67)).grown hgr2 (by simp) (fun k hk => by cases hk)
  have ho : Own w2 w.heap.size v2 [c, d] := hown2
  obtain ⟨a2, cap2, rfl, hcap, hwd⟩ := ho.wd (by simp) (by simp [Nm.B_eq]; omega)
  have HB2 := Lib.hid hB2
  have HW := Lib.hid hwd
  clear hown2 hgr2 hne2 hB2 ho hwd
  go_wp2_with fail
  refine (trim_any a2 [c, d] cap2 _ HW.out hcap).mono ?_
  rintro e w3 ⟨⟨v, rfl, hbig⟩, rfl⟩
  have HG := Lib.hid hbig
  clear hbig
  go_wp2
  go_ret
  exact ⟨v, rfl, by rw [← HV.out]; exact HG.out, HB2.out⟩
end Go.Proofs.YtffohkpohgkglaaGreat
