/-
  PROVED: for every slice of slices of bytes the call of CrcPieces returns true, and its argument reads afterwards as it read before. Conditions: none.
-/
import Derived.Test.YtniajoocpnhhgaaRows
import Derived.Test.YtniajoocpnhhgaaLawB
import Derived.WalkKit
import Derived.SizedLaws
import Derived.Deep.Matrix
import Derived.ProofKit
import Derived.OpenShut
import Derived.ShutString
import Derived.ChangeOld
import Derived.Below
namespace Go.Proofs.Ytniajoocpnhhgaa.crcPieces
open Go.ChangeShapes Go.WideShapes Go.ChangeAt Go.RowKit
open Go.ChangeMaps (open_string shut_string)
set_option linter.unusedVariables false

theorem own : ownKnob Try.prog.godebug = none := by kernel_rfl
theorem laidOut : laidOutB Try.prog = true := by kernel_rfl

theorem rws_of {w : World} {a : Addr} {len cap : Nat} {A : Nat → Option Addr} {L C : Nat → Nat} {Z : Nat → List Int} (hl : len ≤ cap)
    (h : ∀ r, r < cap → w.cell? (a.add r) = some (.slice (A r) (L r) (C r)) ∧ L r ≤ C r ∧ C r ≤ maxLen ∧ (Z r).length = C r ∧ (∀ n ∈ Z r, (Lit.int .u8 n).wf = true) ∧ (A r = none → C r = 0) ∧
        ∀ a', A r = some a' → 0 ≤ a'.block ∧ ∀ c, c < C r → w.cell? (a'.add c) = some (.int .u8 ((Z r).getD c 0))) :
    ∃ F : Nat → List Nat, Rws w (some a) len A F C ∧ ∀ r, r < len → (F r).length = L r := by
  have each : ∀ r, r < len → ∃ bs : List Nat, bs.length = L r ∧ Bys w (A r) bs ∧ (A r = none → C r = 0) := by
    intro r hr
    obtain ⟨_, h1, h2, h3, h4, h5, h6⟩ := h r (by omega)
    refine bys_of_row (zs := Z r) ?_
    cases hA : A r with
    | none =>
      have := h5 hA
      exact .inl ⟨rfl, by omega, this, List.length_eq_zero_iff.1 (by omega)⟩
    | some ad => exact .inr ⟨ad, rfl, h1, h2, h3, fun i hi => (h6 ad hA).2 i (by omega), h4⟩
  obtain ⟨F, hF⟩ := Deep.choose_lt each
  refine ⟨F, ⟨fun r hr => ⟨(hF r hr).2.1, (hF r hr).2.2⟩, fun hn => ?_⟩, fun r hr => (hF r hr).1⟩
  obtain ⟨b, off, spot⟩ := a
  have hc0 := (h 0 (by omega)).1
  have hspot : spot = none := by simpa [Addr.add] using World.cell?_spot hc0
  subst hspot
  refine ⟨b, off, rfl, by simpa [Addr.add] using World.block_lt_of_cell? _ _ hc0, fun r hr => ?_⟩
  have := (h r (by omega)).1
  rw [show (⟨b, off, none⟩ : Addr).add r = ⟨b, off + r, none⟩ by unfold Addr.add; split <;> simp_all] at this
  rw [this, (hF r hr).1]
theorem mem_weightsAll {H : Type} {P : Program} {e : TypeId} {d : DataW H} : ∀ {ds : List (DataW H)}, d ∈ ds → ∀ n ∈ d.weights P e, n ∈ DataW.weightsAll P e ds
  | x :: xs, hd, n, hn => by
    simp only [DataW.weightsAll, List.mem_append]
    rcases List.mem_cons.1 hd with rfl | hd
    · exact .inl hn
    · exact .inr (mem_weightsAll hd n hn)
  | [], hd, _, _ => absurd hd (by simp)
theorem sized_row {H : Type} {ts : List TypeId} {ds : List (DataW H)} {elems spare es sp : List (DataW H)} (h : (DataW.weightsEach Try.prog (30 :: ts) (.slice elems spare :: ds)).all (· ≤ reachBytes) = true) (hd : DataW.slice es sp ∈ elems) :
    (es.length + sp.length) * Try.prog.bytesOf 5 ≤ reachBytes := by
  have h1 : ((es.length + sp.length) * Try.prog.bytesOf 5) ∈ (DataW.slice es sp).weights Try.prog 23 := by simp [DataW.weights, Try.underlying23]
  have h2 : ((es.length + sp.length) * Try.prog.bytesOf 5) ∈ (DataW.slice elems spare).weights Try.prog 30 := by
    simp only [DataW.weights, Try.underlying30, List.mem_cons, List.mem_append]
    exact .inr (.inl (mem_weightsAll hd _ h1))
  have := List.all_eq_true.1 h _ (DataW.weights_mem_each (j := 0) rfl rfl _ h2)
  simpa using this
theorem sized_all {H : Type} {ts : List TypeId} {ds : List (DataW H)} {elems spare : List (DataW H)} (h : (DataW.weightsEach Try.prog (30 :: ts) (.slice elems spare :: ds)).all (· ≤ reachBytes) = true) :
    (elems.length + spare.length) * Try.prog.bytesOf 23 ≤ reachBytes := sized_slice h (j := 0) (t := 30) (e := 23) rfl rfl Try.underlying30
theorem bytes5 : Try.prog.bytesOf 5 = 1 := by kernel_rfl
theorem bytes23 : Try.prog.bytesOf 23 = 24 := by kernel_rfl

/-! ### the frame -/
set_option maxRecDepth 100000 in
theorem lifted (os : Os) (started : os.Started) (H : Type) (enc : TypeId × Value → H) :
    ReturnsInHanded {} Try.checked os 4 .any (Rows.crcPiecesSpec.pre6 enc Try.prog Try.f4 Rows.crcPiecesRow.domain false) (Rows.crcPiecesSpec.post enc Try.prog Try.f4 false true false false) := by
  refine returnsInHanded_of_change_sized (C := Try.checked) own started (by kernel_rfl) Try.func4
    (ChangeSpec.witness6 (enc := enc) (C := Try.checked) false ⟨#[], #[.slice none 0 0], []⟩ 8 (by kernel_rfl) (by kernel_rfl) (by kernel_rfl) (by kernel_rfl)) ?_
  intro W base args ds gs before hval0 hW hcnd hsz0 _
  have hval : ∀ (j : Nat) t v, Try.f4.params[j]? = some t → args[j]? = some v → Value.okWide Try.prog W .any base t v := hval0
  have hW' := hW
  obtain ⟨p, q, hA0, hV, rfl, hfz, hnd⟩ := hW
  have hA : DataW.TrodAll enc Try.prog W 0 (fun _ => true) true Try.f4.params.toList args.toList ds p := hA0
  have hsz : (DataW.weightsEach Try.prog (Try.f4.params.toList ++ Rows.crcPiecesSpec.plain.varTypes Try.prog) (ds ++ gs)).all (· ≤ reachBytes) = true := hsz0
  rw [Try.params4] at hA hval hsz
  obtain ⟨v0, vs0, d0, ds0, p0, q0, hargs, rfl, rfl, h0, r0⟩ := trodAll_cons hA
  obtain ⟨rfl, rfl, rfl⟩ := trodAll_nil r0
  obtain rfl : args = #[v0] := by cases args; simp_all
  obtain ⟨rfl, rfl⟩ := trodVars_none hV
  obtain ⟨a0, len0, cap0, rfl⟩ := okWide_slice Try.underlying30 (hval 0 30 v0 rfl rfl)
  have k0 := h0
  have lt0 : ∀ x ∈ p0, x.block < W.heap.size := by obtain ⟨m, hm⟩ := k0; exact DataW.trod_lt m _ _ _ hm
  obtain ⟨A, F, C, hR, hn, hF⟩ : ∃ A F C, Rws W a0 len0 A F C ∧ len0 ≤ 140737488351232 ∧ ∀ r, r < len0 → (F r).length ≤ 140737488351232 := by
    obtain ⟨fuel, hf⟩ := h0
    rcases Deep.open_int_rows Try.underlying30 Try.underlying23 Try.underlying5 (by kernel_rfl) (by kernel_rfl) hf with ⟨hcs, _⟩ | ⟨a, len, cap, A, L, C, Z, hcs, hb, hl, hm, hx, hrow⟩
    · simp [Value.cells] at hcs
      obtain ⟨rfl, rfl, rfl⟩ := hcs
      exact ⟨fun _ => none, fun _ => [], fun _ => 0, ⟨fun r hr => absurd hr (by omega), fun h => absurd h (by omega)⟩, by omega, fun r hr => absurd hr (by omega)⟩
    · simp [Value.cells] at hcs
      obtain ⟨rfl, rfl, rfl⟩ := hcs
      simp only [Prod.mk.injEq] at hx
      have hd := hx.1
      rw [hd] at hsz
      have hall := sized_all (ts := Rows.crcPiecesSpec.plain.varTypes Try.prog) (ds := []) hsz
      obtain ⟨F, hRw, hFL⟩ := rws_of hl hrow
      refine ⟨A, F, C, hRw, ?_, fun r hr => ?_⟩
      · rw [bytes23] at hall
        simp only [List.length_map, List.length_range, reachBytes] at hall
        omega
      · rw [hFL r hr]
        obtain ⟨_, r1, r2, r3, _, r4, _⟩ := hrow r (by omega)
        cases hA' : A r with
        | none => have := r4 hA'; omega
        | some ad =>
          have hmem : (DataW.slice (lits .u8 ((Z r).take (L r))) (lits .u8 ((Z r).drop (L r))) : DataW H) ∈ (List.range len0).map fun r => Deep.intRow .u8 (A r) (L r) (Z r) := by
            refine List.mem_map.2 ⟨r, List.mem_range.2 hr, ?_⟩
            simp only [Deep.intRow, hA']
          have := sized_row (ts := Rows.crcPiecesSpec.plain.varTypes Try.prog) (ds := []) hsz hmem
          rw [bytes5] at this
          simp only [lits, List.length_map, List.length_take, List.length_drop, reachBytes] at this
          omega
  clear hA0 hval0
  refine (pieces_law a0 len0 cap0 A F C W hR hn hF).mono fun e W' ⟨he, bel⟩ => ?_
  subst he
  exact ⟨_, rfl, _, _, _, [], _, [], hW', trodAll_mk1 (shut_bool Try.underlying4 _), (trodAll_cons_mk (Below.trod laidOut (by kernel_rfl) (of_decide_eq_true (by kernel_rfl)) k0 bel lt0) trodAll_mk0), rfl, bel.frame _, fun h => by cases h⟩

theorem over : Rows.crcPiecesRow.holds Try.pinned (OpenSpec.ofChange Rows.crcPiecesSpec) :=
  OpenClaim.holds_of_wide 4 Try.f4 rfl rfl rfl rfl rfl rfl rfl ⟨rfl, rfl, rfl, rfl, rfl⟩ rfl rfl rfl rfl rfl (by kernel_rfl) Try.func4 (by kernel_rfl)
    (of_decide_eq_true (by kernel_rfl)) (by unfold Func.isWrapper; first | (rw [if_pos (by decide +kernel)]; kernel_rfl) | (rw [if_neg (by decide +kernel)]; exact ⟨rfl, rfl⟩))
    (fun os started H enc _ => lifted os started H enc)

/-- the statement -/
theorem proved : Rows.CrcPiecesSaid := over
#print axioms proved
end Go.Proofs.Ytniajoocpnhhgaa.crcPieces
