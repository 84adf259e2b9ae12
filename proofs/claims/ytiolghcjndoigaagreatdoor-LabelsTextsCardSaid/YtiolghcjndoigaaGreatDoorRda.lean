/-
  WALKS: the reader of a text of labels: all of it.
-/
import Derived.Test.YtiolghcjndoigaaGreatDoorRdo
import Derived.Test.YtiolghcjndoigaaGreatDoorSrtM
namespace Go.Proofs.YtiolghcjndoigaaGreatDoor
set_option linter.unusedVariables false
set_option linter.unusedSimpArgs false
open Go.RowKit Go.PlainAid Go.Shelf
theorem valOk_lt {bs : List Nat} {p e : Nat} {ds : List Nat} (h : ValOk bs p ds e) : p < e ∧ e ≤ bs.length := by
  obtain ⟨pe, _, h0, ht, rfl⟩ := h
  have h1 := (List.getElem?_eq_some_iff.1 h0).1
  have h2 := ht.lt
  rw [List.length_drop] at h1 h2
  have h3 := skipB_ge bs (p + (pe + 1)) (by omega)
  exact ⟨by omega, skipB_le _ _⟩
theorem labOk_lt {bs : List Nat} {p e : Nat} {x : Lm.Lb} (h : LabOk bs p x e) : p < e ∧ e ≤ bs.length := by
  obtain ⟨m, p1, ds, hm0, hm, rfl, h61, hval, rfl⟩ := h
  have hle := nmL_le (bs.drop p)
  rw [hm, List.length_drop] at hle
  have h1 := skipB_ge bs (p + m) (by omega)
  have h2 := (List.getElem?_eq_some_iff.1 h61).1
  have h3 := skipB_ge bs (skipB bs (p + m) + 1) (by omega)
  have h4 := valOk_lt hval
  exact ⟨by omega, h4.2⟩
/-- labels stand from p on, up to the closing brace; behind it, and the blanks, is the end; go: may a label come -/
inductive Run (bs : List Nat) : Nat → Bool → List Lm.Lb → Prop
  | close (p : Nat) (go : Bool) (h : bs[p]? = some 125) (he : skipB bs (p + 1) = bs.length) : Run bs p go []
  | more (p e : Nat) (x : Lm.Lb) (l : List Lm.Lb) (hp : p ≤ bs.length) (h : bs[p]? ≠ some 125) (hx : LabOk bs p x e) (hc : bs[e]? = some 44) (hl : Run bs (skipB bs (e + 1)) true l) : Run bs p true (x :: l)
  | last (p e : Nat) (x : Lm.Lb) (l : List Lm.Lb) (hp : p ≤ bs.length) (h : bs[p]? ≠ some 125) (hx : LabOk bs p x e) (hc : bs[e]? ≠ some 44) (hl : Run bs e false l) : Run bs p true (x :: l)
theorem OwnL.only {w w' : World} {base : Nat} {v : Value} {l : List Lm.Lb} (h : OwnL w base v l) {S : List Nat} (ho : Only S w w') (hS : ∀ k ∈ S, k < base) : OwnL w' base v l := by
  obtain ⟨h1, h2⟩ := h
  refine ⟨h1, ?_⟩
  rcases h2 with h2 | ⟨g, cap, cur, hv, hg, hc, h3, h4, h5, h6⟩
  · exact .inl h2
  · exact .inr ⟨g, cap, cur, hv, hg, (ho.block g (Array.getElem?_eq_some_iff.1 hc).1 (fun hm => by have := hS g hm; omega)).trans hc, h3, h4, h5, h6⟩
theorem ownL_block {w : World} {base : Nat} {v : Value} {l : List Lm.Lb} (h : OwnL w base v l) : ∀ k, v.ownBlock = some k → base ≤ k := by
  intro k hk
  rcases h.2 with ⟨rfl, _⟩ | ⟨g, cap, cur, rfl, hg, _⟩
  · cases hk
  · simp only [Value.ownBlock, Option.some.injEq] at hk
    omega
theorem ownL_shape {w : World} {base : Nat} {v : Value} {l : List Lm.Lb} (h : OwnL w base v l) : ∃ a cap, v = .slice a l.length cap := by
  rcases h.2 with ⟨rfl, h0⟩ | ⟨g, cap, cur, rfl, _⟩
  · exact ⟨none, 0, by rw [h0]⟩
  · exact ⟨_, _, rfl⟩
theorem info94' : (Tryz.prog.info? 94).map (fun i => (i.zero, i.size, i.bytes)) = some (some (.agg #[.string ⟨#[]⟩, .string ⟨#[]⟩]), 2, 32) := by kernel_rfl
/-- where the reader stands -/
def posR (R : Nat) (w : World) : Nat := match w.cell? ⟨R, 1, none⟩ with | some v => (intOf v).toNat | none => 0
theorem Rr.posR {w : World} {R : Nat} {bs : List Nat} {p : Nat} (h : Rr w R bs p) : posR R w = p := by
  unfold YtiolghcjndoigaaGreatDoor.posR
  rw [h.c1]
  simp [intOf]
set_option maxRecDepth 100000 in
set_option maxHeartbeats 4000000 in
theorem all_ok (R : Nat) (bs : List Nat) (L : List Lm.Lb) (hB : IsB bs) (hl : bs.length ≤ 200000) (h0 : bs[skipB bs 0]? = some 123) (hrun : Run bs (skipB bs (skipB bs 0 + 1)) true L) (w : World) (H : Rr w R bs 0) :
    Calls Tryz.prog 98 #[.pointer (some ⟨R, 0, none⟩)] w fun e w' => ∃ v, e = .returned (.tuple #[v, .bool true]) ∧ OwnL w' w.heap.size v L ∧ Only [R] w w' := by
  obtain ⟨i0, hi, hz0, hz1, hz2⟩ := info_parts info94'
  have CP := Lib.hid (fun w (H : Rr w R bs 0) => pass_any R bs 0 0 hB (by omega) (by omega) w H)
  have CO := Lib.hid (fun w H => sign_yes R bs (skipB bs 0) 123 hB (by decide) h0 (by omega) w H)
  rw [show strOf [123] = ⟨#[123]⟩ from rfl] at CO
  have CY := Lib.hid (fun p (h : bs[p]? = some 125) w H => sign_yes R bs p 125 hB (by decide) h (by omega) w H)
  have CN := Lib.hid (fun p (h : bs[p]? ≠ some 125) hp w H => sign_no R bs p 125 hB (by decide) h hp (by omega) w H)
  rw [show strOf [125] = ⟨#[125]⟩ from rfl] at CY CN
  have CCY := Lib.hid (fun p (h : bs[p]? = some 44) w H => sign_yes R bs p 44 hB (by decide) h (by omega) w H)
  have CCN := Lib.hid (fun p (h : bs[p]? ≠ some 44) hp w H => sign_no R bs p 44 hB (by decide) h hp (by omega) w H)
  rw [show strOf [44] = ⟨#[44]⟩ from rfl] at CCY CCN
  have CL := Lib.hid (fun p x e h hp w H => label_ok R bs p x e hB hl h hp w H)
  have CR := Lib.hid (fun w (H : Rr w R bs bs.length) => rest_any R bs bs.length (Nat.le_refl _) (by omega) w H)
  have HR := Lib.hid H
  have HLT := Lib.hid H.lt
  have HRUN := Lib.hid hrun
  have HLEN := Lib.hid hl
  have HBB := Lib.hid hB
  clear hB hl h0 hrun H
  go_enter Tryz.func98, Tryz.ntmps98
  go_wp2_with fail
  refine (CP.out _ HR.out).mono ?_
  rintro e w1 ⟨rfl, ho, hr⟩
  have R1 := Lib.hid hr
  have O1 := Lib.hid ho
  clear ho hr
  go_wp2_with fail
  refine (CO.out _ R1.out).mono ?_
  rintro e w2 ⟨rfl, ho, hr⟩
  have R2 := Lib.hid hr
  have O2 := Lib.hid (O1.out.trans ho (fun x hx => .inl hx))
  clear ho hr
  go_wp2_with fail
  go_loopw [4, 5] (fun v g wr => ∃ (p : Nat) (may : Bool) (sofar rest : List Lm.Lb), g = .bool may ∧ Hid (OwnL wr w.heap.size v sofar) ∧ Hid (Rr wr R bs p) ∧ Hid (Run bs p may rest) ∧ Hid (sofar ++ rest = L) ∧ Hid (Only [R] w wr) ∧ Hid (sofar.length ≤ p)) (fun _ _ wr => bs.length - posR R wr)
  case atStart => exact ⟨_, true, [], L, rfl, Lib.hid (World.ownsRow_nil _ _ _ _), R2, HRUN, Lib.hid rfl, O2, Lib.hid (Nat.zero_le _)⟩
  case round =>
    obtain ⟨p, may, sofar, rest, rfl, HO, HRR, HRU, HE, HON, HLE⟩ := hrel
    have hru := HRU.out
    clear HRU
    cases hru with
    | close p go h he =>
      have CY1 := Lib.hid (fun w H => CY.out p h w H)
      have HE1 := Lib.hid he
      have HS := Lib.hid (show sofar = L by rw [← HE.out, List.append_nil])
      have hd : strOf (bs.drop bs.length) = ⟨#[]⟩ := by rw [List.drop_length]; rfl
      rw [hd] at CR
      clear h he hd
      go_wp2_with fail
      refine (CY1.out _ HRR.out).mono ?_
      rintro e w3 ⟨rfl, ho, hr⟩
      rw [HE1.out] at hr
      have R3 := Lib.hid hr
      have N3 := Lib.hid (HON.out.trans ho (fun x hx => .inl hx))
      have O3 := Lib.hid (HO.out.only ho (fun k hk => by have := HLT.out; simp at hk; omega))
      clear ho hr
      go_wp2_with fail
      refine (CR.out _ R3.out).mono ?_
      rintro e w4 ⟨rfl, hb⟩
      have N4 := Lib.hid (N3.out.trans (Only.of_below hb [R]) (fun x hx => .inl hx))
      have O4 := Lib.hid (O3.out.below hb)
      clear hb
      go_wp2
      go_ret2
      exact ⟨_, rfl, by rw [← HS.out]; exact O4.out, N4.out⟩
    | more p e x l hp h hx hc hrl =>
      have hlt := labOk_lt hx
      have CN1 := Lib.hid (fun w H => CN.out p h hp w H)
      have CL1 := Lib.hid (fun w H => CL.out p x e hx hp w H)
      have CC1 := Lib.hid (fun w H => CCY.out e hc w H)
      have HRL := Lib.hid hrl
      have HE2 := Lib.hid (show (sofar ++ [x]) ++ l = L by rw [List.append_assoc]; exact HE.out)
      obtain ⟨av, cv, rfl⟩ := ownL_shape HO.out
      obtain ⟨n, hn⟩ : ∃ n, sofar.length = n := ⟨_, rfl⟩
      have HNN := Lib.hid hn
      have hnp : n ≤ p := by rw [← hn]; exact HLE.out
      have hlen := HLEN.out
      have hnl : n ≤ 200000 := by omega
      rw [hn] at HO ⊢
      have HLT2 := Lib.hid hlt
      clear hn hx hrl h
      go_wp2_with fail
      refine (CN1.out _ HRR.out).mono ?_
      rintro e1 w3 ⟨rfl, hb⟩
      have R3 := Lib.hid (HRR.out.stay hb)
      have O3 := Lib.hid (HO.out.below hb)
      have N3 := Lib.hid (HON.out.trans (Only.of_below hb [R]) (fun x hx => .inl hx))
      clear hb
      go_wp2_with fail
      refine (CL1.out _ R3.out).mono ?_
      rintro e1 w4 ⟨rfl, ho, hr⟩
      have R4 := Lib.hid hr
      have O4 := Lib.hid (O3.out.only ho (fun k hk => by have := HLT.out; simp at hk; omega))
      have N4 := Lib.hid (N3.out.trans ho (fun x hx => .inl hx))
      clear ho hr
      have hsz4 := N4.out.size
      have HA1 := Lib.hid (fun o1 o2 : Obj => ((O4.out.below ((Below.refl w4.heap.size w4).alloc (Nat.le_refl _) o1)).below ((Below.refl (w4.alloc o1).heap.size (w4.alloc o1)).alloc (Nat.le_refl _) o2)))
      have HON5 : Hid (∀ o1 o2 : Obj, ((w4.alloc o1).alloc o2).ownsRow w.heap.size 94 2 (.slice av n cv) n (sofar.flatMap enc2)) := Lib.hid (fun o1 o2 => by have h := HA1.out o1 o2; unfold OwnL at h; rw [HNN.out] at h; exact h)
      have HOB := Lib.hid (ownL_block O4.out)
      go_wp2_with (first
        | (at_builtin; refine wpList_append_own _ rfl (.tmp 27) (.tmp 29) 22 rfl w.heap.size 94 i0 (.agg #[.string ⟨#[]⟩, .string ⟨#[]⟩]) 2 32 Tryz.underlying22 hi hz0 hz1 hz2 rfl (by decide) (.slice av n cv) n (sofar.flatMap enc2) rfl (HON5.out _ _) ⟨w4.heap.size + 1, 0, none⟩ 1 1 (enc2 x) rfl rfl (by have h := two_new (w4.alloc (.cells #[.string x.1, .string x.2] 94)) x; rw [World.size_alloc] at h; exact h) (by simp [Value.oneCell', enc2]) (by unfold maxLen; omega) (by omega) (by simp; omega) ?_; intro v5 w5 hown5 hgr5 hne5
           have g1 : OwnL w5 w.heap.size v5 (sofar ++ [x]) := (by unfold OwnL; rw [List.length_append, List.flatMap_append, HNN.out]; simpa using hown5)
           have N5 := Lib.hid (((N4.out.alloc (.cells #[.string x.1, .string x.2] 94)).alloc (.cells #[.string x.1, .string x.2] 94)).grown hgr5 (fun k hk => .inr (HOB.out k hk)))
           have R5 := Lib.hid (show Rr w5 R bs e from (hgr5.block R (by have := R4.out.lt; simp; omega) (fun e2 => by have h1 := HOB.out R e2.symm; have h2 := HLT.out; omega)).trans (((Below.refl _ w4).alloc (Nat.le_refl _) _).alloc (by simp) _ |>.block R R4.out.lt |>.trans R4.out))
           have O5 := Lib.hid g1
           obtain ⟨a5, c5, rfl⟩ := ownL_shape g1
           obtain ⟨n5, hn5⟩ : ∃ n, (sofar ++ [x]).length = n := ⟨_, rfl⟩
           have HN5 := Lib.hid hn5
           rw [hn5] at O5 ⊢
           clear hown5 hgr5 hne5 g1 hn5)
        | fail)
      refine (CC1.out _ R5.out).mono ?_
      rintro e1 w6 ⟨rfl, ho, hr⟩
      have R6 := Lib.hid hr
      have O6 := Lib.hid (O5.out.only ho (fun k hk => by have := HLT.out; simp at hk; omega))
      have N6 := Lib.hid (N5.out.trans ho (fun x hx => .inl hx))
      clear ho hr
      go_wp2
      go_roundw
      case rel => exact ⟨_, true, sofar ++ [x], l, rfl, O6, R6, HRL, HE2, N6, Lib.hid (by have h1 := HLT2.out; have h2 := skipB_ge bs (e + 1) (by have := (List.getElem?_eq_some_iff.1 hc).1; omega); rw [List.length_append, HNN.out]; simp; omega)⟩
      case measure => rw [R6.out.posR, HRR.out.posR]; have h1 := HLT2.out; have h2 := skipB_ge bs (e + 1) (by have := (List.getElem?_eq_some_iff.1 hc).1; omega); have h3 := skipB_le bs (e + 1); omega
    | last p e x l hp h hx hc hrl =>
      have hlt := labOk_lt hx
      have CN1 := Lib.hid (fun w H => CN.out p h hp w H)
      have CL1 := Lib.hid (fun w H => CL.out p x e hx hp w H)
      have CC1 := Lib.hid (fun w H => CCN.out e hc (by omega) w H)
      have HRL := Lib.hid hrl
      have HE2 := Lib.hid (show (sofar ++ [x]) ++ l = L by rw [List.append_assoc]; exact HE.out)
      obtain ⟨av, cv, rfl⟩ := ownL_shape HO.out
      obtain ⟨n, hn⟩ : ∃ n, sofar.length = n := ⟨_, rfl⟩
      have HNN := Lib.hid hn
      have hnp : n ≤ p := by rw [← hn]; exact HLE.out
      have hlen := HLEN.out
      have hnl : n ≤ 200000 := by omega
      rw [hn] at HO ⊢
      have HLT2 := Lib.hid hlt
      clear hn hx hc hrl h
      go_wp2_with fail
      refine (CN1.out _ HRR.out).mono ?_
      rintro e1 w3 ⟨rfl, hb⟩
      have R3 := Lib.hid (HRR.out.stay hb)
      have O3 := Lib.hid (HO.out.below hb)
      have N3 := Lib.hid (HON.out.trans (Only.of_below hb [R]) (fun x hx => .inl hx))
      clear hb
      go_wp2_with fail
      refine (CL1.out _ R3.out).mono ?_
      rintro e1 w4 ⟨rfl, ho, hr⟩
      have R4 := Lib.hid hr
      have O4 := Lib.hid (O3.out.only ho (fun k hk => by have := HLT.out; simp at hk; omega))
      have N4 := Lib.hid (N3.out.trans ho (fun x hx => .inl hx))
      clear ho hr
      have hsz4 := N4.out.size
      have HA1 := Lib.hid (fun o1 o2 : Obj => ((O4.out.below ((Below.refl w4.heap.size w4).alloc (Nat.le_refl _) o1)).below ((Below.refl (w4.alloc o1).heap.size (w4.alloc o1)).alloc (Nat.le_refl _) o2)))
      have HON5 : Hid (∀ o1 o2 : Obj, ((w4.alloc o1).alloc o2).ownsRow w.heap.size 94 2 (.slice av n cv) n (sofar.flatMap enc2)) := Lib.hid (fun o1 o2 => by have h := HA1.out o1 o2; unfold OwnL at h; rw [HNN.out] at h; exact h)
      have HOB := Lib.hid (ownL_block O4.out)
      go_wp2_with (first
        | (at_builtin; refine wpList_append_own _ rfl (.tmp 27) (.tmp 29) 22 rfl w.heap.size 94 i0 (.agg #[.string ⟨#[]⟩, .string ⟨#[]⟩]) 2 32 Tryz.underlying22 hi hz0 hz1 hz2 rfl (by decide) (.slice av n cv) n (sofar.flatMap enc2) rfl (HON5.out _ _) ⟨w4.heap.size + 1, 0, none⟩ 1 1 (enc2 x) rfl rfl (by have h := two_new (w4.alloc (.cells #[.string x.1, .string x.2] 94)) x; rw [World.size_alloc] at h; exact h) (by simp [Value.oneCell', enc2]) (by unfold maxLen; omega) (by omega) (by simp; omega) ?_; intro v5 w5 hown5 hgr5 hne5
           have g1 : OwnL w5 w.heap.size v5 (sofar ++ [x]) := (by unfold OwnL; rw [List.length_append, List.flatMap_append, HNN.out]; simpa using hown5)
           have N5 := Lib.hid (((N4.out.alloc (.cells #[.string x.1, .string x.2] 94)).alloc (.cells #[.string x.1, .string x.2] 94)).grown hgr5 (fun k hk => .inr (HOB.out k hk)))
           have R5 := Lib.hid (show Rr w5 R bs e from (hgr5.block R (by have := R4.out.lt; simp; omega) (fun e2 => by have h1 := HOB.out R e2.symm; have h2 := HLT.out; omega)).trans (((Below.refl _ w4).alloc (Nat.le_refl _) _).alloc (by simp) _ |>.block R R4.out.lt |>.trans R4.out))
           have O5 := Lib.hid g1
           obtain ⟨a5, c5, rfl⟩ := ownL_shape g1
           obtain ⟨n5, hn5⟩ : ∃ n, (sofar ++ [x]).length = n := ⟨_, rfl⟩
           have HN5 := Lib.hid hn5
           rw [hn5] at O5 ⊢
           clear hown5 hgr5 hne5 g1 hn5)
        | fail)
      refine (CC1.out _ R5.out).mono ?_
      rintro e1 w6 ⟨rfl, hb⟩
      have R6 := Lib.hid (R5.out.stay hb)
      have O6 := Lib.hid (O5.out.below hb)
      have N6 := Lib.hid (N5.out.trans (Only.of_below hb [R]) (fun x hx => .inl hx))
      clear hb
      go_wp2
      go_roundw
      case rel => exact ⟨_, false, sofar ++ [x], l, rfl, O6, R6, HRL, HE2, N6, Lib.hid (by have h1 := HLT2.out; rw [List.length_append, HNN.out]; simp; omega)⟩
      case measure => rw [R6.out.posR, HRR.out.posR]; have h1 := HLT2.out; omega
end Go.Proofs.YtiolghcjndoigaaGreatDoor
