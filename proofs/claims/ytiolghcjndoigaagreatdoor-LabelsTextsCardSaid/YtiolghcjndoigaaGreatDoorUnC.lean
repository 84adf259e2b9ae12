/-
  WALKS: Unquote of what is well formed; of what Quote gives.
-/
import Derived.Test.YtiolghcjndoigaaGreatDoorUnB
import Derived.Handy
namespace Go.Proofs.YtiolghcjndoigaaGreatDoor
set_option linter.unusedVariables false
set_option linter.unusedSimpArgs false
open Go.RowKit Go.PlainAid
theorem as_nil (v : Value) (w : World) : Calls Tryz.prog 168 #[.nilIface, v] w fun e w' => e = .returned (.bool false) ∧ w' = w := by
  go_enter Tryz.func168, Tryz.ntmps168
  go_wp2
  go_ret
  exact ⟨rfl, rfl⟩
set_option maxRecDepth 100000 in
set_option maxHeartbeats 2000000 in
theorem unquote_ok (bs : List Nat) (q pe : Nat) (out : List Nat) (hB : IsB bs) (hO : IsB out) (hl : bs.length ≤ 200000) (hq : q = 34 ∨ q = 39 ∨ q = 96) (h0 : bs[0]? = some q) (ht : Toks q bs 1 out pe) (w : World) :
    Calls Tryz.prog 150 #[.string (strOf bs)] w (Gives w (.tuple #[.string (strOf out), .int .u16 0, .int .i64 ((pe + 1 : Nat) : Int)])) := by
  have CQ := Lib.hid (fun (R : Nat) (w : World) (H : Rd w R bs 0) => quoted_ok R bs q pe out hB hl hq h0 ht w H)
  have CA := Lib.hid as_nil
  have HO := Lib.hid hO
  have HPE := Lib.hid ht.lt
  clear hB hO h0 ht hq hl
  go_enter Tryz.func150, Tryz.ntmps150
  go_wp2_with fail
  have HRD := Rd.laid w bs
  refine (CQ.out _ _ HRD).mono ?_
  rintro e w1 ⟨v, rfl, g1, g2, g3⟩
  have KO : ∀ o1 o2 : Obj, Below w1.heap.size w1 ((w1.alloc o1).alloc o2) := fun o1 o2 => ((Below.refl w1.heap.size w1).alloc (Nat.le_refl _) o1).alloc (by simp) o2
  have hcv : ∀ o1 o2 : Obj, (convert 83 9 v).run Tryz.prog ((w1.alloc o1).alloc o2) = .ok (.string (strOf out)) ((w1.alloc o1).alloc o2) := fun o1 o2 => conv_own (g1.below (KO o1 o2)) HO.out
  have hcv2 : ∀ (o1 o2 : Obj) (k : Nat), (convert 83 9 v).run Tryz.prog (((w1.alloc o1).alloc o2).drewN k) = .ok (.string (strOf out)) (((w1.alloc o1).alloc o2).drewN k) := fun o1 o2 k => conv_own (Own.below (w := w1) g1 (below_drewN (KO o1 o2) k)) HO.out
  have hcl : ∀ o1 o2 : Obj, ((w1.alloc o1).alloc o2).cell? ⟨w.heap.size, 1, none⟩ = some (.int .i64 ((pe + 1 : Nat) : Int)) := fun o1 o2 => (g3.stay (KO o1 o2)).c1
  have BB := Lib.hid (Below.trans ((Below.refl w.heap.size w).alloc (Nat.le_refl _) _) (g2.below (B0 := w.heap.size) (by simp) (Nat.le_refl _)))
  have BK := Lib.hid KO
  clear g1 g2 g3 KO HRD
  go_wp2_with fail
  refine (CA.out _ _).mono ?_
  rintro e w2 ⟨rfl, rfl⟩
  go_wp2_with fail
  refine (CA.out _ _).mono ?_
  rintro e w3 ⟨rfl, rfl⟩
  go_wp2_with fail
  go_quiet (fail)
  go_wp2
  go_returns
  exact ⟨rfl, below_drewN (BB.out.trans ((BK.out _ _).mono BB.out.size)) nq⟩
theorem hexV_hexd {n : Nat} (h : n < 16) : hexV (hexd n) = n := by
  have hall : ∀ k : Fin 16, hexV (hexd k.val) = k.val := by decide
  exact hall ⟨n, h⟩
theorem get_in {pre l : List Nat} (i : Nat) : (pre ++ l)[pre.length + i]? = l[i]? := by
  rw [List.getElem?_append_right (by omega), Nat.add_sub_cancel_left]
theorem tok_quote {pre rest : List Nat} {c : Nat} (hc : c < 256) : Tok 34 (pre ++ (qB c ++ rest)) pre.length [c] (pre.length + (qB c).length) := by
  have g : ∀ i, (pre ++ (qB c ++ rest))[pre.length + i]? = (qB c ++ rest)[i]? := fun i => get_in i
  have g0 := g 0
  rw [Nat.add_zero] at g0
  by_cases h1 : c = 34 ∨ c = 92
  · have e : qB c = [92, c] := by unfold qB; rw [if_pos h1]
    rw [e] at g g0 ⊢
    refine Tok.esc [c] _ (by decide) (by decide) g0 (Esc.simple c c (g 1) ?_)
    rcases h1 with rfl | rfl <;> rfl
  · by_cases h2 : c = 10
    · subst h2
      exact Tok.esc [10] _ (by decide) (by decide) g0 (Esc.simple 110 10 (g 1) rfl)
    · by_cases h3 : c = 13
      · subst h3
        exact Tok.esc [13] _ (by decide) (by decide) g0 (Esc.simple 114 13 (g 1) rfl)
      · by_cases h4 : c = 9
        · subst h4
          exact Tok.esc [9] _ (by decide) (by decide) g0 (Esc.simple 116 9 (g 1) rfl)
        · by_cases h5 : c < 32 ∨ 126 < c
          · have e : qB c = [92, 120, hexd (c / 16), hexd (c % 16)] := by unfold qB; rw [if_neg h1, if_neg h2, if_neg h3, if_neg h4, if_pos h5]
            rw [e] at g g0 ⊢
            have x1 : hexV (hexd (c / 16)) = c / 16 := hexV_hexd (by omega)
            have x2 : hexV (hexd (c % 16)) = c % 16 := hexV_hexd (by omega)
            have hd : dvl 16 [hexd (c / 16), hexd (c % 16)] = c := by
              show (0 * 16 + hexV (hexd (c / 16))) * 16 + hexV (hexd (c % 16)) = c
              rw [x1, x2]
              omega
            have k := Esc.hex (bs := pre ++ ([92, 120, hexd (c / 16), hexd (c % 16)] ++ rest)) (p := pre.length + 1) (hexd (c / 16)) (hexd (c % 16)) (g 1) (g 2) (g 3) (by rw [x1]; omega) (by rw [x2]; omega)
            rw [hd] at k
            exact Tok.esc [c] _ (by decide) (by decide) g0 k
          · have e : qB c = [c] := by unfold qB; rw [if_neg h1, if_neg h2, if_neg h3, if_neg h4, if_neg h5]
            rw [e] at g0 ⊢
            exact Tok.plain c g0 (by omega) (by omega)
theorem toks_quote (rest : List Nat) : ∀ (t pre : List Nat), IsB t → Toks 34 (pre ++ (t.flatMap qB ++ 34 :: rest)) pre.length t (pre.length + (t.flatMap qB).length) := by
  intro t
  induction t with
  | nil =>
    intro pre _
    refine Toks.nil _ ?_
    simp
  | cons c t ih =>
    intro pre h
    have hc := h c (List.mem_cons_self ..)
    have e1 : (c :: t).flatMap qB = qB c ++ t.flatMap qB := List.flatMap_cons
    have k := ih (pre ++ qB c) (fun x hx => h x (List.mem_cons_of_mem _ hx))
    have e2 : pre ++ ((c :: t).flatMap qB ++ 34 :: rest) = (pre ++ qB c) ++ (t.flatMap qB ++ 34 :: rest) := by rw [e1]; simp
    have e3 : pre ++ ((c :: t).flatMap qB ++ 34 :: rest) = pre ++ (qB c ++ (t.flatMap qB ++ 34 :: rest)) := by rw [e1]; simp
    have t1 := tok_quote (pre := pre) (rest := t.flatMap qB ++ 34 :: rest) hc
    rw [← e3] at t1
    rw [← e2, List.length_append] at k
    have r := Toks.cons _ _ _ [c] t t1 k
    rw [e1, List.length_append, ← Nat.add_assoc]
    exact r
theorem unquote_quote (s behind : List Nat) (hs : IsB s) (hb : IsB behind) (l1 : s.length ≤ 20000) (l2 : behind.length ≤ 20000) (w : World) :
    Calls Tryz.prog 150 #[.string (strOf (quoteL s ++ behind))] w (Gives w (.tuple #[.string (strOf s), .int .u16 0, .int .i64 (((quoteL s).length : Nat) : Int)])) := by
  have ht := toks_quote behind s [34] hs
  have e : [34] ++ (s.flatMap qB ++ 34 :: behind) = quoteL s ++ behind := by unfold quoteL; simp
  rw [e] at ht
  have hlen : (quoteL s).length = 1 + (s.flatMap qB).length + 1 := by
    unfold quoteL
    rw [List.length_append, List.length_cons, List.length_singleton]
    omega
  have hf := flat_len s
  have := unquote_ok (quoteL s ++ behind) 34 (1 + (s.flatMap qB).length) s (IsB.app (quoteL_isB hs) hb) hs (by rw [List.length_append, hlen]; omega) (.inl rfl) (by unfold quoteL; rfl) ht w
  rw [hlen]
  exact this
end Go.Proofs.YtiolghcjndoigaaGreatDoor
