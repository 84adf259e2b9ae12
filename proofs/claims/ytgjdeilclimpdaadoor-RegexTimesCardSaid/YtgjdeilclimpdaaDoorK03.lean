/-
  PACKED: WaD, WaE, WaF, WaG
-/
import Derived.Test.YtgjdeilclimpdaaDoorK02
import Derived.Lib.IndexAny
import Derived.Handy
namespace Go.Proofs.YtgjdeilclimpdaaDoor
set_option linter.unusedVariables false
set_option linter.unusedSimpArgs false
open Go.RowKit Go.PlainAid Go.Shelf
open Rx (Set4 RS)
def rdCells (bs : List Nat) (st : RS) : Array Value := #[.string (strOf bs), .int .i64 ((st.at' : Nat) : Int), .int .i64 ((st.groups : Nat) : Int), .int .i64 ((st.nested : Nat) : Int), .int .i64 ((st.deepest : Nat) : Int)]
/-- a reader of these bytes that stands there -/
def Rd (w : World) (R : Nat) (bs : List Nat) (st : RS) : Prop := w.heap[R]? = some (.cells (rdCells bs st) 44 (0, 0))
theorem Rd.lt {w : World} {R : Nat} {bs : List Nat} {st : RS} (h : Rd w R bs st) : R < w.heap.size := (Array.getElem?_eq_some_iff.1 h).1
theorem Rd.only {w w' : World} {R : Nat} {bs : List Nat} {st : RS} (h : Rd w R bs st) {S : List Nat} (ho : Only S w w') (hS : R ∉ S) : Rd w' R bs st := (ho.block R h.lt hS).trans h
theorem Rd.below {w w' : World} {R : Nat} {bs : List Nat} {st : RS} (h : Rd w R bs st) {B : Nat} (ho : Below B w w') (hB : R < B) : Rd w' R bs st := (ho.block R hB).trans h
theorem Rd.stay {w w' : World} {R : Nat} {bs : List Nat} {st : RS} (h : Rd w R bs st) (ho : Below w.heap.size w w') : Rd w' R bs st := h.below ho h.lt
theorem Rd.c {w : World} {R : Nat} {bs : List Nat} {st : RS} (h : Rd w R bs st) (k : Nat) : w.cell? ⟨R, k, none⟩ = (rdCells bs st)[k]? := cell_of_row _ _ _ _ _ _ h
theorem Rd.c0 {w : World} {R : Nat} {bs : List Nat} {st : RS} (h : Rd w R bs st) : w.cell? ⟨R, 0, none⟩ = some (.string (strOf bs)) := h.c 0
theorem Rd.c1 {w : World} {R : Nat} {bs : List Nat} {st : RS} (h : Rd w R bs st) : w.cell? ⟨R, 1, none⟩ = some (.int .i64 ((st.at' : Nat) : Int)) := h.c 1
theorem Rd.c2 {w : World} {R : Nat} {bs : List Nat} {st : RS} (h : Rd w R bs st) : w.cell? ⟨R, 2, none⟩ = some (.int .i64 ((st.groups : Nat) : Int)) := h.c 2
theorem Rd.c3 {w : World} {R : Nat} {bs : List Nat} {st : RS} (h : Rd w R bs st) : w.cell? ⟨R, 3, none⟩ = some (.int .i64 ((st.nested : Nat) : Int)) := h.c 3
theorem Rd.c4 {w : World} {R : Nat} {bs : List Nat} {st : RS} (h : Rd w R bs st) : w.cell? ⟨R, 4, none⟩ = some (.int .i64 ((st.deepest : Nat) : Int)) := h.c 4
theorem Rd.fz {w : World} {R : Nat} {bs : List Nat} {st : RS} (h : Rd w R bs st) (k : Nat) : w.frozen? ⟨R, k, none⟩ = false := frozen_of_row _ _ _ _ _ h
theorem Rd.set1 {w : World} {R : Nat} {bs : List Nat} {st : RS} (h : Rd w R bs st) (p : Nat) : Rd (w.setCell ⟨R, 1, none⟩ (.int .i64 ((p : Nat) : Int))) R bs (st.to p) := heap_setCell_same _ _ _ _ _ _ h
theorem only_set {w : World} {R : Nat} (j : Nat) (v : Value) : Only [R] w (w.setCell ⟨R, j, none⟩ v) := (Only.refl [R] w).setCell (p := ⟨R, j, none⟩) (.inl List.mem_cons_self) v
theorem only_trans {R : Nat} {a b c : World} (h : Only [R] a b) (k : Only [R] b c) : Only [R] a c := h.trans k (fun x hx => .inl hx)
theorem strOf_list (bs : List Nat) : (strOf bs).data.toList = bs.map UInt8.ofNat := by simp [strOf]
theorem isB_drop {bs : List Nat} (h : IsB bs) (k : Nat) : IsB (bs.drop k) := fun c hc => h c (List.mem_of_mem_drop hc)
theorem strOf_extract (bs : List Nat) (a b : Nat) (h : a ≤ b) (hb : b ≤ bs.length) : (strOf bs).extract a b = strOf ((bs.drop a).take (b - a)) := by
  apply ByteArray.ext
  apply Array.ext'
  rw [ByteArray.data_extract, strOf_list]
  simp [strOf, List.map_drop, List.map_take]
theorem ofNat_inj {a b : Nat} (ha : a < 256) (hb : b < 256) (h : UInt8.ofNat a = UInt8.ofNat b) : a = b := by
  have := congrArg UInt8.toNat h
  rw [UInt8.toNat_ofNat', UInt8.toNat_ofNat', Nat.mod_eq_of_lt ha, Nat.mod_eq_of_lt hb] at this
  exact this
theorem drop_head (bs : List Nat) (p : Nat) : (bs.drop p)[0]? = bs[p]? := by rw [List.getElem?_drop, Nat.add_zero]
theorem rest_any (R : Nat) (bs : List Nat) (st : RS) (hp : st.at' ≤ bs.length) (hl : bs.length ≤ 500) (w : World) (H : Rd w R bs st) : Calls Tryd.prog 22 #[.pointer (some ⟨R, 0, none⟩)] w (Gives w (.string (strOf (bs.drop st.at')))) := by
  have h0 := H.c0
  have h1 := H.c1
  have hsz := strOf_size bs
  have hx := strOf_extract bs st.at' bs.length hp (Nat.le_refl _)
  rw [List.take_of_length_le (by rw [List.length_drop]; omega)] at hx
  obtain ⟨S, hS⟩ : ∃ S, strOf bs = S := ⟨_, rfl⟩
  obtain ⟨D, hD⟩ : ∃ D, strOf (bs.drop st.at') = D := ⟨_, rfl⟩
  obtain ⟨p, hpp⟩ : ∃ p, st.at' = p := ⟨_, rfl⟩
  rw [hD] at hx ⊢
  rw [hpp] at h1 hp hx
  rw [hS] at h0 hsz hx
  obtain ⟨L, hL⟩ : ∃ L, bs.length = L := ⟨_, rfl⟩
  rw [hL] at hsz hx hp hl
  have g0 := H.fz 0
  clear hS hD hL H hpp
  go_enter Tryd.func22, Tryd.ntmps22
  go_wp2_with (go_quiet (fail))
  go_ret
  exact ⟨rfl, below_drewN (Below.refl _ _) nq⟩
theorem prefix_list (ds l : List Nat) (hB : IsB ds) (hl : IsB l) : Lib.hasPrefix (strOf ds).data.toList (strOf l).data.toList = l.isPrefixOf ds := by
  rw [strOf_list, strOf_list]
  show (l.map UInt8.ofNat).isPrefixOf (ds.map UInt8.ofNat) = _
  induction l generalizing ds with
  | nil => cases ds <;> rfl
  | cons c l ih =>
    cases ds with
    | nil => rfl
    | cons d ds =>
      have hc : c < 256 := hl c List.mem_cons_self
      have hd : d < 256 := hB d List.mem_cons_self
      simp only [List.map_cons, List.isPrefixOf]
      rw [ih ds (fun x hx => hB x (List.mem_cons_of_mem _ hx)) (fun x hx => hl x (List.mem_cons_of_mem _ hx))]
      congr 1
      by_cases e : c = d
      · subst e; simp
      · have : ¬ UInt8.ofNat c = UInt8.ofNat d := fun h => e (ofNat_inj hc hd h)
        rw [beq_eq_false_iff_ne.2 this, beq_eq_false_iff_ne.2 e]
theorem prefix_one (bs : List Nat) (p c : Nat) : [c].isPrefixOf (bs.drop p) = Rx.isAt bs p c := by
  unfold Rx.isAt
  rw [← drop_head bs p]
  cases bs.drop p with
  | nil => simp
  | cons d ds =>
    by_cases e : c = d
    · subst e; simp
    · have e2 : ¬ d = c := fun h => e h.symm
      simp [List.isPrefixOf, e, e2]
theorem prefix_two (bs : List Nat) (p c d : Nat) : [c, d].isPrefixOf (bs.drop p) = (Rx.isAt bs p c && Rx.isAt bs (p + 1) d) := by
  unfold Rx.isAt
  have h1 : bs[p + 1]? = (bs.drop p)[1]? := by rw [List.getElem?_drop]
  rw [← drop_head bs p, h1]
  match bs.drop p with
  | [] => simp
  | [x] =>
    by_cases e : c = x
    · subst e; simp [List.isPrefixOf]
    · simp [List.isPrefixOf, e]
  | x :: y :: zs =>
    by_cases e : c = x <;> by_cases f : d = y
    · subst e; subst f; simp [List.isPrefixOf]
    · subst e; have f2 : ¬ y = d := fun h => f h.symm; simp [List.isPrefixOf, f, f2]
    · subst f; have e2 : ¬ x = c := fun h => e h.symm; simp [List.isPrefixOf, e, e2]
    · have e2 : ¬ x = c := fun h => e h.symm; simp [List.isPrefixOf, e, e2]
theorem prefix_any (ds l : List Nat) (hB : IsB ds) (hl : IsB l) (w : World) : Calls Tryd.prog 43 #[.string (strOf ds), .string (strOf l)] w fun e w' => e = .returned (.bool (l.isPrefixOf ds)) ∧ w' = w := by
  have h := Tryd.strings_HasPrefix (strOf ds) (strOf l) w
  rw [prefix_list ds l hB hl] at h
  exact h
set_option maxHeartbeats 1000000 in
theorem sign_any (R : Nat) (bs : List Nat) (st : RS) (c : Nat) (hB : IsB bs) (hc : c < 256) (hp : st.at' ≤ bs.length) (hl : bs.length ≤ 500) (w : World) (H : Rd w R bs st) :
    Calls Tryd.prog 31 #[.pointer (some ⟨R, 0, none⟩), .string (strOf [c])] w fun e w' => e = .returned (.bool (Rx.isAt bs st.at' c)) ∧ Only [R] w w' ∧ Rd w' R bs (if Rx.isAt bs st.at' c then st.to (st.at' + 1) else st) := by
  have CR := Lib.hid (rest_any R bs st hp hl w H)
  have CP := Lib.hid (fun w => prefix_any (bs.drop st.at') [c] (isB_drop hB _) (IsB.cons hc IsB.nil) w)
  rw [prefix_one] at CP
  have HR := Lib.hid H
  have hs : (strOf [c]).size = 1 := strOf_size [c]
  have hpl : Rx.isAt bs st.at' c = true → st.at' < bs.length := fun h => by
    have h2 : bs[st.at']? = some c := of_decide_eq_true h
    exact (List.getElem?_eq_some_iff.1 h2).1
  obtain ⟨D, hD⟩ : ∃ D, strOf (bs.drop st.at') = D := ⟨_, rfl⟩
  obtain ⟨C, hC⟩ : ∃ C, strOf [c] = C := ⟨_, rfl⟩
  rw [hD] at CR CP
  rw [hC] at CP hs ⊢
  cases hb : Rx.isAt bs st.at' c with
  | true =>
    rw [hb] at CP
    have hlt := hpl hb
    clear hD hC hB H hpl hb
    go_enter Tryd.func31, Tryd.ntmps31
    go_wp2_with fail
    refine CR.out.mono ?_
    rintro e w1 ⟨rfl, hb⟩
    have R1 := HR.out.stay hb
    have B1 := Lib.hid hb
    have h1 := R1.c1
    have f1 := R1.fz 1
    have HR1 := Lib.hid R1
    have HN := Lib.hid (R1.set1 (st.at' + 1))
    clear hb R1 HR
    go_wp2_with fail
    refine (CP.out _).mono ?_
    rintro e w2 ⟨rfl, rfl⟩
    obtain ⟨p, hpp⟩ : ∃ p, st.at' = p := ⟨_, rfl⟩
    rw [hpp] at h1 HN hlt hp
    have e1 : ((p : Int) + 1) = ((p + 1 : Nat) : Int) := by omega
    have E1 := Lib.hid e1
    have HP := Lib.hid hpp
    clear e1 hpp
    go_wp2
    go_ret
    refine ⟨rfl, only_trans (Only.of_below B1.out [R]) (only_set 1 _), ?_⟩
    rw [HP.out]
    exact HN.out
  | false =>
    rw [hb] at CP
    clear hD hC hB H hpl hb
    go_enter Tryd.func31, Tryd.ntmps31
    go_wp2_with fail
    refine CR.out.mono ?_
    rintro e w1 ⟨rfl, hb⟩
    have R1 := HR.out.stay hb
    have HR1 := Lib.hid R1
    have B1 := Lib.hid hb
    clear hb R1 HR
    go_wp2_with fail
    refine (CP.out _).mono ?_
    rintro e w2 ⟨rfl, rfl⟩
    go_wp2
    go_ret
    exact ⟨rfl, Only.of_below B1.out [R], HR1.out⟩
theorem empty_of (ds : List Nat) : (strOf ds).toList.isEmpty = decide (ds.length = 0) := by
  rw [Lib.toList_data, strOf_list]
  cases ds <;> simp
theorem index_any (l : List Nat) (hl : IsB l) (c : Nat) (hc : c < 256) (w : World) : Calls Tryd.prog 47 #[.string (strOf l), .int .u8 ((c : Nat) : Int)] w fun e w' => e = .returned (.int .i64 (Lib.indexByte (l.map UInt8.ofNat) (UInt8.ofNat c))) ∧ w' = w := by
  have h := Tryd.strings_IndexByte (strOf l) c w
  rw [strOf_list] at h
  exact h
theorem contains_map (l : List Nat) (hl : IsB l) (c : Nat) (hc : c < 256) : (l.map UInt8.ofNat).contains (UInt8.ofNat c) = l.contains c := by
  induction l with
  | nil => rfl
  | cons d l ih =>
    have hd : d < 256 := hl d List.mem_cons_self
    rw [List.map_cons, List.contains_cons, List.contains_cons, ih (fun x hx => hl x (List.mem_cons_of_mem _ hx))]
    congr 1
    by_cases e : c = d
    · subst e; simp
    · have : ¬ UInt8.ofNat c = UInt8.ofNat d := fun h => e (ofNat_inj hc hd h)
      rw [beq_eq_false_iff_ne.2 this, beq_eq_false_iff_ne.2 e]
theorem index_contains (l : List Nat) (hl : IsB l) (c : Nat) (hc : c < 256) : decide ((0 : Int) ≤ Lib.indexByte (l.map UInt8.ofNat) (UInt8.ofNat c)) = l.contains c := by
  rw [← Lib.contains_iff_indexByte, contains_map l hl c hc]
set_option maxHeartbeats 1000000 in
theorem isNext_any (R : Nat) (bs : List Nat) (st : RS) (l : List Nat) (hB : IsB bs) (hlB : IsB l) (hp : st.at' ≤ bs.length) (hl : bs.length ≤ 500) (w : World) (H : Rd w R bs st) :
    Calls Tryd.prog 40 #[.pointer (some ⟨R, 0, none⟩), .string (strOf l)] w (Gives w (.bool (Rx.isNext bs st.at' l))) := by
  have CR := Lib.hid (fun w (H : Rd w R bs st) => rest_any R bs st hp hl w H)
  have HR := Lib.hid H
  have hDl : (strOf (bs.drop st.at')).size = bs.length - st.at' := by rw [strOf_size, List.length_drop]
  by_cases hlt : st.at' < bs.length
  · have hg : bs[st.at']? = some bs[st.at'] := List.getElem?_eq_getElem hlt
    have hv : Rx.isNext bs st.at' l = l.contains bs[st.at'] := by unfold Rx.isNext; rw [hg]
    have hc : bs[st.at'] < 256 := hB.at _ hlt
    have hds : 0 < (bs.drop st.at').length := by rw [List.length_drop]; omega
    have hb0 := strOf_bt (bs.drop st.at') (isB_drop hB _) 0 hds
    rw [show (bs.drop st.at')[0] = bs[st.at'] by rw [List.getElem_drop]; rfl] at hb0
    have hbt := get_bt (strOf (bs.drop st.at'))
    have CI := Lib.hid (fun w => index_any l hlB bs[st.at'] hc w)
    have hic := index_contains l hlB bs[st.at'] hc
    rw [hv, ← hic]
    obtain ⟨c, hcc⟩ : ∃ c, bs[st.at'] = c := ⟨_, rfl⟩
    obtain ⟨q, hq⟩ : ∃ q, Lib.indexByte (l.map UInt8.ofNat) (UInt8.ofNat c) = q := ⟨_, rfl⟩
    rw [hcc] at hb0 CI ⊢
    rw [hq] at CI ⊢
    obtain ⟨D, hD⟩ : ∃ D, strOf (bs.drop st.at') = D := ⟨_, rfl⟩
    obtain ⟨C, hC⟩ : ∃ C, strOf l = C := ⟨_, rfl⟩
    rw [hD] at CR hb0 hbt hDl
    rw [hC] at CI ⊢
    have hs0 : 0 < D.size := by omega
    have he : D.toList.isEmpty = false := by rw [← hD, empty_of]; simp; omega
    clear hic hcc hq hD hC hg hv hds hDl
    go_enter Tryd.func40, Tryd.ntmps40
    go_wp2_with fail
    refine (CR.out _ HR.out).mono ?_
    rintro e w1 ⟨rfl, hb⟩
    have R1 := Lib.hid (HR.out.stay hb)
    have B1 := Lib.hid hb
    clear hb
    go_wp2_with fail
    refine (CR.out _ R1.out).mono ?_
    rintro e w2 ⟨rfl, hb⟩
    have B2 := Lib.hid (B1.out.trans (hb.mono B1.out.size))
    clear hb
    go_wp2_with fail
    refine (CI.out _).mono ?_
    rintro e w3 ⟨rfl, rfl⟩
    go_wp2
    go_ret
    exact ⟨rfl, B2.out⟩
  · have hv : Rx.isNext bs st.at' l = false := by
      unfold Rx.isNext
      rw [List.getElem?_eq_none (by omega)]
    rw [hv]
    have he : (strOf (bs.drop st.at')).toList.isEmpty = true := by rw [empty_of, List.length_drop]; simp; omega
    obtain ⟨D, hD⟩ : ∃ D, strOf (bs.drop st.at') = D := ⟨_, rfl⟩
    rw [hD] at CR he
    clear hD hDl hv
    go_enter Tryd.func40, Tryd.ntmps40
    go_wp2_with fail
    refine (CR.out _ HR.out).mono ?_
    rintro e w1 ⟨rfl, hb⟩
    have B1 := Lib.hid hb
    clear hb
    go_wp2
    go_ret
    exact ⟨rfl, B1.out⟩
end Go.Proofs.YtgjdeilclimpdaaDoor
namespace Go.Proofs.YtgjdeilclimpdaaDoor
set_option linter.unusedVariables false
set_option linter.unusedSimpArgs false
open Go.RowKit Go.PlainAid Go.Shelf
open Rx (Set4 RS)
def tenB : List Nat := [48, 49, 50, 51, 52, 53, 54, 55, 56, 57]
theorem tenB_ok : IsB tenB := by unfold IsB tenB; decide
theorem tenB_has (c : Nat) : tenB.contains c = decide (48 ≤ c ∧ c ≤ 57) := by
  by_cases h : 48 ≤ c ∧ c ≤ 57
  · rw [decide_eq_true h]
    rcases (by omega : c = 48 ∨ c = 49 ∨ c = 50 ∨ c = 51 ∨ c = 52 ∨ c = 53 ∨ c = 54 ∨ c = 55 ∨ c = 56 ∨ c = 57) with h | h | h | h | h | h | h | h | h | h <;> subst h <;> rfl
  · rw [decide_eq_false h]
    unfold tenB
    simp
    omega
theorem digs_yes (bs : List Nat) (k p n : Nat) (h : Rx.isNext bs p tenB = true) : ∃ c, bs[p]? = some c ∧ 48 ≤ c ∧ c ≤ 57 ∧ Rx.digs bs (k + 1) p n = Rx.digs bs k (p + 1) (10 * n + (c - 48)) := by
  unfold Rx.isNext at h
  split at h
  · cases h
  · rename_i c hc
    rw [tenB_has] at h
    have h2 := of_decide_eq_true h
    refine ⟨c, hc, h2.1, h2.2, ?_⟩
    rw [Rx.digs, hc]
    simp only
    rw [if_pos h2]
theorem digs_no (bs : List Nat) (k p n : Nat) (h : Rx.isNext bs p tenB = false) : Rx.digs bs k p n = (p, n) := by
  cases k with
  | zero => rfl
  | succ k =>
    unfold Rx.isNext at h
    rw [Rx.digs]
    split at h
    · rename_i hc; simp only
    · rename_i c hc
      rw [tenB_has] at h
      rw [if_neg (of_decide_eq_false h)]
theorem digs_le (bs : List Nat) : ∀ k p n, p ≤ bs.length → (Rx.digs bs k p n).1 ≤ bs.length
  | 0, p, n, h => h
  | k + 1, p, n, h => by
    rw [Rx.digs]
    split
    · exact h
    · rename_i c hc
      have := (List.getElem?_eq_some_iff.1 hc).1
      split
      · exact digs_le bs k _ _ this
      · exact h
theorem digs_ge (bs : List Nat) : ∀ k p n, p ≤ (Rx.digs bs k p n).1
  | 0, p, n => Nat.le_refl _
  | k + 1, p, n => by
    rw [Rx.digs]
    split
    · exact Nat.le_refl _
    · split
      · have := digs_ge bs k (p + 1) (10 * n + (‹Nat› - 48)); omega
      · exact Nat.le_refl _
theorem digs_lt (bs : List Nat) : ∀ k p n, n < 10 ^ (4 - k) → k ≤ 4 → (Rx.digs bs k p n).2 < 10000
  | 0, p, n, h, hk => h
  | k + 1, p, n, h, hk => by
    have hq : 10 ^ (4 - k) = 10 * 10 ^ (4 - (k + 1)) := by rw [show 4 - k = (4 - (k + 1)) + 1 by omega, Nat.pow_succ]; omega
    have hm : 10 ^ (4 - (k + 1)) ≤ 10 ^ 4 := Nat.pow_le_pow_right (by decide) (by omega)
    rw [Rx.digs]
    split
    · show n < 10000; omega
    · split
      · rename_i hc; refine digs_lt bs k _ _ ?_ (by omega); omega
      · show n < 10000; omega
def posOf (R : Nat) (w : World) : Nat := match w.cell? ⟨R, 1, none⟩ with | some v => (intOf v).toNat | none => 0
theorem Rd.posOf {w : World} {R : Nat} {bs : List Nat} {st : RS} (h : Rd w R bs st) : posOf R w = st.at' := by
  unfold YtgjdeilclimpdaaDoor.posOf
  rw [h.c1]
  simp [intOf]
structure NumAt (w wr : World) (R : Nat) (bs : List Nat) (st : RS) : Prop where
  rd : Rd wr R bs st
  only : Only [R] w wr
set_option maxHeartbeats 4000000 in
set_option maxRecDepth 100000 in
theorem number_any (R : Nat) (bs : List Nat) (st : RS) (hB : IsB bs) (hp : st.at' ≤ bs.length) (hl : bs.length ≤ 500) (w : World) (H : Rd w R bs st) :
    Calls Tryd.prog 63 #[.pointer (some ⟨R, 0, none⟩)] w fun e w' => e = .returned (.tuple #[.int .i64 (((Rx.number bs st.at').1 : Nat) : Int), .bool (Rx.number bs st.at').2.1]) ∧ Only [R] w w' ∧ Rd w' R bs (st.to (Rx.number bs st.at').2.2) := by
  have CN := Lib.hid (fun w st (H : Rd w R bs st) hp => isNext_any R bs st tenB hB tenB_ok hp hl w H)
  have h1 := H.c1
  have HA := Lib.hid (show NumAt w w R bs (st.to st.at') from ⟨H, Only.refl _ _⟩)
  have hsz := strOf_size bs
  have hdl := digs_lt bs 4 st.at' 0 (by decide) (by decide)
  have hdg := digs_ge bs 4 st.at' 0
  have hdL := digs_le bs 4 st.at' 0 hp
  unfold Rx.number
  obtain ⟨p0, hp0⟩ : ∃ p, st.at' = p := ⟨_, rfl⟩
  have HST := Lib.hid (show ∀ p, (st.to p).at' = p from fun p => rfl)
  have HT2 := Lib.hid (show ∀ p q, (st.to p).to q = st.to q from fun p q => rfl)
  rw [hp0] at h1 hp HA hdl hdg hdL ⊢
  obtain ⟨DR, hDR⟩ : ∃ d, Rx.digs bs 4 p0 0 = d := ⟨_, rfl⟩
  rw [hDR] at hdl hdg hdL ⊢
  obtain ⟨pe, ne⟩ := DR
  simp only at hdl hdg hdL ⊢
  have HD := Lib.hid hDR
  clear H hp0 hDR
  go_enter Tryd.func63, Tryd.ntmps63
  go_wp2
  go_loopw [2] (fun n wr => ∃ k p m : Nat, k ≤ 4 ∧ p = p0 + k ∧ p ≤ bs.length ∧ m < 10000 ∧ n = .int .i64 ((m : Nat) : Int) ∧ Hid (Rx.digs bs (4 - k) p m = (pe, ne)) ∧ m < 10 ^ k ∧ Hid (NumAt w wr R bs (st.to p))) (fun n wr => bs.length - posOf R wr)
  case atStart => exact ⟨0, p0, 0, by omega, rfl, hp, by omega, rfl, HD, by decide, HA⟩
  case round =>
    obtain ⟨k, p, m, hk, hpk, hpl, hm, rfl, HDg, hmk, HT⟩ := hrel
    have c1 : wr.cell? ⟨R, 1, none⟩ = some (.int .i64 ((p : Nat) : Int)) := HT.out.rd.c1
    have HPO := Lib.hid HT.out.rd.posOf
    have hw : (p : Int) - (p0 : Int) = ((k : Nat) : Int) := by omega
    by_cases hk4 : k < 4
    · have hkd : decide ((k : Int) < 4) = true := by simp; omega
      cases hin : Rx.isNext bs p tenB with
      | true =>
        obtain ⟨c, hc, hc1, hc2, hcd⟩ := digs_yes bs (3 - k) p m hin
        rw [show 3 - k + 1 = 4 - k by omega] at hcd
        have HN := Lib.hid (hcd.symm.trans HDg.out)
        have CN1 := Lib.hid (CN.out wr (st.to p) HT.out.rd hpl)
        rw [show (st.to p).at' = p from rfl, hin] at CN1
        have hplt : p < bs.length := (List.getElem?_eq_some_iff.1 hc).1
        have hcv : bs[p] = c := (List.getElem?_eq_some_iff.1 hc).2
        have hbt := get_bt (strOf bs)
        have hb0 := strOf_bt bs hB p hplt
        rw [hcv] at hb0
        have HRD := Lib.hid HT.out.rd
        have HON := Lib.hid HT.out.only
        obtain ⟨S, hS⟩ : ∃ S, strOf bs = S := ⟨_, rfl⟩
        obtain ⟨L, hL⟩ : ∃ L, bs.length = L := ⟨_, rfl⟩
        have HSC := Lib.hid (fun (w1 : World) (h : Rd w1 R bs (st.to p)) => h.c0)
        rw [hS] at hsz hbt hb0 HSC
        have HPL := Lib.hid hplt
        rw [hL] at hsz hplt
        have e1 : IntKind.u8.wrap ((c : Int) - 48) = ((c - 48 : Nat) : Int) := by rw [IntKind.wrap_u8]; omega
        have e2 : (10 : Int) * (m : Int) + ((c - 48 : Nat) : Int) = ((10 * m + (c - 48) : Nat) : Int) := by omega
        have E2 := Lib.hid e2
        have hmb : 10 * m + (c - 48) < 10 ^ (k + 1) := by rw [Nat.pow_succ]; omega
        have hmb2 : 10 ^ (k + 1) ≤ 10 ^ 4 := Nat.pow_le_pow_right (by decide) (by omega)
        have hm4 : 10 * m + (c - 48) < 10000 := by omega
        have HM := Lib.hid (And.intro hmb hm4)
        obtain ⟨d, hd⟩ : ∃ d, c - 48 = d := ⟨_, rfl⟩
        have hd9 : d ≤ 9 := by omega
        rw [hd] at e1 E2 HM HN
        have HDD := Lib.hid hd
        have HPK := Lib.hid (show p + 1 = p0 + (k + 1) ∧ p + 1 ≤ bs.length by omega)
        have hL5 : L ≤ 500 := by omega
        clear hS hc hcv hL hl hin hmb hmb2 hm4 hmk e2 HDg HT hd CN HT2 HST
        clear hdl hdg hdL HA h1 hpk
        go_wp2_with fail
        refine CN1.out.mono ?_
        rintro e w1 ⟨rfl, hb⟩
        have R1 := Lib.hid (HRD.out.stay hb)
        have O1 := Lib.hid (only_trans HON.out (Only.of_below hb [R]))
        have c0' := HSC.out w1 R1.out
        have c1' : w1.cell? ⟨R, 1, none⟩ = some (.int .i64 ((p : Nat) : Int)) := R1.out.c1
        have f1' := R1.out.fz 1
        clear hb c1
        go_wp2_with fail
        go_quiet (fail)
        go_wp2
        go_roundw
        case rel => exact ⟨k + 1, p + 1, 10 * m + d, by omega, HPK.out.1, HPK.out.2, HM.out.2, by rw [E2.out], Lib.hid (by rw [show 4 - (k + 1) = 3 - k by omega]; exact HN.out), HM.out.1, Lib.hid ⟨Rd.set1 (w := w1.drewN nq) R1.out (p + 1), (only_trans (O1.out.drewN nq) (only_set 1 _))⟩⟩
        case measure =>
          have hpo := (Rd.set1 (w := w1.drewN nq) R1.out (p + 1)).posOf
          rw [show ((p + 1 : Nat) : Int) = (p : Int) + 1 by omega] at hpo
          rw [HPO.out, hpo]
          show bs.length - (p + 1) < bs.length - p
          have := HPL.out
          omega
      | false =>
        have HN := HDg.out
        rw [digs_no bs _ p m hin] at HN
        obtain ⟨rfl, rfl⟩ : p = pe ∧ m = ne := by cases HN; exact ⟨rfl, rfl⟩
        have CN1 := Lib.hid (CN.out wr (st.to p) HT.out.rd hpl)
        rw [show (st.to p).at' = p from rfl, hin] at CN1
        have HRD := Lib.hid HT.out.rd
        have HON := Lib.hid HT.out.only
        clear HN hin HDg HT CN HT2 HST hdl hdg hdL HA h1 hpk hmk hsz
        go_wp2_with fail
        refine CN1.out.mono ?_
        rintro e w1 ⟨rfl, hb⟩
        have R1 := Lib.hid (HRD.out.stay hb)
        have O1 := Lib.hid (only_trans HON.out (Only.of_below hb [R]))
        have c1' : w1.cell? ⟨R, 1, none⟩ = some (.int .i64 ((p : Nat) : Int)) := R1.out.c1
        clear hb c1
        by_cases hgt : p0 < p
        · have d1 : decide (p0 < p) = true := decide_eq_true hgt
          go_wp2
          go_ret2
          refine ⟨?_, O1.out, R1.out⟩
          rw [d1, Bool.true_and]
          show Ending.returned (.tuple #[.int .i64 ((m : Nat) : Int), .bool (decide ((m : Int) ≤ 1000))]) = _
          rw [show decide ((m : Int) ≤ 1000) = decide (m ≤ 1000) from decide_eq_decide.2 (by omega)]
        · have d1 : decide (p0 < p) = false := decide_eq_false hgt
          go_wp2
          go_ret2
          refine ⟨?_, O1.out, R1.out⟩
          rw [d1, Bool.false_and]
          rfl
    · obtain rfl : k = 4 := by omega
      have hkd : decide (((4 : Nat) : Int) < 4) = false := rfl
      rw [show ((4 : Nat) : Int) = 4 from rfl] at hw
      have HN := HDg.out
      obtain ⟨rfl, rfl⟩ : p = pe ∧ m = ne := by
        have : (p, m) = (pe, ne) := HN
        cases this
        exact ⟨rfl, rfl⟩
      have R1 := Lib.hid HT.out.rd
      have O1 := Lib.hid HT.out.only
      have hgt : p0 < p := by omega
      clear HN HDg HT CN HT2 HST hdl hdg hdL HA h1 hpk hmk hsz
      have d1 : decide (p0 < p) = true := decide_eq_true hgt
      go_wp2
      go_ret2
      refine ⟨?_, O1.out, R1.out⟩
      rw [d1, Bool.true_and]
      show Ending.returned (.tuple #[.int .i64 ((m : Nat) : Int), .bool (decide ((m : Int) ≤ 1000))]) = _
      rw [show decide ((m : Int) ≤ 1000) = decide (m ≤ 1000) from decide_eq_decide.2 (by omega)]
end Go.Proofs.YtgjdeilclimpdaaDoor
namespace Go.Proofs.YtgjdeilclimpdaaDoor
set_option linter.unusedVariables false
set_option linter.unusedSimpArgs false
open Go.RowKit Go.PlainAid Go.Shelf
open Rx (Set4 RS)
theorem number_le (bs : List Nat) (p : Nat) (h : p ≤ bs.length) : (Rx.number bs p).2.2 ≤ bs.length := digs_le bs 4 p 0 h
def mostI : Option Nat → Int
  | none => -1
  | some n => ((n : Nat) : Int)
def BPost (r : Option (Nat × Option Nat)) (e : Ending) : Prop := ∃ a b : Int, e = .returned (.tuple #[.int .i64 a, .int .i64 b, .bool r.isSome]) ∧ ∀ l m, r = some (l, m) → a = ((l : Nat) : Int) ∧ b = mostI m
theorem BPost.none (a b : Int) : BPost none (.returned (.tuple #[.int .i64 a, .int .i64 b, .bool false])) := ⟨a, b, rfl, fun l m h => by cases h⟩
theorem BPost.some (l : Nat) (m : Option Nat) : BPost (some (l, m)) (.returned (.tuple #[.int .i64 ((l : Nat) : Int), .int .i64 (mostI m), .bool true])) := ⟨_, _, rfl, fun l m h => by cases h; exact ⟨rfl, rfl⟩⟩
/-- what a reader's call has done -/
structure Went (w w' : World) (R : Nat) (bs : List Nat) (st : RS) : Prop where
  rd : Rd w' R bs st
  only : Only [R] w w'
theorem Went.refl {w : World} {R : Nat} {bs : List Nat} {st : RS} (h : Rd w R bs st) : Went w w R bs st := ⟨h, Only.refl _ _⟩
theorem Went.below {w w1 w2 : World} {R : Nat} {bs : List Nat} {st : RS} (h : Went w w1 R bs st) (hb : Below w1.heap.size w1 w2) : Went w w2 R bs st := ⟨h.rd.stay hb, only_trans h.only (Only.of_below hb [R])⟩
theorem Went.trans {w w1 w2 : World} {R : Nat} {bs : List Nat} {st st' : RS} (h : Went w w1 R bs st) (k : Went w1 w2 R bs st') : Went w w2 R bs st' := ⟨k.rd, only_trans h.only k.only⟩
theorem sign_went (R : Nat) (bs : List Nat) (st : RS) (c : Nat) (hB : IsB bs) (hc : c < 256) (hp : st.at' ≤ bs.length) (hl : bs.length ≤ 500) (w : World) (H : Rd w R bs st) :
    Calls Tryd.prog 31 #[.pointer (some ⟨R, 0, none⟩), .string (strOf [c])] w fun e w' => e = .returned (.bool (Rx.isAt bs st.at' c)) ∧ Went w w' R bs (if Rx.isAt bs st.at' c then st.to (st.at' + 1) else st) :=
  (sign_any R bs st c hB hc hp hl w H).mono fun e w' h => ⟨h.1, h.2.2, h.2.1⟩
theorem sign_yes (R : Nat) (bs : List Nat) (st : RS) (c : Nat) (hB : IsB bs) (hc : c < 256) (h : Rx.isAt bs st.at' c = true) (hl : bs.length ≤ 500) (w : World) (H : Rd w R bs st) :
    Calls Tryd.prog 31 #[.pointer (some ⟨R, 0, none⟩), .string (strOf [c])] w fun e w' => e = .returned (.bool true) ∧ Went w w' R bs (st.to (st.at' + 1)) := by
  have hp : st.at' < bs.length := (List.getElem?_eq_some_iff.1 (of_decide_eq_true h)).1
  have := sign_went R bs st c hB hc (Nat.le_of_lt hp) hl w H
  rw [h, if_pos rfl] at this
  exact this
theorem sign_no (R : Nat) (bs : List Nat) (st : RS) (c : Nat) (hB : IsB bs) (hc : c < 256) (h : Rx.isAt bs st.at' c = false) (hp : st.at' ≤ bs.length) (hl : bs.length ≤ 500) (w : World) (H : Rd w R bs st) :
    Calls Tryd.prog 31 #[.pointer (some ⟨R, 0, none⟩), .string (strOf [c])] w fun e w' => e = .returned (.bool false) ∧ Went w w' R bs st := by
  have := sign_went R bs st c hB hc hp hl w H
  rw [h] at this
  exact this
theorem isAt_lt {bs : List Nat} {p c : Nat} (h : Rx.isAt bs p c = true) : p < bs.length := (List.getElem?_eq_some_iff.1 (of_decide_eq_true h)).1
theorem number_went (R : Nat) (bs : List Nat) (st : RS) (hB : IsB bs) (hp : st.at' ≤ bs.length) (hl : bs.length ≤ 500) (n : Nat) (b : Bool) (q : Nat) (h : Rx.number bs st.at' = (n, b, q)) (w : World) (H : Rd w R bs st) :
    Calls Tryd.prog 63 #[.pointer (some ⟨R, 0, none⟩)] w fun e w' => e = .returned (.tuple #[.int .i64 ((n : Nat) : Int), .bool b]) ∧ Went w w' R bs (st.to q) := by
  have := number_any R bs st hB hp hl w H
  rw [h] at this
  exact this.mono fun e w' h => ⟨h.1, h.2.2, h.2.1⟩
/-- the last sign of a count -/
theorem boundsEnd_le (bs : List Nat) (l : Nat) (m : Option Nat) (p : Nat) (h : p ≤ bs.length) : (Rx.boundsEnd bs l m p).2 ≤ bs.length := by
  unfold Rx.boundsEnd
  split
  · rename_i k; exact isAt_lt k
  · exact h
theorem bounds_le (bs : List Nat) (p : Nat) (h : p ≤ bs.length) : (Rx.bounds bs p).2 ≤ bs.length := by
  unfold Rx.bounds Rx.bounds2
  have h1 := number_le bs p h
  split
  · split
    · rename_i k
      have h2 := isAt_lt k
      split
      · exact boundsEnd_le _ _ _ _ h2
      · split
        · exact boundsEnd_le _ _ _ _ (number_le _ _ h2)
        · exact number_le _ _ h2
    · exact boundsEnd_le _ _ _ _ h1
  · exact h1
-- GEN
set_option maxHeartbeats 2000000 in
set_option maxRecDepth 100000 in
theorem bounds_a (R : Nat) (bs : List Nat) (st : RS) (hB : IsB bs) (hp : st.at' ≤ bs.length) (hl : bs.length ≤ 500) (w : World) (H : Rd w R bs st) (n q : Nat) (hn : Rx.number bs st.at' = (n, false, q)) :
    Calls Tryd.prog 54 #[.pointer (some ⟨R, 0, none⟩)] w fun e w' => BPost none e ∧ Went w w' R bs (st.to q) := by
  have C1 := Lib.hid (number_went R bs st hB hp hl n false q hn w H)
  have hq : q ≤ bs.length := by have := number_le bs st.at' hp; rw [hn] at this; exact this
  clear hn
  go_enter Tryd.func54, Tryd.ntmps54
  go_wp2_with fail
  refine C1.out.mono ?_
  rintro e w1 ⟨rfl, W1⟩
  have W1 := Lib.hid W1
  go_wp2_with fail
  go_returns
  exact ⟨BPost.none 0 0, W1.out⟩
set_option maxHeartbeats 2000000 in
set_option maxRecDepth 100000 in
theorem bounds_by (R : Nat) (bs : List Nat) (st : RS) (hB : IsB bs) (hp : st.at' ≤ bs.length) (hl : bs.length ≤ 500) (w : World) (H : Rd w R bs st) (n q : Nat) (hn : Rx.number bs st.at' = (n, true, q)) (h44 : Rx.isAt bs q 44 = false) (h125 : Rx.isAt bs q 125 = true) :
    Calls Tryd.prog 54 #[.pointer (some ⟨R, 0, none⟩)] w fun e w' => BPost (some (n, some n)) e ∧ Went w w' R bs (st.to (q + 1)) := by
  have C1 := Lib.hid (number_went R bs st hB hp hl n true q hn w H)
  have hq : q ≤ bs.length := by have := number_le bs st.at' hp; rw [hn] at this; exact this
  have C2 := Lib.hid (fun w H => sign_no R bs (st.to q) 44 hB (by decide) h44 hq hl w H)
  have C3 := Lib.hid (fun w H => sign_yes R bs (st.to q) 125 hB (by decide) h125 hl w H)
  clear h44 h125
  clear hn
  go_enter Tryd.func54, Tryd.ntmps54
  go_wp2_with fail
  refine C1.out.mono ?_
  rintro e w1 ⟨rfl, W1⟩
  have W1 := Lib.hid W1
  go_wp2_with fail
  refine (C2.out _ W1.out.rd).mono ?_
  rintro e w2 ⟨rfl, X⟩
  have Vw2 := Lib.hid (W1.out.trans X)
  clear X
  go_wp2_with fail
  refine (C3.out _ Vw2.out.rd).mono ?_
  rintro e w3 ⟨rfl, X⟩
  have Vw3 := Lib.hid (Vw2.out.trans X)
  clear X
  go_wp2_with fail
  go_returns
  exact ⟨BPost.some n (some n), Vw3.out⟩
set_option maxHeartbeats 2000000 in
set_option maxRecDepth 100000 in
theorem bounds_bn (R : Nat) (bs : List Nat) (st : RS) (hB : IsB bs) (hp : st.at' ≤ bs.length) (hl : bs.length ≤ 500) (w : World) (H : Rd w R bs st) (n q : Nat) (hn : Rx.number bs st.at' = (n, true, q)) (h44 : Rx.isAt bs q 44 = false) (h125 : Rx.isAt bs q 125 = false) :
    Calls Tryd.prog 54 #[.pointer (some ⟨R, 0, none⟩)] w fun e w' => BPost none e ∧ Went w w' R bs (st.to q) := by
  have C1 := Lib.hid (number_went R bs st hB hp hl n true q hn w H)
  have hq : q ≤ bs.length := by have := number_le bs st.at' hp; rw [hn] at this; exact this
  have C2 := Lib.hid (fun w H => sign_no R bs (st.to q) 44 hB (by decide) h44 hq hl w H)
  have C3 := Lib.hid (fun w H => sign_no R bs (st.to q) 125 hB (by decide) h125 hq hl w H)
  clear h44 h125
  clear hn
  go_enter Tryd.func54, Tryd.ntmps54
  go_wp2_with fail
  refine C1.out.mono ?_
  rintro e w1 ⟨rfl, W1⟩
  have W1 := Lib.hid W1
  go_wp2_with fail
  refine (C2.out _ W1.out.rd).mono ?_
  rintro e w2 ⟨rfl, X⟩
  have Vw2 := Lib.hid (W1.out.trans X)
  clear X
  go_wp2_with fail
  refine (C3.out _ Vw2.out.rd).mono ?_
  rintro e w3 ⟨rfl, X⟩
  have Vw3 := Lib.hid (Vw2.out.trans X)
  clear X
  go_wp2_with fail
  go_returns
  exact ⟨BPost.none _ _, Vw3.out⟩
set_option maxHeartbeats 2000000 in
set_option maxRecDepth 100000 in
theorem bounds_cy (R : Nat) (bs : List Nat) (st : RS) (hB : IsB bs) (hp : st.at' ≤ bs.length) (hl : bs.length ≤ 500) (w : World) (H : Rd w R bs st) (n q : Nat) (hn : Rx.number bs st.at' = (n, true, q)) (h44 : Rx.isAt bs q 44 = true) (hi : Rx.isNext bs (q + 1) [125] = true) (h125 : Rx.isAt bs (q + 1) 125 = true) :
    Calls Tryd.prog 54 #[.pointer (some ⟨R, 0, none⟩)] w fun e w' => BPost (some (n, none)) e ∧ Went w w' R bs (st.to (q + 1 + 1)) := by
  have C1 := Lib.hid (number_went R bs st hB hp hl n true q hn w H)
  have hq : q ≤ bs.length := by have := number_le bs st.at' hp; rw [hn] at this; exact this
  have hq1 : q + 1 ≤ bs.length := isAt_lt h44
  have C2 := Lib.hid (fun w H => sign_yes R bs (st.to q) 44 hB (by decide) h44 hl w H)
  have C3 := Lib.hid (fun w H => isNext_any R bs (st.to (q + 1)) [125] hB (by unfold IsB; decide) hq1 hl w H)
  rw [show (st.to (q + 1)).at' = q + 1 from rfl, hi] at C3
  have C4 := Lib.hid (fun w H => sign_yes R bs (st.to (q + 1)) 125 hB (by decide) h125 hl w H)
  clear h44 h125 hi
  clear hn
  go_enter Tryd.func54, Tryd.ntmps54
  go_wp2_with fail
  refine C1.out.mono ?_
  rintro e w1 ⟨rfl, W1⟩
  have W1 := Lib.hid W1
  go_wp2_with fail
  refine (C2.out _ W1.out.rd).mono ?_
  rintro e w2 ⟨rfl, X⟩
  have Vw2 := Lib.hid (W1.out.trans X)
  clear X
  go_wp2_with fail
  refine (C3.out _ Vw2.out.rd).mono ?_
  rintro e w3 ⟨rfl, X⟩
  have Vw3 := Lib.hid (Vw2.out.below X)
  clear X
  go_wp2_with fail
  refine (C4.out _ Vw3.out.rd).mono ?_
  rintro e w4 ⟨rfl, X⟩
  have Vw4 := Lib.hid (Vw3.out.trans X)
  clear X
  go_wp2_with fail
  go_returns
  exact ⟨BPost.some n none, Vw4.out⟩
set_option maxHeartbeats 2000000 in
set_option maxRecDepth 100000 in
theorem bounds_cn (R : Nat) (bs : List Nat) (st : RS) (hB : IsB bs) (hp : st.at' ≤ bs.length) (hl : bs.length ≤ 500) (w : World) (H : Rd w R bs st) (n q : Nat) (hn : Rx.number bs st.at' = (n, true, q)) (h44 : Rx.isAt bs q 44 = true) (hi : Rx.isNext bs (q + 1) [125] = true) (h125 : Rx.isAt bs (q + 1) 125 = false) :
    Calls Tryd.prog 54 #[.pointer (some ⟨R, 0, none⟩)] w fun e w' => BPost none e ∧ Went w w' R bs (st.to (q + 1)) := by
  have C1 := Lib.hid (number_went R bs st hB hp hl n true q hn w H)
  have hq : q ≤ bs.length := by have := number_le bs st.at' hp; rw [hn] at this; exact this
  have hq1 : q + 1 ≤ bs.length := isAt_lt h44
  have C2 := Lib.hid (fun w H => sign_yes R bs (st.to q) 44 hB (by decide) h44 hl w H)
  have C3 := Lib.hid (fun w H => isNext_any R bs (st.to (q + 1)) [125] hB (by unfold IsB; decide) hq1 hl w H)
  rw [show (st.to (q + 1)).at' = q + 1 from rfl, hi] at C3
  have C4 := Lib.hid (fun w H => sign_no R bs (st.to (q + 1)) 125 hB (by decide) h125 hq1 hl w H)
  clear h44 h125 hi
  clear hn
  go_enter Tryd.func54, Tryd.ntmps54
  go_wp2_with fail
  refine C1.out.mono ?_
  rintro e w1 ⟨rfl, W1⟩
  have W1 := Lib.hid W1
  go_wp2_with fail
  refine (C2.out _ W1.out.rd).mono ?_
  rintro e w2 ⟨rfl, X⟩
  have Vw2 := Lib.hid (W1.out.trans X)
  clear X
  go_wp2_with fail
  refine (C3.out _ Vw2.out.rd).mono ?_
  rintro e w3 ⟨rfl, X⟩
  have Vw3 := Lib.hid (Vw2.out.below X)
  clear X
  go_wp2_with fail
  refine (C4.out _ Vw3.out.rd).mono ?_
  rintro e w4 ⟨rfl, X⟩
  have Vw4 := Lib.hid (Vw3.out.trans X)
  clear X
  go_wp2_with fail
  go_returns
  exact ⟨BPost.none _ _, Vw4.out⟩
set_option maxHeartbeats 2000000 in
set_option maxRecDepth 100000 in
theorem bounds_d (R : Nat) (bs : List Nat) (st : RS) (hB : IsB bs) (hp : st.at' ≤ bs.length) (hl : bs.length ≤ 500) (w : World) (H : Rd w R bs st) (n q : Nat) (hn : Rx.number bs st.at' = (n, true, q)) (h44 : Rx.isAt bs q 44 = true) (hi : Rx.isNext bs (q + 1) [125] = false) (m q2 : Nat) (hn2 : Rx.number bs (q + 1) = (m, false, q2)) :
    Calls Tryd.prog 54 #[.pointer (some ⟨R, 0, none⟩)] w fun e w' => BPost none e ∧ Went w w' R bs (st.to q2) := by
  have C1 := Lib.hid (number_went R bs st hB hp hl n true q hn w H)
  have hq : q ≤ bs.length := by have := number_le bs st.at' hp; rw [hn] at this; exact this
  have hq1 : q + 1 ≤ bs.length := isAt_lt h44
  have C2 := Lib.hid (fun w H => sign_yes R bs (st.to q) 44 hB (by decide) h44 hl w H)
  have C3 := Lib.hid (fun w H => isNext_any R bs (st.to (q + 1)) [125] hB (by unfold IsB; decide) hq1 hl w H)
  rw [show (st.to (q + 1)).at' = q + 1 from rfl, hi] at C3
  have C5 := Lib.hid (fun w H => number_went R bs (st.to (q + 1)) hB hq1 hl m false q2 hn2 w H)
  have hq2 : q2 ≤ bs.length := by have := number_le bs (q + 1) hq1; rw [hn2] at this; exact this
  clear h44 hi hn2
  clear hn
  go_enter Tryd.func54, Tryd.ntmps54
  go_wp2_with fail
  refine C1.out.mono ?_
  rintro e w1 ⟨rfl, W1⟩
  have W1 := Lib.hid W1
  go_wp2_with fail
  refine (C2.out _ W1.out.rd).mono ?_
  rintro e w2 ⟨rfl, X⟩
  have Vw2 := Lib.hid (W1.out.trans X)
  clear X
  go_wp2_with fail
  refine (C3.out _ Vw2.out.rd).mono ?_
  rintro e w3 ⟨rfl, X⟩
  have Vw3 := Lib.hid (Vw2.out.below X)
  clear X
  go_wp2_with fail
  refine (C5.out _ Vw3.out.rd).mono ?_
  rintro e w4 ⟨rfl, X⟩
  have Vw4 := Lib.hid (Vw3.out.trans X)
  clear X
  go_wp2_with fail
  go_returns
  exact ⟨BPost.none _ _, Vw4.out⟩
set_option maxHeartbeats 2000000 in
set_option maxRecDepth 100000 in
theorem bounds_e (R : Nat) (bs : List Nat) (st : RS) (hB : IsB bs) (hp : st.at' ≤ bs.length) (hl : bs.length ≤ 500) (w : World) (H : Rd w R bs st) (n q : Nat) (hn : Rx.number bs st.at' = (n, true, q)) (h44 : Rx.isAt bs q 44 = true) (hi : Rx.isNext bs (q + 1) [125] = false) (m q2 : Nat) (hn2 : Rx.number bs (q + 1) = (m, true, q2)) (hlt : ¬ n ≤ m) :
    Calls Tryd.prog 54 #[.pointer (some ⟨R, 0, none⟩)] w fun e w' => BPost none e ∧ Went w w' R bs (st.to q2) := by
  have C1 := Lib.hid (number_went R bs st hB hp hl n true q hn w H)
  have hq : q ≤ bs.length := by have := number_le bs st.at' hp; rw [hn] at this; exact this
  have hq1 : q + 1 ≤ bs.length := isAt_lt h44
  have C2 := Lib.hid (fun w H => sign_yes R bs (st.to q) 44 hB (by decide) h44 hl w H)
  have C3 := Lib.hid (fun w H => isNext_any R bs (st.to (q + 1)) [125] hB (by unfold IsB; decide) hq1 hl w H)
  rw [show (st.to (q + 1)).at' = q + 1 from rfl, hi] at C3
  have C5 := Lib.hid (fun w H => number_went R bs (st.to (q + 1)) hB hq1 hl m true q2 hn2 w H)
  have hq2 : q2 ≤ bs.length := by have := number_le bs (q + 1) hq1; rw [hn2] at this; exact this
  have hd : decide (m < n) = true := by simp; omega
  clear h44 hi hn2
  clear hn
  go_enter Tryd.func54, Tryd.ntmps54
  go_wp2_with fail
  refine C1.out.mono ?_
  rintro e w1 ⟨rfl, W1⟩
  have W1 := Lib.hid W1
  go_wp2_with fail
  refine (C2.out _ W1.out.rd).mono ?_
  rintro e w2 ⟨rfl, X⟩
  have Vw2 := Lib.hid (W1.out.trans X)
  clear X
  go_wp2_with fail
  refine (C3.out _ Vw2.out.rd).mono ?_
  rintro e w3 ⟨rfl, X⟩
  have Vw3 := Lib.hid (Vw2.out.below X)
  clear X
  go_wp2_with fail
  refine (C5.out _ Vw3.out.rd).mono ?_
  rintro e w4 ⟨rfl, X⟩
  have Vw4 := Lib.hid (Vw3.out.trans X)
  clear X
  go_wp2_with fail
  go_returns
  exact ⟨BPost.none _ _, Vw4.out⟩
set_option maxHeartbeats 2000000 in
set_option maxRecDepth 100000 in
theorem bounds_fy (R : Nat) (bs : List Nat) (st : RS) (hB : IsB bs) (hp : st.at' ≤ bs.length) (hl : bs.length ≤ 500) (w : World) (H : Rd w R bs st) (n q : Nat) (hn : Rx.number bs st.at' = (n, true, q)) (h44 : Rx.isAt bs q 44 = true) (hi : Rx.isNext bs (q + 1) [125] = false) (m q2 : Nat) (hn2 : Rx.number bs (q + 1) = (m, true, q2)) (hlt : n ≤ m) (h125 : Rx.isAt bs q2 125 = true) :
    Calls Tryd.prog 54 #[.pointer (some ⟨R, 0, none⟩)] w fun e w' => BPost (some (n, some m)) e ∧ Went w w' R bs (st.to (q2 + 1)) := by
  have C1 := Lib.hid (number_went R bs st hB hp hl n true q hn w H)
  have hq : q ≤ bs.length := by have := number_le bs st.at' hp; rw [hn] at this; exact this
  have hq1 : q + 1 ≤ bs.length := isAt_lt h44
  have C2 := Lib.hid (fun w H => sign_yes R bs (st.to q) 44 hB (by decide) h44 hl w H)
  have C3 := Lib.hid (fun w H => isNext_any R bs (st.to (q + 1)) [125] hB (by unfold IsB; decide) hq1 hl w H)
  rw [show (st.to (q + 1)).at' = q + 1 from rfl, hi] at C3
  have C5 := Lib.hid (fun w H => number_went R bs (st.to (q + 1)) hB hq1 hl m true q2 hn2 w H)
  have hq2 : q2 ≤ bs.length := by have := number_le bs (q + 1) hq1; rw [hn2] at this; exact this
  have C6 := Lib.hid (fun w H => sign_yes R bs (st.to q2) 125 hB (by decide) h125 hl w H)
  have hd : decide (m < n) = false := by simp; omega
  clear h44 hi hn2 h125
  clear hn
  go_enter Tryd.func54, Tryd.ntmps54
  go_wp2_with fail
  refine C1.out.mono ?_
  rintro e w1 ⟨rfl, W1⟩
  have W1 := Lib.hid W1
  go_wp2_with fail
  refine (C2.out _ W1.out.rd).mono ?_
  rintro e w2 ⟨rfl, X⟩
  have Vw2 := Lib.hid (W1.out.trans X)
  clear X
  go_wp2_with fail
  refine (C3.out _ Vw2.out.rd).mono ?_
  rintro e w3 ⟨rfl, X⟩
  have Vw3 := Lib.hid (Vw2.out.below X)
  clear X
  go_wp2_with fail
  refine (C5.out _ Vw3.out.rd).mono ?_
  rintro e w4 ⟨rfl, X⟩
  have Vw4 := Lib.hid (Vw3.out.trans X)
  clear X
  go_wp2_with fail
  refine (C6.out _ Vw4.out.rd).mono ?_
  rintro e w5 ⟨rfl, X⟩
  have Vw5 := Lib.hid (Vw4.out.trans X)
  clear X
  go_wp2_with fail
  go_returns
  exact ⟨BPost.some n (some m), Vw5.out⟩
set_option maxHeartbeats 2000000 in
set_option maxRecDepth 100000 in
theorem bounds_fn (R : Nat) (bs : List Nat) (st : RS) (hB : IsB bs) (hp : st.at' ≤ bs.length) (hl : bs.length ≤ 500) (w : World) (H : Rd w R bs st) (n q : Nat) (hn : Rx.number bs st.at' = (n, true, q)) (h44 : Rx.isAt bs q 44 = true) (hi : Rx.isNext bs (q + 1) [125] = false) (m q2 : Nat) (hn2 : Rx.number bs (q + 1) = (m, true, q2)) (hlt : n ≤ m) (h125 : Rx.isAt bs q2 125 = false) :
    Calls Tryd.prog 54 #[.pointer (some ⟨R, 0, none⟩)] w fun e w' => BPost none e ∧ Went w w' R bs (st.to q2) := by
  have C1 := Lib.hid (number_went R bs st hB hp hl n true q hn w H)
  have hq : q ≤ bs.length := by have := number_le bs st.at' hp; rw [hn] at this; exact this
  have hq1 : q + 1 ≤ bs.length := isAt_lt h44
  have C2 := Lib.hid (fun w H => sign_yes R bs (st.to q) 44 hB (by decide) h44 hl w H)
  have C3 := Lib.hid (fun w H => isNext_any R bs (st.to (q + 1)) [125] hB (by unfold IsB; decide) hq1 hl w H)
  rw [show (st.to (q + 1)).at' = q + 1 from rfl, hi] at C3
  have C5 := Lib.hid (fun w H => number_went R bs (st.to (q + 1)) hB hq1 hl m true q2 hn2 w H)
  have hq2 : q2 ≤ bs.length := by have := number_le bs (q + 1) hq1; rw [hn2] at this; exact this
  have C6 := Lib.hid (fun w H => sign_no R bs (st.to q2) 125 hB (by decide) h125 hq2 hl w H)
  have hd : decide (m < n) = false := by simp; omega
  clear h44 hi hn2 h125
  clear hn
  go_enter Tryd.func54, Tryd.ntmps54
  go_wp2_with fail
  refine C1.out.mono ?_
  rintro e w1 ⟨rfl, W1⟩
  have W1 := Lib.hid W1
  go_wp2_with fail
  refine (C2.out _ W1.out.rd).mono ?_
  rintro e w2 ⟨rfl, X⟩
  have Vw2 := Lib.hid (W1.out.trans X)
  clear X
  go_wp2_with fail
  refine (C3.out _ Vw2.out.rd).mono ?_
  rintro e w3 ⟨rfl, X⟩
  have Vw3 := Lib.hid (Vw2.out.below X)
  clear X
  go_wp2_with fail
  refine (C5.out _ Vw3.out.rd).mono ?_
  rintro e w4 ⟨rfl, X⟩
  have Vw4 := Lib.hid (Vw3.out.trans X)
  clear X
  go_wp2_with fail
  refine (C6.out _ Vw4.out.rd).mono ?_
  rintro e w5 ⟨rfl, X⟩
  have Vw5 := Lib.hid (Vw4.out.trans X)
  clear X
  go_wp2_with fail
  go_returns
  exact ⟨BPost.none _ _, Vw5.out⟩
theorem bounds_any (R : Nat) (bs : List Nat) (st : RS) (hB : IsB bs) (hp : st.at' ≤ bs.length) (hl : bs.length ≤ 500) (w : World) (H : Rd w R bs st) :
    Calls Tryd.prog 54 #[.pointer (some ⟨R, 0, none⟩)] w fun e w' => BPost (Rx.bounds bs st.at').1 e ∧ Went w w' R bs (st.to (Rx.bounds bs st.at').2) := by
  rcases hn : Rx.number bs st.at' with ⟨n, b, q⟩
  unfold Rx.bounds
  rw [hn]
  cases b with
  | false => exact bounds_a R bs st hB hp hl w H n q hn
  | true =>
    simp only [if_true]
    cases h44 : Rx.isAt bs q 44 with
    | false =>
      simp only [Bool.false_eq_true, if_false]
      unfold Rx.boundsEnd
      cases h125 : Rx.isAt bs q 125 with
      | true => simp only [if_true]; exact bounds_by R bs st hB hp hl w H n q hn h44 h125
      | false => simp only [Bool.false_eq_true, if_false]; exact bounds_bn R bs st hB hp hl w H n q hn h44 h125
    | true =>
      simp only [if_true]
      unfold Rx.bounds2
      cases hi : Rx.isNext bs (q + 1) [125] with
      | true =>
        simp only [if_true]
        unfold Rx.boundsEnd
        cases h125 : Rx.isAt bs (q + 1) 125 with
        | true => simp only [if_true]; exact bounds_cy R bs st hB hp hl w H n q hn h44 hi h125
        | false => simp only [Bool.false_eq_true, if_false]; exact bounds_cn R bs st hB hp hl w H n q hn h44 hi h125
      | false =>
        simp only [Bool.false_eq_true, if_false]
        rcases hn2 : Rx.number bs (q + 1) with ⟨m, b2, q2⟩
        cases b2 with
        | false => exact bounds_d R bs st hB hp hl w H n q hn h44 hi m q2 hn2
        | true =>
          by_cases hlt : n ≤ m
          · simp only [decide_eq_true hlt, Bool.and_self, if_true]
            unfold Rx.boundsEnd
            cases h125 : Rx.isAt bs q2 125 with
            | true => simp only [if_true]; exact bounds_fy R bs st hB hp hl w H n q hn h44 hi m q2 hn2 hlt h125
            | false => simp only [Bool.false_eq_true, if_false]; exact bounds_fn R bs st hB hp hl w H n q hn h44 hi m q2 hn2 hlt h125
          · simp only [decide_eq_false hlt, Bool.and_false, Bool.false_eq_true, if_false]
            exact bounds_e R bs st hB hp hl w H n q hn h44 hi m q2 hn2 hlt
end Go.Proofs.YtgjdeilclimpdaaDoor
namespace Go.Proofs.YtgjdeilclimpdaaDoor
set_option linter.unusedVariables false
set_option linter.unusedSimpArgs false
open Go.RowKit Go.PlainAid Go.Shelf
open Rx (Set4 RS)
theorem results_cell_tmp {P : Program} {fn : Func} {p q : Tmp} {ty : TypeId} (h : fn.results = #[.cell p ty, .tmp q]) (tmps : Array Value) (w : World) (g : Nat) (t : TypeId) (cs : Array Value) (fr : Nat × Nat) (d : TypeDesc)
    (hp : tmps.getD p undef = .pointer (some ⟨g, 0, none⟩)) (hg : w.heap[g]? = some (.cells cs t fr))
    (hu : P.underlying ty = some d) (hd : (match d with | .struct _ | .array _ _ => true | _ => false) = true) (hi : (P.info? ty).map (·.size) = some cs.size) :
    (results fn tmps).run P w = .ok (.tuple #[.agg cs, tmps.getD q undef]) w := by
  have hp' : tmps[p]?.getD undef = .pointer (some ⟨g, 0, none⟩) := by simpa using hp
  simp [results, h, hp', asAddr, run_loadVar_row w g t ty cs fr d hg hu hd hi]
theorem only_setRow {S : List Nat} {a b : World} (h : Only S a b) {g : Nat} (hg : a.heap.size ≤ g) (cs : Array Value) : Only S a (b.setRow g cs) := by
  have hB := below_setRow (B := a.heap.size) (g := g) (Below.refl _ b) hg cs
  exact ⟨hB.os.trans h.os, hB.tape.trans h.tape, hB.output.trans h.output, Nat.le_trans h.size hB.size, fun k hk hn => (hB.block k hk).trans (h.block k hk hn)⟩
theorem Went.setRow {w w1 : World} {R : Nat} {bs : List Nat} {st : RS} (h : Went w w1 R bs st) (hR : R < w.heap.size) {g : Nat} (hg : w.heap.size ≤ g) (cs : Array Value) : Went w (w1.setRow g cs) R bs st := by
  have hB := below_setRow (B := w.heap.size) (g := g) (Below.refl _ w1) hg cs
  exact ⟨(hB.block R hR).trans h.rd, only_setRow h.only hg cs⟩
theorem Went.of_alloc {w w1 : World} {o : Obj} {R : Nat} {bs : List Nat} {st : RS} (h : Went (w.alloc o) w1 R bs st) : Went w w1 R bs st :=
  ⟨h.rd, (Only.of_below ((Below.refl _ w).alloc (Nat.le_refl _) o) [R]).trans h.only (fun x hx => .inl hx)⟩
theorem Went.alloc {w w1 : World} {R : Nat} {bs : List Nat} {st : RS} (h : Went w w1 R bs st) (o : Obj) : Went w (w1.alloc o) R bs st := h.below ((Below.refl _ _).alloc (Nat.le_refl _) o)
theorem Went.to {w w1 : World} {R : Nat} {bs : List Nat} {st : RS} (h : Went w w1 R bs st) (p : Nat) : Went w (w1.setCell ⟨R, 1, none⟩ (.int .i64 ((p : Nat) : Int))) R bs (st.to p) := ⟨h.rd.set1 p, only_trans h.only (only_set 1 _)⟩
theorem Went.drewN {w w1 : World} {R : Nat} {bs : List Nat} {st : RS} (h : Went w w1 R bs st) (n : Nat) : Went w (w1.drewN n) R bs st := ⟨h.rd, h.only.drewN n⟩
/-- a result: a set, or none -/
def setRes (r : Option Set4) : Value := .tuple #[setV (r.getD Set4.none), .bool r.isSome]
theorem isNone_iff (x : Set4) : x.isNone = true ↔ x = Set4.none := by
  cases x with
  | mk a b c d =>
    unfold Set4.isNone Set4.none
    simp [Bool.and_eq_true, and_assoc]
theorem cmp_none (a b c d : Nat) (w : World) : (Op.equalIn 10000 50 (.agg #[.int .u64 ((a : Nat) : Int), .int .u64 ((b : Nat) : Int), .int .u64 ((c : Nat) : Int), .int .u64 ((d : Nat) : Int)]) (.agg #[.int .u64 0, .int .u64 0, .int .u64 0, .int .u64 0])).run Tryd.prog w = .ok (Set4.isNone ⟨a, b, c, d⟩) w := by
  rcases a with _ | a <;> rcases b with _ | b <;> rcases c with _ | c <;> rcases d with _ | d <;> kernel_rfl
theorem pe_ok (bs : List Nat) (e : Bool) (p : Nat) : ∀ x, (Rx.peEnd bs e p).1 = some x → x.Ok := by
  intro x h
  unfold Rx.peEnd at h
  split at h
  · cases h
  · cases e
    · simp only [Bool.false_eq_true, if_false] at h
      split at h
      · cases h
      · cases h; exact only_ok _
    · simp only [if_true] at h
      split at h
      · cases h
      · cases h; exact meaning_ok _
theorem poe_ok (bs : List Nat) (p : Nat) : ∀ x, (Rx.plainOrEscape bs p).1 = some x → x.Ok := by
  intro x h
  unfold Rx.plainOrEscape at h
  split at h
  · exact pe_ok _ _ _ x h
  · exact pe_ok _ _ _ x h
theorem pe_le (bs : List Nat) (e : Bool) (p : Nat) (h : p ≤ bs.length) : (Rx.peEnd bs e p).2 ≤ bs.length := by
  unfold Rx.peEnd
  split
  · exact h
  · rename_i c hc
    have hlt := (List.getElem?_eq_some_iff.1 hc).1
    cases e
    · simp only [Bool.false_eq_true, if_false]
      split
      · exact h
      · exact hlt
    · simp only [if_true]
      split
      · exact h
      · exact hlt
theorem poe_le (bs : List Nat) (p : Nat) (h : p ≤ bs.length) : (Rx.plainOrEscape bs p).2 ≤ bs.length := by
  unfold Rx.plainOrEscape
  split
  · rename_i k; exact pe_le _ _ _ (isAt_lt k)
  · exact pe_le _ _ _ h
theorem item_ok (bs : List Nat) (p : Nat) : ∀ x, (Rx.item bs p).1 = some x → x.Ok := by
  intro x h
  unfold Rx.item at h
  split at h
  · cases h
  · exact poe_ok _ _ x h
theorem item_le (bs : List Nat) (p : Nat) (h : p ≤ bs.length) : (Rx.item bs p).2 ≤ bs.length := by
  unfold Rx.item
  split
  · exact h
  · exact poe_le _ _ h
-- GEN
set_option maxHeartbeats 4000000 in
set_option maxRecDepth 100000 in
theorem pen_end (R : Nat) (bs : List Nat) (st : RS) (hB : IsB bs) (hp : st.at' ≤ bs.length) (hl : bs.length ≤ 500) (w : World) (H : Rd w R bs st) (p : Nat) (hpp : st.at' = p) (hpl : p ≤ bs.length) (h92 : Rx.isAt bs st.at' 92 = false) (hend : bs.length ≤ p) :
    Calls Tryd.prog 52 #[.pointer (some ⟨R, 0, none⟩)] w fun e w' => e = .returned (setRes none) ∧ Went w w' R bs (st.to p) := by
  have HL := Lib.hid (laid_none w)
  have HZ := Lib.hid (fun X => show (setC Set4.none).size = (setC X).size from rfl)
  have HO := Lib.hid setC_one
  have HRW := Lib.hid H.lt
  have HR0 := Lib.hid (fun o => H.stay ((Below.refl _ w).alloc (Nat.le_refl _) o))
  have CR := Lib.hid (fun w H => rest_any R bs (st.to p) hpl hl w H)
  rw [show (st.to p).at' = p from rfl] at CR
  have C1 := Lib.hid (fun w H => sign_no R bs st 92 hB (by decide) h92 hp hl w H)
  rw [show st = st.to p by rw [← hpp]; rfl] at C1 HR0
  have he : (strOf (bs.drop p)).toList.isEmpty = true := by rw [empty_of, List.length_drop]; simp; omega
  obtain ⟨D, hD⟩ : ∃ D, strOf (bs.drop p) = D := ⟨_, rfl⟩
  rw [hD] at CR he
  clear hD hpp h92 hB H
  go_enter Tryd.func52, Tryd.ntmps52
  go_wp2_with fail
  refine (C1.out _ (HR0.out _)).mono ?_
  rintro e w1 ⟨rfl, X⟩
  have h1 := (X.only.block w.heap.size (by simp) (by have := HRW.out; simp; omega)).trans HL.out
  have z1 : w.heap.size < w1.heap.size := by have := X.only.size; simp at this; omega
  have W1 := Lib.hid (Went.of_alloc X)
  clear X
  go_wp2_with fail
  refine (CR.out _ W1.out.rd).mono ?_
  rintro e w2 ⟨rfl, hb⟩
  have W2 := Lib.hid (W1.out.below hb)
  have h2 := (hb.block w.heap.size z1).trans h1
  have z2 : w.heap.size < w2.heap.size := Nat.lt_of_lt_of_le z1 hb.size
  clear hb h1
  have hn := setRow_heap w2 w.heap.size (setC Set4.none) (setC Set4.none) 50 (0, 0) h2
  go_wp2_with (refine wpList_store_row rfl 50 (.tmp 2) (.tmp 11) rfl w.heap.size (setC Set4.none) rfl rfl 50 (setC Set4.none) h2 (by kernel_rfl) (HZ.out Set4.none) (HO.out Set4.none) ?_)
  refine bodyPost_ret (v := .tuple #[.agg (setC Set4.none), .bool false]) ?_ ?_ ?_
  · exact results_cell_tmp (p := 2) (q := 3) rfl _ _ w.heap.size 50 (setC Set4.none) (0, 0) _ rfl hn Tryd.underlying50 rfl (by kernel_rfl)
  · rfl
  · exact ⟨rfl, Went.setRow W2.out HRW.out (Nat.le_refl _) (setC Set4.none)⟩
set_option maxHeartbeats 4000000 in
set_option maxRecDepth 100000 in
theorem pen_some (R : Nat) (bs : List Nat) (st : RS) (hB : IsB bs) (hp : st.at' ≤ bs.length) (hl : bs.length ≤ 500) (w : World) (H : Rd w R bs st) (p : Nat) (hpp : st.at' = p) (hpl : p ≤ bs.length) (h92 : Rx.isAt bs st.at' 92 = false) (c : Nat) (hc : bs[p]? = some c) (hb : (Set4.only c).isNone = false) :
    Calls Tryd.prog 52 #[.pointer (some ⟨R, 0, none⟩)] w fun e w' => e = .returned (setRes (some (Set4.only c))) ∧ Went w w' R bs (st.to (p + 1)) := by
  have HL := Lib.hid (laid_none w)
  have HZ := Lib.hid (fun X => show (setC Set4.none).size = (setC X).size from rfl)
  have HO := Lib.hid setC_one
  have HRW := Lib.hid H.lt
  have HR0 := Lib.hid (fun o => H.stay ((Below.refl _ w).alloc (Nat.le_refl _) o))
  have CR := Lib.hid (fun w H => rest_any R bs (st.to p) hpl hl w H)
  rw [show (st.to p).at' = p from rfl] at CR
  have C1 := Lib.hid (fun w H => sign_no R bs st 92 hB (by decide) h92 hp hl w H)
  rw [show st = st.to p by rw [← hpp]; rfl] at C1 HR0
  have hplt : p < bs.length := (List.getElem?_eq_some_iff.1 hc).1
  have hcv : bs[p] = c := (List.getElem?_eq_some_iff.1 hc).2
  have hc256 : c < 256 := by rw [← hcv]; exact hB.at p hplt
  have hds : 0 < (bs.drop p).length := by rw [List.length_drop]; omega
  have hb0 := strOf_bt (bs.drop p) (isB_drop hB _) 0 hds
  rw [show (bs.drop p)[0] = c by rw [List.getElem_drop, ← hcv]; rfl] at hb0
  have hbt := get_bt (strOf (bs.drop p))
  have hDl : (strOf (bs.drop p)).size = bs.length - p := by rw [strOf_size, List.length_drop]
  have he : (strOf (bs.drop p)).toList.isEmpty = false := by rw [empty_of]; simp; omega
  have CO := Lib.hid (fun w => only_any c hc256 w)
  have CM := Lib.hid (fun w => meaning_any c hc256 w)
  obtain ⟨Y, hY⟩ : ∃ Y, Set4.only c = Y := ⟨_, rfl⟩
  obtain ⟨M, hM⟩ : ∃ M, Rx.meaning c = M := ⟨_, rfl⟩
  obtain ⟨D, hD⟩ : ∃ D, strOf (bs.drop p) = D := ⟨_, rfl⟩
  rw [hD] at CR he hb0 hbt hDl
  have hs0 : 0 < D.size := by omega
  rw [hY] at CO
  rw [hM] at CM
  rw [hY] at hb ⊢
  rw [setV_eq] at CO CM
  have hcmp := fun w => cmp_none Y.a Y.b Y.c Y.d w
  rw [show Set4.isNone ⟨Y.a, Y.b, Y.c, Y.d⟩ = false from hb] at hcmp
  have HCMP := Lib.hid hcmp
  have HCMP2 := Lib.hid (show ∀ w, (Op.equalIn 10000 50 (.agg (setC Y)) (.agg #[.int .u64 0, .int .u64 0, .int .u64 0, .int .u64 0])).run Tryd.prog w = .ok false w from hcmp)
  clear hcmp
  have HPL := Lib.hid hplt
  have e1 : ((p : Int) + 1) = ((p + 1 : Nat) : Int) := by omega
  have E1 := Lib.hid e1
  clear hD hpp h92 H hc hcv hDl hds hb hY hM e1
  go_enter Tryd.func52, Tryd.ntmps52
  go_wp2_with fail
  refine (C1.out _ (HR0.out _)).mono ?_
  rintro e w1 ⟨rfl, X⟩
  have h1 := (X.only.block w.heap.size (by simp) (by have := HRW.out; simp; omega)).trans HL.out
  have z1 : w.heap.size < w1.heap.size := by have := X.only.size; simp at this; omega
  have W1 := Lib.hid (Went.of_alloc X)
  clear X
  go_wp2_with fail
  refine (CR.out _ W1.out.rd).mono ?_
  rintro e w2 ⟨rfl, hb⟩
  have W2 := Lib.hid (W1.out.below hb)
  have h2 := (hb.block w.heap.size z1).trans h1
  have z2 : w.heap.size < w2.heap.size := Nat.lt_of_lt_of_le z1 hb.size
  clear hb h1
  go_wp2_with fail
  refine (CR.out _ W2.out.rd).mono ?_
  rintro e w3 ⟨rfl, hb⟩
  have W3 := Lib.hid (W2.out.below hb)
  have h3 := (hb.block w.heap.size z2).trans h2
  have z3 : w.heap.size < w3.heap.size := Nat.lt_of_lt_of_le z2 hb.size
  clear hb h2
  go_wp2_with fail
  refine (CO.out _).mono ?_
  rintro e w4 ⟨rfl, hb⟩
  have W4 := Lib.hid (W3.out.below hb)
  have h4 := (hb.block w.heap.size z3).trans h3
  have z4 : w.heap.size < w4.heap.size := Nat.lt_of_lt_of_le z3 hb.size
  clear hb h3
  have c1 := W4.out.rd.c1
  rw [show (st.to p).at' = p from rfl] at c1
  have f1 := W4.out.rd.fz 1
  have hRl := W4.out.rd.lt
  have c1' := (((Below.refl _ w4).alloc (Nat.le_refl _) (.cells #[.int .u64 ((Y.a : Nat) : Int), .int .u64 ((Y.b : Nat) : Int), .int .u64 ((Y.c : Nat) : Int), .int .u64 ((Y.d : Nat) : Int)] 50)).cell (p := ⟨R, 1, none⟩) hRl).trans c1
  have f1' := (((Below.refl _ w4).alloc (Nat.le_refl _) (.cells #[.int .u64 ((Y.a : Nat) : Int), .int .u64 ((Y.b : Nat) : Int), .int .u64 ((Y.c : Nat) : Int), .int .u64 ((Y.d : Nat) : Int)] 50)).frozen (p := ⟨R, 1, none⟩) hRl).trans f1
  have W5 := W4.out.to (p + 1)
  rw [← E1.out] at W5
  have hne : w.heap.size ≠ R := by have := HRW.out; omega
  have h4' := (show (w4.setCell ⟨R, 1, none⟩ (.int .i64 ((p : Int) + 1))).heap[w.heap.size]? = w4.heap[w.heap.size]? from heap_setCell_other _ _ _ _ (by first | exact hne | exact fun h => hne h.symm)).trans h4
  have h5 := (((Below.refl _ (w4.setCell ⟨R, 1, none⟩ (.int .i64 ((p : Int) + 1)))).alloc (Nat.le_refl _) (.cells #[.int .u64 ((Y.a : Nat) : Int), .int .u64 ((Y.b : Nat) : Int), .int .u64 ((Y.c : Nat) : Int), .int .u64 ((Y.d : Nat) : Int)] 50)).block w.heap.size (by simp; exact z4)).trans h4'
  have hcmp := HCMP.out
  have hn := setRow_heap ((w4.setCell ⟨R, 1, none⟩ (.int .i64 ((p : Int) + 1))).alloc (.cells #[.int .u64 ((Y.a : Nat) : Int), .int .u64 ((Y.b : Nat) : Int), .int .u64 ((Y.c : Nat) : Int), .int .u64 ((Y.d : Nat) : Int)] 50)) w.heap.size (setC Set4.none) (setC Y) 50 (0, 0) h5
  have W5 := Lib.hid (W5.alloc (.cells #[.int .u64 ((Y.a : Nat) : Int), .int .u64 ((Y.b : Nat) : Int), .int .u64 ((Y.c : Nat) : Int), .int .u64 ((Y.d : Nat) : Int)] 50))
  clear hne h4' h4
  go_wp2_with (refine wpList_store_row rfl 50 (.tmp 2) (.tmp 32) rfl w.heap.size (setC Y) rfl rfl 50 (setC Set4.none) h5 (by kernel_rfl) (HZ.out Y) (HO.out Y) ?_)
  refine bodyPost_ret (v := .tuple #[.agg (setC Y), .bool true]) ?_ ?_ ?_
  · exact results_cell_tmp (p := 2) (q := 3) rfl _ _ w.heap.size 50 (setC Y) (0, 0) _ rfl hn Tryd.underlying50 rfl (by kernel_rfl)
  · rfl
  · exact ⟨rfl, Went.setRow W5.out HRW.out (Nat.le_refl _) (setC Y)⟩
set_option maxHeartbeats 4000000 in
set_option maxRecDepth 100000 in
theorem pen_none (R : Nat) (bs : List Nat) (st : RS) (hB : IsB bs) (hp : st.at' ≤ bs.length) (hl : bs.length ≤ 500) (w : World) (H : Rd w R bs st) (p : Nat) (hpp : st.at' = p) (hpl : p ≤ bs.length) (h92 : Rx.isAt bs st.at' 92 = false) (c : Nat) (hc : bs[p]? = some c) (hb : (Set4.only c).isNone = true) :
    Calls Tryd.prog 52 #[.pointer (some ⟨R, 0, none⟩)] w fun e w' => e = .returned (setRes none) ∧ Went w w' R bs (st.to p) := by
  have HL := Lib.hid (laid_none w)
  have HZ := Lib.hid (fun X => show (setC Set4.none).size = (setC X).size from rfl)
  have HO := Lib.hid setC_one
  have HRW := Lib.hid H.lt
  have HR0 := Lib.hid (fun o => H.stay ((Below.refl _ w).alloc (Nat.le_refl _) o))
  have CR := Lib.hid (fun w H => rest_any R bs (st.to p) hpl hl w H)
  rw [show (st.to p).at' = p from rfl] at CR
  have C1 := Lib.hid (fun w H => sign_no R bs st 92 hB (by decide) h92 hp hl w H)
  rw [show st = st.to p by rw [← hpp]; rfl] at C1 HR0
  have hplt : p < bs.length := (List.getElem?_eq_some_iff.1 hc).1
  have hcv : bs[p] = c := (List.getElem?_eq_some_iff.1 hc).2
  have hc256 : c < 256 := by rw [← hcv]; exact hB.at p hplt
  have hds : 0 < (bs.drop p).length := by rw [List.length_drop]; omega
  have hb0 := strOf_bt (bs.drop p) (isB_drop hB _) 0 hds
  rw [show (bs.drop p)[0] = c by rw [List.getElem_drop, ← hcv]; rfl] at hb0
  have hbt := get_bt (strOf (bs.drop p))
  have hDl : (strOf (bs.drop p)).size = bs.length - p := by rw [strOf_size, List.length_drop]
  have he : (strOf (bs.drop p)).toList.isEmpty = false := by rw [empty_of]; simp; omega
  have CO := Lib.hid (fun w => only_any c hc256 w)
  have CM := Lib.hid (fun w => meaning_any c hc256 w)
  obtain ⟨Y, hY⟩ : ∃ Y, Set4.only c = Y := ⟨_, rfl⟩
  obtain ⟨M, hM⟩ : ∃ M, Rx.meaning c = M := ⟨_, rfl⟩
  obtain ⟨D, hD⟩ : ∃ D, strOf (bs.drop p) = D := ⟨_, rfl⟩
  rw [hD] at CR he hb0 hbt hDl
  have hs0 : 0 < D.size := by omega
  rw [hY] at CO
  rw [hM] at CM
  rw [hY] at hb
  rw [setV_eq] at CO CM
  have hcmp := fun w => cmp_none Y.a Y.b Y.c Y.d w
  rw [show Set4.isNone ⟨Y.a, Y.b, Y.c, Y.d⟩ = true from hb] at hcmp
  have HCMP := Lib.hid hcmp
  have HCMP2 := Lib.hid (show ∀ w, (Op.equalIn 10000 50 (.agg (setC Y)) (.agg #[.int .u64 0, .int .u64 0, .int .u64 0, .int .u64 0])).run Tryd.prog w = .ok true w from hcmp)
  clear hcmp
  have HPL := Lib.hid hplt
  have e1 : ((p : Int) + 1) = ((p + 1 : Nat) : Int) := by omega
  have E1 := Lib.hid e1
  clear hD hpp h92 H hc hcv hDl hds hb hY hM e1
  go_enter Tryd.func52, Tryd.ntmps52
  go_wp2_with fail
  refine (C1.out _ (HR0.out _)).mono ?_
  rintro e w1 ⟨rfl, X⟩
  have h1 := (X.only.block w.heap.size (by simp) (by have := HRW.out; simp; omega)).trans HL.out
  have z1 : w.heap.size < w1.heap.size := by have := X.only.size; simp at this; omega
  have W1 := Lib.hid (Went.of_alloc X)
  clear X
  go_wp2_with fail
  refine (CR.out _ W1.out.rd).mono ?_
  rintro e w2 ⟨rfl, hb⟩
  have W2 := Lib.hid (W1.out.below hb)
  have h2 := (hb.block w.heap.size z1).trans h1
  have z2 : w.heap.size < w2.heap.size := Nat.lt_of_lt_of_le z1 hb.size
  clear hb h1
  go_wp2_with fail
  refine (CR.out _ W2.out.rd).mono ?_
  rintro e w3 ⟨rfl, hb⟩
  have W3 := Lib.hid (W2.out.below hb)
  have h3 := (hb.block w.heap.size z2).trans h2
  have z3 : w.heap.size < w3.heap.size := Nat.lt_of_lt_of_le z2 hb.size
  clear hb h2
  go_wp2_with fail
  refine (CO.out _).mono ?_
  rintro e w4 ⟨rfl, hb⟩
  have W4 := Lib.hid (W3.out.below hb)
  have h4 := (hb.block w.heap.size z3).trans h3
  have z4 : w.heap.size < w4.heap.size := Nat.lt_of_lt_of_le z3 hb.size
  clear hb h3
  have h5 := (((Below.refl _ w4).alloc (Nat.le_refl _) (.cells #[.int .u64 ((Y.a : Nat) : Int), .int .u64 ((Y.b : Nat) : Int), .int .u64 ((Y.c : Nat) : Int), .int .u64 ((Y.d : Nat) : Int)] 50)).block w.heap.size z4).trans h4
  have hcmp := HCMP.out
  have hn := setRow_heap (w4.alloc (.cells #[.int .u64 ((Y.a : Nat) : Int), .int .u64 ((Y.b : Nat) : Int), .int .u64 ((Y.c : Nat) : Int), .int .u64 ((Y.d : Nat) : Int)] 50)) w.heap.size (setC Set4.none) (setC Set4.none) 50 (0, 0) h5
  go_wp2_with (refine wpList_store_row rfl 50 (.tmp 2) (.tmp 24) rfl w.heap.size (setC Set4.none) rfl rfl 50 (setC Set4.none) h5 (by kernel_rfl) (HZ.out Set4.none) (HO.out Set4.none) ?_)
  refine bodyPost_ret (v := .tuple #[.agg (setC Set4.none), .bool false]) ?_ ?_ ?_
  · exact results_cell_tmp (p := 2) (q := 3) rfl _ _ w.heap.size 50 (setC Set4.none) (0, 0) _ rfl hn Tryd.underlying50 rfl (by kernel_rfl)
  · rfl
  · exact ⟨rfl, Went.setRow (W4.out.alloc _) HRW.out (Nat.le_refl _) (setC Set4.none)⟩
set_option maxHeartbeats 4000000 in
set_option maxRecDepth 100000 in
theorem pey_end (R : Nat) (bs : List Nat) (st : RS) (hB : IsB bs) (hp : st.at' ≤ bs.length) (hl : bs.length ≤ 500) (w : World) (H : Rd w R bs st) (p : Nat) (hpp : (st.at' + 1) = p) (hpl : p ≤ bs.length) (h92 : Rx.isAt bs st.at' 92 = true) (hend : bs.length ≤ p) :
    Calls Tryd.prog 52 #[.pointer (some ⟨R, 0, none⟩)] w fun e w' => e = .returned (setRes none) ∧ Went w w' R bs (st.to p) := by
  have HL := Lib.hid (laid_none w)
  have HZ := Lib.hid (fun X => show (setC Set4.none).size = (setC X).size from rfl)
  have HO := Lib.hid setC_one
  have HRW := Lib.hid H.lt
  have HR0 := Lib.hid (fun o => H.stay ((Below.refl _ w).alloc (Nat.le_refl _) o))
  have CR := Lib.hid (fun w H => rest_any R bs (st.to p) hpl hl w H)
  rw [show (st.to p).at' = p from rfl] at CR
  have C1 := Lib.hid (fun w H => sign_yes R bs st 92 hB (by decide) h92 hl w H)
  rw [hpp] at C1
  have he : (strOf (bs.drop p)).toList.isEmpty = true := by rw [empty_of, List.length_drop]; simp; omega
  obtain ⟨D, hD⟩ : ∃ D, strOf (bs.drop p) = D := ⟨_, rfl⟩
  rw [hD] at CR he
  clear hD hpp h92 hB H
  go_enter Tryd.func52, Tryd.ntmps52
  go_wp2_with fail
  refine (C1.out _ (HR0.out _)).mono ?_
  rintro e w1 ⟨rfl, X⟩
  have h1 := (X.only.block w.heap.size (by simp) (by have := HRW.out; simp; omega)).trans HL.out
  have z1 : w.heap.size < w1.heap.size := by have := X.only.size; simp at this; omega
  have W1 := Lib.hid (Went.of_alloc X)
  clear X
  go_wp2_with fail
  refine (CR.out _ W1.out.rd).mono ?_
  rintro e w2 ⟨rfl, hb⟩
  have W2 := Lib.hid (W1.out.below hb)
  have h2 := (hb.block w.heap.size z1).trans h1
  have z2 : w.heap.size < w2.heap.size := Nat.lt_of_lt_of_le z1 hb.size
  clear hb h1
  have hn := setRow_heap w2 w.heap.size (setC Set4.none) (setC Set4.none) 50 (0, 0) h2
  go_wp2_with (refine wpList_store_row rfl 50 (.tmp 2) (.tmp 11) rfl w.heap.size (setC Set4.none) rfl rfl 50 (setC Set4.none) h2 (by kernel_rfl) (HZ.out Set4.none) (HO.out Set4.none) ?_)
  refine bodyPost_ret (v := .tuple #[.agg (setC Set4.none), .bool false]) ?_ ?_ ?_
  · exact results_cell_tmp (p := 2) (q := 3) rfl _ _ w.heap.size 50 (setC Set4.none) (0, 0) _ rfl hn Tryd.underlying50 rfl (by kernel_rfl)
  · rfl
  · exact ⟨rfl, Went.setRow W2.out HRW.out (Nat.le_refl _) (setC Set4.none)⟩
set_option maxHeartbeats 4000000 in
set_option maxRecDepth 100000 in
theorem pey_some (R : Nat) (bs : List Nat) (st : RS) (hB : IsB bs) (hp : st.at' ≤ bs.length) (hl : bs.length ≤ 500) (w : World) (H : Rd w R bs st) (p : Nat) (hpp : (st.at' + 1) = p) (hpl : p ≤ bs.length) (h92 : Rx.isAt bs st.at' 92 = true) (c : Nat) (hc : bs[p]? = some c) (hb : (Rx.meaning c).isNone = false) :
    Calls Tryd.prog 52 #[.pointer (some ⟨R, 0, none⟩)] w fun e w' => e = .returned (setRes (some (Rx.meaning c))) ∧ Went w w' R bs (st.to (p + 1)) := by
  have HL := Lib.hid (laid_none w)
  have HZ := Lib.hid (fun X => show (setC Set4.none).size = (setC X).size from rfl)
  have HO := Lib.hid setC_one
  have HRW := Lib.hid H.lt
  have HR0 := Lib.hid (fun o => H.stay ((Below.refl _ w).alloc (Nat.le_refl _) o))
  have CR := Lib.hid (fun w H => rest_any R bs (st.to p) hpl hl w H)
  rw [show (st.to p).at' = p from rfl] at CR
  have C1 := Lib.hid (fun w H => sign_yes R bs st 92 hB (by decide) h92 hl w H)
  rw [hpp] at C1
  have hplt : p < bs.length := (List.getElem?_eq_some_iff.1 hc).1
  have hcv : bs[p] = c := (List.getElem?_eq_some_iff.1 hc).2
  have hc256 : c < 256 := by rw [← hcv]; exact hB.at p hplt
  have hds : 0 < (bs.drop p).length := by rw [List.length_drop]; omega
  have hb0 := strOf_bt (bs.drop p) (isB_drop hB _) 0 hds
  rw [show (bs.drop p)[0] = c by rw [List.getElem_drop, ← hcv]; rfl] at hb0
  have hbt := get_bt (strOf (bs.drop p))
  have hDl : (strOf (bs.drop p)).size = bs.length - p := by rw [strOf_size, List.length_drop]
  have he : (strOf (bs.drop p)).toList.isEmpty = false := by rw [empty_of]; simp; omega
  have CO := Lib.hid (fun w => only_any c hc256 w)
  have CM := Lib.hid (fun w => meaning_any c hc256 w)
  obtain ⟨Y, hY⟩ : ∃ Y, Set4.only c = Y := ⟨_, rfl⟩
  obtain ⟨M, hM⟩ : ∃ M, Rx.meaning c = M := ⟨_, rfl⟩
  obtain ⟨D, hD⟩ : ∃ D, strOf (bs.drop p) = D := ⟨_, rfl⟩
  rw [hD] at CR he hb0 hbt hDl
  have hs0 : 0 < D.size := by omega
  rw [hY] at CO
  rw [hM] at CM
  rw [hM] at hb ⊢
  rw [setV_eq] at CO CM
  have hcmp := fun w => cmp_none M.a M.b M.c M.d w
  rw [show Set4.isNone ⟨M.a, M.b, M.c, M.d⟩ = false from hb] at hcmp
  have HCMP := Lib.hid hcmp
  have HCMP2 := Lib.hid (show ∀ w, (Op.equalIn 10000 50 (.agg (setC M)) (.agg #[.int .u64 0, .int .u64 0, .int .u64 0, .int .u64 0])).run Tryd.prog w = .ok false w from hcmp)
  clear hcmp
  have HPL := Lib.hid hplt
  have e1 : ((p : Int) + 1) = ((p + 1 : Nat) : Int) := by omega
  have E1 := Lib.hid e1
  clear hD hpp h92 H hc hcv hDl hds hb hY hM e1
  go_enter Tryd.func52, Tryd.ntmps52
  go_wp2_with fail
  refine (C1.out _ (HR0.out _)).mono ?_
  rintro e w1 ⟨rfl, X⟩
  have h1 := (X.only.block w.heap.size (by simp) (by have := HRW.out; simp; omega)).trans HL.out
  have z1 : w.heap.size < w1.heap.size := by have := X.only.size; simp at this; omega
  have W1 := Lib.hid (Went.of_alloc X)
  clear X
  go_wp2_with fail
  refine (CR.out _ W1.out.rd).mono ?_
  rintro e w2 ⟨rfl, hb⟩
  have W2 := Lib.hid (W1.out.below hb)
  have h2 := (hb.block w.heap.size z1).trans h1
  have z2 : w.heap.size < w2.heap.size := Nat.lt_of_lt_of_le z1 hb.size
  clear hb h1
  go_wp2_with fail
  refine (CR.out _ W2.out.rd).mono ?_
  rintro e w3 ⟨rfl, hb⟩
  have W3 := Lib.hid (W2.out.below hb)
  have h3 := (hb.block w.heap.size z2).trans h2
  have z3 : w.heap.size < w3.heap.size := Nat.lt_of_lt_of_le z2 hb.size
  clear hb h2
  go_wp2_with fail
  refine (CO.out _).mono ?_
  rintro e w4 ⟨rfl, hb⟩
  have W4 := Lib.hid (W3.out.below hb)
  have h4 := (hb.block w.heap.size z3).trans h3
  have z4 : w.heap.size < w4.heap.size := Nat.lt_of_lt_of_le z3 hb.size
  clear hb h3
  have HR4 := Lib.hid (fun o => (W4.out.alloc o))
  have h4a := Lib.hid (fun o => (((Below.refl _ w4).alloc (Nat.le_refl _) o).block w.heap.size z4).trans h4)
  have hx4 := Lib.hid (lay_set w4 Y)
  go_wp2_with fail
  refine (CR.out _ (HR4.out _).rd).mono ?_
  rintro e w5 ⟨rfl, hb⟩
  have W5 := Lib.hid ((HR4.out _).below hb)
  have h5 := (hb.block w.heap.size (by simp; omega)).trans (h4a.out _)
  have x5 := (hb.block w4.heap.size (by simp)).trans hx4.out
  have z5 : w4.heap.size < w5.heap.size := by have := hb.size; simp at this; omega
  clear hb h4
  go_wp2_with fail
  refine (CM.out _).mono ?_
  rintro e w6 ⟨rfl, hb⟩
  have W6 := Lib.hid (W5.out.below hb)
  have h6 := (hb.block w.heap.size (by omega)).trans h5
  have x6 := (hb.block w4.heap.size z5).trans x5
  have z6 : w4.heap.size < w6.heap.size := Nat.lt_of_lt_of_le z5 hb.size
  clear hb h5 x5
  have x7 := setRow_heap w6 w4.heap.size (setC Y) (setC M) 50 (0, 0) x6
  have W7 := Lib.hid (Went.setRow W6.out HRW.out (Nat.le_of_lt z4) (setC M))
  have h7 := ((below_setRow (B := w4.heap.size) (g := w4.heap.size) (Below.refl _ w6) (Nat.le_refl _) (setC M)).block w.heap.size z4).trans h6
  have hcmp := HCMP2.out
  have HX6 := Lib.hid x6
  clear h6 x6
  have c1 := W7.out.rd.c1
  rw [show (st.to p).at' = p from rfl] at c1
  have f1 := W7.out.rd.fz 1
  have W8 := W7.out.to (p + 1)
  rw [← E1.out] at W8
  have hne : w.heap.size ≠ R := by have := HRW.out; omega
  have hne4 : w4.heap.size ≠ R := by have := HRW.out; omega
  have x8 := (show ((w6.setRow w4.heap.size (setC M)).setCell ⟨R, 1, none⟩ (.int .i64 ((p : Int) + 1))).heap[w4.heap.size]? = (w6.setRow w4.heap.size (setC M)).heap[w4.heap.size]? from heap_setCell_other _ _ _ _ (by first | exact hne4 | exact fun h => hne4 h.symm)).trans x7
  have h8 := (show ((w6.setRow w4.heap.size (setC M)).setCell ⟨R, 1, none⟩ (.int .i64 ((p : Int) + 1))).heap[w.heap.size]? = (w6.setRow w4.heap.size (setC M)).heap[w.heap.size]? from heap_setCell_other _ _ _ _ (by first | exact hne | exact fun h => hne h.symm)).trans h7
  have hn := setRow_heap ((w6.setRow w4.heap.size (setC M)).setCell ⟨R, 1, none⟩ (.int .i64 ((p : Int) + 1))) w.heap.size (setC Set4.none) (setC M) 50 (0, 0) h8
  have W8 := Lib.hid W8
  clear hne hne4
  go_wp2_with (first | (refine wpList_store_row rfl 50 (.tmp 5) (.tmp 20) rfl w4.heap.size (setC M) rfl rfl 50 (setC Y) HX6.out (by kernel_rfl) rfl (HO.out M) ?_) | (refine wpList_load_row rfl 50 (.tmp 5) rfl w4.heap.size rfl 50 (setC M) (0, 0) _ x7 Tryd.underlying50 rfl (by kernel_rfl) ?_) | (refine wpList_load_row rfl 50 (.tmp 5) rfl w4.heap.size rfl 50 (setC M) (0, 0) _ x8 Tryd.underlying50 rfl (by kernel_rfl) ?_) | (refine wpList_store_row rfl 50 (.tmp 2) (.tmp 32) rfl w.heap.size (setC M) rfl rfl 50 (setC Set4.none) h8 (by kernel_rfl) (HZ.out M) (HO.out M) ?_))
  refine bodyPost_ret (v := .tuple #[.agg (setC M), .bool true]) ?_ ?_ ?_
  · exact results_cell_tmp (p := 2) (q := 3) rfl _ _ w.heap.size 50 (setC M) (0, 0) _ rfl hn Tryd.underlying50 rfl (by kernel_rfl)
  · rfl
  · exact ⟨rfl, Went.setRow W8.out HRW.out (Nat.le_refl _) (setC M)⟩
set_option maxHeartbeats 4000000 in
set_option maxRecDepth 100000 in
theorem pey_none (R : Nat) (bs : List Nat) (st : RS) (hB : IsB bs) (hp : st.at' ≤ bs.length) (hl : bs.length ≤ 500) (w : World) (H : Rd w R bs st) (p : Nat) (hpp : (st.at' + 1) = p) (hpl : p ≤ bs.length) (h92 : Rx.isAt bs st.at' 92 = true) (c : Nat) (hc : bs[p]? = some c) (hb : (Rx.meaning c).isNone = true) :
    Calls Tryd.prog 52 #[.pointer (some ⟨R, 0, none⟩)] w fun e w' => e = .returned (setRes none) ∧ Went w w' R bs (st.to p) := by
  have HL := Lib.hid (laid_none w)
  have HZ := Lib.hid (fun X => show (setC Set4.none).size = (setC X).size from rfl)
  have HO := Lib.hid setC_one
  have HRW := Lib.hid H.lt
  have HR0 := Lib.hid (fun o => H.stay ((Below.refl _ w).alloc (Nat.le_refl _) o))
  have CR := Lib.hid (fun w H => rest_any R bs (st.to p) hpl hl w H)
  rw [show (st.to p).at' = p from rfl] at CR
  have C1 := Lib.hid (fun w H => sign_yes R bs st 92 hB (by decide) h92 hl w H)
  rw [hpp] at C1
  have hplt : p < bs.length := (List.getElem?_eq_some_iff.1 hc).1
  have hcv : bs[p] = c := (List.getElem?_eq_some_iff.1 hc).2
  have hc256 : c < 256 := by rw [← hcv]; exact hB.at p hplt
  have hds : 0 < (bs.drop p).length := by rw [List.length_drop]; omega
  have hb0 := strOf_bt (bs.drop p) (isB_drop hB _) 0 hds
  rw [show (bs.drop p)[0] = c by rw [List.getElem_drop, ← hcv]; rfl] at hb0
  have hbt := get_bt (strOf (bs.drop p))
  have hDl : (strOf (bs.drop p)).size = bs.length - p := by rw [strOf_size, List.length_drop]
  have he : (strOf (bs.drop p)).toList.isEmpty = false := by rw [empty_of]; simp; omega
  have CO := Lib.hid (fun w => only_any c hc256 w)
  have CM := Lib.hid (fun w => meaning_any c hc256 w)
  obtain ⟨Y, hY⟩ : ∃ Y, Set4.only c = Y := ⟨_, rfl⟩
  obtain ⟨M, hM⟩ : ∃ M, Rx.meaning c = M := ⟨_, rfl⟩
  obtain ⟨D, hD⟩ : ∃ D, strOf (bs.drop p) = D := ⟨_, rfl⟩
  rw [hD] at CR he hb0 hbt hDl
  have hs0 : 0 < D.size := by omega
  rw [hY] at CO
  rw [hM] at CM
  rw [hM] at hb
  rw [setV_eq] at CO CM
  have hcmp := fun w => cmp_none M.a M.b M.c M.d w
  rw [show Set4.isNone ⟨M.a, M.b, M.c, M.d⟩ = true from hb] at hcmp
  have HCMP := Lib.hid hcmp
  have HCMP2 := Lib.hid (show ∀ w, (Op.equalIn 10000 50 (.agg (setC M)) (.agg #[.int .u64 0, .int .u64 0, .int .u64 0, .int .u64 0])).run Tryd.prog w = .ok true w from hcmp)
  clear hcmp
  have HPL := Lib.hid hplt
  have e1 : ((p : Int) + 1) = ((p + 1 : Nat) : Int) := by omega
  have E1 := Lib.hid e1
  clear hD hpp h92 H hc hcv hDl hds hb hY hM e1
  go_enter Tryd.func52, Tryd.ntmps52
  go_wp2_with fail
  refine (C1.out _ (HR0.out _)).mono ?_
  rintro e w1 ⟨rfl, X⟩
  have h1 := (X.only.block w.heap.size (by simp) (by have := HRW.out; simp; omega)).trans HL.out
  have z1 : w.heap.size < w1.heap.size := by have := X.only.size; simp at this; omega
  have W1 := Lib.hid (Went.of_alloc X)
  clear X
  go_wp2_with fail
  refine (CR.out _ W1.out.rd).mono ?_
  rintro e w2 ⟨rfl, hb⟩
  have W2 := Lib.hid (W1.out.below hb)
  have h2 := (hb.block w.heap.size z1).trans h1
  have z2 : w.heap.size < w2.heap.size := Nat.lt_of_lt_of_le z1 hb.size
  clear hb h1
  go_wp2_with fail
  refine (CR.out _ W2.out.rd).mono ?_
  rintro e w3 ⟨rfl, hb⟩
  have W3 := Lib.hid (W2.out.below hb)
  have h3 := (hb.block w.heap.size z2).trans h2
  have z3 : w.heap.size < w3.heap.size := Nat.lt_of_lt_of_le z2 hb.size
  clear hb h2
  go_wp2_with fail
  refine (CO.out _).mono ?_
  rintro e w4 ⟨rfl, hb⟩
  have W4 := Lib.hid (W3.out.below hb)
  have h4 := (hb.block w.heap.size z3).trans h3
  have z4 : w.heap.size < w4.heap.size := Nat.lt_of_lt_of_le z3 hb.size
  clear hb h3
  have HR4 := Lib.hid (fun o => (W4.out.alloc o))
  have h4a := Lib.hid (fun o => (((Below.refl _ w4).alloc (Nat.le_refl _) o).block w.heap.size z4).trans h4)
  have hx4 := Lib.hid (lay_set w4 Y)
  go_wp2_with fail
  refine (CR.out _ (HR4.out _).rd).mono ?_
  rintro e w5 ⟨rfl, hb⟩
  have W5 := Lib.hid ((HR4.out _).below hb)
  have h5 := (hb.block w.heap.size (by simp; omega)).trans (h4a.out _)
  have x5 := (hb.block w4.heap.size (by simp)).trans hx4.out
  have z5 : w4.heap.size < w5.heap.size := by have := hb.size; simp at this; omega
  clear hb h4
  go_wp2_with fail
  refine (CM.out _).mono ?_
  rintro e w6 ⟨rfl, hb⟩
  have W6 := Lib.hid (W5.out.below hb)
  have h6 := (hb.block w.heap.size (by omega)).trans h5
  have x6 := (hb.block w4.heap.size z5).trans x5
  have z6 : w4.heap.size < w6.heap.size := Nat.lt_of_lt_of_le z5 hb.size
  clear hb h5 x5
  have x7 := setRow_heap w6 w4.heap.size (setC Y) (setC M) 50 (0, 0) x6
  have W7 := Lib.hid (Went.setRow W6.out HRW.out (Nat.le_of_lt z4) (setC M))
  have h7 := ((below_setRow (B := w4.heap.size) (g := w4.heap.size) (Below.refl _ w6) (Nat.le_refl _) (setC M)).block w.heap.size z4).trans h6
  have hcmp := HCMP2.out
  have HX6 := Lib.hid x6
  clear h6 x6
  have hn := setRow_heap (w6.setRow w4.heap.size (setC M)) w.heap.size (setC Set4.none) (setC Set4.none) 50 (0, 0) h7
  go_wp2_with (first | (refine wpList_store_row rfl 50 (.tmp 5) (.tmp 20) rfl w4.heap.size (setC M) rfl rfl 50 (setC Y) HX6.out (by kernel_rfl) rfl (HO.out M) ?_) | (refine wpList_load_row rfl 50 (.tmp 5) rfl w4.heap.size rfl 50 (setC M) (0, 0) _ x7 Tryd.underlying50 rfl (by kernel_rfl) ?_) | (refine wpList_store_row rfl 50 (.tmp 2) (.tmp 24) rfl w.heap.size (setC Set4.none) rfl rfl 50 (setC Set4.none) h7 (by kernel_rfl) (HZ.out Set4.none) (HO.out Set4.none) ?_))
  refine bodyPost_ret (v := .tuple #[.agg (setC Set4.none), .bool false]) ?_ ?_ ?_
  · exact results_cell_tmp (p := 2) (q := 3) rfl _ _ w.heap.size 50 (setC Set4.none) (0, 0) _ rfl hn Tryd.underlying50 rfl (by kernel_rfl)
  · rfl
  · exact ⟨rfl, Went.setRow W7.out HRW.out (Nat.le_refl _) (setC Set4.none)⟩
theorem poe_any (R : Nat) (bs : List Nat) (st : RS) (hB : IsB bs) (hp : st.at' ≤ bs.length) (hl : bs.length ≤ 500) (w : World) (H : Rd w R bs st) :
    Calls Tryd.prog 52 #[.pointer (some ⟨R, 0, none⟩)] w fun e w' => e = .returned (setRes (Rx.plainOrEscape bs st.at').1) ∧ Went w w' R bs (st.to (Rx.plainOrEscape bs st.at').2) := by
  unfold Rx.plainOrEscape
  cases h92 : Rx.isAt bs st.at' 92 with
  | true =>
    simp only [if_true]
    unfold Rx.peEnd
    have hpl := isAt_lt h92
    rcases hc : bs[st.at' + 1]? with _ | c
    · exact pey_end R bs st hB hp hl w H (st.at' + 1) rfl hpl h92 (List.getElem?_eq_none_iff.1 hc)
    · simp only [if_true]
      cases hb : (Rx.meaning c).isNone with
      | true => simp only [if_true]; exact pey_none R bs st hB hp hl w H (st.at' + 1) rfl hpl h92 c hc hb
      | false => simp only [Bool.false_eq_true, if_false]; exact pey_some R bs st hB hp hl w H (st.at' + 1) rfl hpl h92 c hc hb
  | false =>
    simp only [Bool.false_eq_true, if_false]
    unfold Rx.peEnd
    rcases hc : bs[st.at']? with _ | c
    · exact pen_end R bs st hB hp hl w H st.at' rfl hp h92 (List.getElem?_eq_none_iff.1 hc)
    · simp only [Bool.false_eq_true, if_false]
      cases hb : (Set4.only c).isNone with
      | true => simp only [if_true]; exact pen_none R bs st hB hp hl w H st.at' rfl hp h92 c hc hb
      | false => simp only [Bool.false_eq_true, if_false]; exact pen_some R bs st hB hp hl w H st.at' rfl hp h92 c hc hb
set_option maxHeartbeats 4000000 in
set_option maxRecDepth 100000 in
theorem item_no (R : Nat) (bs : List Nat) (st : RS) (hB : IsB bs) (hp : st.at' ≤ bs.length) (hl : bs.length ≤ 500) (w : World) (H : Rd w R bs st) (hi : Rx.isNext bs st.at' [93] = true) :
    Calls Tryd.prog 67 #[.pointer (some ⟨R, 0, none⟩)] w fun e w' => e = .returned (setRes none) ∧ Went w w' R bs st := by
  have HL := Lib.hid (laid_none w)
  have HZ := Lib.hid (fun X => show (setC Set4.none).size = (setC X).size from rfl)
  have HO := Lib.hid setC_one
  have HRW := Lib.hid H.lt
  have HR0 := Lib.hid (fun o => H.stay ((Below.refl _ w).alloc (Nat.le_refl _) o))
  have CI := Lib.hid (fun w H => isNext_any R bs st [93] hB (by unfold IsB; decide) hp hl w H)
  rw [hi] at CI
  clear hi H
  go_enter Tryd.func67, Tryd.ntmps67
  go_wp2_with fail
  refine (CI.out _ (HR0.out _)).mono ?_
  rintro e w1 ⟨rfl, X⟩
  have h1 := (X.block w.heap.size (by simp)).trans HL.out
  have z1 : w.heap.size < w1.heap.size := by have := X.size; simp at this; omega
  have W1 := Lib.hid (Went.of_alloc (Went.below (Went.refl (HR0.out _)) X))
  clear X
  have hn := setRow_heap w1 w.heap.size (setC Set4.none) (setC Set4.none) 50 (0, 0) h1
  go_wp2_with (refine wpList_store_row rfl 50 (.tmp 2) (.tmp 6) rfl w.heap.size (setC Set4.none) rfl rfl 50 (setC Set4.none) h1 (by kernel_rfl) (HZ.out Set4.none) (HO.out Set4.none) ?_)
  refine bodyPost_ret (v := .tuple #[.agg (setC Set4.none), .bool false]) ?_ ?_ ?_
  · exact results_cell_tmp (p := 2) (q := 3) rfl _ _ w.heap.size 50 (setC Set4.none) (0, 0) _ rfl hn Tryd.underlying50 rfl (by kernel_rfl)
  · rfl
  · exact ⟨rfl, Went.setRow W1.out HRW.out (Nat.le_refl _) (setC Set4.none)⟩
set_option maxHeartbeats 4000000 in
set_option maxRecDepth 100000 in
theorem item_go (R : Nat) (bs : List Nat) (st : RS) (hB : IsB bs) (hp : st.at' ≤ bs.length) (hl : bs.length ≤ 500) (w : World) (H : Rd w R bs st) (hi : Rx.isNext bs st.at' [93] = false) (r : Option Set4) (q : Nat) (hr : Rx.plainOrEscape bs st.at' = (r, q)) :
    Calls Tryd.prog 67 #[.pointer (some ⟨R, 0, none⟩)] w fun e w' => e = .returned (setRes r) ∧ Went w w' R bs (st.to q) := by
  have HL := Lib.hid (laid_none w)
  have HZ := Lib.hid (fun X => show (setC Set4.none).size = (setC X).size from rfl)
  have HO := Lib.hid setC_one
  have HRW := Lib.hid H.lt
  have HR0 := Lib.hid (fun o => H.stay ((Below.refl _ w).alloc (Nat.le_refl _) o))
  have CI := Lib.hid (fun w H => isNext_any R bs st [93] hB (by unfold IsB; decide) hp hl w H)
  rw [hi] at CI
  have CP := Lib.hid (fun w H => poe_any R bs st hB hp hl w H)
  rw [hr] at CP
  unfold setRes at CP ⊢
  obtain ⟨X, hX⟩ : ∃ X, r.getD Set4.none = X := ⟨_, rfl⟩
  obtain ⟨b, hb⟩ : ∃ b, r.isSome = b := ⟨_, rfl⟩
  rw [hX, hb] at CP ⊢
  unfold setV at CP ⊢
  clear hX hb hr
  clear hi H
  go_enter Tryd.func67, Tryd.ntmps67
  go_wp2_with fail
  refine (CI.out _ (HR0.out _)).mono ?_
  rintro e w1 ⟨rfl, X⟩
  have h1 := (X.block w.heap.size (by simp)).trans HL.out
  have z1 : w.heap.size < w1.heap.size := by have := X.size; simp at this; omega
  have W1 := Lib.hid (Went.of_alloc (Went.below (Went.refl (HR0.out _)) X))
  clear X
  go_wp2_with fail
  refine (CP.out _ W1.out.rd).mono ?_
  rintro e w2 ⟨rfl, Y⟩
  have h2 := (Y.only.block w.heap.size z1 (by have := HRW.out; simp; omega)).trans h1
  have W2 := Lib.hid (W1.out.trans Y)
  have hn := setRow_heap w2 w.heap.size (setC Set4.none) (setC X) 50 (0, 0) h2
  clear Y h1
  go_wp2_with (refine wpList_store_row rfl 50 (.tmp 2) (.tmp 9) rfl w.heap.size (setC X) rfl rfl 50 (setC Set4.none) h2 (by kernel_rfl) (HZ.out X) (HO.out X) ?_)
  refine bodyPost_ret (v := .tuple #[.agg (setC X), .bool b]) ?_ ?_ ?_
  · exact results_cell_tmp (p := 2) (q := 3) rfl _ _ w.heap.size 50 (setC X) (0, 0) _ rfl hn Tryd.underlying50 rfl (by kernel_rfl)
  · rfl
  · exact ⟨rfl, Went.setRow W2.out HRW.out (Nat.le_refl _) (setC X)⟩
theorem item_any (R : Nat) (bs : List Nat) (st : RS) (hB : IsB bs) (hp : st.at' ≤ bs.length) (hl : bs.length ≤ 500) (w : World) (H : Rd w R bs st) :
    Calls Tryd.prog 67 #[.pointer (some ⟨R, 0, none⟩)] w fun e w' => e = .returned (setRes (Rx.item bs st.at').1) ∧ Went w w' R bs (st.to (Rx.item bs st.at').2) := by
  unfold Rx.item
  cases hi : Rx.isNext bs st.at' [93] with
  | true => simp only [if_true]; exact item_no R bs st hB hp hl w H hi
  | false => simp only [Bool.false_eq_true, if_false]; exact item_go R bs st hB hp hl w H hi _ _ rfl
set_option maxHeartbeats 4000000 in
set_option maxRecDepth 100000 in
theorem dash_any (R : Nat) (bs : List Nat) (st : RS) (hB : IsB bs) (hp : st.at' ≤ bs.length) (hl : bs.length ≤ 500) (w : World) (H : Rd w R bs st) : Calls Tryd.prog 65 #[.pointer (some ⟨R, 0, none⟩)] w (Gives w (.bool (Rx.dashBetween bs st.at'))) := by
  have CI := Lib.hid (fun w H => isNext_any R bs st [45] hB (by unfold IsB; decide) hp hl w H)
  have CR := Lib.hid (fun w H => rest_any R bs st hp hl w H)
  have CP := Lib.hid (fun w => prefix_any (bs.drop st.at') [45, 93] (isB_drop hB _) (by unfold IsB; decide) w)
  rw [prefix_two] at CP
  have HR := Lib.hid H
  unfold Rx.dashBetween
  obtain ⟨a, ha⟩ : ∃ a, Rx.isNext bs st.at' [45] = a := ⟨_, rfl⟩
  obtain ⟨b, hb⟩ : ∃ b, (Rx.isAt bs st.at' 45 && Rx.isAt bs (st.at' + 1) 93) = b := ⟨_, rfl⟩
  obtain ⟨D, hD⟩ : ∃ D, strOf (bs.drop st.at') = D := ⟨_, rfl⟩
  rw [ha] at CI ⊢
  rw [hb] at CP ⊢
  rw [hD] at CR CP
  clear ha hb hD H
  cases a with
  | true =>
    go_enter Tryd.func65, Tryd.ntmps65
    go_wp2_with fail
    refine (CI.out _ HR.out).mono ?_
    rintro e w1 ⟨rfl, X⟩
    have B1 := Lib.hid X
    have R1 := Lib.hid (HR.out.stay X)
    clear X
    go_wp2_with fail
    refine (CR.out _ R1.out).mono ?_
    rintro e w2 ⟨rfl, X⟩
    have B2 := Lib.hid (B1.out.trans (X.mono B1.out.size))
    clear X
    go_wp2_with fail
    refine (CP.out _).mono ?_
    rintro e w3 ⟨rfl, rfl⟩
    go_wp2
    go_ret
    exact ⟨rfl, B2.out⟩
  | false =>
    go_enter Tryd.func65, Tryd.ntmps65
    go_wp2_with fail
    refine (CI.out _ HR.out).mono ?_
    rintro e w1 ⟨rfl, X⟩
    have B1 := Lib.hid X
    clear X
    go_wp2
    go_ret
    exact ⟨rfl, B1.out⟩
theorem one_left (bs : List Nat) (p : Nat) (hB : IsB bs) : ((strOf (bs.drop p)).toList == [45]) = decide (bs.length = p + 1 ∧ Rx.isAt bs p 45 = true) := by
  rw [Lib.toList_data, strOf_list]
  unfold Rx.isAt
  have hl : (bs.drop p).length = bs.length - p := List.length_drop
  rw [← drop_head bs p]
  have hD := isB_drop hB p
  match hm : bs.drop p with
  | [] => rw [hm] at hl; simp
  | [x] =>
    rw [hm] at hl hD
    have hx : x < 256 := hD x (by simp)
    simp only [List.length_cons, List.length_nil] at hl
    by_cases e : x = 45
    · subst e; simp; omega
    · have : ¬ UInt8.ofNat x = 45 := fun h => e (ofNat_inj (b := 45) hx (by decide) h)
      simp [e, this]
  | x :: y :: zs =>
    rw [hm] at hl
    simp only [List.length_cons] at hl
    simp
    omega
set_option maxHeartbeats 4000000 in
set_option maxRecDepth 100000 in
theorem stray_y (R : Nat) (bs : List Nat) (st : RS) (hB : IsB bs) (hp : st.at' ≤ bs.length) (hl : bs.length ≤ 500) (w : World) (H : Rd w R bs st) (hs : decide (bs.length = st.at' + 1 ∧ Rx.isAt bs st.at' 45 = true) = true) :
    Calls Tryd.prog 66 #[.pointer (some ⟨R, 0, none⟩)] w fun e w' => e = .returned (setRes none) ∧ Went w w' R bs (st.to (st.at' + 1)) := by
  have HL := Lib.hid (laid_none w)
  have HZ := Lib.hid (fun X => show (setC Set4.none).size = (setC X).size from rfl)
  have HO := Lib.hid setC_one
  have HRW := Lib.hid H.lt
  have HR0 := Lib.hid (fun o => H.stay ((Below.refl _ w).alloc (Nat.le_refl _) o))
  have CR := Lib.hid (fun w H => rest_any R bs st hp hl w H)
  have ho := one_left bs st.at' hB
  rw [hs] at ho
  obtain ⟨D, hD⟩ : ∃ D, strOf (bs.drop st.at') = D := ⟨_, rfl⟩
  rw [hD] at CR ho
  obtain ⟨p, hpp⟩ : ∃ p, st.at' = p := ⟨_, rfl⟩
  have HPP := Lib.hid hpp
  have e1 : ((p : Int) + 1) = ((p + 1 : Nat) : Int) := by omega
  have E1 := Lib.hid e1
  have HPB := Lib.hid (show p ≤ 500 by omega)
  clear hs hD H hpp e1
  go_enter Tryd.func66, Tryd.ntmps66
  go_wp2_with fail
  refine (CR.out _ (HR0.out _)).mono ?_
  rintro e w1 ⟨rfl, X⟩
  have h1 := (X.block w.heap.size (by simp)).trans HL.out
  have z1 : w.heap.size < w1.heap.size := by have := X.size; simp at this; omega
  have W1 := Lib.hid (Went.of_alloc (Went.below (Went.refl (HR0.out _)) X))
  clear X
  have c1 := W1.out.rd.c1
  rw [HPP.out] at c1
  have f1 := W1.out.rd.fz 1
  have W2 := W1.out.to (p + 1)
  rw [← E1.out] at W2
  have hne : w.heap.size ≠ R := by have := HRW.out; omega
  have h2 := (show (w1.setCell ⟨R, 1, none⟩ (.int .i64 ((p : Int) + 1))).heap[w.heap.size]? = w1.heap[w.heap.size]? from heap_setCell_other _ _ _ _ (by first | exact hne | exact fun h => hne h.symm)).trans h1
  have hn := setRow_heap (w1.setCell ⟨R, 1, none⟩ (.int .i64 ((p : Int) + 1))) w.heap.size (setC Set4.none) (setC Set4.none) 50 (0, 0) h2
  have W2 := Lib.hid W2
  have hpb := HPB.out
  clear hne h1
  go_wp2_with (refine wpList_store_row rfl 50 (.tmp 2) (.tmp 14) rfl w.heap.size (setC Set4.none) rfl rfl 50 (setC Set4.none) h2 (by kernel_rfl) (HZ.out Set4.none) (HO.out Set4.none) ?_)
  refine bodyPost_ret (v := .tuple #[.agg (setC Set4.none), .bool false]) ?_ ?_ ?_
  · exact results_cell_tmp (p := 2) (q := 3) rfl _ _ w.heap.size 50 (setC Set4.none) (0, 0) _ rfl hn Tryd.underlying50 rfl (by kernel_rfl)
  · rfl
  · exact ⟨rfl, by rw [HPP.out]; exact Went.setRow W2.out HRW.out (Nat.le_refl _) (setC Set4.none)⟩
set_option maxHeartbeats 4000000 in
set_option maxRecDepth 100000 in
theorem stray_n (R : Nat) (bs : List Nat) (st : RS) (hB : IsB bs) (hp : st.at' ≤ bs.length) (hl : bs.length ≤ 500) (w : World) (H : Rd w R bs st) (hs : decide (bs.length = st.at' + 1 ∧ Rx.isAt bs st.at' 45 = true) = false) :
    Calls Tryd.prog 66 #[.pointer (some ⟨R, 0, none⟩)] w fun e w' => e = .returned (setRes none) ∧ Went w w' R bs st := by
  have HL := Lib.hid (laid_none w)
  have HZ := Lib.hid (fun X => show (setC Set4.none).size = (setC X).size from rfl)
  have HO := Lib.hid setC_one
  have HRW := Lib.hid H.lt
  have HR0 := Lib.hid (fun o => H.stay ((Below.refl _ w).alloc (Nat.le_refl _) o))
  have CR := Lib.hid (fun w H => rest_any R bs st hp hl w H)
  have ho := one_left bs st.at' hB
  rw [hs] at ho
  obtain ⟨D, hD⟩ : ∃ D, strOf (bs.drop st.at') = D := ⟨_, rfl⟩
  rw [hD] at CR ho
  obtain ⟨p, hpp⟩ : ∃ p, st.at' = p := ⟨_, rfl⟩
  have HPP := Lib.hid hpp
  have e1 : ((p : Int) + 1) = ((p + 1 : Nat) : Int) := by omega
  have E1 := Lib.hid e1
  have HPB := Lib.hid (show p ≤ 500 by omega)
  clear hs hD H hpp e1
  go_enter Tryd.func66, Tryd.ntmps66
  go_wp2_with fail
  refine (CR.out _ (HR0.out _)).mono ?_
  rintro e w1 ⟨rfl, X⟩
  have h1 := (X.block w.heap.size (by simp)).trans HL.out
  have z1 : w.heap.size < w1.heap.size := by have := X.size; simp at this; omega
  have W1 := Lib.hid (Went.of_alloc (Went.below (Went.refl (HR0.out _)) X))
  clear X
  have hn := setRow_heap w1 w.heap.size (setC Set4.none) (setC Set4.none) 50 (0, 0) h1
  go_wp2_with (refine wpList_store_row rfl 50 (.tmp 2) (.tmp 14) rfl w.heap.size (setC Set4.none) rfl rfl 50 (setC Set4.none) h1 (by kernel_rfl) (HZ.out Set4.none) (HO.out Set4.none) ?_)
  refine bodyPost_ret (v := .tuple #[.agg (setC Set4.none), .bool false]) ?_ ?_ ?_
  · exact results_cell_tmp (p := 2) (q := 3) rfl _ _ w.heap.size 50 (setC Set4.none) (0, 0) _ rfl hn Tryd.underlying50 rfl (by kernel_rfl)
  · rfl
  · exact ⟨rfl, Went.setRow W1.out HRW.out (Nat.le_refl _) (setC Set4.none)⟩
theorem stray_any (R : Nat) (bs : List Nat) (st : RS) (hB : IsB bs) (hp : st.at' ≤ bs.length) (hl : bs.length ≤ 500) (w : World) (H : Rd w R bs st) :
    Calls Tryd.prog 66 #[.pointer (some ⟨R, 0, none⟩)] w fun e w' => e = .returned (setRes none) ∧ Went w w' R bs (st.to (Rx.stray bs st.at')) := by
  unfold Rx.stray
  by_cases h : bs.length = st.at' + 1 ∧ Rx.isAt bs st.at' 45 = true
  · rw [if_pos h]; exact stray_y R bs st hB hp hl w H (decide_eq_true h)
  · rw [if_neg h]; exact stray_n R bs st hB hp hl w H (decide_eq_false h)
end Go.Proofs.YtgjdeilclimpdaaDoor
