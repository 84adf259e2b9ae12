/-
  PROVED: a count of n to m fits n to m copies of a text one behind the other, and no fewer, no more.
-/
import Derived.Test.YtgjdeilclimpdaaDoorK11
import Derived.Test.YtgjdeilclimpdaaDoorKFRegexTimes
import Derived.Test.YtgjdeilclimpdaaDoorTie
import Derived.Test.YtgjdeilclimpdaaDoorCards
import Derived.Deep.RegionHeld3
import Derived.Deep.DeepHandedRow
import Derived.SevenTiedAt
import Derived.WalkKit
import Derived.ProofKit
import Derived.OpenShut
import Derived.ShutString
import Derived.ChangeOld
import Derived.Below
namespace Go.Proofs.YtgjdeilclimpdaaDoor
set_option linter.unusedVariables false
set_option linter.unusedSimpArgs false
open Rx (Set4 RS)
def isLet (c : Nat) : Bool := (decide (97 ≤ c) && decide (c ≤ 122)) || (decide (65 ≤ c) && decide (c ≤ 90)) || (decide (48 ≤ c) && decide (c ≤ 57))
def needs (c : Nat) : Bool := decide (33 ≤ c) && decide (c ≤ 126) && !isLet c
def esc1 (c : Nat) : List Nat := if needs c then [92, c] else [c]
def esc : List Nat → List Nat
  | [] => []
  | c :: cs => esc1 c ++ esc cs
theorem set4_ext {x y : Set4} (h : (x.a == y.a && x.b == y.b && x.c == y.c && x.d == y.d) = true) : x = y := by
  simp only [Bool.and_eq_true, beq_iff_eq] at h
  obtain ⟨⟨⟨h1, h2⟩, h3⟩, h4⟩ := h
  cases x; cases y
  simp only at h1 h2 h3 h4
  subst h1 h2 h3 h4
  rfl
theorem mean_all : ∀ c, c < 256 → needs c = true → ((Rx.meaning c).a == (Set4.only c).a && (Rx.meaning c).b == (Set4.only c).b && (Rx.meaning c).c == (Set4.only c).c && (Rx.meaning c).d == (Set4.only c).d) = true := by decide +kernel
theorem only_some : ∀ c, c < 256 → (Set4.only c).isNone = false := by decide +kernel
theorem mean_only (c : Nat) (hc : c < 256) (h : needs c = true) : Rx.meaning c = Set4.only c := set4_ext (mean_all c hc h)
/-- what begins no sign -/
def plainC (c : Nat) : Bool := !([42, 43, 63, 123, 125, 93, 40, 91, 94, 36, 46, 92, 124, 41].contains c)
theorem plain_all : ∀ c, c < 256 → needs c = false → plainC c = true := by decide +kernel
theorem esc_isB : ∀ cs, IsB cs → IsB (esc cs)
  | [], _ => IsB.nil
  | c :: cs, h => by
    unfold esc esc1
    have h1 := h c (by simp)
    have h2 := esc_isB cs fun x hx => h x (by simp [hx])
    split
    · exact IsB.cons (by omega) (IsB.cons h1 h2)
    · exact IsB.cons h1 h2
theorem esc_len : ∀ cs, (esc cs).length ≤ 2 * cs.length
  | [] => by simp [esc]
  | c :: cs => by
    have := esc_len cs
    unfold esc esc1
    split <;> simp <;> omega
/-- the first byte of an escaped word -/
theorem esc_head (cs : List Nat) (hB : IsB cs) : ∀ b, (esc cs)[0]? = some b → b = 92 ∨ (plainC b = true ∧ b < 256) := by
  intro b hb
  cases cs with
  | nil => simp [esc] at hb
  | cons c cs =>
    unfold esc esc1 at hb
    have hc := hB c (by simp)
    split at hb
    · simp at hb; exact .inl hb.symm
    · rename_i h
      simp at hb
      subst hb
      exact .inr ⟨plain_all c hc (by simpa using h), hc⟩
theorem at_append (A B : List Nat) (k : Nat) : (A ++ B)[A.length + k]? = B[k]? := by
  rw [List.getElem?_append_right (by omega)]
  congr 1
  omega
theorem isAt_get {bs : List Nat} {p b c : Nat} (h : bs[p]? = some b) : Rx.isAt bs p c = decide (b = c) := by
  unfold Rx.isAt
  rw [h]
  simp
theorem isNext_get {bs : List Nat} {p b : Nat} {l : List Nat} (h : bs[p]? = some b) : Rx.isNext bs p l = l.contains b := by
  unfold Rx.isNext
  rw [h]
theorem isAt_no {bs : List Nat} {p c : Nat} (h : bs[p]? = none) : Rx.isAt bs p c = false := by
  unfold Rx.isAt
  rw [h]
  simp
theorem isNext_no {bs : List Nat} {p : Nat} {l : List Nat} (h : bs[p]? = none) : Rx.isNext bs p l = false := by
  unfold Rx.isNext
  rw [h]
/-- behind an escaped byte no count stands -/
theorem countOf_none {bs : List Nat} {st : RS} (t : Rx.Node) (h : ∀ b, bs[st.at']? = some b → b ≠ 42 ∧ b ≠ 43 ∧ b ≠ 63 ∧ b ≠ 123) : Rx.countOf bs t st = (some t, st) := by
  have k : ∀ c, (c = 42 ∨ c = 43 ∨ c = 63 ∨ c = 123) → Rx.isAt bs st.at' c = false := by
    intro c hc
    cases hb : bs[st.at']? with
    | none => exact isAt_no hb
    | some b =>
      rw [isAt_get hb]
      have := h b hb
      simp
      omega
  unfold Rx.countOf
  rw [k 42 (by simp), k 43 (by simp), k 63 (by simp), k 123 (by simp)]
  rfl
theorem head_ok {b : Nat} (h : b = 92 ∨ (plainC b = true ∧ b < 256)) : b ≠ 42 ∧ b ≠ 43 ∧ b ≠ 63 ∧ b ≠ 123 ∧ b ≠ 124 ∧ b ≠ 41 := by
  rcases h with rfl | ⟨h, _⟩
  · decide
  · unfold plainC at h
    simp at h
    omega
theorem drop_esc (A cs : List Nat) (c : Nat) : A ++ esc (c :: cs) = (A ++ esc1 c) ++ esc cs := by
  rw [show esc (c :: cs) = esc1 c ++ esc cs from rfl, List.append_assoc]
/-- one byte of the word -/
theorem atom_esc (f : Rx.PatF) (A cs : List Nat) (c : Nat) (hc : c < 256) (hB : IsB cs) (st : RS) (hp : st.at' = A.length) :
    Rx.goesOn (A ++ esc (c :: cs)) st.at' = true ∧ Rx.piece sg f (A ++ esc (c :: cs)) st = (some (.byte (Set4.only c)), st.to (A ++ esc1 c).length) := by
  have hnext : ∀ b, (A ++ esc (c :: cs))[(A ++ esc1 c).length]? = some b → b = 92 ∨ (plainC b = true ∧ b < 256) := by
    intro b hb
    rw [drop_esc, ← Nat.add_zero (A ++ esc1 c).length, at_append] at hb
    exact esc_head cs hB b hb
  have hcnt : Rx.countOf (A ++ esc (c :: cs)) (.byte (Set4.only c)) (st.to (A ++ esc1 c).length) = (some (.byte (Set4.only c)), st.to (A ++ esc1 c).length) :=
    countOf_none _ fun b hb => by have := head_ok (hnext b hb); omega
  have hfin : Rx.atom sg f (A ++ esc (c :: cs)) st = (some (.byte (Set4.only c)), st.to (A ++ esc1 c).length) → Rx.piece sg f (A ++ esc (c :: cs)) st = (some (.byte (Set4.only c)), st.to (A ++ esc1 c).length) := by
    intro h
    unfold Rx.piece
    rw [h]
    exact hcnt
  clear hcnt hnext
  by_cases hn : needs c = true
  · have e1 : esc1 c = [92, c] := by unfold esc1; rw [if_pos hn]
    have h0 : (A ++ esc (c :: cs))[st.at']? = some 92 := by
      rw [hp, ← Nat.add_zero A.length, at_append]; unfold esc; rw [e1]; rfl
    have h1 : (A ++ esc (c :: cs))[st.at' + 1]? = some c := by
      rw [hp, at_append]; unfold esc; rw [e1]; rfl
    rw [e1] at hfin ⊢
    refine ⟨by unfold Rx.goesOn; rw [h0]; rfl, hfin ?_⟩
    unfold Rx.atom
    rw [isNext_get h0, isNext_get h0, isNext_get h0, isAt_get h0, isAt_get h0, isAt_get h0]
    unfold Rx.plainOrEscape Rx.peEnd
    rw [isAt_get h0, h1]
    have hm := mean_only c hc hn
    have ho := only_some c hc
    simp [hm, ho, Rx.ofSet, hp]
  · have e1 : esc1 c = [c] := by unfold esc1; rw [if_neg hn]
    have h0 : (A ++ esc (c :: cs))[st.at']? = some c := by
      rw [hp, ← Nat.add_zero A.length, at_append]; unfold esc; rw [e1]; rfl
    have hpl := plain_all c hc (by simpa using hn)
    unfold plainC at hpl
    simp at hpl
    rw [e1] at hfin ⊢
    refine ⟨by unfold Rx.goesOn; rw [h0]; simp; omega, hfin ?_⟩
    unfold Rx.atom
    rw [isNext_get h0, isNext_get h0, isNext_get h0, isAt_get h0, isAt_get h0, isAt_get h0]
    unfold Rx.plainOrEscape Rx.peEnd
    rw [isAt_get h0, h0]
    have ho := only_some c hc
    simp [ho, Rx.ofSet, hp, hpl]
theorem branch_esc (f : Rx.PatF) : ∀ (cs : List Nat) (A : List Nat) (ks : List Rx.Node) (n : Nat) (st : RS), IsB cs → st.at' = A.length → cs.length < n →
    Rx.branchLoop sg f (A ++ esc cs) n ks st = (some (ks ++ cs.map fun c => .byte (Set4.only c)), st.to (A ++ esc cs).length)
  | [], A, ks, n, st, hB, hp, hn => by
    cases n with
    | zero => omega
    | succ n =>
      have h0 : (A ++ esc [])[st.at']? = none := by
        rw [hp]; unfold esc; simp
      unfold Rx.branchLoop Rx.goesOn
      rw [h0]
      simp only [Bool.false_eq_true, if_false, List.map_nil, List.append_nil]
      unfold esc
      rw [List.append_nil]
      cases st
      simp only at hp
      subst hp
      rfl
  | c :: cs, A, ks, n, st, hB, hp, hn => by
    cases n with
    | zero => omega
    | succ n =>
      have hc := hB c (by simp)
      have hB2 : IsB cs := fun x hx => hB x (by simp [hx])
      obtain ⟨h1, h2⟩ := atom_esc f A cs c hc hB2 st hp
      unfold Rx.branchLoop
      rw [h1, h2]
      simp only [if_true]
      have := branch_esc f cs (A ++ esc1 c) (ks ++ [.byte (Set4.only c)]) n (st.to (A ++ esc1 c).length) hB2 rfl (by simp at hn; omega)
      rw [← drop_esc] at this
      rw [this]
      simp [RS.to]
def wordT (cs : List Nat) : Rx.Node := .alt [.seq (cs.map fun c => .byte (Set4.only c))]
theorem states_word : ∀ (cs : List Nat) (n : Nat), Rx.statesAll (cs.map fun c => .byte (Set4.only c)) n = n + cs.length
  | [], n => by unfold Rx.statesAll; rfl
  | c :: cs, n => by
    rw [List.map_cons, Rx.statesAll, states_word cs]
    unfold Rx.states
    simp
    omega
theorem wf_word : ∀ cs : List Nat, Rx.WfAll (cs.map fun c => .byte (Set4.only c))
  | [] => by unfold Rx.WfAll; trivial
  | c :: cs => by rw [List.map_cons, Rx.WfAll]; exact ⟨by unfold Rx.Wf; trivial, wf_word cs⟩
theorem wf_wordT (cs : List Nat) : Rx.Wf (wordT cs) := by
  unfold wordT Rx.Wf Rx.WfAll
  exact ⟨by simp, by unfold Rx.Wf; exact wf_word cs, by unfold Rx.WfAll; trivial⟩
theorem compile_word (cs : List Nat) (hB : IsB cs) (hl : cs.length ≤ 200) : Rx.compile sg (esc cs) = .ok (wordT cs, 0) := by
  have hle := esc_len cs
  have hp : Rx.parse sg (esc cs) = (some (wordT cs), Rx.st0.to (esc cs).length) := by
    unfold Rx.parse
    rw [Rx.pat]
    rw [Rx.patLoop]
    have hb := branch_esc (Rx.pat sg (esc cs) (esc cs).length) cs [] [] ((esc cs).length + 1) Rx.st0 hB rfl (by
      have : cs.length ≤ (esc cs).length := by
        clear hB hl hle
        induction cs with
        | nil => simp
        | cons c cs ih => unfold esc esc1; split <;> simp <;> omega
      omega)
    simp only [List.nil_append] at hb
    unfold Rx.branch
    rw [hb]
    simp only
    rw [isAt_no (by show (esc cs)[(esc cs).length]? = none; simp)]
    rfl
  unfold Rx.compile
  rw [if_neg (by omega), hp]
  simp only
  have hs : Rx.states (wordT cs) ≤ 999 := by
    unfold wordT Rx.states Rx.statesAll Rx.statesAll
    have : Rx.states (.seq (cs.map fun c => .byte (Set4.only c))) ≤ cs.length := by
      unfold Rx.states
      rw [states_word]
      omega
    simp
    omega
  rw [if_neg (by simp [RS.to]), if_neg (by simp [RS.to, Rx.st0]; omega)]
  rfl
theorem fits_word (T : List Nat) (hT : IsB T) : ∀ (cs : List Nat) (i : Nat), IsB cs → i ≤ T.length → (Rx.FitsSeq T (cs.map fun c => .byte (Set4.only c)) i T.length ↔ T.drop i = cs)
  | [], i, hB, hi => by
    rw [List.map_nil, Rx.FitsSeq]
    constructor
    · intro h; rw [h]; simp
    · intro h
      have := congrArg List.length h
      simp at this
      omega
  | c :: cs, i, hB, hi => by
    rw [List.map_cons, Rx.FitsSeq]
    have hc := hB c (by simp)
    have hB2 : IsB cs := fun x hx => hB x (by simp [hx])
    constructor
    · rintro ⟨k, h1, h2⟩
      unfold Rx.Fits at h1
      obtain ⟨b, e1, e2, rfl⟩ := h1
      have hlt := (List.getElem?_eq_some_iff.1 e1).1
      have hb : T[i] = b := (List.getElem?_eq_some_iff.1 e1).2
      rw [Rx.only_has c b hc (by rw [← hb]; exact hT.at i hlt)] at e2
      have : b = c := by simpa using e2
      rw [List.drop_eq_getElem_cons hlt, hb, this, (fits_word T hT cs (i + 1) hB2 (by omega)).1 h2]
    · intro h
      have hlt : i < T.length := by
        rcases Nat.lt_or_ge i T.length with k | k
        · exact k
        · rw [List.drop_eq_nil_of_le k] at h; cases h
      rw [List.drop_eq_getElem_cons hlt] at h
      injection h with h1 h2
      refine ⟨i + 1, ?_, (fits_word T hT cs (i + 1) hB2 (by omega)).2 h2⟩
      unfold Rx.Fits
      exact ⟨c, by rw [List.getElem?_eq_getElem hlt, h1], by rw [Rx.only_has c c hc hc]; simp, rfl⟩
theorem fitB_word (cs T : List Nat) (hB : IsB cs) (hT : IsB T) : fitB (wordT cs) T = decide (T = cs) := by
  unfold fitB
  have h := Rx.match_iff (wordT cs) (wf_wordT cs) T false
  have h2 : Rx.Fits T (wordT cs) 0 T.length ↔ T = cs := by
    unfold wordT Rx.Fits Rx.FitsAlt Rx.FitsAlt
    rw [Rx.Fits, fits_word T hT cs 0 hB (Nat.zero_le _)]
    simp
  rw [h2] at h
  by_cases e : T = cs
  · rw [h.2 e, decide_eq_true e]
  · rw [decide_eq_false e]
    cases hf : (Rx.runM (Rx.prog (wordT cs)) T false).fits
    · rfl
    · exact absurd (h.1 hf) e
theorem fitsV_word (cs T : List Nat) (hB : IsB cs) (hT : IsB T) (hl : cs.length ≤ 200) : fitsV (esc cs) T = (true, decide (T = cs)) := by
  unfold fitsV
  rw [compile_word cs hB hl]
  simp only
  rw [fitB_word cs T hB hT]
end Go.Proofs.YtgjdeilclimpdaaDoor
namespace Go.Proofs.YtgjdeilclimpdaaDoor
set_option linter.unusedVariables false
set_option linter.unusedSimpArgs false
open Go.RowKit Go.PlainAid Go.Shelf
theorem conv_own {w : World} {base : Nat} {v : Value} {ds : List Nat} (h : Own w base v ds) (hB : IsB ds) : (convert 26 9 v).run Tryd.prog w = .ok (.string (strOf ds)) w := by
  obtain ⟨a, cap, rfl, hc, hcell⟩ := h.cells
  by_cases hd : ds = []
  · subst hd
    obtain ⟨_, h2⟩ := h
    rcases h2 with ⟨hv, _⟩ | ⟨g, cap2, cur, hv, _⟩
    · cases hv
      exact run_convert_bytes_nil w 26 5 Tryd.underlying26 Tryd.underlying5 _ _ 9 Tryd.underlying9
    · cases hv
      have := run_convert_bytes_arg (P := Tryd.prog) w 26 5 Tryd.underlying26 Tryd.underlying5 g 0 0 cap [] rfl (fun i hi => by omega) 9 Tryd.underlying9
      exact this
  · have hp : 0 < ds.length := List.length_pos_iff.2 hd
    obtain ⟨b, rfl, _⟩ := hcell 0 hp
    have := run_convert_bytes_arg (P := Tryd.prog) w 26 5 Tryd.underlying26 Tryd.underlying5 b 0 ds.length cap (ds.map fun (c : Nat) => (c : Int)) (by simp) (fun i hi => by
      obtain ⟨b', hb', hc'⟩ := hcell i hi
      cases hb'
      rw [Nat.zero_add, hc']
      simp [List.getD, List.getElem?_map, List.getElem?_eq_getElem hi]) 9 Tryd.underlying9
    rw [this]
    have e : strOfNums (ds.map fun (c : Nat) => (c : Int)) = strOf ds := by
      unfold strOfNums strOf
      rw [List.map_map]
      rfl
    rw [e]
/-- a row of bytes of the call's own -/
structure Pw (w wr : World) (v : Value) (E : List Nat) : Prop where
  own : Own wr w.heap.size v E
  below : Below w.heap.size w wr
theorem Pw.alloc {w wr : World} {v : Value} {E : List Nat} (h : Pw w wr v E) (o : Obj) : Pw w (wr.alloc o) v E := ⟨h.own.below ((Below.refl _ _).alloc (Nat.le_refl _) o), h.below.alloc h.below.size o⟩
theorem Pw.app {w wr w2 : World} {v v2 : Value} {E : List Nat} {n : Nat} (h : Pw w wr v E) (hn : E.length = n) (c : Nat) (k1 : w2.ownsRow w.heap.size 5 1 v2 (n + 1) (cellsOf E ++ cellsOf [c])) (k2 : wr.grownBy w2 v.ownBlock) : Pw w w2 v2 (E ++ [c]) := by
  obtain ⟨h1, h2⟩ := own_grow (ds := E) (es := [c]) (wb := w) k1 (by rw [hn]; rfl) (own_block h.own) k2 h.below h.below.size
  exact ⟨h1, h2⟩
theorem Pw.nxt {w wr w2 : World} {v v2 : Value} {E : List Nat} {n : Nat} (h : Pw w wr v E) (hn : E.length = n) (c : Nat) (k1 : w2.ownsRow w.heap.size 5 1 v2 (n + 1) (cellsOf E ++ cellsOf [c])) (k2 : wr.grownBy w2 v.ownBlock) : ∃ a2 c2, v2 = .slice a2 (n + 1) c2 ∧ Pw w w2 (.slice a2 (n + 1) c2) (E ++ [c]) := by
  have h2 := h.app hn c k1 k2
  obtain ⟨a2, c2, hs, _⟩ := h2.own.cells
  have hl : (E ++ [c]).length = n + 1 := by rw [List.length_append, hn]; rfl
  rw [hl] at hs
  subst hs
  exact ⟨a2, c2, rfl, h2⟩
theorem Pw.row {w wr : World} {v : Value} {E : List Nat} {n : Nat} (h : Pw w wr v E) (hn : E.length = n) (o : Obj) : (wr.alloc o).ownsRow w.heap.size 5 1 v n (cellsOf E) ∧ w.heap.size ≤ (wr.alloc o).heap.size := by
  have := (h.alloc o).own
  unfold Own at this
  rw [hn] at this
  exact ⟨this, (h.alloc o).below.size⟩
theorem toList_eqb (x y : ByteArray) : (x.toList == y.toList) = decide (x = y) := by
  by_cases h : x = y
  · subst h; simp
  · rw [decide_eq_false h]
    simp only [beq_eq_false_iff_ne, ne_eq]
    intro e
    apply h
    rw [ByteArray.toList_eq, ByteArray.toList_eq] at e
    exact ByteArray.ext (Array.toList_inj.1 e)
theorem esc_snoc : ∀ (xs : List Nat) (c : Nat), esc (xs ++ [c]) = esc xs ++ esc1 c
  | [], c => by show esc [c] = _; unfold esc; unfold esc; simp
  | x :: xs, c => by
    show esc (x :: (xs ++ [c])) = _
    rw [show esc (x :: (xs ++ [c])) = esc1 x ++ esc (xs ++ [c]) from rfl, esc_snoc xs c, show esc (x :: xs) = esc1 x ++ esc xs from rfl, List.append_assoc]
theorem wrap_small (k : Nat) (h : k ≤ 1000) : RowKit.wrap64 (((k : Nat) : Int) + 1) = ((k : Nat) : Int) + 1 := IntWalk.wrap64_in _ ⟨by omega, by omega⟩
theorem meas_small (L k : Nat) (h : k < L) : L - (((k : Nat) : Int) + 1).toNat < L - (((k : Nat) : Int)).toNat := by omega
set_option maxHeartbeats 16000000 in
set_option maxRecDepth 100000 in
theorem law_word (s b : ByteArray) (w : World) (hT : TabAt w) : Calls Tryd.prog 4 #[.string s, .string b] w (Gives w (.bool true)) := by
  have CK := Lib.hid (fun w hT => known_any w hT)
  by_cases h1 : 200 < s.size
  · have d1 : decide ((200 : Int) < ((s.size : Nat) : Int)) = true := decide_eq_true (by omega)
    have d2 : decide (200 < s.size) = true := decide_eq_true h1
    obtain ⟨L, hL⟩ : ∃ L, s.size = L := ⟨_, rfl⟩
    rw [hL] at d1 d2 h1
    have HT := Lib.hid hT
    clear h1 hT
    go_enter Tryd.func4, Tryd.ntmps4
    go_wp2_with fail
    refine (CK.out w HT.out).mono ?_
    rintro e w1 ⟨rfl, hb⟩
    have HB := Lib.hid hb
    have HT1 := Lib.hid (HT.out.below hb HT.out.lt)
    clear hb
    go_wp2_with fail
    refine (CK.out w1 HT1.out).mono ?_
    rintro e w2 ⟨rfl, hb⟩
    have HB2 := Lib.hid (HB.out.trans (hb.mono HB.out.size))
    clear hb
    go_wp2
    go_ret
    exact ⟨rfl, HB2.out⟩
  by_cases h2 : 2000 < b.size
  · have d1 : decide ((200 : Int) < ((s.size : Nat) : Int)) = false := decide_eq_false (by omega)
    have d2 : decide (200 < s.size) = false := decide_eq_false h1
    have d3 : decide ((2000 : Int) < ((b.size : Nat) : Int)) = true := decide_eq_true (by omega)
    have d4 : decide (2000 < b.size) = true := decide_eq_true h2
    obtain ⟨L, hL⟩ : ∃ L, s.size = L := ⟨_, rfl⟩
    obtain ⟨M, hM⟩ : ∃ L, b.size = L := ⟨_, rfl⟩
    rw [hL] at d1 d2 h1
    rw [hM] at d3 d4 h2
    have HT := Lib.hid hT
    clear h1 h2 hT
    go_enter Tryd.func4, Tryd.ntmps4
    go_wp2_with fail
    refine (CK.out w HT.out).mono ?_
    rintro e w1 ⟨rfl, hb⟩
    have HB := Lib.hid hb
    have HT1 := Lib.hid (HT.out.below hb HT.out.lt)
    clear hb
    go_wp2_with fail
    refine (CK.out w1 HT1.out).mono ?_
    rintro e w2 ⟨rfl, hb⟩
    have HB2 := Lib.hid (HB.out.trans (hb.mono HB.out.size))
    clear hb
    go_wp2
    go_ret
    exact ⟨rfl, HB2.out⟩
  have d1 : decide ((200 : Int) < ((s.size : Nat) : Int)) = false := decide_eq_false (by omega)
  have d2 : decide (200 < s.size) = false := decide_eq_false h1
  have d3 : decide ((2000 : Int) < ((b.size : Nat) : Int)) = false := decide_eq_false (by omega)
  have d4 : decide (2000 < b.size) = false := decide_eq_false h2
  have hBs := isB_bytesOf s
  have hBb := isB_bytesOf b
  have hls := bytesOf_length s
  have hlb := bytesOf_length b
  have hse := strOf_bytesOf s
  have hbe := strOf_bytesOf b
  obtain ⟨bs, hbs⟩ : ∃ x, bytesOf s = x := ⟨_, rfl⟩
  obtain ⟨cs, hcs⟩ : ∃ x, bytesOf b = x := ⟨_, rfl⟩
  rw [hbs] at hBs hls hse
  rw [hcs] at hBb hlb hbe
  have hle := esc_len bs
  have C1 := fun w hT => fits_any (esc bs) bs (esc_isB bs hBs) (by omega) hBs (by omega) w hT
  have C2 := fun w hT => fits_any (esc bs) cs (esc_isB bs hBs) (by omega) hBb (by omega) w hT
  rw [fitsV_word bs bs hBs hBs (by omega), hse] at C1
  rw [fitsV_word bs cs hBs hBb (by omega), hbe] at C2
  simp only [decide_true] at C1
  have hbeq : decide (cs = bs) = (b.toList == s.toList) := by
    rw [toList_eqb]
    by_cases e : cs = bs
    · rw [decide_eq_true e, decide_eq_true (by rw [← hbe, ← hse, e])]
    · rw [decide_eq_false e, decide_eq_false (fun h => e (strOf_inj hBb hBs (by rw [hbe, hse, h])))]
  have C1 := Lib.hid C1
  have C2 := Lib.hid C2
  have HTW := Lib.hid hT
  have HBS := Lib.hid hBs
  have HLS := Lib.hid hls
  have HSE := Lib.hid hse
  have HEI := Lib.hid (esc_isB bs hBs)
  have HSM := Lib.hid (show s.size ≤ 200 from by omega)
  obtain ⟨i0, hi, hz0, hz1, hz2⟩ := info_parts info5
  obtain ⟨L, hL⟩ : ∃ L, s.size = L := ⟨_, rfl⟩
  obtain ⟨M, hM⟩ : ∃ L, b.size = L := ⟨_, rfl⟩
  rw [hL] at d1 d2 HLS HSM
  rw [hM] at d3 d4
  have hget := get_bt s
  have hszL := hL
  clear h1 h2 hT hBs hBb hls hlb hse hbe hbs hcs hle hL
  go_enter Tryd.func4, Tryd.ntmps4
  go_wp2_with fail
  refine (CK.out w HTW.out).mono ?_
  rintro e w1 ⟨rfl, hb⟩
  have P0 := Lib.hid (show Pw w w1 (.slice none 0 0) (esc (bs.take 0)) from ⟨Own.nil _ _, hb⟩)
  clear hb
  go_wp2
  go_loopw [5, 6] (fun r5 r6 wr => ∃ (k : Nat), k ≤ L ∧ r6 = .int .i64 ((k : Nat) : Int) ∧ Hid (Pw w wr r5 (esc (bs.take k)))) (fun _ r6 _ => L - (intOf r6).toNat)
  case atStart => exact ⟨0, Nat.zero_le _, rfl, P0⟩
  case round =>
    obtain ⟨k, hk, rfl, HP⟩ := hrel
    by_cases hkL : k < L
    · have hkb : k < bs.length := by rw [HLS.out]; exact hkL
      obtain ⟨c, hc⟩ : ∃ c, bs[k] = c := ⟨_, rfl⟩
      have hc256 : c < 256 := by rw [← hc]; exact HBS.out.at k hkb
      have hbt : bt s k = ((c : Nat) : Int) := by rw [← HSE.out, strOf_bt bs HBS.out k hkb, hc]
      have htk : bs.take (k + 1) = bs.take k ++ [c] := by rw [List.take_succ_eq_append_getElem hkb, hc]
      have hE1 := esc_snoc (bs.take k) c
      rw [← htk] at hE1
      have hlen := esc_len (bs.take k)
      rw [List.length_take] at hlen
      obtain ⟨ao, co, hsh, _, _⟩ := HP.out.own.cells
      subst hsh
      obtain ⟨E, hE⟩ : ∃ E, esc (bs.take k) = E := ⟨_, rfl⟩
      rw [hE] at HP hE1 hlen
      obtain ⟨E2, hE2⟩ : ∃ E, esc (bs.take (k + 1)) = E := ⟨_, rfl⟩
      rw [hE2] at hE1
      have HE2 := Lib.hid hE2
      rw [hE]
      obtain ⟨N, hN⟩ : ∃ N, E.length = N := ⟨_, rfl⟩
      have HN := Lib.hid hN
      have HNB := Lib.hid (show N ≤ 400 from by have := HSM.out; omega)
      have HKK := Lib.hid (show k + 1 ≤ L from hkL)
      have HMS := Lib.hid (meas_small L k hkL)
      have HK1 := Lib.hid (wrap_small k (by have := HSM.out; omega))
      have hkz : ((k : Nat) : Int) < ((s.size : Nat) : Int) := by rw [hszL]; omega
      have hkz2 : k < s.size := by rw [hszL]; exact hkL
      have hkd : decide (((k : Nat) : Int) < ((L : Nat) : Int)) = true := decide_eq_true (by omega)
      have hkd2 : decide (k < L) = true := decide_eq_true hkL
      rw [hN] at HP ⊢
      clear hc hkb htk hE hE2 hlen hN hk P0
      have hsp : c ≤ 32 ∨ (33 ≤ c ∧ c ≤ 47) ∨ (48 ≤ c ∧ c ≤ 57) ∨ (58 ≤ c ∧ c ≤ 64) ∨ (65 ≤ c ∧ c ≤ 90) ∨ (91 ≤ c ∧ c ≤ 96) ∨ (97 ≤ c ∧ c ≤ 122) ∨ (123 ≤ c ∧ c ≤ 126) ∨ 127 ≤ c := by omega
      rcases hsp with hr | hr | hr | hr | hr | hr | hr | hr | hr
      · have q97 : decide ((97 : Int) ≤ ((c : Nat) : Int)) = false := decide_eq_false (by omega)
        have q65 : decide ((65 : Int) ≤ ((c : Nat) : Int)) = false := decide_eq_false (by omega)
        have q48 : decide ((48 : Int) ≤ ((c : Nat) : Int)) = false := decide_eq_false (by omega)
        have q33 : decide ((33 : Int) ≤ ((c : Nat) : Int)) = false := decide_eq_false (by omega)
        have q122 : decide (((c : Nat) : Int) ≤ 122) = true := decide_eq_true (by omega)
        have q90 : decide (((c : Nat) : Int) ≤ 90) = true := decide_eq_true (by omega)
        have q57 : decide (((c : Nat) : Int) ≤ 57) = true := decide_eq_true (by omega)
        have q126 : decide (((c : Nat) : Int) ≤ 126) = true := decide_eq_true (by omega)
        have hes : esc1 c = [c] := by unfold esc1 needs isLet; simp; omega
        rw [hes] at hE1
        have HE1 := Lib.hid hE1
        clear hes hE1 hr hc256
        have HN1 := Lib.hid HN.out
        have HX1 := Lib.hid (show N + 1 ≤ maxLen ∧ (N + 1) * 1 ≤ 140737488355328 from ⟨by have := HNB.out; unfold maxLen; omega, by have := HNB.out; omega⟩)
        have HE3 := Lib.hid (show E2 = E ++ [c] from HE1.out)
        go_wp2_with (first | (at_builtin; refine wpList_append_own _ rfl (.tmp 70) (.tmp 72) 26 rfl w.heap.size 5 i0 (.int .u8 0) 1 1 Tryd.underlying26 hi hz0 hz1 hz2 rfl (by decide) (.slice ao (N) co) (N) (cellsOf (E)) rfl (HP.out.row HN1.out _).1 ⟨wr.heap.size, 0, none⟩ 1 1 (cellsOf [c]) rfl rfl (alloc_row _ [c]) (cellsOf_one _) HX1.out.1 HX1.out.2 (HP.out.row HN1.out _).2 ?_; intro v2 w2 k1 k2 k3; obtain ⟨a2, c2, rfl, hp2⟩ := (HP.out.alloc _).nxt HN1.out (c) k1 k2; have P2 := Lib.hid hp2; clear k1 k2 k3 hp2))
        go_roundw
        case rel => exact ⟨k + 1, HKK.out, by rw [HK1.out, Int.natCast_add] <;> rfl, Lib.hid (by rw [HE2.out, HE3.out]; exact P2.out)⟩
        case measure =>
          rw [HK1.out]
          exact HMS.out
      · have q97 : decide ((97 : Int) ≤ ((c : Nat) : Int)) = false := decide_eq_false (by omega)
        have q65 : decide ((65 : Int) ≤ ((c : Nat) : Int)) = false := decide_eq_false (by omega)
        have q48 : decide ((48 : Int) ≤ ((c : Nat) : Int)) = false := decide_eq_false (by omega)
        have q33 : decide ((33 : Int) ≤ ((c : Nat) : Int)) = true := decide_eq_true (by omega)
        have q122 : decide (((c : Nat) : Int) ≤ 122) = true := decide_eq_true (by omega)
        have q90 : decide (((c : Nat) : Int) ≤ 90) = true := decide_eq_true (by omega)
        have q57 : decide (((c : Nat) : Int) ≤ 57) = true := decide_eq_true (by omega)
        have q126 : decide (((c : Nat) : Int) ≤ 126) = true := decide_eq_true (by omega)
        have hes : esc1 c = [92, c] := by unfold esc1 needs isLet; simp; omega
        rw [hes] at hE1
        have HE1 := Lib.hid hE1
        clear hes hE1 hr hc256
        have HN1 := Lib.hid HN.out
        have HX1 := Lib.hid (show N + 1 ≤ maxLen ∧ (N + 1) * 1 ≤ 140737488355328 from ⟨by have := HNB.out; unfold maxLen; omega, by have := HNB.out; omega⟩)
        have HN2 := Lib.hid (show (E ++ [92]).length = N + 1 from by rw [List.length_append, HN.out]; rfl)
        have HX2 := Lib.hid (show N + 1 + 1 ≤ maxLen ∧ (N + 1 + 1) * 1 ≤ 140737488355328 from ⟨by have := HNB.out; unfold maxLen; omega, by have := HNB.out; omega⟩)
        have HE3 := Lib.hid (show E2 = E ++ [92] ++ [c] from by rw [HE1.out, List.append_assoc]; rfl)
        go_wp2_with (first | (at_builtin; refine wpList_append_own _ rfl (.tmp 67) (.tmp 68) 26 rfl w.heap.size 5 i0 (.int .u8 0) 1 1 Tryd.underlying26 hi hz0 hz1 hz2 rfl (by decide) (.slice ao (N) co) (N) (cellsOf (E)) rfl (HP.out.row HN1.out _).1 ⟨wr.heap.size, 0, none⟩ 1 1 (cellsOf [92]) rfl rfl (alloc_row _ [92]) (cellsOf_one _) HX1.out.1 HX1.out.2 (HP.out.row HN1.out _).2 ?_; intro v2 w2 k1 k2 k3; obtain ⟨a2, c2, rfl, hp2⟩ := (HP.out.alloc _).nxt HN1.out (92) k1 k2; have P2 := Lib.hid hp2; clear k1 k2 k3 hp2) | (at_builtin; refine wpList_append_own _ rfl (.tmp 70) (.tmp 72) 26 rfl w.heap.size 5 i0 (.int .u8 0) 1 1 Tryd.underlying26 hi hz0 hz1 hz2 rfl (by decide) (.slice a2 (N + 1) c2) (N + 1) (cellsOf (E ++ [92])) rfl (P2.out.row HN2.out _).1 ⟨w2.heap.size, 0, none⟩ 1 1 (cellsOf [c]) rfl rfl (alloc_row _ [c]) (cellsOf_one _) HX2.out.1 HX2.out.2 (P2.out.row HN2.out _).2 ?_; intro v3 w3 k1 k2 k3; obtain ⟨a3, c3, rfl, hp3⟩ := (P2.out.alloc _).nxt HN2.out (c) k1 k2; have P3 := Lib.hid hp3; clear k1 k2 k3 hp3))
        go_roundw
        case rel => exact ⟨k + 1, HKK.out, by rw [HK1.out, Int.natCast_add] <;> rfl, Lib.hid (by rw [HE2.out, HE3.out]; exact P3.out)⟩
        case measure =>
          rw [HK1.out]
          exact HMS.out
      · have q97 : decide ((97 : Int) ≤ ((c : Nat) : Int)) = false := decide_eq_false (by omega)
        have q65 : decide ((65 : Int) ≤ ((c : Nat) : Int)) = false := decide_eq_false (by omega)
        have q48 : decide ((48 : Int) ≤ ((c : Nat) : Int)) = true := decide_eq_true (by omega)
        have q33 : decide ((33 : Int) ≤ ((c : Nat) : Int)) = true := decide_eq_true (by omega)
        have q122 : decide (((c : Nat) : Int) ≤ 122) = true := decide_eq_true (by omega)
        have q90 : decide (((c : Nat) : Int) ≤ 90) = true := decide_eq_true (by omega)
        have q57 : decide (((c : Nat) : Int) ≤ 57) = true := decide_eq_true (by omega)
        have q126 : decide (((c : Nat) : Int) ≤ 126) = true := decide_eq_true (by omega)
        have hes : esc1 c = [c] := by unfold esc1 needs isLet; simp; omega
        rw [hes] at hE1
        have HE1 := Lib.hid hE1
        clear hes hE1 hr hc256
        have HN1 := Lib.hid HN.out
        have HX1 := Lib.hid (show N + 1 ≤ maxLen ∧ (N + 1) * 1 ≤ 140737488355328 from ⟨by have := HNB.out; unfold maxLen; omega, by have := HNB.out; omega⟩)
        have HE3 := Lib.hid (show E2 = E ++ [c] from HE1.out)
        go_wp2_with (first | (at_builtin; refine wpList_append_own _ rfl (.tmp 70) (.tmp 72) 26 rfl w.heap.size 5 i0 (.int .u8 0) 1 1 Tryd.underlying26 hi hz0 hz1 hz2 rfl (by decide) (.slice ao (N) co) (N) (cellsOf (E)) rfl (HP.out.row HN1.out _).1 ⟨wr.heap.size, 0, none⟩ 1 1 (cellsOf [c]) rfl rfl (alloc_row _ [c]) (cellsOf_one _) HX1.out.1 HX1.out.2 (HP.out.row HN1.out _).2 ?_; intro v2 w2 k1 k2 k3; obtain ⟨a2, c2, rfl, hp2⟩ := (HP.out.alloc _).nxt HN1.out (c) k1 k2; have P2 := Lib.hid hp2; clear k1 k2 k3 hp2))
        go_roundw
        case rel => exact ⟨k + 1, HKK.out, by rw [HK1.out, Int.natCast_add] <;> rfl, Lib.hid (by rw [HE2.out, HE3.out]; exact P2.out)⟩
        case measure =>
          rw [HK1.out]
          exact HMS.out
      · have q97 : decide ((97 : Int) ≤ ((c : Nat) : Int)) = false := decide_eq_false (by omega)
        have q65 : decide ((65 : Int) ≤ ((c : Nat) : Int)) = false := decide_eq_false (by omega)
        have q48 : decide ((48 : Int) ≤ ((c : Nat) : Int)) = true := decide_eq_true (by omega)
        have q33 : decide ((33 : Int) ≤ ((c : Nat) : Int)) = true := decide_eq_true (by omega)
        have q122 : decide (((c : Nat) : Int) ≤ 122) = true := decide_eq_true (by omega)
        have q90 : decide (((c : Nat) : Int) ≤ 90) = true := decide_eq_true (by omega)
        have q57 : decide (((c : Nat) : Int) ≤ 57) = false := decide_eq_false (by omega)
        have q126 : decide (((c : Nat) : Int) ≤ 126) = true := decide_eq_true (by omega)
        have hes : esc1 c = [92, c] := by unfold esc1 needs isLet; simp; omega
        rw [hes] at hE1
        have HE1 := Lib.hid hE1
        clear hes hE1 hr hc256
        have HN1 := Lib.hid HN.out
        have HX1 := Lib.hid (show N + 1 ≤ maxLen ∧ (N + 1) * 1 ≤ 140737488355328 from ⟨by have := HNB.out; unfold maxLen; omega, by have := HNB.out; omega⟩)
        have HN2 := Lib.hid (show (E ++ [92]).length = N + 1 from by rw [List.length_append, HN.out]; rfl)
        have HX2 := Lib.hid (show N + 1 + 1 ≤ maxLen ∧ (N + 1 + 1) * 1 ≤ 140737488355328 from ⟨by have := HNB.out; unfold maxLen; omega, by have := HNB.out; omega⟩)
        have HE3 := Lib.hid (show E2 = E ++ [92] ++ [c] from by rw [HE1.out, List.append_assoc]; rfl)
        go_wp2_with (first | (at_builtin; refine wpList_append_own _ rfl (.tmp 67) (.tmp 68) 26 rfl w.heap.size 5 i0 (.int .u8 0) 1 1 Tryd.underlying26 hi hz0 hz1 hz2 rfl (by decide) (.slice ao (N) co) (N) (cellsOf (E)) rfl (HP.out.row HN1.out _).1 ⟨wr.heap.size, 0, none⟩ 1 1 (cellsOf [92]) rfl rfl (alloc_row _ [92]) (cellsOf_one _) HX1.out.1 HX1.out.2 (HP.out.row HN1.out _).2 ?_; intro v2 w2 k1 k2 k3; obtain ⟨a2, c2, rfl, hp2⟩ := (HP.out.alloc _).nxt HN1.out (92) k1 k2; have P2 := Lib.hid hp2; clear k1 k2 k3 hp2) | (at_builtin; refine wpList_append_own _ rfl (.tmp 70) (.tmp 72) 26 rfl w.heap.size 5 i0 (.int .u8 0) 1 1 Tryd.underlying26 hi hz0 hz1 hz2 rfl (by decide) (.slice a2 (N + 1) c2) (N + 1) (cellsOf (E ++ [92])) rfl (P2.out.row HN2.out _).1 ⟨w2.heap.size, 0, none⟩ 1 1 (cellsOf [c]) rfl rfl (alloc_row _ [c]) (cellsOf_one _) HX2.out.1 HX2.out.2 (P2.out.row HN2.out _).2 ?_; intro v3 w3 k1 k2 k3; obtain ⟨a3, c3, rfl, hp3⟩ := (P2.out.alloc _).nxt HN2.out (c) k1 k2; have P3 := Lib.hid hp3; clear k1 k2 k3 hp3))
        go_roundw
        case rel => exact ⟨k + 1, HKK.out, by rw [HK1.out, Int.natCast_add] <;> rfl, Lib.hid (by rw [HE2.out, HE3.out]; exact P3.out)⟩
        case measure =>
          rw [HK1.out]
          exact HMS.out
      · have q97 : decide ((97 : Int) ≤ ((c : Nat) : Int)) = false := decide_eq_false (by omega)
        have q65 : decide ((65 : Int) ≤ ((c : Nat) : Int)) = true := decide_eq_true (by omega)
        have q48 : decide ((48 : Int) ≤ ((c : Nat) : Int)) = true := decide_eq_true (by omega)
        have q33 : decide ((33 : Int) ≤ ((c : Nat) : Int)) = true := decide_eq_true (by omega)
        have q122 : decide (((c : Nat) : Int) ≤ 122) = true := decide_eq_true (by omega)
        have q90 : decide (((c : Nat) : Int) ≤ 90) = true := decide_eq_true (by omega)
        have q57 : decide (((c : Nat) : Int) ≤ 57) = false := decide_eq_false (by omega)
        have q126 : decide (((c : Nat) : Int) ≤ 126) = true := decide_eq_true (by omega)
        have hes : esc1 c = [c] := by unfold esc1 needs isLet; simp; omega
        rw [hes] at hE1
        have HE1 := Lib.hid hE1
        clear hes hE1 hr hc256
        have HN1 := Lib.hid HN.out
        have HX1 := Lib.hid (show N + 1 ≤ maxLen ∧ (N + 1) * 1 ≤ 140737488355328 from ⟨by have := HNB.out; unfold maxLen; omega, by have := HNB.out; omega⟩)
        have HE3 := Lib.hid (show E2 = E ++ [c] from HE1.out)
        go_wp2_with (first | (at_builtin; refine wpList_append_own _ rfl (.tmp 70) (.tmp 72) 26 rfl w.heap.size 5 i0 (.int .u8 0) 1 1 Tryd.underlying26 hi hz0 hz1 hz2 rfl (by decide) (.slice ao (N) co) (N) (cellsOf (E)) rfl (HP.out.row HN1.out _).1 ⟨wr.heap.size, 0, none⟩ 1 1 (cellsOf [c]) rfl rfl (alloc_row _ [c]) (cellsOf_one _) HX1.out.1 HX1.out.2 (HP.out.row HN1.out _).2 ?_; intro v2 w2 k1 k2 k3; obtain ⟨a2, c2, rfl, hp2⟩ := (HP.out.alloc _).nxt HN1.out (c) k1 k2; have P2 := Lib.hid hp2; clear k1 k2 k3 hp2))
        go_roundw
        case rel => exact ⟨k + 1, HKK.out, by rw [HK1.out, Int.natCast_add] <;> rfl, Lib.hid (by rw [HE2.out, HE3.out]; exact P2.out)⟩
        case measure =>
          rw [HK1.out]
          exact HMS.out
      · have q97 : decide ((97 : Int) ≤ ((c : Nat) : Int)) = false := decide_eq_false (by omega)
        have q65 : decide ((65 : Int) ≤ ((c : Nat) : Int)) = true := decide_eq_true (by omega)
        have q48 : decide ((48 : Int) ≤ ((c : Nat) : Int)) = true := decide_eq_true (by omega)
        have q33 : decide ((33 : Int) ≤ ((c : Nat) : Int)) = true := decide_eq_true (by omega)
        have q122 : decide (((c : Nat) : Int) ≤ 122) = true := decide_eq_true (by omega)
        have q90 : decide (((c : Nat) : Int) ≤ 90) = false := decide_eq_false (by omega)
        have q57 : decide (((c : Nat) : Int) ≤ 57) = false := decide_eq_false (by omega)
        have q126 : decide (((c : Nat) : Int) ≤ 126) = true := decide_eq_true (by omega)
        have hes : esc1 c = [92, c] := by unfold esc1 needs isLet; simp; omega
        rw [hes] at hE1
        have HE1 := Lib.hid hE1
        clear hes hE1 hr hc256
        have HN1 := Lib.hid HN.out
        have HX1 := Lib.hid (show N + 1 ≤ maxLen ∧ (N + 1) * 1 ≤ 140737488355328 from ⟨by have := HNB.out; unfold maxLen; omega, by have := HNB.out; omega⟩)
        have HN2 := Lib.hid (show (E ++ [92]).length = N + 1 from by rw [List.length_append, HN.out]; rfl)
        have HX2 := Lib.hid (show N + 1 + 1 ≤ maxLen ∧ (N + 1 + 1) * 1 ≤ 140737488355328 from ⟨by have := HNB.out; unfold maxLen; omega, by have := HNB.out; omega⟩)
        have HE3 := Lib.hid (show E2 = E ++ [92] ++ [c] from by rw [HE1.out, List.append_assoc]; rfl)
        go_wp2_with (first | (at_builtin; refine wpList_append_own _ rfl (.tmp 67) (.tmp 68) 26 rfl w.heap.size 5 i0 (.int .u8 0) 1 1 Tryd.underlying26 hi hz0 hz1 hz2 rfl (by decide) (.slice ao (N) co) (N) (cellsOf (E)) rfl (HP.out.row HN1.out _).1 ⟨wr.heap.size, 0, none⟩ 1 1 (cellsOf [92]) rfl rfl (alloc_row _ [92]) (cellsOf_one _) HX1.out.1 HX1.out.2 (HP.out.row HN1.out _).2 ?_; intro v2 w2 k1 k2 k3; obtain ⟨a2, c2, rfl, hp2⟩ := (HP.out.alloc _).nxt HN1.out (92) k1 k2; have P2 := Lib.hid hp2; clear k1 k2 k3 hp2) | (at_builtin; refine wpList_append_own _ rfl (.tmp 70) (.tmp 72) 26 rfl w.heap.size 5 i0 (.int .u8 0) 1 1 Tryd.underlying26 hi hz0 hz1 hz2 rfl (by decide) (.slice a2 (N + 1) c2) (N + 1) (cellsOf (E ++ [92])) rfl (P2.out.row HN2.out _).1 ⟨w2.heap.size, 0, none⟩ 1 1 (cellsOf [c]) rfl rfl (alloc_row _ [c]) (cellsOf_one _) HX2.out.1 HX2.out.2 (P2.out.row HN2.out _).2 ?_; intro v3 w3 k1 k2 k3; obtain ⟨a3, c3, rfl, hp3⟩ := (P2.out.alloc _).nxt HN2.out (c) k1 k2; have P3 := Lib.hid hp3; clear k1 k2 k3 hp3))
        go_roundw
        case rel => exact ⟨k + 1, HKK.out, by rw [HK1.out, Int.natCast_add] <;> rfl, Lib.hid (by rw [HE2.out, HE3.out]; exact P3.out)⟩
        case measure =>
          rw [HK1.out]
          exact HMS.out
      · have q97 : decide ((97 : Int) ≤ ((c : Nat) : Int)) = true := decide_eq_true (by omega)
        have q65 : decide ((65 : Int) ≤ ((c : Nat) : Int)) = true := decide_eq_true (by omega)
        have q48 : decide ((48 : Int) ≤ ((c : Nat) : Int)) = true := decide_eq_true (by omega)
        have q33 : decide ((33 : Int) ≤ ((c : Nat) : Int)) = true := decide_eq_true (by omega)
        have q122 : decide (((c : Nat) : Int) ≤ 122) = true := decide_eq_true (by omega)
        have q90 : decide (((c : Nat) : Int) ≤ 90) = false := decide_eq_false (by omega)
        have q57 : decide (((c : Nat) : Int) ≤ 57) = false := decide_eq_false (by omega)
        have q126 : decide (((c : Nat) : Int) ≤ 126) = true := decide_eq_true (by omega)
        have hes : esc1 c = [c] := by unfold esc1 needs isLet; simp; omega
        rw [hes] at hE1
        have HE1 := Lib.hid hE1
        clear hes hE1 hr hc256
        have HN1 := Lib.hid HN.out
        have HX1 := Lib.hid (show N + 1 ≤ maxLen ∧ (N + 1) * 1 ≤ 140737488355328 from ⟨by have := HNB.out; unfold maxLen; omega, by have := HNB.out; omega⟩)
        have HE3 := Lib.hid (show E2 = E ++ [c] from HE1.out)
        go_wp2_with (first | (at_builtin; refine wpList_append_own _ rfl (.tmp 70) (.tmp 72) 26 rfl w.heap.size 5 i0 (.int .u8 0) 1 1 Tryd.underlying26 hi hz0 hz1 hz2 rfl (by decide) (.slice ao (N) co) (N) (cellsOf (E)) rfl (HP.out.row HN1.out _).1 ⟨wr.heap.size, 0, none⟩ 1 1 (cellsOf [c]) rfl rfl (alloc_row _ [c]) (cellsOf_one _) HX1.out.1 HX1.out.2 (HP.out.row HN1.out _).2 ?_; intro v2 w2 k1 k2 k3; obtain ⟨a2, c2, rfl, hp2⟩ := (HP.out.alloc _).nxt HN1.out (c) k1 k2; have P2 := Lib.hid hp2; clear k1 k2 k3 hp2))
        go_roundw
        case rel => exact ⟨k + 1, HKK.out, by rw [HK1.out, Int.natCast_add] <;> rfl, Lib.hid (by rw [HE2.out, HE3.out]; exact P2.out)⟩
        case measure =>
          rw [HK1.out]
          exact HMS.out
      · have q97 : decide ((97 : Int) ≤ ((c : Nat) : Int)) = true := decide_eq_true (by omega)
        have q65 : decide ((65 : Int) ≤ ((c : Nat) : Int)) = true := decide_eq_true (by omega)
        have q48 : decide ((48 : Int) ≤ ((c : Nat) : Int)) = true := decide_eq_true (by omega)
        have q33 : decide ((33 : Int) ≤ ((c : Nat) : Int)) = true := decide_eq_true (by omega)
        have q122 : decide (((c : Nat) : Int) ≤ 122) = false := decide_eq_false (by omega)
        have q90 : decide (((c : Nat) : Int) ≤ 90) = false := decide_eq_false (by omega)
        have q57 : decide (((c : Nat) : Int) ≤ 57) = false := decide_eq_false (by omega)
        have q126 : decide (((c : Nat) : Int) ≤ 126) = true := decide_eq_true (by omega)
        have hes : esc1 c = [92, c] := by unfold esc1 needs isLet; simp; omega
        rw [hes] at hE1
        have HE1 := Lib.hid hE1
        clear hes hE1 hr hc256
        have HN1 := Lib.hid HN.out
        have HX1 := Lib.hid (show N + 1 ≤ maxLen ∧ (N + 1) * 1 ≤ 140737488355328 from ⟨by have := HNB.out; unfold maxLen; omega, by have := HNB.out; omega⟩)
        have HN2 := Lib.hid (show (E ++ [92]).length = N + 1 from by rw [List.length_append, HN.out]; rfl)
        have HX2 := Lib.hid (show N + 1 + 1 ≤ maxLen ∧ (N + 1 + 1) * 1 ≤ 140737488355328 from ⟨by have := HNB.out; unfold maxLen; omega, by have := HNB.out; omega⟩)
        have HE3 := Lib.hid (show E2 = E ++ [92] ++ [c] from by rw [HE1.out, List.append_assoc]; rfl)
        go_wp2_with (first | (at_builtin; refine wpList_append_own _ rfl (.tmp 67) (.tmp 68) 26 rfl w.heap.size 5 i0 (.int .u8 0) 1 1 Tryd.underlying26 hi hz0 hz1 hz2 rfl (by decide) (.slice ao (N) co) (N) (cellsOf (E)) rfl (HP.out.row HN1.out _).1 ⟨wr.heap.size, 0, none⟩ 1 1 (cellsOf [92]) rfl rfl (alloc_row _ [92]) (cellsOf_one _) HX1.out.1 HX1.out.2 (HP.out.row HN1.out _).2 ?_; intro v2 w2 k1 k2 k3; obtain ⟨a2, c2, rfl, hp2⟩ := (HP.out.alloc _).nxt HN1.out (92) k1 k2; have P2 := Lib.hid hp2; clear k1 k2 k3 hp2) | (at_builtin; refine wpList_append_own _ rfl (.tmp 70) (.tmp 72) 26 rfl w.heap.size 5 i0 (.int .u8 0) 1 1 Tryd.underlying26 hi hz0 hz1 hz2 rfl (by decide) (.slice a2 (N + 1) c2) (N + 1) (cellsOf (E ++ [92])) rfl (P2.out.row HN2.out _).1 ⟨w2.heap.size, 0, none⟩ 1 1 (cellsOf [c]) rfl rfl (alloc_row _ [c]) (cellsOf_one _) HX2.out.1 HX2.out.2 (P2.out.row HN2.out _).2 ?_; intro v3 w3 k1 k2 k3; obtain ⟨a3, c3, rfl, hp3⟩ := (P2.out.alloc _).nxt HN2.out (c) k1 k2; have P3 := Lib.hid hp3; clear k1 k2 k3 hp3))
        go_roundw
        case rel => exact ⟨k + 1, HKK.out, by rw [HK1.out, Int.natCast_add] <;> rfl, Lib.hid (by rw [HE2.out, HE3.out]; exact P3.out)⟩
        case measure =>
          rw [HK1.out]
          exact HMS.out
      · have q97 : decide ((97 : Int) ≤ ((c : Nat) : Int)) = true := decide_eq_true (by omega)
        have q65 : decide ((65 : Int) ≤ ((c : Nat) : Int)) = true := decide_eq_true (by omega)
        have q48 : decide ((48 : Int) ≤ ((c : Nat) : Int)) = true := decide_eq_true (by omega)
        have q33 : decide ((33 : Int) ≤ ((c : Nat) : Int)) = true := decide_eq_true (by omega)
        have q122 : decide (((c : Nat) : Int) ≤ 122) = false := decide_eq_false (by omega)
        have q90 : decide (((c : Nat) : Int) ≤ 90) = false := decide_eq_false (by omega)
        have q57 : decide (((c : Nat) : Int) ≤ 57) = false := decide_eq_false (by omega)
        have q126 : decide (((c : Nat) : Int) ≤ 126) = false := decide_eq_false (by omega)
        have hes : esc1 c = [c] := by unfold esc1 needs isLet; simp; omega
        rw [hes] at hE1
        have HE1 := Lib.hid hE1
        clear hes hE1 hr hc256
        have HN1 := Lib.hid HN.out
        have HX1 := Lib.hid (show N + 1 ≤ maxLen ∧ (N + 1) * 1 ≤ 140737488355328 from ⟨by have := HNB.out; unfold maxLen; omega, by have := HNB.out; omega⟩)
        have HE3 := Lib.hid (show E2 = E ++ [c] from HE1.out)
        go_wp2_with (first | (at_builtin; refine wpList_append_own _ rfl (.tmp 70) (.tmp 72) 26 rfl w.heap.size 5 i0 (.int .u8 0) 1 1 Tryd.underlying26 hi hz0 hz1 hz2 rfl (by decide) (.slice ao (N) co) (N) (cellsOf (E)) rfl (HP.out.row HN1.out _).1 ⟨wr.heap.size, 0, none⟩ 1 1 (cellsOf [c]) rfl rfl (alloc_row _ [c]) (cellsOf_one _) HX1.out.1 HX1.out.2 (HP.out.row HN1.out _).2 ?_; intro v2 w2 k1 k2 k3; obtain ⟨a2, c2, rfl, hp2⟩ := (HP.out.alloc _).nxt HN1.out (c) k1 k2; have P2 := Lib.hid hp2; clear k1 k2 k3 hp2))
        go_roundw
        case rel => exact ⟨k + 1, HKK.out, by rw [HK1.out, Int.natCast_add] <;> rfl, Lib.hid (by rw [HE2.out, HE3.out]; exact P2.out)⟩
        case measure =>
          rw [HK1.out]
          exact HMS.out
    · have hkE : k = L := by omega
      subst hkE
      rw [List.take_of_length_le (by rw [HLS.out]; omega)] at HP
      have hcv := conv_own HP.out.own HEI.out
      have C1' := Lib.hid (C1.out wr (HTW.out.below HP.out.below HTW.out.lt))
      clear P0 C1
      go_wp2_with fail
      refine C1'.out.mono ?_
      rintro e w2 ⟨rfl, hb⟩
      have P2 := Lib.hid (show Pw w w2 _ (esc bs) from ⟨HP.out.own.below hb, HP.out.below.trans (hb.mono HP.out.below.size)⟩)
      have hcv2 := conv_own P2.out.own HEI.out
      have C2' := Lib.hid (C2.out w2 (HTW.out.below P2.out.below HTW.out.lt))
      clear hb hcv C1' C2 HP
      go_wp2_with fail
      refine C2'.out.mono ?_
      rintro e w3 ⟨rfl, hb⟩
      have B3 := Lib.hid (P2.out.below.trans (hb.mono P2.out.below.size))
      clear hb hcv2 C2' P2
      rw [hbeq]
      go_wp2
      go_ret
      exact ⟨by simp, B3.out⟩
end Go.Proofs.YtgjdeilclimpdaaDoor
namespace Go.Proofs.YtgjdeilclimpdaaDoor
set_option linter.unusedVariables false
set_option linter.unusedSimpArgs false
open Rx (Set4 RS)
theorem isAt_app (A B : List Nat) (p c : Nat) : Rx.isAt (A ++ B) (A.length + p) c = Rx.isAt B p c := by unfold Rx.isAt; rw [at_append]
theorem isNext_app (A B : List Nat) (p : Nat) (l : List Nat) : Rx.isNext (A ++ B) (A.length + p) l = Rx.isNext B p l := by unfold Rx.isNext; rw [at_append]
theorem digs_app (A B : List Nat) : ∀ n p x, Rx.digs (A ++ B) n (A.length + p) x = (A.length + (Rx.digs B n p x).1, (Rx.digs B n p x).2)
  | 0, p, x => rfl
  | n + 1, p, x => by
    unfold Rx.digs
    rw [at_append]
    cases hb : B[p]? with
    | none => rfl
    | some c =>
      simp only
      split
      · exact digs_app A B n (p + 1) _
      · rfl
theorem number_app (A B : List Nat) (p : Nat) : Rx.number (A ++ B) (A.length + p) = ((Rx.number B p).1, (Rx.number B p).2.1, A.length + (Rx.number B p).2.2) := by
  unfold Rx.number
  rw [digs_app]
  simp
theorem boundsEnd_app (A B : List Nat) (l : Nat) (m : Option Nat) (p : Nat) : Rx.boundsEnd (A ++ B) l m (A.length + p) = ((Rx.boundsEnd B l m p).1, A.length + (Rx.boundsEnd B l m p).2) := by
  unfold Rx.boundsEnd
  rw [isAt_app]
  split <;> rfl
theorem bounds2_app (A B : List Nat) (l p : Nat) : Rx.bounds2 (A ++ B) l (A.length + p) = ((Rx.bounds2 B l p).1, A.length + (Rx.bounds2 B l p).2) := by
  unfold Rx.bounds2
  rw [isNext_app, number_app]
  simp only
  split
  · exact boundsEnd_app A B l none p
  · split
    · exact boundsEnd_app A B l _ _
    · rfl
theorem bounds_app (A B : List Nat) (p : Nat) : Rx.bounds (A ++ B) (A.length + p) = ((Rx.bounds B p).1, A.length + (Rx.bounds B p).2) := by
  unfold Rx.bounds
  rw [number_app]
  simp only
  rw [isAt_app]
  split
  · split
    · rw [Nat.add_assoc]; exact bounds2_app A B _ _
    · exact boundsEnd_app A B _ _ _
  · rfl
theorem sg_only : ∀ c, c < 256 → sg (Set4.only c) = some c := by decide +kernel
theorem join_none (x : Set4) : Set4.none.join x = x := by
  cases x
  unfold Set4.none Set4.join
  simp
def preC (c : Nat) : List Nat := 91 :: (esc1 c ++ [93])
def tailT (l : Nat) (m : Option Nat) (c : Nat) : Rx.Node := .alt [.seq [.count l m false false (.byte (Set4.only c))]]
/-- the class -/
theorem class_one (c : Nat) (hc : c < 256) (B : List Nat) : Rx.classSet sg (preC c ++ B) 0 = (some (Set4.only c), (preC c).length) := by
  by_cases hn : needs c = true
  · have e1 : esc1 c = [92, c] := by unfold esc1; rw [if_pos hn]
    have hb : preC c ++ B = 91 :: 92 :: c :: 93 :: B := by unfold preC; rw [e1]; rfl
    have hl : (preC c).length = 4 := by unfold preC; rw [e1]; rfl
    have g1 : (91 :: 92 :: c :: 93 :: B)[1]? = some 92 := rfl
    have g2 : (91 :: 92 :: c :: 93 :: B)[2]? = some c := rfl
    have g3 : (91 :: 92 :: c :: 93 :: B)[3]? = some 93 := rfl
    have hpe : Rx.plainOrEscape (91 :: 92 :: c :: 93 :: B) 1 = (some (Set4.only c), 3) := by
      unfold Rx.plainOrEscape Rx.peEnd
      rw [isAt_get g1, g2]
      simp [mean_only c hc hn, only_some c hc]
    have hit1 : Rx.item (91 :: 92 :: c :: 93 :: B) 1 = (some (Set4.only c), 3) := by
      unfold Rx.item
      rw [isNext_get g1, if_neg (by simp)]
      exact hpe
    have hit : Rx.items sg (91 :: 92 :: c :: 93 :: B) 1 1 = (some (Set4.only c), 3) := by
      unfold Rx.items
      rw [if_neg (by omega), hit1]
      simp only [sg_only c hc]
      unfold Rx.dashBetween
      rw [isNext_get g3]
      simp
    rw [hb, hl]
    unfold Rx.classSet
    rw [isAt_get g1]
    simp only [show ¬ (92 : Nat) = 94 by decide, decide_false, Bool.false_eq_true, if_false, Nat.zero_add]
    rw [Rx.classLoop, hit]
    simp only [ne_eq, not_true, false_and, if_false, join_none]
    rw [List.length_cons, Rx.classLoop, isAt_get g3]
    simp
  · have e1 : esc1 c = [c] := by unfold esc1; rw [if_neg hn]
    have hb : preC c ++ B = 91 :: c :: 93 :: B := by unfold preC; rw [e1]; rfl
    have hl : (preC c).length = 3 := by unfold preC; rw [e1]; rfl
    have hpl := plain_all c hc (by simpa using hn)
    unfold plainC at hpl
    simp at hpl
    have h93 : c ≠ 93 := by
      intro e; subst e
      exact hn (by decide)
    have g1 : (91 :: c :: 93 :: B)[1]? = some c := rfl
    have g2 : (91 :: c :: 93 :: B)[2]? = some 93 := rfl
    have hpe : Rx.plainOrEscape (91 :: c :: 93 :: B) 1 = (some (Set4.only c), 2) := by
      unfold Rx.plainOrEscape Rx.peEnd
      rw [isAt_get g1, g1]
      simp [hpl, only_some c hc]
    have hit1 : Rx.item (91 :: c :: 93 :: B) 1 = (some (Set4.only c), 2) := by
      unfold Rx.item
      rw [isNext_get g1, if_neg (by simp [h93])]
      exact hpe
    have hit : Rx.items sg (91 :: c :: 93 :: B) 1 1 = (some (Set4.only c), 2) := by
      unfold Rx.items
      rw [if_neg (by omega), hit1]
      simp only [sg_only c hc]
      unfold Rx.dashBetween
      rw [isNext_get g2]
      simp
    rw [hb, hl]
    unfold Rx.classSet
    rw [isAt_get g1]
    simp only [hpl, decide_false, Bool.false_eq_true, if_false, Nat.zero_add]
    rw [Rx.classLoop, hit]
    simp only [ne_eq, not_true, false_and, if_false, join_none]
    rw [List.length_cons, Rx.classLoop, isAt_get g2]
    simp
/-- what stands behind the class -/
structure CntTail (B : List Nat) (l : Nat) (m : Option Nat) : Prop where
  head : B[0]? = some 123
  bnd : Rx.bounds B 1 = (some (l, m), B.length)
  len : B.length ≤ 10
theorem parse_times (c : Nat) (hc : c < 256) (B : List Nat) (l : Nat) (m : Option Nat) (h : CntTail B l m) : Rx.parse sg (preC c ++ B) = (some (tailT l m c), Rx.st0.to (preC c ++ B).length) := by
  obtain ⟨f, hf⟩ : ∃ f, Rx.pat sg (preC c ++ B) (preC c ++ B).length = f := ⟨_, rfl⟩
  have h0 : (preC c ++ B)[0]? = some 91 := rfl
  have hq : ∀ k, (preC c ++ B)[(preC c).length + k]? = B[k]? := fun k => at_append _ _ _
  have hat : Rx.atom sg f (preC c ++ B) Rx.st0 = (some (.byte (Set4.only c)), Rx.st0.to (preC c).length) := by
    unfold Rx.atom
    rw [show Rx.st0.at' = 0 from rfl, isNext_get h0, isNext_get h0, isNext_get h0, class_one c hc B]
    rfl
  have hlz : ∀ st : RS, st.at' = (preC c ++ B).length → Rx.lazyEnd (preC c ++ B) st l m false (.byte (Set4.only c)) = (some (.count l m false false (.byte (Set4.only c))), st) := by
    intro st hst
    unfold Rx.lazyEnd
    rw [isAt_no (by rw [hst]; simp)]
    rfl
  have hct : Rx.countOf (preC c ++ B) (.byte (Set4.only c)) (Rx.st0.to (preC c).length) = (some (.count l m false false (.byte (Set4.only c))), Rx.st0.to (preC c ++ B).length) := by
    have g0 : (preC c ++ B)[(preC c).length]? = some 123 := by rw [← Nat.add_zero (preC c).length, hq]; exact h.head
    unfold Rx.countOf
    rw [show (Rx.st0.to (preC c).length).at' = (preC c).length from rfl, isAt_get g0, isAt_get g0, isAt_get g0, isAt_get g0, bounds_app, h.bnd]
    simp only [show ¬ (123 : Nat) = 42 by decide, show ¬ (123 : Nat) = 43 by decide, show ¬ (123 : Nat) = 63 by decide, decide_false, decide_true, Bool.false_eq_true, if_false, if_true]
    have e : (Rx.st0.to (preC c).length).to ((preC c).length + B.length) = Rx.st0.to (preC c ++ B).length := by rw [List.length_append]; rfl
    rw [e]
    exact hlz _ rfl
  have hbr : Rx.branchLoop sg f (preC c ++ B) ((preC c ++ B).length + 1) [] Rx.st0 = (some [.count l m false false (.byte (Set4.only c))], Rx.st0.to (preC c ++ B).length) := by
    have hl2 : ∃ N, (preC c ++ B).length = N + 1 := ⟨(esc1 c ++ [93] ++ B).length, by simp [preC]⟩
    obtain ⟨N, hN⟩ := hl2
    rw [Rx.branchLoop]
    have hgo : Rx.goesOn (preC c ++ B) Rx.st0.at' = true := by unfold Rx.goesOn; rw [show Rx.st0.at' = 0 from rfl, h0]; rfl
    rw [hgo]
    unfold Rx.piece
    rw [hat]
    simp only [if_true]
    rw [hct]
    simp only
    rw [hN, Rx.branchLoop]
    have hend : Rx.goesOn (preC c ++ B) (Rx.st0.to (N + 1)).at' = false := by
      unfold Rx.goesOn
      rw [show (Rx.st0.to (N + 1)).at' = N + 1 from rfl, ← hN, List.getElem?_eq_none (Nat.le_refl _)]
    rw [hend]
    rfl
  unfold Rx.parse
  rw [Rx.pat, hf, Rx.patLoop]
  unfold Rx.branch
  rw [hbr]
  simp only
  rw [isAt_no (by show (preC c ++ B)[(preC c ++ B).length]? = none; simp)]
  rfl
theorem wf_times (l : Nat) (m : Option Nat) (c : Nat) (h : ∀ M, m = some M → l ≤ M) : Rx.Wf (tailT l m c) := by
  unfold tailT Rx.Wf Rx.WfAll
  refine ⟨by simp, ?_, by unfold Rx.WfAll; trivial⟩
  unfold Rx.Wf Rx.WfAll
  refine ⟨?_, by unfold Rx.WfAll; trivial⟩
  rw [Rx.Wf]
  exact ⟨by unfold Rx.Wf; trivial, h, fun h => by cases h⟩
theorem states_times (l : Nat) (m : Option Nat) (c : Nat) (hl : l ≤ 100) (hm : ∀ M, m = some M → M ≤ 100) : Rx.states (tailT l m c) ≤ 999 := by
  unfold tailT Rx.states Rx.statesAll Rx.statesAll Rx.states Rx.statesAll Rx.statesAll Rx.states Rx.statesOf
  have e : Rx.states (.byte (Set4.only c)) = 1 := by unfold Rx.states; rfl
  rw [e]
  cases m with
  | none => simp; omega
  | some M => have := hm M rfl; simp; omega
theorem compile_times (c : Nat) (hc : c < 256) (B : List Nat) (l : Nat) (m : Option Nat) (h : CntTail B l m) (hl : l ≤ 100) (hm : ∀ M, m = some M → M ≤ 100) : Rx.compile sg (preC c ++ B) = .ok (tailT l m c, 0) := by
  have hp := parse_times c hc B l m h
  have hlen : (preC c ++ B).length ≤ 20 := by
    have := h.len
    unfold preC esc1
    split <;> simp <;> omega
  unfold Rx.compile
  rw [if_neg (by omega), hp]
  simp only
  have hs := states_times l m c hl hm
  rw [if_neg (by simp [RS.to]), if_neg (by simp [RS.to, Rx.st0]; omega)]
  rfl
theorem reps_one (c k : Nat) (hc : c < 256) : ∀ n i j, Rx.Reps (Rx.Fits (List.replicate k c) (.byte (Set4.only c))) n i j ↔ (j = i + n ∧ (n = 0 ∨ j ≤ k))
  | 0, i, j => by
    unfold Rx.Reps
    constructor
    · intro h; exact ⟨by omega, .inl rfl⟩
    · rintro ⟨h, _⟩; omega
  | n + 1, i, j => by
    unfold Rx.Reps
    constructor
    · rintro ⟨q, h1, h2⟩
      rw [reps_one c k hc n q j] at h2
      unfold Rx.Fits at h1
      obtain ⟨b, e1, _, rfl⟩ := h1
      have hlt := (List.getElem?_eq_some_iff.1 e1).1
      rw [List.length_replicate] at hlt
      refine ⟨by omega, .inr ?_⟩
      rcases h2.2 with h | h <;> omega
    · rintro ⟨rfl, h⟩
      have hi : i < k := by omega
      refine ⟨i + 1, ?_, (reps_one c k hc n (i + 1) _).2 ⟨by omega, by omega⟩⟩
      unfold Rx.Fits
      exact ⟨c, by simp [List.getElem?_replicate, hi], by rw [Rx.only_has c c hc hc]; simp, rfl⟩
def inB (l : Nat) (m : Option Nat) (k : Nat) : Bool := decide (l ≤ k) && (match m with
  | none => true
  | some M => decide (k ≤ M))
theorem fitB_times (c k : Nat) (hc : c < 256) (l : Nat) (m : Option Nat) (h : ∀ M, m = some M → l ≤ M) : fitB (tailT l m c) (List.replicate k c) = inB l m k := by
  unfold fitB
  have hm := Rx.match_iff (tailT l m c) (wf_times l m c h) (List.replicate k c) false
  have h2 : Rx.Fits (List.replicate k c) (tailT l m c) 0 (List.replicate k c).length ↔ inB l m k = true := by
    unfold tailT Rx.Fits Rx.FitsAlt Rx.FitsAlt
    rw [Rx.Fits, Rx.FitsSeq, List.length_replicate]
    have e : (∃ q, Rx.Fits (List.replicate k c) (.count l m false false (.byte (Set4.only c))) 0 q ∧ Rx.FitsSeq (List.replicate k c) [] q k) ↔ Rx.Fits (List.replicate k c) (.count l m false false (.byte (Set4.only c))) 0 k := by
      constructor
      · rintro ⟨q, h1, h3⟩
        unfold Rx.FitsSeq at h3
        subst h3
        exact h1
      · intro h1
        exact ⟨k, h1, by unfold Rx.FitsSeq; rfl⟩
    rw [e, or_false, Rx.Fits]
    constructor
    · rintro ⟨n, h1, h3, h4⟩
      rw [reps_one c k hc] at h4
      have : n = k := by omega
      subst this
      unfold inB
      rw [decide_eq_true h1]
      cases m with
      | none => rfl
      | some M => simp; exact h3 M rfl
    · intro hi
      unfold inB at hi
      rw [Bool.and_eq_true] at hi
      refine ⟨k, by simpa using hi.1, fun M hM => ?_, (reps_one c k hc k 0 k).2 ⟨by omega, by omega⟩⟩
      subst hM
      simpa using hi.2
  rw [h2] at hm
  exact Bool.eq_iff_iff.2 hm
theorem fitsV_times (c k : Nat) (hc : c < 256) (B : List Nat) (l : Nat) (m : Option Nat) (h : CntTail B l m) (hl : l ≤ 100) (hm : ∀ M, m = some M → l ≤ M ∧ M ≤ 100) : fitsV (preC c ++ B) (List.replicate k c) = (true, inB l m k) := by
  unfold fitsV
  rw [compile_times c hc B l m h hl fun M hM => (hm M hM).2]
  simp only
  rw [fitB_times c k hc l m fun M hM => (hm M hM).1]
/-- a number, base ten -/
def dgL (n : Nat) : List Nat := if n < 10 then [48 + n] else [48 + n / 10, 48 + n % 10]
theorem tailA0 : ∀ x, x < 144 → (Rx.bounds ([123] ++ dgL (x / 12) ++ [44] ++ dgL (x / 12 + x % 12) ++ [125]) 1 = (some (x / 12, some (x / 12 + x % 12)), ([123] ++ dgL (x / 12) ++ [44] ++ dgL (x / 12 + x % 12) ++ [125]).length) ∧ ([123] ++ dgL (x / 12) ++ [44] ++ dgL (x / 12 + x % 12) ++ [125]).length ≤ 10) := by decide +kernel
theorem tailA (l d : Nat) (hl : l < 12) (hd : d < 12) : Rx.bounds ([123] ++ dgL l ++ [44] ++ dgL (l + d) ++ [125]) 1 = (some (l, some (l + d)), ([123] ++ dgL l ++ [44] ++ dgL (l + d) ++ [125]).length) ∧ ([123] ++ dgL l ++ [44] ++ dgL (l + d) ++ [125]).length ≤ 10 := by
  have h := tailA0 (12 * l + d) (by omega)
  rw [show (12 * l + d) / 12 = l by omega, show (12 * l + d) % 12 = d by omega] at h
  exact h
theorem tailB : ∀ l, l < 12 → (Rx.bounds ([123] ++ dgL l ++ [44, 125]) 1 = (some (l, none), ([123] ++ dgL l ++ [44, 125]).length) ∧ ([123] ++ dgL l ++ [44, 125]).length ≤ 10) := by decide +kernel
theorem tailC : ∀ l, l < 12 → (Rx.bounds ([123] ++ dgL l ++ [125]) 1 = (some (l, some l), ([123] ++ dgL l ++ [125]).length) ∧ ([123] ++ dgL l ++ [125]).length ≤ 10) := by decide +kernel
end Go.Proofs.YtgjdeilclimpdaaDoor
namespace Go.Proofs.YtgjdeilclimpdaaDoor
set_option linter.unusedVariables false
set_option linter.unusedSimpArgs false
open Go.RowKit Go.PlainAid Go.Shelf
theorem conv_laid (W : World) (ds : List Nat) (hB : IsB ds) (hl : ds.length ≤ maxLen) (n : Nat) (hn : ds.length = n) : (convert 26 9 (.slice (some ⟨W.heap.size, 0, none⟩) n n)).run Tryd.prog (W.alloc (.cells (cellsOf ds).toArray 5)) = .ok (.string (strOf ds)) (W.alloc (.cells (cellsOf ds).toArray 5)) := by
  subst hn
  exact conv_own (Own.laid W ds hl 0 (Nat.zero_le _)) hB
theorem strOf_append (a b : List Nat) : strOf a ++ strOf b = strOf (a ++ b) := by
  apply ByteArray.ext
  rw [ByteArray.data_append]
  unfold strOf
  simp
set_option maxHeartbeats 4000000 in
set_option maxRecDepth 100000 in
theorem hex_any (c : Nat) (hc256 : c < 256) (w : World) : Calls Tryd.prog 8 #[.int .u8 ((c : Nat) : Int)] w (Gives w (.string (strOf (esc1 c)))) := by
  have hcv1 : ∀ W : World, (convert 26 9 (.slice (some ⟨W.heap.size, 0, none⟩) 1 1)).run Tryd.prog (W.alloc (.cells #[.int .u8 ((c : Nat) : Int)] 5)) = .ok (.string (strOf [c])) (W.alloc (.cells #[.int .u8 ((c : Nat) : Int)] 5)) := fun W => conv_laid W [c] (IsB.cons hc256 IsB.nil) (by unfold maxLen; simp) 1 rfl
  have hcv2 : ∀ W : World, (convert 26 9 (.slice (some ⟨W.heap.size, 0, none⟩) 2 2)).run Tryd.prog (W.alloc (.cells #[.int .u8 92, .int .u8 ((c : Nat) : Int)] 5)) = .ok (.string (strOf [92, c])) (W.alloc (.cells #[.int .u8 92, .int .u8 ((c : Nat) : Int)] 5)) := fun W => conv_laid W [92, c] (IsB.cons (by decide) (IsB.cons hc256 IsB.nil)) (by unfold maxLen; simp) 2 rfl
  have hsp : c ≤ 32 ∨ (33 ≤ c ∧ c ≤ 47) ∨ (48 ≤ c ∧ c ≤ 57) ∨ (58 ≤ c ∧ c ≤ 64) ∨ (65 ≤ c ∧ c ≤ 90) ∨ (91 ≤ c ∧ c ≤ 96) ∨ (97 ≤ c ∧ c ≤ 122) ∨ (123 ≤ c ∧ c ≤ 126) ∨ 127 ≤ c := by omega
  rcases hsp with hr | hr | hr | hr | hr | hr | hr | hr | hr
  · have q97 : decide ((97 : Int) ≤ ((c : Nat) : Int)) = false := decide_eq_false (by omega)
    have q65 : decide ((65 : Int) ≤ ((c : Nat) : Int)) = false := decide_eq_false (by omega)
    have q48 : decide ((48 : Int) ≤ ((c : Nat) : Int)) = false := decide_eq_false (by omega)
    have q33 : decide ((33 : Int) ≤ ((c : Nat) : Int)) = false := decide_eq_false (by omega)
    have q122 : decide (((c : Nat) : Int) ≤ 122) = true := decide_eq_true (by omega)
    have q90 : decide (((c : Nat) : Int) ≤ 90) = true := decide_eq_true (by omega)
    have q57 : decide (((c : Nat) : Int) ≤ 57) = true := decide_eq_true (by omega)
    have q126 : decide (((c : Nat) : Int) ≤ 126) = true := decide_eq_true (by omega)
    have hes : esc1 c = [c] := by unfold esc1 needs isLet; simp; omega
    rw [hes]
    clear hes hr hc256
    go_enter Tryd.func8, Tryd.ntmps8
    go_wp2
    go_ret
    exact ⟨rfl, (Below.refl _ w).alloc (Nat.le_refl _) _⟩
  · have q97 : decide ((97 : Int) ≤ ((c : Nat) : Int)) = false := decide_eq_false (by omega)
    have q65 : decide ((65 : Int) ≤ ((c : Nat) : Int)) = false := decide_eq_false (by omega)
    have q48 : decide ((48 : Int) ≤ ((c : Nat) : Int)) = false := decide_eq_false (by omega)
    have q33 : decide ((33 : Int) ≤ ((c : Nat) : Int)) = true := decide_eq_true (by omega)
    have q122 : decide (((c : Nat) : Int) ≤ 122) = true := decide_eq_true (by omega)
    have q90 : decide (((c : Nat) : Int) ≤ 90) = true := decide_eq_true (by omega)
    have q57 : decide (((c : Nat) : Int) ≤ 57) = true := decide_eq_true (by omega)
    have q126 : decide (((c : Nat) : Int) ≤ 126) = true := decide_eq_true (by omega)
    have hes : esc1 c = [92, c] := by unfold esc1 needs isLet; simp; omega
    rw [hes]
    clear hes hr hc256
    go_enter Tryd.func8, Tryd.ntmps8
    go_wp2
    go_ret
    exact ⟨rfl, (Below.refl _ w).alloc (Nat.le_refl _) _⟩
  · have q97 : decide ((97 : Int) ≤ ((c : Nat) : Int)) = false := decide_eq_false (by omega)
    have q65 : decide ((65 : Int) ≤ ((c : Nat) : Int)) = false := decide_eq_false (by omega)
    have q48 : decide ((48 : Int) ≤ ((c : Nat) : Int)) = true := decide_eq_true (by omega)
    have q33 : decide ((33 : Int) ≤ ((c : Nat) : Int)) = true := decide_eq_true (by omega)
    have q122 : decide (((c : Nat) : Int) ≤ 122) = true := decide_eq_true (by omega)
    have q90 : decide (((c : Nat) : Int) ≤ 90) = true := decide_eq_true (by omega)
    have q57 : decide (((c : Nat) : Int) ≤ 57) = true := decide_eq_true (by omega)
    have q126 : decide (((c : Nat) : Int) ≤ 126) = true := decide_eq_true (by omega)
    have hes : esc1 c = [c] := by unfold esc1 needs isLet; simp; omega
    rw [hes]
    clear hes hr hc256
    go_enter Tryd.func8, Tryd.ntmps8
    go_wp2
    go_ret
    exact ⟨rfl, (Below.refl _ w).alloc (Nat.le_refl _) _⟩
  · have q97 : decide ((97 : Int) ≤ ((c : Nat) : Int)) = false := decide_eq_false (by omega)
    have q65 : decide ((65 : Int) ≤ ((c : Nat) : Int)) = false := decide_eq_false (by omega)
    have q48 : decide ((48 : Int) ≤ ((c : Nat) : Int)) = true := decide_eq_true (by omega)
    have q33 : decide ((33 : Int) ≤ ((c : Nat) : Int)) = true := decide_eq_true (by omega)
    have q122 : decide (((c : Nat) : Int) ≤ 122) = true := decide_eq_true (by omega)
    have q90 : decide (((c : Nat) : Int) ≤ 90) = true := decide_eq_true (by omega)
    have q57 : decide (((c : Nat) : Int) ≤ 57) = false := decide_eq_false (by omega)
    have q126 : decide (((c : Nat) : Int) ≤ 126) = true := decide_eq_true (by omega)
    have hes : esc1 c = [92, c] := by unfold esc1 needs isLet; simp; omega
    rw [hes]
    clear hes hr hc256
    go_enter Tryd.func8, Tryd.ntmps8
    go_wp2
    go_ret
    exact ⟨rfl, (Below.refl _ w).alloc (Nat.le_refl _) _⟩
  · have q97 : decide ((97 : Int) ≤ ((c : Nat) : Int)) = false := decide_eq_false (by omega)
    have q65 : decide ((65 : Int) ≤ ((c : Nat) : Int)) = true := decide_eq_true (by omega)
    have q48 : decide ((48 : Int) ≤ ((c : Nat) : Int)) = true := decide_eq_true (by omega)
    have q33 : decide ((33 : Int) ≤ ((c : Nat) : Int)) = true := decide_eq_true (by omega)
    have q122 : decide (((c : Nat) : Int) ≤ 122) = true := decide_eq_true (by omega)
    have q90 : decide (((c : Nat) : Int) ≤ 90) = true := decide_eq_true (by omega)
    have q57 : decide (((c : Nat) : Int) ≤ 57) = false := decide_eq_false (by omega)
    have q126 : decide (((c : Nat) : Int) ≤ 126) = true := decide_eq_true (by omega)
    have hes : esc1 c = [c] := by unfold esc1 needs isLet; simp; omega
    rw [hes]
    clear hes hr hc256
    go_enter Tryd.func8, Tryd.ntmps8
    go_wp2
    go_ret
    exact ⟨rfl, (Below.refl _ w).alloc (Nat.le_refl _) _⟩
  · have q97 : decide ((97 : Int) ≤ ((c : Nat) : Int)) = false := decide_eq_false (by omega)
    have q65 : decide ((65 : Int) ≤ ((c : Nat) : Int)) = true := decide_eq_true (by omega)
    have q48 : decide ((48 : Int) ≤ ((c : Nat) : Int)) = true := decide_eq_true (by omega)
    have q33 : decide ((33 : Int) ≤ ((c : Nat) : Int)) = true := decide_eq_true (by omega)
    have q122 : decide (((c : Nat) : Int) ≤ 122) = true := decide_eq_true (by omega)
    have q90 : decide (((c : Nat) : Int) ≤ 90) = false := decide_eq_false (by omega)
    have q57 : decide (((c : Nat) : Int) ≤ 57) = false := decide_eq_false (by omega)
    have q126 : decide (((c : Nat) : Int) ≤ 126) = true := decide_eq_true (by omega)
    have hes : esc1 c = [92, c] := by unfold esc1 needs isLet; simp; omega
    rw [hes]
    clear hes hr hc256
    go_enter Tryd.func8, Tryd.ntmps8
    go_wp2
    go_ret
    exact ⟨rfl, (Below.refl _ w).alloc (Nat.le_refl _) _⟩
  · have q97 : decide ((97 : Int) ≤ ((c : Nat) : Int)) = true := decide_eq_true (by omega)
    have q65 : decide ((65 : Int) ≤ ((c : Nat) : Int)) = true := decide_eq_true (by omega)
    have q48 : decide ((48 : Int) ≤ ((c : Nat) : Int)) = true := decide_eq_true (by omega)
    have q33 : decide ((33 : Int) ≤ ((c : Nat) : Int)) = true := decide_eq_true (by omega)
    have q122 : decide (((c : Nat) : Int) ≤ 122) = true := decide_eq_true (by omega)
    have q90 : decide (((c : Nat) : Int) ≤ 90) = false := decide_eq_false (by omega)
    have q57 : decide (((c : Nat) : Int) ≤ 57) = false := decide_eq_false (by omega)
    have q126 : decide (((c : Nat) : Int) ≤ 126) = true := decide_eq_true (by omega)
    have hes : esc1 c = [c] := by unfold esc1 needs isLet; simp; omega
    rw [hes]
    clear hes hr hc256
    go_enter Tryd.func8, Tryd.ntmps8
    go_wp2
    go_ret
    exact ⟨rfl, (Below.refl _ w).alloc (Nat.le_refl _) _⟩
  · have q97 : decide ((97 : Int) ≤ ((c : Nat) : Int)) = true := decide_eq_true (by omega)
    have q65 : decide ((65 : Int) ≤ ((c : Nat) : Int)) = true := decide_eq_true (by omega)
    have q48 : decide ((48 : Int) ≤ ((c : Nat) : Int)) = true := decide_eq_true (by omega)
    have q33 : decide ((33 : Int) ≤ ((c : Nat) : Int)) = true := decide_eq_true (by omega)
    have q122 : decide (((c : Nat) : Int) ≤ 122) = false := decide_eq_false (by omega)
    have q90 : decide (((c : Nat) : Int) ≤ 90) = false := decide_eq_false (by omega)
    have q57 : decide (((c : Nat) : Int) ≤ 57) = false := decide_eq_false (by omega)
    have q126 : decide (((c : Nat) : Int) ≤ 126) = true := decide_eq_true (by omega)
    have hes : esc1 c = [92, c] := by unfold esc1 needs isLet; simp; omega
    rw [hes]
    clear hes hr hc256
    go_enter Tryd.func8, Tryd.ntmps8
    go_wp2
    go_ret
    exact ⟨rfl, (Below.refl _ w).alloc (Nat.le_refl _) _⟩
  · have q97 : decide ((97 : Int) ≤ ((c : Nat) : Int)) = true := decide_eq_true (by omega)
    have q65 : decide ((65 : Int) ≤ ((c : Nat) : Int)) = true := decide_eq_true (by omega)
    have q48 : decide ((48 : Int) ≤ ((c : Nat) : Int)) = true := decide_eq_true (by omega)
    have q33 : decide ((33 : Int) ≤ ((c : Nat) : Int)) = true := decide_eq_true (by omega)
    have q122 : decide (((c : Nat) : Int) ≤ 122) = false := decide_eq_false (by omega)
    have q90 : decide (((c : Nat) : Int) ≤ 90) = false := decide_eq_false (by omega)
    have q57 : decide (((c : Nat) : Int) ≤ 57) = false := decide_eq_false (by omega)
    have q126 : decide (((c : Nat) : Int) ≤ 126) = false := decide_eq_false (by omega)
    have hes : esc1 c = [c] := by unfold esc1 needs isLet; simp; omega
    rw [hes]
    clear hes hr hc256
    go_enter Tryd.func8, Tryd.ntmps8
    go_wp2
    go_ret
    exact ⟨rfl, (Below.refl _ w).alloc (Nat.le_refl _) _⟩
set_option maxHeartbeats 4000000 in
set_option maxRecDepth 100000 in
theorem digit_one (n : Nat) (hn : n < 10) (w : World) : Calls Tryd.prog 9 #[.int .i64 ((n : Nat) : Int)] w (Gives w (.string (strOf [48 + n]))) := by
  have h48 : ((48 + n : Nat) : Int) = 48 + ((n : Nat) : Int) := by omega
  have hcv1 : ∀ W : World, (convert 26 9 (.slice (some ⟨W.heap.size, 0, none⟩) 1 1)).run Tryd.prog (W.alloc (.cells #[.int .u8 (48 + ((n : Nat) : Int))] 5)) = .ok (.string (strOf [48 + n])) (W.alloc (.cells #[.int .u8 (48 + ((n : Nat) : Int))] 5)) := fun W => by
    have := conv_laid W [48 + n] (IsB.cons (by omega) IsB.nil) (by unfold maxLen; simp) 1 rfl
    simp only [cellsOf, List.map_cons, List.map_nil, h48] at this
    exact this
  have hd : decide (((n : Nat) : Int) < 10) = true := decide_eq_true (by omega)
  have hw1 : IntKind.u8.wrap ((n : Nat) : Int) = ((n : Nat) : Int) := by rw [IntKind.wrap_u8]; omega
  have hw2 : IntKind.u8.wrap (48 + ((n : Nat) : Int)) = 48 + ((n : Nat) : Int) := by rw [IntKind.wrap_u8]; omega
  clear h48
  go_enter Tryd.func9, Tryd.ntmps9
  go_wp2
  go_ret
  exact ⟨rfl, (Below.refl _ w).alloc (Nat.le_refl _) _⟩
set_option maxHeartbeats 4000000 in
set_option maxRecDepth 100000 in
theorem digits_any (n : Nat) (hn : n < 23) (w : World) : Calls Tryd.prog 9 #[.int .i64 ((n : Nat) : Int)] w (Gives w (.string (strOf (dgL n)))) := by
  by_cases h10 : n < 10
  · rw [show dgL n = [48 + n] by unfold dgL; rw [if_pos h10]]
    exact digit_one n h10 w
  · rcases (show n = 10 ∨ n = 11 ∨ n = 12 ∨ n = 13 ∨ n = 14 ∨ n = 15 ∨ n = 16 ∨ n = 17 ∨ n = 18 ∨ n = 19 ∨ n = 20 ∨ n = 21 ∨ n = 22 from by omega) with rfl | rfl | rfl | rfl | rfl | rfl | rfl | rfl | rfl | rfl | rfl | rfl | rfl
    · have C1 := fun w => digit_one 1 (by decide) w
      have C2 := fun w => digit_one 0 (by decide) w
      rw [show ((1 : Nat) : Int) = 1 from rfl] at C1
      rw [show ((0 : Nat) : Int) = 0 from rfl] at C2
      have C1 := Lib.hid C1
      have C2 := Lib.hid C2
      rw [show dgL 10 = [48 + 1] ++ [48 + 0] from rfl, ← strOf_append, show ((10 : Nat) : Int) = 10 from rfl]
      have s1 : (strOf [48 + 1]).size = 1 := by rw [strOf_size]; rfl
      have s2 : (strOf [48 + 0]).size = 1 := by rw [strOf_size]; rfl
      generalize strOf [48 + 1] = A at C1 s1 ⊢
      generalize strOf [48 + 0] = B at C2 s2 ⊢
      have hsm : A.size + B.size ≤ 9223372036854775807 := by omega
      have hsm2 : ¬ 9223372036854775807 < A.size + B.size := by omega
      clear hn h10
      go_enter Tryd.func9, Tryd.ntmps9
      go_wp2_with fail
      refine (C1.out _).mono ?_
      rintro e w1 ⟨rfl, hb1⟩
      go_wp2_with fail
      refine (C2.out _).mono ?_
      rintro e w2 ⟨rfl, hb2⟩
      have HB := Lib.hid (hb1.trans (hb2.mono hb1.size))
      clear hb1 hb2
      go_wp2
      go_ret
      exact ⟨rfl, HB.out⟩
    · have C1 := fun w => digit_one 1 (by decide) w
      have C2 := fun w => digit_one 1 (by decide) w
      rw [show ((1 : Nat) : Int) = 1 from rfl] at C1
      rw [show ((1 : Nat) : Int) = 1 from rfl] at C2
      have C1 := Lib.hid C1
      have C2 := Lib.hid C2
      rw [show dgL 11 = [48 + 1] ++ [48 + 1] from rfl, ← strOf_append, show ((11 : Nat) : Int) = 11 from rfl]
      have s1 : (strOf [48 + 1]).size = 1 := by rw [strOf_size]; rfl
      have s2 : (strOf [48 + 1]).size = 1 := by rw [strOf_size]; rfl
      generalize strOf [48 + 1] = A at C1 C2 s1 s2 ⊢
      have hsm : A.size + A.size ≤ 9223372036854775807 := by omega
      have hsm2 : ¬ 9223372036854775807 < A.size + A.size := by omega
      clear hn h10
      go_enter Tryd.func9, Tryd.ntmps9
      go_wp2_with fail
      refine (C1.out _).mono ?_
      rintro e w1 ⟨rfl, hb1⟩
      go_wp2_with fail
      refine (C2.out _).mono ?_
      rintro e w2 ⟨rfl, hb2⟩
      have HB := Lib.hid (hb1.trans (hb2.mono hb1.size))
      clear hb1 hb2
      go_wp2
      go_ret
      exact ⟨rfl, HB.out⟩
    · have C1 := fun w => digit_one 1 (by decide) w
      have C2 := fun w => digit_one 2 (by decide) w
      rw [show ((1 : Nat) : Int) = 1 from rfl] at C1
      rw [show ((2 : Nat) : Int) = 2 from rfl] at C2
      have C1 := Lib.hid C1
      have C2 := Lib.hid C2
      rw [show dgL 12 = [48 + 1] ++ [48 + 2] from rfl, ← strOf_append, show ((12 : Nat) : Int) = 12 from rfl]
      have s1 : (strOf [48 + 1]).size = 1 := by rw [strOf_size]; rfl
      have s2 : (strOf [48 + 2]).size = 1 := by rw [strOf_size]; rfl
      generalize strOf [48 + 1] = A at C1 s1 ⊢
      generalize strOf [48 + 2] = B at C2 s2 ⊢
      have hsm : A.size + B.size ≤ 9223372036854775807 := by omega
      have hsm2 : ¬ 9223372036854775807 < A.size + B.size := by omega
      clear hn h10
      go_enter Tryd.func9, Tryd.ntmps9
      go_wp2_with fail
      refine (C1.out _).mono ?_
      rintro e w1 ⟨rfl, hb1⟩
      go_wp2_with fail
      refine (C2.out _).mono ?_
      rintro e w2 ⟨rfl, hb2⟩
      have HB := Lib.hid (hb1.trans (hb2.mono hb1.size))
      clear hb1 hb2
      go_wp2
      go_ret
      exact ⟨rfl, HB.out⟩
    · have C1 := fun w => digit_one 1 (by decide) w
      have C2 := fun w => digit_one 3 (by decide) w
      rw [show ((1 : Nat) : Int) = 1 from rfl] at C1
      rw [show ((3 : Nat) : Int) = 3 from rfl] at C2
      have C1 := Lib.hid C1
      have C2 := Lib.hid C2
      rw [show dgL 13 = [48 + 1] ++ [48 + 3] from rfl, ← strOf_append, show ((13 : Nat) : Int) = 13 from rfl]
      have s1 : (strOf [48 + 1]).size = 1 := by rw [strOf_size]; rfl
      have s2 : (strOf [48 + 3]).size = 1 := by rw [strOf_size]; rfl
      generalize strOf [48 + 1] = A at C1 s1 ⊢
      generalize strOf [48 + 3] = B at C2 s2 ⊢
      have hsm : A.size + B.size ≤ 9223372036854775807 := by omega
      have hsm2 : ¬ 9223372036854775807 < A.size + B.size := by omega
      clear hn h10
      go_enter Tryd.func9, Tryd.ntmps9
      go_wp2_with fail
      refine (C1.out _).mono ?_
      rintro e w1 ⟨rfl, hb1⟩
      go_wp2_with fail
      refine (C2.out _).mono ?_
      rintro e w2 ⟨rfl, hb2⟩
      have HB := Lib.hid (hb1.trans (hb2.mono hb1.size))
      clear hb1 hb2
      go_wp2
      go_ret
      exact ⟨rfl, HB.out⟩
    · have C1 := fun w => digit_one 1 (by decide) w
      have C2 := fun w => digit_one 4 (by decide) w
      rw [show ((1 : Nat) : Int) = 1 from rfl] at C1
      rw [show ((4 : Nat) : Int) = 4 from rfl] at C2
      have C1 := Lib.hid C1
      have C2 := Lib.hid C2
      rw [show dgL 14 = [48 + 1] ++ [48 + 4] from rfl, ← strOf_append, show ((14 : Nat) : Int) = 14 from rfl]
      have s1 : (strOf [48 + 1]).size = 1 := by rw [strOf_size]; rfl
      have s2 : (strOf [48 + 4]).size = 1 := by rw [strOf_size]; rfl
      generalize strOf [48 + 1] = A at C1 s1 ⊢
      generalize strOf [48 + 4] = B at C2 s2 ⊢
      have hsm : A.size + B.size ≤ 9223372036854775807 := by omega
      have hsm2 : ¬ 9223372036854775807 < A.size + B.size := by omega
      clear hn h10
      go_enter Tryd.func9, Tryd.ntmps9
      go_wp2_with fail
      refine (C1.out _).mono ?_
      rintro e w1 ⟨rfl, hb1⟩
      go_wp2_with fail
      refine (C2.out _).mono ?_
      rintro e w2 ⟨rfl, hb2⟩
      have HB := Lib.hid (hb1.trans (hb2.mono hb1.size))
      clear hb1 hb2
      go_wp2
      go_ret
      exact ⟨rfl, HB.out⟩
    · have C1 := fun w => digit_one 1 (by decide) w
      have C2 := fun w => digit_one 5 (by decide) w
      rw [show ((1 : Nat) : Int) = 1 from rfl] at C1
      rw [show ((5 : Nat) : Int) = 5 from rfl] at C2
      have C1 := Lib.hid C1
      have C2 := Lib.hid C2
      rw [show dgL 15 = [48 + 1] ++ [48 + 5] from rfl, ← strOf_append, show ((15 : Nat) : Int) = 15 from rfl]
      have s1 : (strOf [48 + 1]).size = 1 := by rw [strOf_size]; rfl
      have s2 : (strOf [48 + 5]).size = 1 := by rw [strOf_size]; rfl
      generalize strOf [48 + 1] = A at C1 s1 ⊢
      generalize strOf [48 + 5] = B at C2 s2 ⊢
      have hsm : A.size + B.size ≤ 9223372036854775807 := by omega
      have hsm2 : ¬ 9223372036854775807 < A.size + B.size := by omega
      clear hn h10
      go_enter Tryd.func9, Tryd.ntmps9
      go_wp2_with fail
      refine (C1.out _).mono ?_
      rintro e w1 ⟨rfl, hb1⟩
      go_wp2_with fail
      refine (C2.out _).mono ?_
      rintro e w2 ⟨rfl, hb2⟩
      have HB := Lib.hid (hb1.trans (hb2.mono hb1.size))
      clear hb1 hb2
      go_wp2
      go_ret
      exact ⟨rfl, HB.out⟩
    · have C1 := fun w => digit_one 1 (by decide) w
      have C2 := fun w => digit_one 6 (by decide) w
      rw [show ((1 : Nat) : Int) = 1 from rfl] at C1
      rw [show ((6 : Nat) : Int) = 6 from rfl] at C2
      have C1 := Lib.hid C1
      have C2 := Lib.hid C2
      rw [show dgL 16 = [48 + 1] ++ [48 + 6] from rfl, ← strOf_append, show ((16 : Nat) : Int) = 16 from rfl]
      have s1 : (strOf [48 + 1]).size = 1 := by rw [strOf_size]; rfl
      have s2 : (strOf [48 + 6]).size = 1 := by rw [strOf_size]; rfl
      generalize strOf [48 + 1] = A at C1 s1 ⊢
      generalize strOf [48 + 6] = B at C2 s2 ⊢
      have hsm : A.size + B.size ≤ 9223372036854775807 := by omega
      have hsm2 : ¬ 9223372036854775807 < A.size + B.size := by omega
      clear hn h10
      go_enter Tryd.func9, Tryd.ntmps9
      go_wp2_with fail
      refine (C1.out _).mono ?_
      rintro e w1 ⟨rfl, hb1⟩
      go_wp2_with fail
      refine (C2.out _).mono ?_
      rintro e w2 ⟨rfl, hb2⟩
      have HB := Lib.hid (hb1.trans (hb2.mono hb1.size))
      clear hb1 hb2
      go_wp2
      go_ret
      exact ⟨rfl, HB.out⟩
    · have C1 := fun w => digit_one 1 (by decide) w
      have C2 := fun w => digit_one 7 (by decide) w
      rw [show ((1 : Nat) : Int) = 1 from rfl] at C1
      rw [show ((7 : Nat) : Int) = 7 from rfl] at C2
      have C1 := Lib.hid C1
      have C2 := Lib.hid C2
      rw [show dgL 17 = [48 + 1] ++ [48 + 7] from rfl, ← strOf_append, show ((17 : Nat) : Int) = 17 from rfl]
      have s1 : (strOf [48 + 1]).size = 1 := by rw [strOf_size]; rfl
      have s2 : (strOf [48 + 7]).size = 1 := by rw [strOf_size]; rfl
      generalize strOf [48 + 1] = A at C1 s1 ⊢
      generalize strOf [48 + 7] = B at C2 s2 ⊢
      have hsm : A.size + B.size ≤ 9223372036854775807 := by omega
      have hsm2 : ¬ 9223372036854775807 < A.size + B.size := by omega
      clear hn h10
      go_enter Tryd.func9, Tryd.ntmps9
      go_wp2_with fail
      refine (C1.out _).mono ?_
      rintro e w1 ⟨rfl, hb1⟩
      go_wp2_with fail
      refine (C2.out _).mono ?_
      rintro e w2 ⟨rfl, hb2⟩
      have HB := Lib.hid (hb1.trans (hb2.mono hb1.size))
      clear hb1 hb2
      go_wp2
      go_ret
      exact ⟨rfl, HB.out⟩
    · have C1 := fun w => digit_one 1 (by decide) w
      have C2 := fun w => digit_one 8 (by decide) w
      rw [show ((1 : Nat) : Int) = 1 from rfl] at C1
      rw [show ((8 : Nat) : Int) = 8 from rfl] at C2
      have C1 := Lib.hid C1
      have C2 := Lib.hid C2
      rw [show dgL 18 = [48 + 1] ++ [48 + 8] from rfl, ← strOf_append, show ((18 : Nat) : Int) = 18 from rfl]
      have s1 : (strOf [48 + 1]).size = 1 := by rw [strOf_size]; rfl
      have s2 : (strOf [48 + 8]).size = 1 := by rw [strOf_size]; rfl
      generalize strOf [48 + 1] = A at C1 s1 ⊢
      generalize strOf [48 + 8] = B at C2 s2 ⊢
      have hsm : A.size + B.size ≤ 9223372036854775807 := by omega
      have hsm2 : ¬ 9223372036854775807 < A.size + B.size := by omega
      clear hn h10
      go_enter Tryd.func9, Tryd.ntmps9
      go_wp2_with fail
      refine (C1.out _).mono ?_
      rintro e w1 ⟨rfl, hb1⟩
      go_wp2_with fail
      refine (C2.out _).mono ?_
      rintro e w2 ⟨rfl, hb2⟩
      have HB := Lib.hid (hb1.trans (hb2.mono hb1.size))
      clear hb1 hb2
      go_wp2
      go_ret
      exact ⟨rfl, HB.out⟩
    · have C1 := fun w => digit_one 1 (by decide) w
      have C2 := fun w => digit_one 9 (by decide) w
      rw [show ((1 : Nat) : Int) = 1 from rfl] at C1
      rw [show ((9 : Nat) : Int) = 9 from rfl] at C2
      have C1 := Lib.hid C1
      have C2 := Lib.hid C2
      rw [show dgL 19 = [48 + 1] ++ [48 + 9] from rfl, ← strOf_append, show ((19 : Nat) : Int) = 19 from rfl]
      have s1 : (strOf [48 + 1]).size = 1 := by rw [strOf_size]; rfl
      have s2 : (strOf [48 + 9]).size = 1 := by rw [strOf_size]; rfl
      generalize strOf [48 + 1] = A at C1 s1 ⊢
      generalize strOf [48 + 9] = B at C2 s2 ⊢
      have hsm : A.size + B.size ≤ 9223372036854775807 := by omega
      have hsm2 : ¬ 9223372036854775807 < A.size + B.size := by omega
      clear hn h10
      go_enter Tryd.func9, Tryd.ntmps9
      go_wp2_with fail
      refine (C1.out _).mono ?_
      rintro e w1 ⟨rfl, hb1⟩
      go_wp2_with fail
      refine (C2.out _).mono ?_
      rintro e w2 ⟨rfl, hb2⟩
      have HB := Lib.hid (hb1.trans (hb2.mono hb1.size))
      clear hb1 hb2
      go_wp2
      go_ret
      exact ⟨rfl, HB.out⟩
    · have C1 := fun w => digit_one 2 (by decide) w
      have C2 := fun w => digit_one 0 (by decide) w
      rw [show ((2 : Nat) : Int) = 2 from rfl] at C1
      rw [show ((0 : Nat) : Int) = 0 from rfl] at C2
      have C1 := Lib.hid C1
      have C2 := Lib.hid C2
      rw [show dgL 20 = [48 + 2] ++ [48 + 0] from rfl, ← strOf_append, show ((20 : Nat) : Int) = 20 from rfl]
      have s1 : (strOf [48 + 2]).size = 1 := by rw [strOf_size]; rfl
      have s2 : (strOf [48 + 0]).size = 1 := by rw [strOf_size]; rfl
      generalize strOf [48 + 2] = A at C1 s1 ⊢
      generalize strOf [48 + 0] = B at C2 s2 ⊢
      have hsm : A.size + B.size ≤ 9223372036854775807 := by omega
      have hsm2 : ¬ 9223372036854775807 < A.size + B.size := by omega
      clear hn h10
      go_enter Tryd.func9, Tryd.ntmps9
      go_wp2_with fail
      refine (C1.out _).mono ?_
      rintro e w1 ⟨rfl, hb1⟩
      go_wp2_with fail
      refine (C2.out _).mono ?_
      rintro e w2 ⟨rfl, hb2⟩
      have HB := Lib.hid (hb1.trans (hb2.mono hb1.size))
      clear hb1 hb2
      go_wp2
      go_ret
      exact ⟨rfl, HB.out⟩
    · have C1 := fun w => digit_one 2 (by decide) w
      have C2 := fun w => digit_one 1 (by decide) w
      rw [show ((2 : Nat) : Int) = 2 from rfl] at C1
      rw [show ((1 : Nat) : Int) = 1 from rfl] at C2
      have C1 := Lib.hid C1
      have C2 := Lib.hid C2
      rw [show dgL 21 = [48 + 2] ++ [48 + 1] from rfl, ← strOf_append, show ((21 : Nat) : Int) = 21 from rfl]
      have s1 : (strOf [48 + 2]).size = 1 := by rw [strOf_size]; rfl
      have s2 : (strOf [48 + 1]).size = 1 := by rw [strOf_size]; rfl
      generalize strOf [48 + 2] = A at C1 s1 ⊢
      generalize strOf [48 + 1] = B at C2 s2 ⊢
      have hsm : A.size + B.size ≤ 9223372036854775807 := by omega
      have hsm2 : ¬ 9223372036854775807 < A.size + B.size := by omega
      clear hn h10
      go_enter Tryd.func9, Tryd.ntmps9
      go_wp2_with fail
      refine (C1.out _).mono ?_
      rintro e w1 ⟨rfl, hb1⟩
      go_wp2_with fail
      refine (C2.out _).mono ?_
      rintro e w2 ⟨rfl, hb2⟩
      have HB := Lib.hid (hb1.trans (hb2.mono hb1.size))
      clear hb1 hb2
      go_wp2
      go_ret
      exact ⟨rfl, HB.out⟩
    · have C1 := fun w => digit_one 2 (by decide) w
      have C2 := fun w => digit_one 2 (by decide) w
      rw [show ((2 : Nat) : Int) = 2 from rfl] at C1
      rw [show ((2 : Nat) : Int) = 2 from rfl] at C2
      have C1 := Lib.hid C1
      have C2 := Lib.hid C2
      rw [show dgL 22 = [48 + 2] ++ [48 + 2] from rfl, ← strOf_append, show ((22 : Nat) : Int) = 22 from rfl]
      have s1 : (strOf [48 + 2]).size = 1 := by rw [strOf_size]; rfl
      have s2 : (strOf [48 + 2]).size = 1 := by rw [strOf_size]; rfl
      generalize strOf [48 + 2] = A at C1 C2 s1 s2 ⊢
      have hsm : A.size + A.size ≤ 9223372036854775807 := by omega
      have hsm2 : ¬ 9223372036854775807 < A.size + A.size := by omega
      clear hn h10
      go_enter Tryd.func9, Tryd.ntmps9
      go_wp2_with fail
      refine (C1.out _).mono ?_
      rintro e w1 ⟨rfl, hb1⟩
      go_wp2_with fail
      refine (C2.out _).mono ?_
      rintro e w2 ⟨rfl, hb2⟩
      have HB := Lib.hid (hb1.trans (hb2.mono hb1.size))
      clear hb1 hb2
      go_wp2
      go_ret
      exact ⟨rfl, HB.out⟩
end Go.Proofs.YtgjdeilclimpdaaDoor
namespace Go.Proofs.YtgjdeilclimpdaaDoor
set_option linter.unusedVariables false
set_option linter.unusedSimpArgs false
open Go.RowKit Go.PlainAid Go.Shelf
theorem Pw.next {w a b : World} {v : Value} {E : List Nat} (h : Pw w a v E) (hb : Below a.heap.size a b) : Pw w b v E := ⟨h.own.below hb, h.below.trans (hb.mono h.below.size)⟩
theorem Pw.drew {w a : World} {v : Value} {E : List Nat} (h : Pw w a v E) : Pw w a.drew v E := h.next ⟨rfl, rfl, rfl, Nat.le_refl _, fun _ _ => rfl⟩
theorem keepP {A : World → Prop} {w b c : World} {v : Value} {E : List Nat} (F : ∀ W, Pw w W v E → A W) (h : A b ∧ Pw w b v E) (k : Below b.heap.size b c) : A c ∧ Pw w c v E := ⟨F _ (h.2.next k), h.2.next k⟩
theorem keepPB {A : Prop} {w b : World} {v : Value} {E : List Nat} (h : A ∧ Pw w b v E) : Below w.heap.size w b := h.2.below
theorem replicate_snoc (k c : Nat) : List.replicate (k + 1) c = List.replicate k c ++ [c] := List.replicate_succ'
theorem wrap_u8 (n : Nat) (h : n < 256) : IntKind.i64.wrap ((n : Nat) : Int) = ((n : Nat) : Int) := by rw [i64_is]; exact IntWalk.wrap64_in _ ⟨by omega, by omega⟩
theorem wrap_sum (l d u : Nat) (hl : l < 12) (hd : d < 12) (h : l + d = u) : RowKit.wrap64 (((l : Nat) : Int) + ((d : Nat) : Int)) = ((u : Nat) : Int) := by rw [IntWalk.wrap64_in _ ⟨by omega, by omega⟩]; omega
theorem rem_nat (n b l : Nat) (h : n % b = l) : ((n : Nat) : Int) % ((b : Nat) : Int) = ((l : Nat) : Int) ∧ Int.tmod ((n : Nat) : Int) ((b : Nat) : Int) = ((l : Nat) : Int) := by
  have : ((n : Nat) : Int) % ((b : Nat) : Int) = ((l : Nat) : Int) := by omega
  exact ⟨this, by rw [Int.tmod_eq_emod_of_nonneg (by omega)]; exact this⟩
theorem fit2 (A B : ByteArray) (ha : A.size ≤ 1000) (hb : B.size ≤ 1000) : A.size + B.size ≤ 9223372036854775807 ∧ ¬ 9223372036854775807 < A.size + B.size := ⟨by omega, by omega⟩
theorem dgL_len (x : Nat) : (dgL x).length ≤ 2 := by unfold dgL; split <;> simp
theorem dgL_isB (x : Nat) (hx : x < 23) : IsB (dgL x) := by
  unfold dgL
  split
  · exact IsB.cons (by omega) IsB.nil
  · exact IsB.cons (by omega) (IsB.cons (by omega) IsB.nil)
theorem preC_isB (c : Nat) (hc : c < 256) : IsB (preC c) := by
  unfold preC esc1
  split
  · exact IsB.cons (by decide) (IsB.cons (by decide) (IsB.cons hc (IsB.cons (by decide) IsB.nil)))
  · exact IsB.cons (by decide) (IsB.cons hc (IsB.cons (by decide) IsB.nil))
theorem preC_len (c : Nat) : (preC c).length ≤ 4 := by unfold preC esc1; split <;> simp
set_option maxHeartbeats 16000000 in
set_option maxRecDepth 100000 in
theorem law_times (c n m k : Nat) (hc : c < 256) (hn : n < 256) (hm : m < 256) (hk : k < 256) (w : World) (hT : TabAt w) : Calls Tryd.prog 5 #[.int .u8 ((c : Nat) : Int), .int .u8 ((n : Nat) : Int), .int .u8 ((m : Nat) : Int), .int .u8 ((k : Nat) : Int)] w (Gives w (.bool true)) := by
  obtain ⟨l, hl⟩ : ∃ l, n % 12 = l := ⟨_, rfl⟩
  obtain ⟨d, hd⟩ : ∃ d, m % 12 = d := ⟨_, rfl⟩
  obtain ⟨q, hq⟩ : ∃ q, k % 30 = q := ⟨_, rfl⟩
  have hl12 : l < 12 := by omega
  have hd12 : d < 12 := by omega
  have hq30 : q < 30 := by omega
  obtain ⟨u, hu⟩ : ∃ u, l + d = u := ⟨_, rfl⟩
  have hu23 : u < 23 := by omega
  -- what the three patterns come to
  have tA := tailA l d hl12 hd12
  have tB := tailB l hl12
  have tC := tailC l hl12
  rw [hu] at tA
  have fA := fitsV_times c q hc ([123] ++ dgL l ++ [44] ++ dgL u ++ [125]) l (some u) ⟨rfl, tA.1, tA.2⟩ (by omega) (fun M hM => by cases hM; omega)
  have fB := fitsV_times c q hc ([123] ++ dgL l ++ [44, 125]) l none ⟨rfl, tB.1, tB.2⟩ (by omega) (fun M hM => by cases hM)
  have fC := fitsV_times c q hc ([123] ++ dgL l ++ [125]) l (some l) ⟨rfl, tC.1, tC.2⟩ (by omega) (fun M hM => by cases hM; omega)
  have hsB : IsB (List.replicate q c) := fun x hx => by rw [List.eq_of_mem_replicate hx]; exact hc
  have hpl := preC_len c
  have hpB := preC_isB c hc
  have hdB := dgL_isB
  have hdl := dgL_len
  have iA : IsB (preC c ++ ([123] ++ dgL l ++ [44] ++ dgL u ++ [125])) := hpB.app ((((IsB.cons (by decide) IsB.nil).app (hdB l (by omega))).app (IsB.cons (by decide) IsB.nil)).app (hdB u hu23) |>.app (IsB.cons (by decide) IsB.nil))
  have iB : IsB (preC c ++ ([123] ++ dgL l ++ [44, 125])) := hpB.app (((IsB.cons (by decide) IsB.nil).app (hdB l (by omega))).app (IsB.cons (by decide) (IsB.cons (by decide) IsB.nil)))
  have iC : IsB (preC c ++ ([123] ++ dgL l ++ [125])) := hpB.app (((IsB.cons (by decide) IsB.nil).app (hdB l (by omega))).app (IsB.cons (by decide) IsB.nil))
  have CA := fun w hT => fits_any _ _ iA (by have := tA.2; rw [List.length_append]; omega) hsB (by rw [List.length_replicate]; omega) w hT
  have CB := fun w hT => fits_any _ _ iB (by have := tB.2; rw [List.length_append]; omega) hsB (by rw [List.length_replicate]; omega) w hT
  have CC := fun w hT => fits_any _ _ iC (by have := tC.2; rw [List.length_append]; omega) hsB (by rw [List.length_replicate]; omega) w hT
  rw [fA] at CA
  rw [fB] at CB
  rw [fC] at CC
  simp only at CA CB CC
  -- the texts, piece by piece
  have CH := Lib.hid (fun w => hex_any c hc w)
  have CD := Lib.hid (fun x hx w => digits_any x hx w)
  have HLT := Lib.hid (show l < 23 ∧ u < 23 from ⟨by omega, hu23⟩)
  have CK := Lib.hid (fun w hT => known_any w hT)
  have z1 := strOf_size (esc1 c)
  have z2 := strOf_size (dgL l)
  have z3 := strOf_size (dgL u)
  have hel : (esc1 c).length ≤ 2 := by unfold esc1; split <;> simp
  have hl2 := hdl l
  have hu2 := hdl u
  obtain ⟨HXs, hHX⟩ : ∃ s, strOf (esc1 c) = s := ⟨_, rfl⟩
  obtain ⟨DL, hDL⟩ : ∃ s, strOf (dgL l) = s := ⟨_, rfl⟩
  obtain ⟨DU, hDU⟩ : ∃ s, strOf (dgL u) = s := ⟨_, rfl⟩
  rw [hHX] at CH z1
  rw [hDL] at z2
  rw [hDU] at z3
  have e1 : (ByteArray.mk #[91]) ++ HXs ++ (ByteArray.mk #[93]) = strOf (preC c) := by
    rw [← hHX, show (ByteArray.mk #[91]) = strOf [91] from rfl, show (ByteArray.mk #[93]) = strOf [93] from rfl, strOf_append, strOf_append]; rfl
  have e2 : strOf (preC c) ++ (ByteArray.mk #[123]) ++ DL ++ (ByteArray.mk #[44]) ++ DU ++ (ByteArray.mk #[125]) = strOf (preC c ++ ([123] ++ dgL l ++ [44] ++ dgL u ++ [125])) := by
    rw [← hDL, ← hDU, show (ByteArray.mk #[123]) = strOf [123] from rfl, show (ByteArray.mk #[44]) = strOf [44] from rfl, show (ByteArray.mk #[125]) = strOf [125] from rfl]
    simp only [strOf_append, List.append_assoc]
  have e3 : strOf (preC c) ++ (ByteArray.mk #[123]) ++ DL ++ (ByteArray.mk #[44, 125]) = strOf (preC c ++ ([123] ++ dgL l ++ [44, 125])) := by
    rw [← hDL, show (ByteArray.mk #[123]) = strOf [123] from rfl, show (ByteArray.mk #[44, 125]) = strOf [44, 125] from rfl]
    simp only [strOf_append, List.append_assoc]
  have e4 : strOf (preC c) ++ (ByteArray.mk #[123]) ++ DL ++ (ByteArray.mk #[125]) = strOf (preC c ++ ([123] ++ dgL l ++ [125])) := by
    rw [← hDL, show (ByteArray.mk #[123]) = strOf [123] from rfl, show (ByteArray.mk #[125]) = strOf [125] from rfl]
    simp only [strOf_append, List.append_assoc]
  rw [← e2] at CA
  rw [← e3] at CB
  rw [← e4] at CC
  rw [← e1] at CA CB CC
  have g91 : (ByteArray.mk #[91]).size = 1 := rfl
  have g93 : (ByteArray.mk #[93]).size = 1 := rfl
  have g123 : (ByteArray.mk #[123]).size = 1 := rfl
  have g44 : (ByteArray.mk #[44]).size = 1 := rfl
  have g125 : (ByteArray.mk #[125]).size = 1 := rfl
  have g445 : (ByteArray.mk #[44, 125]).size = 2 := rfl
  have zH : HXs.size ≤ 2 := by rw [z1]; exact hel
  have zL : DL.size ≤ 2 := by rw [z2]; exact hl2
  have zU : DU.size ≤ 2 := by rw [z3]; exact hu2
  clear e1 e2 e3 e4 z1 z2 z3 hHX tA tB tC fA fB fC hpB hdB hdl iA iB iC hpl hel hl2 hu2
  obtain ⟨X1, hX1⟩ : ∃ s, (ByteArray.mk #[91]) ++ HXs = s := ⟨_, rfl⟩
  have sX1 : X1.size = (ByteArray.mk #[91]).size + HXs.size := by rw [← hX1, ByteArray.size_append]
  rw [hX1] at CA CB CC
  obtain ⟨PC, hPC⟩ : ∃ s, X1 ++ (ByteArray.mk #[93]) = s := ⟨_, rfl⟩
  have sPC : PC.size = X1.size + (ByteArray.mk #[93]).size := by rw [← hPC, ByteArray.size_append]
  rw [hPC] at CA CB CC
  obtain ⟨A1, hA1⟩ : ∃ s, PC ++ (ByteArray.mk #[123]) = s := ⟨_, rfl⟩
  have sA1 : A1.size = PC.size + (ByteArray.mk #[123]).size := by rw [← hA1, ByteArray.size_append]
  rw [hA1] at CA CB CC
  obtain ⟨A2, hA2⟩ : ∃ s, A1 ++ DL = s := ⟨_, rfl⟩
  have sA2 : A2.size = A1.size + DL.size := by rw [← hA2, ByteArray.size_append]
  rw [hA2] at CA CB CC
  obtain ⟨A3, hA3⟩ : ∃ s, A2 ++ (ByteArray.mk #[44]) = s := ⟨_, rfl⟩
  have sA3 : A3.size = A2.size + (ByteArray.mk #[44]).size := by rw [← hA3, ByteArray.size_append]
  rw [hA3] at CA
  obtain ⟨A4, hA4⟩ : ∃ s, A3 ++ DU = s := ⟨_, rfl⟩
  have sA4 : A4.size = A3.size + DU.size := by rw [← hA4, ByteArray.size_append]
  rw [hA4] at CA
  obtain ⟨A5, hA5⟩ : ∃ s, A4 ++ (ByteArray.mk #[125]) = s := ⟨_, rfl⟩
  have sA5 : A5.size = A4.size + (ByteArray.mk #[125]).size := by rw [← hA5, ByteArray.size_append]
  rw [hA5] at CA
  obtain ⟨B3, hB3⟩ : ∃ s, A2 ++ (ByteArray.mk #[44, 125]) = s := ⟨_, rfl⟩
  have sB3 : B3.size = A2.size + (ByteArray.mk #[44, 125]).size := by rw [← hB3, ByteArray.size_append]
  rw [hB3] at CB
  obtain ⟨C3, hC3⟩ : ∃ s, A2 ++ (ByteArray.mk #[125]) = s := ⟨_, rfl⟩
  have sC3 : C3.size = A2.size + (ByteArray.mk #[125]).size := by rw [← hC3, ByteArray.size_append]
  rw [hC3] at CC
  have t0 := fit2 (ByteArray.mk #[91]) HXs (by omega) (by omega)
  have t1 := fit2 X1 (ByteArray.mk #[93]) (by omega) (by omega)
  have t2 := fit2 PC (ByteArray.mk #[123]) (by omega) (by omega)
  have t3 := fit2 A1 DL (by omega) (by omega)
  have t4 := fit2 A2 (ByteArray.mk #[44]) (by omega) (by omega)
  have t5 := fit2 A3 DU (by omega) (by omega)
  have t6 := fit2 A4 (ByteArray.mk #[125]) (by omega) (by omega)
  have t7 := fit2 A2 (ByteArray.mk #[44, 125]) (by omega) (by omega)
  have t8 := fit2 A2 (ByteArray.mk #[125]) (by omega) (by omega)
  have t0a := t0.1
  have t0b := t0.2
  have t0c := t0a
  have t0d := t0b
  rw [g91] at t0c t0d
  have t1a := t1.1
  have t1b := t1.2
  have t1c := t1a
  have t1d := t1b
  rw [g93] at t1c t1d
  have t2a := t2.1
  have t2b := t2.2
  have t2c := t2a
  have t2d := t2b
  rw [g123] at t2c t2d
  have t3a := t3.1
  have t3b := t3.2
  have t4a := t4.1
  have t4b := t4.2
  have t4c := t4a
  have t4d := t4b
  rw [g44] at t4c t4d
  have t5a := t5.1
  have t5b := t5.2
  have t6a := t6.1
  have t6b := t6.2
  have t6c := t6a
  have t6d := t6b
  rw [g125] at t6c t6d
  have t7a := t7.1
  have t7b := t7.2
  have t7c := t7a
  have t7d := t7b
  rw [g445] at t7c t7d
  have t8a := t8.1
  have t8b := t8.2
  have t8c := t8a
  have t8d := t8b
  rw [g125] at t8c t8d
  have CA := Lib.hid CA
  have CB := Lib.hid CB
  have CC := Lib.hid CC
  have HTW := Lib.hid hT
  have HSB := Lib.hid hsB
  have HQ := Lib.hid hq30
  have HIN := Lib.hid (show l < 12 ∧ u < 23 ∧ l + d = u from ⟨hl12, hu23, hu⟩)
  obtain ⟨r1, r1'⟩ := rem_nat n 12 l hl
  obtain ⟨r2, r2'⟩ := rem_nat m 12 d hd
  obtain ⟨r3, r3'⟩ := rem_nat k 30 q hq
  rw [show ((12 : Nat) : Int) = 12 from rfl] at r1 r1' r2 r2'
  rw [show ((30 : Nat) : Int) = 30 from rfl] at r3 r3'
  have v1 := wrap_u8 n hn
  have v2 := wrap_u8 m hm
  have v3 := wrap_u8 k hk
  have hsum := wrap_sum l d u hl12 hd12 hu
  obtain ⟨i0, hi, hz0, hz1, hz2⟩ := info_parts info5
  have P0 := Lib.hid (show Pw w w (.slice none 0 0) (List.replicate 0 c) from ⟨Own.nil _ _, Below.refl _ _⟩)
  clear sX1 sPC sA1 sA2 sA3 sA4 sA5 sB3 sC3 zH zL zU g91 g93 g123 g44 g125 g445 hT hsB hq30 hl12 hd12 hu23 hu hl hd hq hn hm hk hc t0 t1 t2 t3 t4 t5 t6 t7 t8
  go_enter Tryd.func5, Tryd.ntmps5
  go_wp2
  go_loopw [12, 13] (fun r12 r13 wr => ∃ (j : Nat), j ≤ q ∧ r13 = .int .i64 ((j : Nat) : Int) ∧ Hid (Pw w wr r12 (List.replicate j c))) (fun _ r13 _ => q - (intOf r13).toNat)
  case atStart => exact ⟨0, Nat.zero_le _, rfl, P0⟩
  case round =>
    obtain ⟨j, hj, rfl, HP⟩ := hrel
    by_cases hjq : j < q
    · have HKK := Lib.hid (show j + 1 ≤ q from hjq)
      have HMS := Lib.hid (meas_small q j hjq)
      have HK1 := Lib.hid (wrap_small j (by have := HQ.out; omega))
      have HN := Lib.hid (show (List.replicate j c).length = j from List.length_replicate ..)
      have HRS := Lib.hid (replicate_snoc j c)
      have HX1 := Lib.hid (show j + 1 ≤ maxLen ∧ (j + 1) * 1 ≤ 140737488355328 from ⟨by have := HQ.out; unfold maxLen; omega, by have := HQ.out; omega⟩)
      obtain ⟨ao, co, hsh, _, _⟩ := HP.out.own.cells
      subst hsh
      rw [HN.out] at HP ⊢
      have hjd : decide (((j : Nat) : Int) < ((q : Nat) : Int)) = true := decide_eq_true (by omega)
      have hjd2 : decide (j < q) = true := decide_eq_true hjq
      clear hj hjq P0 CA CB CC CH CD CK
      go_wp2_with (first | (at_builtin; refine wpList_append_own _ rfl (.tmp 37) (.tmp 39) 26 rfl w.heap.size 5 i0 (.int .u8 0) 1 1 Tryd.underlying26 hi hz0 hz1 hz2 rfl (by decide) (.slice ao j co) j (cellsOf (List.replicate j c)) rfl (HP.out.row HN.out _).1 ⟨wr.heap.size, 0, none⟩ 1 1 (cellsOf [c]) rfl rfl (alloc_row _ [c]) (cellsOf_one _) HX1.out.1 HX1.out.2 (HP.out.row HN.out _).2 ?_; intro v2 w2 k1 k2 k3; obtain ⟨a2, c2, rfl, hp2⟩ := (HP.out.alloc _).nxt HN.out c k1 k2; have P2 := Lib.hid hp2; clear k1 k2 k3 hp2))
      go_roundw
      case rel => exact ⟨j + 1, HKK.out, by rw [HK1.out, Int.natCast_add] <;> rfl, Lib.hid (by rw [HRS.out]; exact P2.out)⟩
      case measure =>
        rw [HK1.out]
        exact HMS.out
    · have hjE : j = q := by omega
      subst hjE
      obtain ⟨ao, co, hsh, _, _⟩ := HP.out.own.cells
      subst hsh
      rw [List.length_replicate] at HP ⊢
      obtain ⟨SS, hSS⟩ : ∃ s, strOf (List.replicate j c) = s := ⟨_, rfl⟩
      rw [hSS] at CA CB CC
      have hcv : ∀ W : World, Pw w W (.slice ao j co) (List.replicate j c) → (convert 26 9 (.slice ao j co)).run Tryd.prog W = .ok (.string SS) W := fun W h => by rw [← hSS]; exact conv_own h.own HSB.out
      clear P0 hj hjq
      go_wp2_with fail
      refine (CH.out wr).mono ?_
      rintro e w1 ⟨rfl, hb⟩
      have P1 := Lib.hid (HP.out.next hb)
      clear hb HP CH
      go_wp2
      have hcvH := Lib.hid hcv
      clear r1 r1' r2 r2' r3 r3' v1 v2 v3 hsum hi hz0 hz1 hz2 i0
      clear hX1 hPC t0a t0b t0c t0d t1a t1b t1c t1d
      have HB3 := Lib.hid hB3
      have HC3 := Lib.hid hC3
      have HT7 := Lib.hid (And.intro t7a (And.intro t7b (And.intro t7c t7d)))
      have HT8 := Lib.hid (And.intro t8a (And.intro t8b (And.intro t8c t8d)))
      clear hB3 hC3 t7a t7b t7c t7d t8a t8b t8c t8d
      have hlu : ((l : Nat) : Int) + ((d : Nat) : Int) = ((u : Nat) : Int) := by have := HIN.out.2.2; omega
      rw [hlu]
      clear hlu
      go_region_held3 (fun w' => ((convert 26 9 (.slice ao j co)).run Tryd.prog w' = .ok (.string SS) w') ∧ Pw w w' (.slice ao j co) (List.replicate j c)) ((first | exact ⟨hcv _ P1.out.drew, P1.out.drew⟩ | (refine keepP hcv ?_ (by assumption); assumption)))
        ((first
          | (go_at_call_of 9 (Value.int .i64 ((l : Nat) : Int)); refine (CD.out l HLT.out.1 _).mono ?_; rintro e w' ⟨rfl, hb⟩)
          | (go_at_call_of 9 (Value.int .i64 ((u : Nat) : Int)); refine (CD.out u HLT.out.2 _).mono ?_; rintro e w' ⟨rfl, hb⟩)
          | (go_at_call 7; refine (CA.out _ (HTW.out.below (keepPB (by assumption)) HTW.out.lt)).mono ?_; rintro e w' ⟨rfl, hb⟩)))
      rename_i hH
      have P2 := Lib.hid hH.2
      clear hH hb
      have hB3 := HB3.out
      obtain ⟨t7a, t7b, t7c, t7d⟩ := HT7.out
      clear hA3 hA4 hA5 t4a t4b t4c t4d t5a t5b t6a t6b t6c t6d P1
      go_wp2
      go_region_held3 (fun w' => ((convert 26 9 (.slice ao j co)).run Tryd.prog w' = .ok (.string SS) w') ∧ Pw w w' (.slice ao j co) (List.replicate j c)) ((first | exact ⟨hcv _ P2.out.drew, P2.out.drew⟩ | (refine keepP hcv ?_ (by assumption); assumption)))
        ((first
          | (go_at_call_of 9 (Value.int .i64 ((l : Nat) : Int)); refine (CD.out l HLT.out.1 _).mono ?_; rintro e w' ⟨rfl, hb⟩)
          | (go_at_call 7; refine (CB.out _ (HTW.out.below (keepPB (by assumption)) HTW.out.lt)).mono ?_; rintro e w' ⟨rfl, hb⟩)))
      rename_i hH
      have P3 := Lib.hid hH.2
      clear hH hb
      have hC3 := HC3.out
      obtain ⟨t8a, t8b, t8c, t8d⟩ := HT8.out
      clear hB3 t7a t7b t7c t7d P2
      go_wp2
      go_region_held3 (fun w' => ((convert 26 9 (.slice ao j co)).run Tryd.prog w' = .ok (.string SS) w') ∧ Pw w w' (.slice ao j co) (List.replicate j c)) ((first | exact ⟨hcv _ P3.out.drew, P3.out.drew⟩ | (refine keepP hcv ?_ (by assumption); assumption)))
        ((first
          | (go_at_call_of 9 (Value.int .i64 ((l : Nat) : Int)); refine (CD.out l HLT.out.1 _).mono ?_; rintro e w' ⟨rfl, hb⟩)
          | (go_at_call 7; refine (CC.out _ (HTW.out.below (keepPB (by assumption)) HTW.out.lt)).mono ?_; rintro e w' ⟨rfl, hb⟩)))
      rename_i hH
      have P4 := Lib.hid hH.2
      clear hH hb hcv hA1 hA2 hC3 t2a t2b t2c t2d t3a t3b t8a t8b t8c t8d P3 hDL hDU hSS
      have CK1 := Lib.hid (fun W hb => CK.out W (HTW.out.below hb HTW.out.lt))
      have hlu2 := HIN.out.2.2
      have hcs : j < l ∨ j = l ∨ (l < j ∧ j ≤ u) ∨ u < j := by omega
      rcases hcs with hc | hc | hc | hc
      · have i1 : inB l (some u) j = false := by unfold inB; simp; omega
        have i2 : inB l none j = false := by unfold inB; simp; omega
        have i3 : inB l (some l) j = false := by unfold inB; simp; omega
        have k1 : decide (((l : Nat) : Int) ≤ ((j : Nat) : Int)) = false := decide_eq_false (by omega)
        have k2 : decide (((j : Nat) : Int) ≤ ((u : Nat) : Int)) = true := decide_eq_true (by omega)
        have k3 : decide (l ≤ j) = false := decide_eq_false (by omega)
        have k4 : decide (j ≤ u) = true := decide_eq_true (by omega)
        have k5 : (((j : Nat) : Int) == ((l : Nat) : Int)) = false := by simp; omega
        clear hc hlu2
        go_wp2_with fail
        refine (CK1.out _ P4.out.below).mono ?_
        rintro e w9 ⟨rfl, hb⟩
        have HB9 := Lib.hid (P4.out.below.trans (hb.mono P4.out.below.size))
        clear hb
        go_wp2
        go_ret
        exact ⟨rfl, HB9.out⟩
      · have i1 : inB l (some u) j = true := by unfold inB; simp; omega
        have i2 : inB l none j = true := by unfold inB; simp; omega
        have i3 : inB l (some l) j = true := by unfold inB; simp; omega
        have k1 : decide (((l : Nat) : Int) ≤ ((j : Nat) : Int)) = true := decide_eq_true (by omega)
        have k2 : decide (((j : Nat) : Int) ≤ ((u : Nat) : Int)) = true := decide_eq_true (by omega)
        have k3 : decide (l ≤ j) = true := decide_eq_true (by omega)
        have k4 : decide (j ≤ u) = true := decide_eq_true (by omega)
        have k5 : (((j : Nat) : Int) == ((l : Nat) : Int)) = true := by simp; omega
        clear hc hlu2
        go_wp2_with fail
        refine (CK1.out _ P4.out.below).mono ?_
        rintro e w9 ⟨rfl, hb⟩
        have HB9 := Lib.hid (P4.out.below.trans (hb.mono P4.out.below.size))
        clear hb
        go_wp2
        go_ret
        exact ⟨rfl, HB9.out⟩
      · have i1 : inB l (some u) j = true := by unfold inB; simp; omega
        have i2 : inB l none j = true := by unfold inB; simp; omega
        have i3 : inB l (some l) j = false := by unfold inB; simp; omega
        have k1 : decide (((l : Nat) : Int) ≤ ((j : Nat) : Int)) = true := decide_eq_true (by omega)
        have k2 : decide (((j : Nat) : Int) ≤ ((u : Nat) : Int)) = true := decide_eq_true (by omega)
        have k3 : decide (l ≤ j) = true := decide_eq_true (by omega)
        have k4 : decide (j ≤ u) = true := decide_eq_true (by omega)
        have k5 : (((j : Nat) : Int) == ((l : Nat) : Int)) = false := by simp; omega
        clear hc hlu2
        go_wp2_with fail
        refine (CK1.out _ P4.out.below).mono ?_
        rintro e w9 ⟨rfl, hb⟩
        have HB9 := Lib.hid (P4.out.below.trans (hb.mono P4.out.below.size))
        clear hb
        go_wp2
        go_ret
        exact ⟨rfl, HB9.out⟩
      · have i1 : inB l (some u) j = false := by unfold inB; simp; omega
        have i2 : inB l none j = true := by unfold inB; simp; omega
        have i3 : inB l (some l) j = false := by unfold inB; simp; omega
        have k1 : decide (((l : Nat) : Int) ≤ ((j : Nat) : Int)) = true := decide_eq_true (by omega)
        have k2 : decide (((j : Nat) : Int) ≤ ((u : Nat) : Int)) = false := decide_eq_false (by omega)
        have k3 : decide (l ≤ j) = true := decide_eq_true (by omega)
        have k4 : decide (j ≤ u) = false := decide_eq_false (by omega)
        have k5 : (((j : Nat) : Int) == ((l : Nat) : Int)) = false := by simp; omega
        clear hc hlu2
        go_wp2_with fail
        refine (CK1.out _ P4.out.below).mono ?_
        rintro e w9 ⟨rfl, hb⟩
        have HB9 := Lib.hid (P4.out.below.trans (hb.mono P4.out.below.size))
        clear hb
        go_wp2
        go_ret
        exact ⟨rfl, HB9.out⟩
end Go.Proofs.YtgjdeilclimpdaaDoor
namespace Go.Proofs.YtgjdeilclimpdaaDoor.regexTimes
open Go.ChangeShapes Go.WideShapes Go.ChangeAt Go.RowKit
open Go.ChangeMaps (open_string shut_string)
set_option linter.unusedVariables false
theorem own : ownKnob Tryd.prog.godebug = none := by kernel_rfl
set_option maxRecDepth 100000 in
theorem lifted (os : Os) (started : os.Started) (H : Type) (enc : TypeId × Value → H) (F : Stop.Interp) :
    ReturnsInHanded {} Tryd.checked os 5 .any ((OpenSpec.ofChange Rows.regexTimesSpec).preRow enc Tryd.prog Tryd.f5 [] false laid1) (((OpenSpec.ofChange Rows.regexTimesSpec).at F).post enc Tryd.prog Tryd.f5 false true false false) := by
  refine returnsInHanded_of_row (C := Tryd.checked) (s := OpenSpec.ofChange Rows.regexTimesSpec) (F := F) (laid := laid1) own started (by kernel_rfl) Tryd.func5
    (ChangeSpec.witness_shaped (enc := enc) (C := Tryd.checked) (os := os) (s := Rows.regexTimesSpec) (X := fun w _ => laidMetH Tryd.prog laid1 w) false (startWorld os) #[.int .u8 0, .int .u8 0, .int .u8 0, .int .u8 0] 8 (startWorld_os os) (start_shaped os _) (by kernel_rfl) (by kernel_rfl) (by kernel_rfl) (door_met os _)) ?_
  intro W base args ds gs before hval0 hW hcnd _ _ hL hsh _
  have hval : ∀ (j : Nat) t v, Tryd.f5.params[j]? = some t → args[j]? = some v → Value.okWide Tryd.prog W .any base t v := hval0
  have hW' := hW
  obtain ⟨p, q, hA0, hV, rfl, hfz, hnd⟩ := hW
  have hA : DataW.TrodAll enc Tryd.prog W 0 (fun _ => true) true Tryd.f5.params.toList args.toList ds p := hA0
  rw [Tryd.params5] at hA hval
  obtain ⟨v0, vs0, d0, ds0, p0, q0, hargs, rfl, rfl, h0, r0⟩ := trodAll_cons hA
  obtain ⟨v1, vs1, d1, ds1, p1, q1, rfl, rfl, rfl, h1, r1⟩ := trodAll_cons r0
  obtain ⟨v2, vs2, d2, ds2, p2, q2, rfl, rfl, rfl, h2, r2⟩ := trodAll_cons r1
  obtain ⟨v3, vs3, d3, ds3, p3, q3, rfl, rfl, rfl, h3, r3⟩ := trodAll_cons r2
  obtain ⟨rfl, rfl, rfl⟩ := trodAll_nil r3
  obtain rfl : args = #[v0, v1, v2, v3] := by cases args; simp_all
  obtain ⟨rfl, rfl⟩ := trodVars_none hV
  obtain ⟨a0, rfl, rfl, rfl, w0⟩ := open_int Tryd.underlying5 (hval 0 5 v0 rfl rfl) h0
  obtain ⟨a1, rfl, rfl, rfl, w1⟩ := open_int Tryd.underlying5 (hval 1 5 v1 rfl rfl) h1
  obtain ⟨a2, rfl, rfl, rfl, w2⟩ := open_int Tryd.underlying5 (hval 2 5 v2 rfl rfl) h2
  obtain ⟨a3, rfl, rfl, rfl, w3⟩ := open_int Tryd.underlying5 (hval 3 5 v3 rfl rfl) h3
  have hT : TabAt W := laid_tab hL
  clear hA0 hval0 hL hsh
  obtain ⟨b0, e0⟩ : ∃ n : Nat, a0 = (n : Int) ∧ n < 256 := by
    have hb := bounds_u8 w0
    exact ⟨a0.toNat, by omega, by omega⟩
  obtain ⟨rfl, l0⟩ := e0
  obtain ⟨b1, e1⟩ : ∃ n : Nat, a1 = (n : Int) ∧ n < 256 := by
    have hb := bounds_u8 w1
    exact ⟨a1.toNat, by omega, by omega⟩
  obtain ⟨rfl, l1⟩ := e1
  obtain ⟨b2, e2⟩ : ∃ n : Nat, a2 = (n : Int) ∧ n < 256 := by
    have hb := bounds_u8 w2
    exact ⟨a2.toNat, by omega, by omega⟩
  obtain ⟨rfl, l2⟩ := e2
  obtain ⟨b3, e3⟩ : ∃ n : Nat, a3 = (n : Int) ∧ n < 256 := by
    have hb := bounds_u8 w3
    exact ⟨a3.toNat, by omega, by omega⟩
  obtain ⟨rfl, l3⟩ := e3
  refine (law_times b0 b1 b2 b3 l0 l1 l2 l3 W hT).mono fun e W' ⟨he, bel⟩ => ?_
  subst he
  exact ⟨_, rfl, _, _, _, [], _, [], hW', trodAll_mk1 (shut_bool Tryd.underlying4 _), (trodAll_cons_mk (shut_int Tryd.underlying5 w0) (trodAll_cons_mk (shut_int Tryd.underlying5 w1) (trodAll_cons_mk (shut_int Tryd.underlying5 w2) (trodAll_cons_mk (shut_int Tryd.underlying5 w3) trodAll_mk0)))), rfl, bel.frame _, fun h => by cases h⟩
theorem over : Rows.regexTimesRow.holds Tryd.pinned (OpenSpec.ofChange Rows.regexTimesSpec) :=
  OpenClaim.holds_of_cond 5 Tryd.f5 rfl rfl rfl rfl rfl rfl rfl ⟨rfl, rfl, rfl, rfl, rfl⟩ rfl rfl rfl rfl rfl f1 Tryd.func5 f2 f3 f4
    (fun os started H enc _ F => by rw [OpenClaim.pre_eq_preRow]; exact lifted os started H enc F)
theorem proved : Rows.RegexTimesSaid := over
/-- the tied card -/
theorem card : Rows.RegexTimesCardSaid :=
  Claim7.holds_tied_plain_at .later [] [.data] true (true, "55b9552654f5e4ab7ac7b4e1554ef897c0017c3be9ebf32a2c7afd333b6d7c14") false
    proved (fun _ h => by cases h) (by kernel_rfl) (fun _ h => by cases h) regexTimes_row_tie rfl ⟨rfl, rfl⟩ (by kernel_rfl) rfl
    (fun f fn hf hfn => by
      obtain rfl : f = 5 := Option.some.inj ((show Tryd.prog.funcNamed "barograph/barographlaw08.RegexTimes" = some 5 by kernel_rfl).symm.trans hf) |>.symm
      obtain rfl : fn = Tryd.f5 := (Option.some.inj (Tryd.func5.symm.trans hfn)).symm
      exact ⟨by kernel_rfl, fun j t ht => by
        rw [Tryd.params5] at ht
        have hm : t ∈ [5, 5, 5, 5] := by simpa using Array.mem_of_getElem? ht
        have hall : ([5, 5, 5, 5].all fun u => !Tryd.prog.wantsStandIn u) = true := by kernel_rfl
        exact (show Tryd.prog.wantsStandIn t = false by simpa using List.all_eq_true.1 hall t hm)⟩)
    (by kernel_rfl)
#print axioms card
end Go.Proofs.YtgjdeilclimpdaaDoor.regexTimes
