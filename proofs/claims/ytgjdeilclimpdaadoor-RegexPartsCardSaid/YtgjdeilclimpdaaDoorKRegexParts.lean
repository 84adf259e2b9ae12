/-
  PROVED: a choice of two patterns fits what one of them fits; a pattern in parentheses, or counted once, fits what it fits by itself; with ? it fits nothing.
-/
import Derived.Test.YtgjdeilclimpdaaDoorK11
import Derived.Test.YtgjdeilclimpdaaDoorKFRegexParts
import Derived.Test.YtgjdeilclimpdaaDoorTie
import Derived.Test.YtgjdeilclimpdaaDoorCards
import Derived.Handy
import Derived.Deep.DeepHandedRow
import Derived.SevenTiedAt
import Derived.WalkKit
import Derived.ProofKit
import Derived.OpenShut
import Derived.ShutString
import Derived.ChangeOld
import Derived.Below
namespace Go.Proofs.YtgjdeilclimpdaaDoor
set_option linter.unusedVariables false
set_option linter.unusedSimpArgs false
open Rx (Set4 RS)
def isLet (c : Nat) : Bool := (decide (97 ≤ c) && decide (c ≤ 122)) || (decide (65 ≤ c) && decide (c ≤ 90)) || (decide (48 ≤ c) && decide (c ≤ 57))
def needs (c : Nat) : Bool := decide (33 ≤ c) && decide (c ≤ 126) && !isLet c
def esc1 (c : Nat) : List Nat := if needs c then [92, c] else [c]
def esc : List Nat → List Nat
  | [] => []
  | c :: cs => esc1 c ++ esc cs
theorem set4_ext {x y : Set4} (h : (x.a == y.a && x.b == y.b && x.c == y.c && x.d == y.d) = true) : x = y := by
  simp only [Bool.and_eq_true, beq_iff_eq] at h
  obtain ⟨⟨⟨h1, h2⟩, h3⟩, h4⟩ := h
  cases x; cases y
  simp only at h1 h2 h3 h4
  subst h1 h2 h3 h4
  rfl
theorem mean_all : ∀ c, c < 256 → needs c = true → ((Rx.meaning c).a == (Set4.only c).a && (Rx.meaning c).b == (Set4.only c).b && (Rx.meaning c).c == (Set4.only c).c && (Rx.meaning c).d == (Set4.only c).d) = true := by decide +kernel
theorem only_some : ∀ c, c < 256 → (Set4.only c).isNone = false := by decide +kernel
theorem mean_only (c : Nat) (hc : c < 256) (h : needs c = true) : Rx.meaning c = Set4.only c := set4_ext (mean_all c hc h)
/-- what begins no sign -/
def plainC (c : Nat) : Bool := !([42, 43, 63, 123, 125, 93, 40, 91, 94, 36, 46, 92, 124, 41].contains c)
theorem plain_all : ∀ c, c < 256 → needs c = false → plainC c = true := by decide +kernel
theorem esc_isB : ∀ cs, IsB cs → IsB (esc cs)
  | [], _ => IsB.nil
  | c :: cs, h => by
    unfold esc esc1
    have h1 := h c (by simp)
    have h2 := esc_isB cs fun x hx => h x (by simp [hx])
    split
    · exact IsB.cons (by omega) (IsB.cons h1 h2)
    · exact IsB.cons h1 h2
theorem esc_len : ∀ cs, (esc cs).length ≤ 2 * cs.length
  | [] => by simp [esc]
  | c :: cs => by
    have := esc_len cs
    unfold esc esc1
    split <;> simp <;> omega
/-- the first byte of an escaped word -/
theorem esc_head (cs : List Nat) (hB : IsB cs) : ∀ b, (esc cs)[0]? = some b → b = 92 ∨ (plainC b = true ∧ b < 256) := by
  intro b hb
  cases cs with
  | nil => simp [esc] at hb
  | cons c cs =>
    unfold esc esc1 at hb
    have hc := hB c (by simp)
    split at hb
    · simp at hb; exact .inl hb.symm
    · rename_i h
      simp at hb
      subst hb
      exact .inr ⟨plain_all c hc (by simpa using h), hc⟩
theorem at_append (A B : List Nat) (k : Nat) : (A ++ B)[A.length + k]? = B[k]? := by
  rw [List.getElem?_append_right (by omega)]
  congr 1
  omega
theorem isAt_get {bs : List Nat} {p b c : Nat} (h : bs[p]? = some b) : Rx.isAt bs p c = decide (b = c) := by
  unfold Rx.isAt
  rw [h]
  simp
theorem isNext_get {bs : List Nat} {p b : Nat} {l : List Nat} (h : bs[p]? = some b) : Rx.isNext bs p l = l.contains b := by
  unfold Rx.isNext
  rw [h]
theorem isAt_no {bs : List Nat} {p c : Nat} (h : bs[p]? = none) : Rx.isAt bs p c = false := by
  unfold Rx.isAt
  rw [h]
  simp
theorem isNext_no {bs : List Nat} {p : Nat} {l : List Nat} (h : bs[p]? = none) : Rx.isNext bs p l = false := by
  unfold Rx.isNext
  rw [h]
/-- behind an escaped byte no count stands -/
theorem countOf_none {bs : List Nat} {st : RS} (t : Rx.Node) (h : ∀ b, bs[st.at']? = some b → b ≠ 42 ∧ b ≠ 43 ∧ b ≠ 63 ∧ b ≠ 123) : Rx.countOf bs t st = (some t, st) := by
  have k : ∀ c, (c = 42 ∨ c = 43 ∨ c = 63 ∨ c = 123) → Rx.isAt bs st.at' c = false := by
    intro c hc
    cases hb : bs[st.at']? with
    | none => exact isAt_no hb
    | some b =>
      rw [isAt_get hb]
      have := h b hb
      simp
      omega
  unfold Rx.countOf
  rw [k 42 (by simp), k 43 (by simp), k 63 (by simp), k 123 (by simp)]
  rfl
theorem head_ok {b : Nat} (h : b = 92 ∨ (plainC b = true ∧ b < 256)) : b ≠ 42 ∧ b ≠ 43 ∧ b ≠ 63 ∧ b ≠ 123 ∧ b ≠ 124 ∧ b ≠ 41 := by
  rcases h with rfl | ⟨h, _⟩
  · decide
  · unfold plainC at h
    simp at h
    omega
theorem drop_esc (A cs : List Nat) (c : Nat) : A ++ esc (c :: cs) = (A ++ esc1 c) ++ esc cs := by
  rw [show esc (c :: cs) = esc1 c ++ esc cs from rfl, List.append_assoc]
/-- one byte of the word -/
theorem atom_esc (f : Rx.PatF) (A cs : List Nat) (c : Nat) (hc : c < 256) (hB : IsB cs) (st : RS) (hp : st.at' = A.length) :
    Rx.goesOn (A ++ esc (c :: cs)) st.at' = true ∧ Rx.piece sg f (A ++ esc (c :: cs)) st = (some (.byte (Set4.only c)), st.to (A ++ esc1 c).length) := by
  have hnext : ∀ b, (A ++ esc (c :: cs))[(A ++ esc1 c).length]? = some b → b = 92 ∨ (plainC b = true ∧ b < 256) := by
    intro b hb
    rw [drop_esc, ← Nat.add_zero (A ++ esc1 c).length, at_append] at hb
    exact esc_head cs hB b hb
  have hcnt : Rx.countOf (A ++ esc (c :: cs)) (.byte (Set4.only c)) (st.to (A ++ esc1 c).length) = (some (.byte (Set4.only c)), st.to (A ++ esc1 c).length) :=
    countOf_none _ fun b hb => by have := head_ok (hnext b hb); omega
  have hfin : Rx.atom sg f (A ++ esc (c :: cs)) st = (some (.byte (Set4.only c)), st.to (A ++ esc1 c).length) → Rx.piece sg f (A ++ esc (c :: cs)) st = (some (.byte (Set4.only c)), st.to (A ++ esc1 c).length) := by
    intro h
    unfold Rx.piece
    rw [h]
    exact hcnt
  clear hcnt hnext
  by_cases hn : needs c = true
  · have e1 : esc1 c = [92, c] := by unfold esc1; rw [if_pos hn]
    have h0 : (A ++ esc (c :: cs))[st.at']? = some 92 := by
      rw [hp, ← Nat.add_zero A.length, at_append]; unfold esc; rw [e1]; rfl
    have h1 : (A ++ esc (c :: cs))[st.at' + 1]? = some c := by
      rw [hp, at_append]; unfold esc; rw [e1]; rfl
    rw [e1] at hfin ⊢
    refine ⟨by unfold Rx.goesOn; rw [h0]; rfl, hfin ?_⟩
    unfold Rx.atom
    rw [isNext_get h0, isNext_get h0, isNext_get h0, isAt_get h0, isAt_get h0, isAt_get h0]
    unfold Rx.plainOrEscape Rx.peEnd
    rw [isAt_get h0, h1]
    have hm := mean_only c hc hn
    have ho := only_some c hc
    simp [hm, ho, Rx.ofSet, hp]
  · have e1 : esc1 c = [c] := by unfold esc1; rw [if_neg hn]
    have h0 : (A ++ esc (c :: cs))[st.at']? = some c := by
      rw [hp, ← Nat.add_zero A.length, at_append]; unfold esc; rw [e1]; rfl
    have hpl := plain_all c hc (by simpa using hn)
    unfold plainC at hpl
    simp at hpl
    rw [e1] at hfin ⊢
    refine ⟨by unfold Rx.goesOn; rw [h0]; simp; omega, hfin ?_⟩
    unfold Rx.atom
    rw [isNext_get h0, isNext_get h0, isNext_get h0, isAt_get h0, isAt_get h0, isAt_get h0]
    unfold Rx.plainOrEscape Rx.peEnd
    rw [isAt_get h0, h0]
    have ho := only_some c hc
    simp [ho, Rx.ofSet, hp, hpl]
theorem branch_esc (f : Rx.PatF) : ∀ (cs : List Nat) (A : List Nat) (ks : List Rx.Node) (n : Nat) (st : RS), IsB cs → st.at' = A.length → cs.length < n →
    Rx.branchLoop sg f (A ++ esc cs) n ks st = (some (ks ++ cs.map fun c => .byte (Set4.only c)), st.to (A ++ esc cs).length)
  | [], A, ks, n, st, hB, hp, hn => by
    cases n with
    | zero => omega
    | succ n =>
      have h0 : (A ++ esc [])[st.at']? = none := by
        rw [hp]; unfold esc; simp
      unfold Rx.branchLoop Rx.goesOn
      rw [h0]
      simp only [Bool.false_eq_true, if_false, List.map_nil, List.append_nil]
      unfold esc
      rw [List.append_nil]
      cases st
      simp only at hp
      subst hp
      rfl
  | c :: cs, A, ks, n, st, hB, hp, hn => by
    cases n with
    | zero => omega
    | succ n =>
      have hc := hB c (by simp)
      have hB2 : IsB cs := fun x hx => hB x (by simp [hx])
      obtain ⟨h1, h2⟩ := atom_esc f A cs c hc hB2 st hp
      unfold Rx.branchLoop
      rw [h1, h2]
      simp only [if_true]
      have := branch_esc f cs (A ++ esc1 c) (ks ++ [.byte (Set4.only c)]) n (st.to (A ++ esc1 c).length) hB2 rfl (by simp at hn; omega)
      rw [← drop_esc] at this
      rw [this]
      simp [RS.to]
def wordT (cs : List Nat) : Rx.Node := .alt [.seq (cs.map fun c => .byte (Set4.only c))]
theorem states_word : ∀ (cs : List Nat) (n : Nat), Rx.statesAll (cs.map fun c => .byte (Set4.only c)) n = n + cs.length
  | [], n => by unfold Rx.statesAll; rfl
  | c :: cs, n => by
    rw [List.map_cons, Rx.statesAll, states_word cs]
    unfold Rx.states
    simp
    omega
theorem wf_word : ∀ cs : List Nat, Rx.WfAll (cs.map fun c => .byte (Set4.only c))
  | [] => by unfold Rx.WfAll; trivial
  | c :: cs => by rw [List.map_cons, Rx.WfAll]; exact ⟨by unfold Rx.Wf; trivial, wf_word cs⟩
theorem wf_wordT (cs : List Nat) : Rx.Wf (wordT cs) := by
  unfold wordT Rx.Wf Rx.WfAll
  exact ⟨by simp, by unfold Rx.Wf; exact wf_word cs, by unfold Rx.WfAll; trivial⟩
theorem compile_word (cs : List Nat) (hB : IsB cs) (hl : cs.length ≤ 200) : Rx.compile sg (esc cs) = .ok (wordT cs, 0) := by
  have hle := esc_len cs
  have hp : Rx.parse sg (esc cs) = (some (wordT cs), Rx.st0.to (esc cs).length) := by
    unfold Rx.parse
    rw [Rx.pat]
    rw [Rx.patLoop]
    have hb := branch_esc (Rx.pat sg (esc cs) (esc cs).length) cs [] [] ((esc cs).length + 1) Rx.st0 hB rfl (by
      have : cs.length ≤ (esc cs).length := by
        clear hB hl hle
        induction cs with
        | nil => simp
        | cons c cs ih => unfold esc esc1; split <;> simp <;> omega
      omega)
    simp only [List.nil_append] at hb
    unfold Rx.branch
    rw [hb]
    simp only
    rw [isAt_no (by show (esc cs)[(esc cs).length]? = none; simp)]
    rfl
  unfold Rx.compile
  rw [if_neg (by omega), hp]
  simp only
  have hs : Rx.states (wordT cs) ≤ 999 := by
    unfold wordT Rx.states Rx.statesAll Rx.statesAll
    have : Rx.states (.seq (cs.map fun c => .byte (Set4.only c))) ≤ cs.length := by
      unfold Rx.states
      rw [states_word]
      omega
    simp
    omega
  rw [if_neg (by simp [RS.to]), if_neg (by simp [RS.to, Rx.st0]; omega)]
  rfl
theorem fits_word (T : List Nat) (hT : IsB T) : ∀ (cs : List Nat) (i : Nat), IsB cs → i ≤ T.length → (Rx.FitsSeq T (cs.map fun c => .byte (Set4.only c)) i T.length ↔ T.drop i = cs)
  | [], i, hB, hi => by
    rw [List.map_nil, Rx.FitsSeq]
    constructor
    · intro h; rw [h]; simp
    · intro h
      have := congrArg List.length h
      simp at this
      omega
  | c :: cs, i, hB, hi => by
    rw [List.map_cons, Rx.FitsSeq]
    have hc := hB c (by simp)
    have hB2 : IsB cs := fun x hx => hB x (by simp [hx])
    constructor
    · rintro ⟨k, h1, h2⟩
      unfold Rx.Fits at h1
      obtain ⟨b, e1, e2, rfl⟩ := h1
      have hlt := (List.getElem?_eq_some_iff.1 e1).1
      have hb : T[i] = b := (List.getElem?_eq_some_iff.1 e1).2
      rw [Rx.only_has c b hc (by rw [← hb]; exact hT.at i hlt)] at e2
      have : b = c := by simpa using e2
      rw [List.drop_eq_getElem_cons hlt, hb, this, (fits_word T hT cs (i + 1) hB2 (by omega)).1 h2]
    · intro h
      have hlt : i < T.length := by
        rcases Nat.lt_or_ge i T.length with k | k
        · exact k
        · rw [List.drop_eq_nil_of_le k] at h; cases h
      rw [List.drop_eq_getElem_cons hlt] at h
      injection h with h1 h2
      refine ⟨i + 1, ?_, (fits_word T hT cs (i + 1) hB2 (by omega)).2 h2⟩
      unfold Rx.Fits
      exact ⟨c, by rw [List.getElem?_eq_getElem hlt, h1], by rw [Rx.only_has c c hc hc]; simp, rfl⟩
theorem fitB_word (cs T : List Nat) (hB : IsB cs) (hT : IsB T) : fitB (wordT cs) T = decide (T = cs) := by
  unfold fitB
  have h := Rx.match_iff (wordT cs) (wf_wordT cs) T false
  have h2 : Rx.Fits T (wordT cs) 0 T.length ↔ T = cs := by
    unfold wordT Rx.Fits Rx.FitsAlt Rx.FitsAlt
    rw [Rx.Fits, fits_word T hT cs 0 hB (Nat.zero_le _)]
    simp
  rw [h2] at h
  by_cases e : T = cs
  · rw [h.2 e, decide_eq_true e]
  · rw [decide_eq_false e]
    cases hf : (Rx.runM (Rx.prog (wordT cs)) T false).fits
    · rfl
    · exact absurd (h.1 hf) e
theorem fitsV_word (cs T : List Nat) (hB : IsB cs) (hT : IsB T) (hl : cs.length ≤ 200) : fitsV (esc cs) T = (true, decide (T = cs)) := by
  unfold fitsV
  rw [compile_word cs hB hl]
  simp only
  rw [fitB_word cs T hB hT]
end Go.Proofs.YtgjdeilclimpdaaDoor
namespace Go.Proofs.YtgjdeilclimpdaaDoor
set_option linter.unusedVariables false
set_option linter.unusedSimpArgs false
open Go.RowKit Go.PlainAid Go.Shelf
theorem conv_own {w : World} {base : Nat} {v : Value} {ds : List Nat} (h : Own w base v ds) (hB : IsB ds) : (convert 26 9 v).run Tryd.prog w = .ok (.string (strOf ds)) w := by
  obtain ⟨a, cap, rfl, hc, hcell⟩ := h.cells
  by_cases hd : ds = []
  · subst hd
    obtain ⟨_, h2⟩ := h
    rcases h2 with ⟨hv, _⟩ | ⟨g, cap2, cur, hv, _⟩
    · cases hv
      exact run_convert_bytes_nil w 26 5 Tryd.underlying26 Tryd.underlying5 _ _ 9 Tryd.underlying9
    · cases hv
      have := run_convert_bytes_arg (P := Tryd.prog) w 26 5 Tryd.underlying26 Tryd.underlying5 g 0 0 cap [] rfl (fun i hi => by omega) 9 Tryd.underlying9
      exact this
  · have hp : 0 < ds.length := List.length_pos_iff.2 hd
    obtain ⟨b, rfl, _⟩ := hcell 0 hp
    have := run_convert_bytes_arg (P := Tryd.prog) w 26 5 Tryd.underlying26 Tryd.underlying5 b 0 ds.length cap (ds.map fun (c : Nat) => (c : Int)) (by simp) (fun i hi => by
      obtain ⟨b', hb', hc'⟩ := hcell i hi
      cases hb'
      rw [Nat.zero_add, hc']
      simp [List.getD, List.getElem?_map, List.getElem?_eq_getElem hi]) 9 Tryd.underlying9
    rw [this]
    have e : strOfNums (ds.map fun (c : Nat) => (c : Int)) = strOf ds := by
      unfold strOfNums strOf
      rw [List.map_map]
      rfl
    rw [e]
/-- a row of bytes of the call's own -/
structure Pw (w wr : World) (v : Value) (E : List Nat) : Prop where
  own : Own wr w.heap.size v E
  below : Below w.heap.size w wr
theorem Pw.alloc {w wr : World} {v : Value} {E : List Nat} (h : Pw w wr v E) (o : Obj) : Pw w (wr.alloc o) v E := ⟨h.own.below ((Below.refl _ _).alloc (Nat.le_refl _) o), h.below.alloc h.below.size o⟩
theorem Pw.app {w wr w2 : World} {v v2 : Value} {E : List Nat} {n : Nat} (h : Pw w wr v E) (hn : E.length = n) (c : Nat) (k1 : w2.ownsRow w.heap.size 5 1 v2 (n + 1) (cellsOf E ++ cellsOf [c])) (k2 : wr.grownBy w2 v.ownBlock) : Pw w w2 v2 (E ++ [c]) := by
  obtain ⟨h1, h2⟩ := own_grow (ds := E) (es := [c]) (wb := w) k1 (by rw [hn]; rfl) (own_block h.own) k2 h.below h.below.size
  exact ⟨h1, h2⟩
theorem Pw.nxt {w wr w2 : World} {v v2 : Value} {E : List Nat} {n : Nat} (h : Pw w wr v E) (hn : E.length = n) (c : Nat) (k1 : w2.ownsRow w.heap.size 5 1 v2 (n + 1) (cellsOf E ++ cellsOf [c])) (k2 : wr.grownBy w2 v.ownBlock) : ∃ a2 c2, v2 = .slice a2 (n + 1) c2 ∧ Pw w w2 (.slice a2 (n + 1) c2) (E ++ [c]) := by
  have h2 := h.app hn c k1 k2
  obtain ⟨a2, c2, hs, _⟩ := h2.own.cells
  have hl : (E ++ [c]).length = n + 1 := by rw [List.length_append, hn]; rfl
  rw [hl] at hs
  subst hs
  exact ⟨a2, c2, rfl, h2⟩
theorem Pw.row {w wr : World} {v : Value} {E : List Nat} {n : Nat} (h : Pw w wr v E) (hn : E.length = n) (o : Obj) : (wr.alloc o).ownsRow w.heap.size 5 1 v n (cellsOf E) ∧ w.heap.size ≤ (wr.alloc o).heap.size := by
  have := (h.alloc o).own
  unfold Own at this
  rw [hn] at this
  exact ⟨this, (h.alloc o).below.size⟩
theorem toList_eqb (x y : ByteArray) : (x.toList == y.toList) = decide (x = y) := by
  by_cases h : x = y
  · subst h; simp
  · rw [decide_eq_false h]
    simp only [beq_eq_false_iff_ne, ne_eq]
    intro e
    apply h
    rw [ByteArray.toList_eq, ByteArray.toList_eq] at e
    exact ByteArray.ext (Array.toList_inj.1 e)
theorem esc_snoc : ∀ (xs : List Nat) (c : Nat), esc (xs ++ [c]) = esc xs ++ esc1 c
  | [], c => by show esc [c] = _; unfold esc; unfold esc; simp
  | x :: xs, c => by
    show esc (x :: (xs ++ [c])) = _
    rw [show esc (x :: (xs ++ [c])) = esc1 x ++ esc (xs ++ [c]) from rfl, esc_snoc xs c, show esc (x :: xs) = esc1 x ++ esc xs from rfl, List.append_assoc]
theorem wrap_small (k : Nat) (h : k ≤ 1000) : RowKit.wrap64 (((k : Nat) : Int) + 1) = ((k : Nat) : Int) + 1 := IntWalk.wrap64_in _ ⟨by omega, by omega⟩
theorem meas_small (L k : Nat) (h : k < L) : L - (((k : Nat) : Int) + 1).toNat < L - (((k : Nat) : Int)).toNat := by omega
set_option maxHeartbeats 16000000 in
set_option maxRecDepth 100000 in
theorem law_word (s b : ByteArray) (w : World) (hT : TabAt w) : Calls Tryd.prog 4 #[.string s, .string b] w (Gives w (.bool true)) := by
  have CK := Lib.hid (fun w hT => known_any w hT)
  by_cases h1 : 200 < s.size
  · have d1 : decide ((200 : Int) < ((s.size : Nat) : Int)) = true := decide_eq_true (by omega)
    have d2 : decide (200 < s.size) = true := decide_eq_true h1
    obtain ⟨L, hL⟩ : ∃ L, s.size = L := ⟨_, rfl⟩
    rw [hL] at d1 d2 h1
    have HT := Lib.hid hT
    clear h1 hT
    go_enter Tryd.func4, Tryd.ntmps4
    go_wp2_with fail
    refine (CK.out w HT.out).mono ?_
    rintro e w1 ⟨rfl, hb⟩
    have HB := Lib.hid hb
    have HT1 := Lib.hid (HT.out.below hb HT.out.lt)
    clear hb
    go_wp2_with fail
    refine (CK.out w1 HT1.out).mono ?_
    rintro e w2 ⟨rfl, hb⟩
    have HB2 := Lib.hid (HB.out.trans (hb.mono HB.out.size))
    clear hb
    go_wp2
    go_ret
    exact ⟨rfl, HB2.out⟩
  by_cases h2 : 2000 < b.size
  · have d1 : decide ((200 : Int) < ((s.size : Nat) : Int)) = false := decide_eq_false (by omega)
    have d2 : decide (200 < s.size) = false := decide_eq_false h1
    have d3 : decide ((2000 : Int) < ((b.size : Nat) : Int)) = true := decide_eq_true (by omega)
    have d4 : decide (2000 < b.size) = true := decide_eq_true h2
    obtain ⟨L, hL⟩ : ∃ L, s.size = L := ⟨_, rfl⟩
    obtain ⟨M, hM⟩ : ∃ L, b.size = L := ⟨_, rfl⟩
    rw [hL] at d1 d2 h1
    rw [hM] at d3 d4 h2
    have HT := Lib.hid hT
    clear h1 h2 hT
    go_enter Tryd.func4, Tryd.ntmps4
    go_wp2_with fail
    refine (CK.out w HT.out).mono ?_
    rintro e w1 ⟨rfl, hb⟩
    have HB := Lib.hid hb
    have HT1 := Lib.hid (HT.out.below hb HT.out.lt)
    clear hb
    go_wp2_with fail
    refine (CK.out w1 HT1.out).mono ?_
    rintro e w2 ⟨rfl, hb⟩
    have HB2 := Lib.hid (HB.out.trans (hb.mono HB.out.size))
    clear hb
    go_wp2
    go_ret
    exact ⟨rfl, HB2.out⟩
  have d1 : decide ((200 : Int) < ((s.size : Nat) : Int)) = false := decide_eq_false (by omega)
  have d2 : decide (200 < s.size) = false := decide_eq_false h1
  have d3 : decide ((2000 : Int) < ((b.size : Nat) : Int)) = false := decide_eq_false (by omega)
  have d4 : decide (2000 < b.size) = false := decide_eq_false h2
  have hBs := isB_bytesOf s
  have hBb := isB_bytesOf b
  have hls := bytesOf_length s
  have hlb := bytesOf_length b
  have hse := strOf_bytesOf s
  have hbe := strOf_bytesOf b
  obtain ⟨bs, hbs⟩ : ∃ x, bytesOf s = x := ⟨_, rfl⟩
  obtain ⟨cs, hcs⟩ : ∃ x, bytesOf b = x := ⟨_, rfl⟩
  rw [hbs] at hBs hls hse
  rw [hcs] at hBb hlb hbe
  have hle := esc_len bs
  have C1 := fun w hT => fits_any (esc bs) bs (esc_isB bs hBs) (by omega) hBs (by omega) w hT
  have C2 := fun w hT => fits_any (esc bs) cs (esc_isB bs hBs) (by omega) hBb (by omega) w hT
  rw [fitsV_word bs bs hBs hBs (by omega), hse] at C1
  rw [fitsV_word bs cs hBs hBb (by omega), hbe] at C2
  simp only [decide_true] at C1
  have hbeq : decide (cs = bs) = (b.toList == s.toList) := by
    rw [toList_eqb]
    by_cases e : cs = bs
    · rw [decide_eq_true e, decide_eq_true (by rw [← hbe, ← hse, e])]
    · rw [decide_eq_false e, decide_eq_false (fun h => e (strOf_inj hBb hBs (by rw [hbe, hse, h])))]
  have C1 := Lib.hid C1
  have C2 := Lib.hid C2
  have HTW := Lib.hid hT
  have HBS := Lib.hid hBs
  have HLS := Lib.hid hls
  have HSE := Lib.hid hse
  have HEI := Lib.hid (esc_isB bs hBs)
  have HSM := Lib.hid (show s.size ≤ 200 from by omega)
  obtain ⟨i0, hi, hz0, hz1, hz2⟩ := info_parts info5
  obtain ⟨L, hL⟩ : ∃ L, s.size = L := ⟨_, rfl⟩
  obtain ⟨M, hM⟩ : ∃ L, b.size = L := ⟨_, rfl⟩
  rw [hL] at d1 d2 HLS HSM
  rw [hM] at d3 d4
  have hget := get_bt s
  have hszL := hL
  clear h1 h2 hT hBs hBb hls hlb hse hbe hbs hcs hle hL
  go_enter Tryd.func4, Tryd.ntmps4
  go_wp2_with fail
  refine (CK.out w HTW.out).mono ?_
  rintro e w1 ⟨rfl, hb⟩
  have P0 := Lib.hid (show Pw w w1 (.slice none 0 0) (esc (bs.take 0)) from ⟨Own.nil _ _, hb⟩)
  clear hb
  go_wp2
  go_loopw [5, 6] (fun r5 r6 wr => ∃ (k : Nat), k ≤ L ∧ r6 = .int .i64 ((k : Nat) : Int) ∧ Hid (Pw w wr r5 (esc (bs.take k)))) (fun _ r6 _ => L - (intOf r6).toNat)
  case atStart => exact ⟨0, Nat.zero_le _, rfl, P0⟩
  case round =>
    obtain ⟨k, hk, rfl, HP⟩ := hrel
    by_cases hkL : k < L
    · have hkb : k < bs.length := by rw [HLS.out]; exact hkL
      obtain ⟨c, hc⟩ : ∃ c, bs[k] = c := ⟨_, rfl⟩
      have hc256 : c < 256 := by rw [← hc]; exact HBS.out.at k hkb
      have hbt : bt s k = ((c : Nat) : Int) := by rw [← HSE.out, strOf_bt bs HBS.out k hkb, hc]
      have htk : bs.take (k + 1) = bs.take k ++ [c] := by rw [List.take_succ_eq_append_getElem hkb, hc]
      have hE1 := esc_snoc (bs.take k) c
      rw [← htk] at hE1
      have hlen := esc_len (bs.take k)
      rw [List.length_take] at hlen
      obtain ⟨ao, co, hsh, _, _⟩ := HP.out.own.cells
      subst hsh
      obtain ⟨E, hE⟩ : ∃ E, esc (bs.take k) = E := ⟨_, rfl⟩
      rw [hE] at HP hE1 hlen
      obtain ⟨E2, hE2⟩ : ∃ E, esc (bs.take (k + 1)) = E := ⟨_, rfl⟩
      rw [hE2] at hE1
      have HE2 := Lib.hid hE2
      rw [hE]
      obtain ⟨N, hN⟩ : ∃ N, E.length = N := ⟨_, rfl⟩
      have HN := Lib.hid hN
      have HNB := Lib.hid (show N ≤ 400 from by have := HSM.out; omega)
      have HKK := Lib.hid (show k + 1 ≤ L from hkL)
      have HMS := Lib.hid (meas_small L k hkL)
      have HK1 := Lib.hid (wrap_small k (by have := HSM.out; omega))
      have hkz : ((k : Nat) : Int) < ((s.size : Nat) : Int) := by rw [hszL]; omega
      have hkz2 : k < s.size := by rw [hszL]; exact hkL
      have hkd : decide (((k : Nat) : Int) < ((L : Nat) : Int)) = true := decide_eq_true (by omega)
      have hkd2 : decide (k < L) = true := decide_eq_true hkL
      rw [hN] at HP ⊢
      clear hc hkb htk hE hE2 hlen hN hk P0
      have hsp : c ≤ 32 ∨ (33 ≤ c ∧ c ≤ 47) ∨ (48 ≤ c ∧ c ≤ 57) ∨ (58 ≤ c ∧ c ≤ 64) ∨ (65 ≤ c ∧ c ≤ 90) ∨ (91 ≤ c ∧ c ≤ 96) ∨ (97 ≤ c ∧ c ≤ 122) ∨ (123 ≤ c ∧ c ≤ 126) ∨ 127 ≤ c := by omega
      rcases hsp with hr | hr | hr | hr | hr | hr | hr | hr | hr
      · have q97 : decide ((97 : Int) ≤ ((c : Nat) : Int)) = false := decide_eq_false (by omega)
        have q65 : decide ((65 : Int) ≤ ((c : Nat) : Int)) = false := decide_eq_false (by omega)
        have q48 : decide ((48 : Int) ≤ ((c : Nat) : Int)) = false := decide_eq_false (by omega)
        have q33 : decide ((33 : Int) ≤ ((c : Nat) : Int)) = false := decide_eq_false (by omega)
        have q122 : decide (((c : Nat) : Int) ≤ 122) = true := decide_eq_true (by omega)
        have q90 : decide (((c : Nat) : Int) ≤ 90) = true := decide_eq_true (by omega)
        have q57 : decide (((c : Nat) : Int) ≤ 57) = true := decide_eq_true (by omega)
        have q126 : decide (((c : Nat) : Int) ≤ 126) = true := decide_eq_true (by omega)
        have hes : esc1 c = [c] := by unfold esc1 needs isLet; simp; omega
        rw [hes] at hE1
        have HE1 := Lib.hid hE1
        clear hes hE1 hr hc256
        have HN1 := Lib.hid HN.out
        have HX1 := Lib.hid (show N + 1 ≤ maxLen ∧ (N + 1) * 1 ≤ 140737488355328 from ⟨by have := HNB.out; unfold maxLen; omega, by have := HNB.out; omega⟩)
        have HE3 := Lib.hid (show E2 = E ++ [c] from HE1.out)
        go_wp2_with (first | (at_builtin; refine wpList_append_own _ rfl (.tmp 70) (.tmp 72) 26 rfl w.heap.size 5 i0 (.int .u8 0) 1 1 Tryd.underlying26 hi hz0 hz1 hz2 rfl (by decide) (.slice ao (N) co) (N) (cellsOf (E)) rfl (HP.out.row HN1.out _).1 ⟨wr.heap.size, 0, none⟩ 1 1 (cellsOf [c]) rfl rfl (alloc_row _ [c]) (cellsOf_one _) HX1.out.1 HX1.out.2 (HP.out.row HN1.out _).2 ?_; intro v2 w2 k1 k2 k3; obtain ⟨a2, c2, rfl, hp2⟩ := (HP.out.alloc _).nxt HN1.out (c) k1 k2; have P2 := Lib.hid hp2; clear k1 k2 k3 hp2))
        go_roundw
        case rel => exact ⟨k + 1, HKK.out, by rw [HK1.out, Int.natCast_add] <;> rfl, Lib.hid (by rw [HE2.out, HE3.out]; exact P2.out)⟩
        case measure =>
          rw [HK1.out]
          exact HMS.out
      · have q97 : decide ((97 : Int) ≤ ((c : Nat) : Int)) = false := decide_eq_false (by omega)
        have q65 : decide ((65 : Int) ≤ ((c : Nat) : Int)) = false := decide_eq_false (by omega)
        have q48 : decide ((48 : Int) ≤ ((c : Nat) : Int)) = false := decide_eq_false (by omega)
        have q33 : decide ((33 : Int) ≤ ((c : Nat) : Int)) = true := decide_eq_true (by omega)
        have q122 : decide (((c : Nat) : Int) ≤ 122) = true := decide_eq_true (by omega)
        have q90 : decide (((c : Nat) : Int) ≤ 90) = true := decide_eq_true (by omega)
        have q57 : decide (((c : Nat) : Int) ≤ 57) = true := decide_eq_true (by omega)
        have q126 : decide (((c : Nat) : Int) ≤ 126) = true := decide_eq_true (by omega)
        have hes : esc1 c = [92, c] := by unfold esc1 needs isLet; simp; omega
        rw [hes] at hE1
        have HE1 := Lib.hid hE1
        clear hes hE1 hr hc256
        have HN1 := Lib.hid HN.out
        have HX1 := Lib.hid (show N + 1 ≤ maxLen ∧ (N + 1) * 1 ≤ 140737488355328 from ⟨by have := HNB.out; unfold maxLen; omega, by have := HNB.out; omega⟩)
        have HN2 := Lib.hid (show (E ++ [92]).length = N + 1 from by rw [List.length_append, HN.out]; rfl)
        have HX2 := Lib.hid (show N + 1 + 1 ≤ maxLen ∧ (N + 1 + 1) * 1 ≤ 140737488355328 from ⟨by have := HNB.out; unfold maxLen; omega, by have := HNB.out; omega⟩)
        have HE3 := Lib.hid (show E2 = E ++ [92] ++ [c] from by rw [HE1.out, List.append_assoc]; rfl)
        go_wp2_with (first | (at_builtin; refine wpList_append_own _ rfl (.tmp 67) (.tmp 68) 26 rfl w.heap.size 5 i0 (.int .u8 0) 1 1 Tryd.underlying26 hi hz0 hz1 hz2 rfl (by decide) (.slice ao (N) co) (N) (cellsOf (E)) rfl (HP.out.row HN1.out _).1 ⟨wr.heap.size, 0, none⟩ 1 1 (cellsOf [92]) rfl rfl (alloc_row _ [92]) (cellsOf_one _) HX1.out.1 HX1.out.2 (HP.out.row HN1.out _).2 ?_; intro v2 w2 k1 k2 k3; obtain ⟨a2, c2, rfl, hp2⟩ := (HP.out.alloc _).nxt HN1.out (92) k1 k2; have P2 := Lib.hid hp2; clear k1 k2 k3 hp2) | (at_builtin; refine wpList_append_own _ rfl (.tmp 70) (.tmp 72) 26 rfl w.heap.size 5 i0 (.int .u8 0) 1 1 Tryd.underlying26 hi hz0 hz1 hz2 rfl (by decide) (.slice a2 (N + 1) c2) (N + 1) (cellsOf (E ++ [92])) rfl (P2.out.row HN2.out _).1 ⟨w2.heap.size, 0, none⟩ 1 1 (cellsOf [c]) rfl rfl (alloc_row _ [c]) (cellsOf_one _) HX2.out.1 HX2.out.2 (P2.out.row HN2.out _).2 ?_; intro v3 w3 k1 k2 k3; obtain ⟨a3, c3, rfl, hp3⟩ := (P2.out.alloc _).nxt HN2.out (c) k1 k2; have P3 := Lib.hid hp3; clear k1 k2 k3 hp3))
        go_roundw
        case rel => exact ⟨k + 1, HKK.out, by rw [HK1.out, Int.natCast_add] <;> rfl, Lib.hid (by rw [HE2.out, HE3.out]; exact P3.out)⟩
        case measure =>
          rw [HK1.out]
          exact HMS.out
      · have q97 : decide ((97 : Int) ≤ ((c : Nat) : Int)) = false := decide_eq_false (by omega)
        have q65 : decide ((65 : Int) ≤ ((c : Nat) : Int)) = false := decide_eq_false (by omega)
        have q48 : decide ((48 : Int) ≤ ((c : Nat) : Int)) = true := decide_eq_true (by omega)
        have q33 : decide ((33 : Int) ≤ ((c : Nat) : Int)) = true := decide_eq_true (by omega)
        have q122 : decide (((c : Nat) : Int) ≤ 122) = true := decide_eq_true (by omega)
        have q90 : decide (((c : Nat) : Int) ≤ 90) = true := decide_eq_true (by omega)
        have q57 : decide (((c : Nat) : Int) ≤ 57) = true := decide_eq_true (by omega)
        have q126 : decide (((c : Nat) : Int) ≤ 126) = true := decide_eq_true (by omega)
        have hes : esc1 c = [c] := by unfold esc1 needs isLet; simp; omega
        rw [hes] at hE1
        have HE1 := Lib.hid hE1
        clear hes hE1 hr hc256
        have HN1 := Lib.hid HN.out
        have HX1 := Lib.hid (show N + 1 ≤ maxLen ∧ (N + 1) * 1 ≤ 140737488355328 from ⟨by have := HNB.out; unfold maxLen; omega, by have := HNB.out; omega⟩)
        have HE3 := Lib.hid (show E2 = E ++ [c] from HE1.out)
        go_wp2_with (first | (at_builtin; refine wpList_append_own _ rfl (.tmp 70) (.tmp 72) 26 rfl w.heap.size 5 i0 (.int .u8 0) 1 1 Tryd.underlying26 hi hz0 hz1 hz2 rfl (by decide) (.slice ao (N) co) (N) (cellsOf (E)) rfl (HP.out.row HN1.out _).1 ⟨wr.heap.size, 0, none⟩ 1 1 (cellsOf [c]) rfl rfl (alloc_row _ [c]) (cellsOf_one _) HX1.out.1 HX1.out.2 (HP.out.row HN1.out _).2 ?_; intro v2 w2 k1 k2 k3; obtain ⟨a2, c2, rfl, hp2⟩ := (HP.out.alloc _).nxt HN1.out (c) k1 k2; have P2 := Lib.hid hp2; clear k1 k2 k3 hp2))
        go_roundw
        case rel => exact ⟨k + 1, HKK.out, by rw [HK1.out, Int.natCast_add] <;> rfl, Lib.hid (by rw [HE2.out, HE3.out]; exact P2.out)⟩
        case measure =>
          rw [HK1.out]
          exact HMS.out
      · have q97 : decide ((97 : Int) ≤ ((c : Nat) : Int)) = false := decide_eq_false (by omega)
        have q65 : decide ((65 : Int) ≤ ((c : Nat) : Int)) = false := decide_eq_false (by omega)
        have q48 : decide ((48 : Int) ≤ ((c : Nat) : Int)) = true := decide_eq_true (by omega)
        have q33 : decide ((33 : Int) ≤ ((c : Nat) : Int)) = true := decide_eq_true (by omega)
        have q122 : decide (((c : Nat) : Int) ≤ 122) = true := decide_eq_true (by omega)
        have q90 : decide (((c : Nat) : Int) ≤ 90) = true := decide_eq_true (by omega)
        have q57 : decide (((c : Nat) : Int) ≤ 57) = false := decide_eq_false (by omega)
        have q126 : decide (((c : Nat) : Int) ≤ 126) = true := decide_eq_true (by omega)
        have hes : esc1 c = [92, c] := by unfold esc1 needs isLet; simp; omega
        rw [hes] at hE1
        have HE1 := Lib.hid hE1
        clear hes hE1 hr hc256
        have HN1 := Lib.hid HN.out
        have HX1 := Lib.hid (show N + 1 ≤ maxLen ∧ (N + 1) * 1 ≤ 140737488355328 from ⟨by have := HNB.out; unfold maxLen; omega, by have := HNB.out; omega⟩)
        have HN2 := Lib.hid (show (E ++ [92]).length = N + 1 from by rw [List.length_append, HN.out]; rfl)
        have HX2 := Lib.hid (show N + 1 + 1 ≤ maxLen ∧ (N + 1 + 1) * 1 ≤ 140737488355328 from ⟨by have := HNB.out; unfold maxLen; omega, by have := HNB.out; omega⟩)
        have HE3 := Lib.hid (show E2 = E ++ [92] ++ [c] from by rw [HE1.out, List.append_assoc]; rfl)
        go_wp2_with (first | (at_builtin; refine wpList_append_own _ rfl (.tmp 67) (.tmp 68) 26 rfl w.heap.size 5 i0 (.int .u8 0) 1 1 Tryd.underlying26 hi hz0 hz1 hz2 rfl (by decide) (.slice ao (N) co) (N) (cellsOf (E)) rfl (HP.out.row HN1.out _).1 ⟨wr.heap.size, 0, none⟩ 1 1 (cellsOf [92]) rfl rfl (alloc_row _ [92]) (cellsOf_one _) HX1.out.1 HX1.out.2 (HP.out.row HN1.out _).2 ?_; intro v2 w2 k1 k2 k3; obtain ⟨a2, c2, rfl, hp2⟩ := (HP.out.alloc _).nxt HN1.out (92) k1 k2; have P2 := Lib.hid hp2; clear k1 k2 k3 hp2) | (at_builtin; refine wpList_append_own _ rfl (.tmp 70) (.tmp 72) 26 rfl w.heap.size 5 i0 (.int .u8 0) 1 1 Tryd.underlying26 hi hz0 hz1 hz2 rfl (by decide) (.slice a2 (N + 1) c2) (N + 1) (cellsOf (E ++ [92])) rfl (P2.out.row HN2.out _).1 ⟨w2.heap.size, 0, none⟩ 1 1 (cellsOf [c]) rfl rfl (alloc_row _ [c]) (cellsOf_one _) HX2.out.1 HX2.out.2 (P2.out.row HN2.out _).2 ?_; intro v3 w3 k1 k2 k3; obtain ⟨a3, c3, rfl, hp3⟩ := (P2.out.alloc _).nxt HN2.out (c) k1 k2; have P3 := Lib.hid hp3; clear k1 k2 k3 hp3))
        go_roundw
        case rel => exact ⟨k + 1, HKK.out, by rw [HK1.out, Int.natCast_add] <;> rfl, Lib.hid (by rw [HE2.out, HE3.out]; exact P3.out)⟩
        case measure =>
          rw [HK1.out]
          exact HMS.out
      · have q97 : decide ((97 : Int) ≤ ((c : Nat) : Int)) = false := decide_eq_false (by omega)
        have q65 : decide ((65 : Int) ≤ ((c : Nat) : Int)) = true := decide_eq_true (by omega)
        have q48 : decide ((48 : Int) ≤ ((c : Nat) : Int)) = true := decide_eq_true (by omega)
        have q33 : decide ((33 : Int) ≤ ((c : Nat) : Int)) = true := decide_eq_true (by omega)
        have q122 : decide (((c : Nat) : Int) ≤ 122) = true := decide_eq_true (by omega)
        have q90 : decide (((c : Nat) : Int) ≤ 90) = true := decide_eq_true (by omega)
        have q57 : decide (((c : Nat) : Int) ≤ 57) = false := decide_eq_false (by omega)
        have q126 : decide (((c : Nat) : Int) ≤ 126) = true := decide_eq_true (by omega)
        have hes : esc1 c = [c] := by unfold esc1 needs isLet; simp; omega
        rw [hes] at hE1
        have HE1 := Lib.hid hE1
        clear hes hE1 hr hc256
        have HN1 := Lib.hid HN.out
        have HX1 := Lib.hid (show N + 1 ≤ maxLen ∧ (N + 1) * 1 ≤ 140737488355328 from ⟨by have := HNB.out; unfold maxLen; omega, by have := HNB.out; omega⟩)
        have HE3 := Lib.hid (show E2 = E ++ [c] from HE1.out)
        go_wp2_with (first | (at_builtin; refine wpList_append_own _ rfl (.tmp 70) (.tmp 72) 26 rfl w.heap.size 5 i0 (.int .u8 0) 1 1 Tryd.underlying26 hi hz0 hz1 hz2 rfl (by decide) (.slice ao (N) co) (N) (cellsOf (E)) rfl (HP.out.row HN1.out _).1 ⟨wr.heap.size, 0, none⟩ 1 1 (cellsOf [c]) rfl rfl (alloc_row _ [c]) (cellsOf_one _) HX1.out.1 HX1.out.2 (HP.out.row HN1.out _).2 ?_; intro v2 w2 k1 k2 k3; obtain ⟨a2, c2, rfl, hp2⟩ := (HP.out.alloc _).nxt HN1.out (c) k1 k2; have P2 := Lib.hid hp2; clear k1 k2 k3 hp2))
        go_roundw
        case rel => exact ⟨k + 1, HKK.out, by rw [HK1.out, Int.natCast_add] <;> rfl, Lib.hid (by rw [HE2.out, HE3.out]; exact P2.out)⟩
        case measure =>
          rw [HK1.out]
          exact HMS.out
      · have q97 : decide ((97 : Int) ≤ ((c : Nat) : Int)) = false := decide_eq_false (by omega)
        have q65 : decide ((65 : Int) ≤ ((c : Nat) : Int)) = true := decide_eq_true (by omega)
        have q48 : decide ((48 : Int) ≤ ((c : Nat) : Int)) = true := decide_eq_true (by omega)
        have q33 : decide ((33 : Int) ≤ ((c : Nat) : Int)) = true := decide_eq_true (by omega)
        have q122 : decide (((c : Nat) : Int) ≤ 122) = true := decide_eq_true (by omega)
        have q90 : decide (((c : Nat) : Int) ≤ 90) = false := decide_eq_false (by omega)
        have q57 : decide (((c : Nat) : Int) ≤ 57) = false := decide_eq_false (by omega)
        have q126 : decide (((c : Nat) : Int) ≤ 126) = true := decide_eq_true (by omega)
        have hes : esc1 c = [92, c] := by unfold esc1 needs isLet; simp; omega
        rw [hes] at hE1
        have HE1 := Lib.hid hE1
        clear hes hE1 hr hc256
        have HN1 := Lib.hid HN.out
        have HX1 := Lib.hid (show N + 1 ≤ maxLen ∧ (N + 1) * 1 ≤ 140737488355328 from ⟨by have := HNB.out; unfold maxLen; omega, by have := HNB.out; omega⟩)
        have HN2 := Lib.hid (show (E ++ [92]).length = N + 1 from by rw [List.length_append, HN.out]; rfl)
        have HX2 := Lib.hid (show N + 1 + 1 ≤ maxLen ∧ (N + 1 + 1) * 1 ≤ 140737488355328 from ⟨by have := HNB.out; unfold maxLen; omega, by have := HNB.out; omega⟩)
        have HE3 := Lib.hid (show E2 = E ++ [92] ++ [c] from by rw [HE1.out, List.append_assoc]; rfl)
        go_wp2_with (first | (at_builtin; refine wpList_append_own _ rfl (.tmp 67) (.tmp 68) 26 rfl w.heap.size 5 i0 (.int .u8 0) 1 1 Tryd.underlying26 hi hz0 hz1 hz2 rfl (by decide) (.slice ao (N) co) (N) (cellsOf (E)) rfl (HP.out.row HN1.out _).1 ⟨wr.heap.size, 0, none⟩ 1 1 (cellsOf [92]) rfl rfl (alloc_row _ [92]) (cellsOf_one _) HX1.out.1 HX1.out.2 (HP.out.row HN1.out _).2 ?_; intro v2 w2 k1 k2 k3; obtain ⟨a2, c2, rfl, hp2⟩ := (HP.out.alloc _).nxt HN1.out (92) k1 k2; have P2 := Lib.hid hp2; clear k1 k2 k3 hp2) | (at_builtin; refine wpList_append_own _ rfl (.tmp 70) (.tmp 72) 26 rfl w.heap.size 5 i0 (.int .u8 0) 1 1 Tryd.underlying26 hi hz0 hz1 hz2 rfl (by decide) (.slice a2 (N + 1) c2) (N + 1) (cellsOf (E ++ [92])) rfl (P2.out.row HN2.out _).1 ⟨w2.heap.size, 0, none⟩ 1 1 (cellsOf [c]) rfl rfl (alloc_row _ [c]) (cellsOf_one _) HX2.out.1 HX2.out.2 (P2.out.row HN2.out _).2 ?_; intro v3 w3 k1 k2 k3; obtain ⟨a3, c3, rfl, hp3⟩ := (P2.out.alloc _).nxt HN2.out (c) k1 k2; have P3 := Lib.hid hp3; clear k1 k2 k3 hp3))
        go_roundw
        case rel => exact ⟨k + 1, HKK.out, by rw [HK1.out, Int.natCast_add] <;> rfl, Lib.hid (by rw [HE2.out, HE3.out]; exact P3.out)⟩
        case measure =>
          rw [HK1.out]
          exact HMS.out
      · have q97 : decide ((97 : Int) ≤ ((c : Nat) : Int)) = true := decide_eq_true (by omega)
        have q65 : decide ((65 : Int) ≤ ((c : Nat) : Int)) = true := decide_eq_true (by omega)
        have q48 : decide ((48 : Int) ≤ ((c : Nat) : Int)) = true := decide_eq_true (by omega)
        have q33 : decide ((33 : Int) ≤ ((c : Nat) : Int)) = true := decide_eq_true (by omega)
        have q122 : decide (((c : Nat) : Int) ≤ 122) = true := decide_eq_true (by omega)
        have q90 : decide (((c : Nat) : Int) ≤ 90) = false := decide_eq_false (by omega)
        have q57 : decide (((c : Nat) : Int) ≤ 57) = false := decide_eq_false (by omega)
        have q126 : decide (((c : Nat) : Int) ≤ 126) = true := decide_eq_true (by omega)
        have hes : esc1 c = [c] := by unfold esc1 needs isLet; simp; omega
        rw [hes] at hE1
        have HE1 := Lib.hid hE1
        clear hes hE1 hr hc256
        have HN1 := Lib.hid HN.out
        have HX1 := Lib.hid (show N + 1 ≤ maxLen ∧ (N + 1) * 1 ≤ 140737488355328 from ⟨by have := HNB.out; unfold maxLen; omega, by have := HNB.out; omega⟩)
        have HE3 := Lib.hid (show E2 = E ++ [c] from HE1.out)
        go_wp2_with (first | (at_builtin; refine wpList_append_own _ rfl (.tmp 70) (.tmp 72) 26 rfl w.heap.size 5 i0 (.int .u8 0) 1 1 Tryd.underlying26 hi hz0 hz1 hz2 rfl (by decide) (.slice ao (N) co) (N) (cellsOf (E)) rfl (HP.out.row HN1.out _).1 ⟨wr.heap.size, 0, none⟩ 1 1 (cellsOf [c]) rfl rfl (alloc_row _ [c]) (cellsOf_one _) HX1.out.1 HX1.out.2 (HP.out.row HN1.out _).2 ?_; intro v2 w2 k1 k2 k3; obtain ⟨a2, c2, rfl, hp2⟩ := (HP.out.alloc _).nxt HN1.out (c) k1 k2; have P2 := Lib.hid hp2; clear k1 k2 k3 hp2))
        go_roundw
        case rel => exact ⟨k + 1, HKK.out, by rw [HK1.out, Int.natCast_add] <;> rfl, Lib.hid (by rw [HE2.out, HE3.out]; exact P2.out)⟩
        case measure =>
          rw [HK1.out]
          exact HMS.out
      · have q97 : decide ((97 : Int) ≤ ((c : Nat) : Int)) = true := decide_eq_true (by omega)
        have q65 : decide ((65 : Int) ≤ ((c : Nat) : Int)) = true := decide_eq_true (by omega)
        have q48 : decide ((48 : Int) ≤ ((c : Nat) : Int)) = true := decide_eq_true (by omega)
        have q33 : decide ((33 : Int) ≤ ((c : Nat) : Int)) = true := decide_eq_true (by omega)
        have q122 : decide (((c : Nat) : Int) ≤ 122) = false := decide_eq_false (by omega)
        have q90 : decide (((c : Nat) : Int) ≤ 90) = false := decide_eq_false (by omega)
        have q57 : decide (((c : Nat) : Int) ≤ 57) = false := decide_eq_false (by omega)
        have q126 : decide (((c : Nat) : Int) ≤ 126) = true := decide_eq_true (by omega)
        have hes : esc1 c = [92, c] := by unfold esc1 needs isLet; simp; omega
        rw [hes] at hE1
        have HE1 := Lib.hid hE1
        clear hes hE1 hr hc256
        have HN1 := Lib.hid HN.out
        have HX1 := Lib.hid (show N + 1 ≤ maxLen ∧ (N + 1) * 1 ≤ 140737488355328 from ⟨by have := HNB.out; unfold maxLen; omega, by have := HNB.out; omega⟩)
        have HN2 := Lib.hid (show (E ++ [92]).length = N + 1 from by rw [List.length_append, HN.out]; rfl)
        have HX2 := Lib.hid (show N + 1 + 1 ≤ maxLen ∧ (N + 1 + 1) * 1 ≤ 140737488355328 from ⟨by have := HNB.out; unfold maxLen; omega, by have := HNB.out; omega⟩)
        have HE3 := Lib.hid (show E2 = E ++ [92] ++ [c] from by rw [HE1.out, List.append_assoc]; rfl)
        go_wp2_with (first | (at_builtin; refine wpList_append_own _ rfl (.tmp 67) (.tmp 68) 26 rfl w.heap.size 5 i0 (.int .u8 0) 1 1 Tryd.underlying26 hi hz0 hz1 hz2 rfl (by decide) (.slice ao (N) co) (N) (cellsOf (E)) rfl (HP.out.row HN1.out _).1 ⟨wr.heap.size, 0, none⟩ 1 1 (cellsOf [92]) rfl rfl (alloc_row _ [92]) (cellsOf_one _) HX1.out.1 HX1.out.2 (HP.out.row HN1.out _).2 ?_; intro v2 w2 k1 k2 k3; obtain ⟨a2, c2, rfl, hp2⟩ := (HP.out.alloc _).nxt HN1.out (92) k1 k2; have P2 := Lib.hid hp2; clear k1 k2 k3 hp2) | (at_builtin; refine wpList_append_own _ rfl (.tmp 70) (.tmp 72) 26 rfl w.heap.size 5 i0 (.int .u8 0) 1 1 Tryd.underlying26 hi hz0 hz1 hz2 rfl (by decide) (.slice a2 (N + 1) c2) (N + 1) (cellsOf (E ++ [92])) rfl (P2.out.row HN2.out _).1 ⟨w2.heap.size, 0, none⟩ 1 1 (cellsOf [c]) rfl rfl (alloc_row _ [c]) (cellsOf_one _) HX2.out.1 HX2.out.2 (P2.out.row HN2.out _).2 ?_; intro v3 w3 k1 k2 k3; obtain ⟨a3, c3, rfl, hp3⟩ := (P2.out.alloc _).nxt HN2.out (c) k1 k2; have P3 := Lib.hid hp3; clear k1 k2 k3 hp3))
        go_roundw
        case rel => exact ⟨k + 1, HKK.out, by rw [HK1.out, Int.natCast_add] <;> rfl, Lib.hid (by rw [HE2.out, HE3.out]; exact P3.out)⟩
        case measure =>
          rw [HK1.out]
          exact HMS.out
      · have q97 : decide ((97 : Int) ≤ ((c : Nat) : Int)) = true := decide_eq_true (by omega)
        have q65 : decide ((65 : Int) ≤ ((c : Nat) : Int)) = true := decide_eq_true (by omega)
        have q48 : decide ((48 : Int) ≤ ((c : Nat) : Int)) = true := decide_eq_true (by omega)
        have q33 : decide ((33 : Int) ≤ ((c : Nat) : Int)) = true := decide_eq_true (by omega)
        have q122 : decide (((c : Nat) : Int) ≤ 122) = false := decide_eq_false (by omega)
        have q90 : decide (((c : Nat) : Int) ≤ 90) = false := decide_eq_false (by omega)
        have q57 : decide (((c : Nat) : Int) ≤ 57) = false := decide_eq_false (by omega)
        have q126 : decide (((c : Nat) : Int) ≤ 126) = false := decide_eq_false (by omega)
        have hes : esc1 c = [c] := by unfold esc1 needs isLet; simp; omega
        rw [hes] at hE1
        have HE1 := Lib.hid hE1
        clear hes hE1 hr hc256
        have HN1 := Lib.hid HN.out
        have HX1 := Lib.hid (show N + 1 ≤ maxLen ∧ (N + 1) * 1 ≤ 140737488355328 from ⟨by have := HNB.out; unfold maxLen; omega, by have := HNB.out; omega⟩)
        have HE3 := Lib.hid (show E2 = E ++ [c] from HE1.out)
        go_wp2_with (first | (at_builtin; refine wpList_append_own _ rfl (.tmp 70) (.tmp 72) 26 rfl w.heap.size 5 i0 (.int .u8 0) 1 1 Tryd.underlying26 hi hz0 hz1 hz2 rfl (by decide) (.slice ao (N) co) (N) (cellsOf (E)) rfl (HP.out.row HN1.out _).1 ⟨wr.heap.size, 0, none⟩ 1 1 (cellsOf [c]) rfl rfl (alloc_row _ [c]) (cellsOf_one _) HX1.out.1 HX1.out.2 (HP.out.row HN1.out _).2 ?_; intro v2 w2 k1 k2 k3; obtain ⟨a2, c2, rfl, hp2⟩ := (HP.out.alloc _).nxt HN1.out (c) k1 k2; have P2 := Lib.hid hp2; clear k1 k2 k3 hp2))
        go_roundw
        case rel => exact ⟨k + 1, HKK.out, by rw [HK1.out, Int.natCast_add] <;> rfl, Lib.hid (by rw [HE2.out, HE3.out]; exact P2.out)⟩
        case measure =>
          rw [HK1.out]
          exact HMS.out
    · have hkE : k = L := by omega
      subst hkE
      rw [List.take_of_length_le (by rw [HLS.out]; omega)] at HP
      have hcv := conv_own HP.out.own HEI.out
      have C1' := Lib.hid (C1.out wr (HTW.out.below HP.out.below HTW.out.lt))
      clear P0 C1
      go_wp2_with fail
      refine C1'.out.mono ?_
      rintro e w2 ⟨rfl, hb⟩
      have P2 := Lib.hid (show Pw w w2 _ (esc bs) from ⟨HP.out.own.below hb, HP.out.below.trans (hb.mono HP.out.below.size)⟩)
      have hcv2 := conv_own P2.out.own HEI.out
      have C2' := Lib.hid (C2.out w2 (HTW.out.below P2.out.below HTW.out.lt))
      clear hb hcv C1' C2 HP
      go_wp2_with fail
      refine C2'.out.mono ?_
      rintro e w3 ⟨rfl, hb⟩
      have B3 := Lib.hid (P2.out.below.trans (hb.mono P2.out.below.size))
      clear hb hcv2 C2' P2
      rw [hbeq]
      go_wp2
      go_ret
      exact ⟨by simp, B3.out⟩
end Go.Proofs.YtgjdeilclimpdaaDoor
namespace Go.Proofs.YtgjdeilclimpdaaDoor
set_option linter.unusedVariables false
set_option linter.unusedSimpArgs false
open Rx (Set4 RS)
theorem isAt_app (A B : List Nat) (p c : Nat) : Rx.isAt (A ++ B) (A.length + p) c = Rx.isAt B p c := by unfold Rx.isAt; rw [at_append]
theorem isNext_app (A B : List Nat) (p : Nat) (l : List Nat) : Rx.isNext (A ++ B) (A.length + p) l = Rx.isNext B p l := by unfold Rx.isNext; rw [at_append]
theorem digs_app (A B : List Nat) : ∀ n p x, Rx.digs (A ++ B) n (A.length + p) x = (A.length + (Rx.digs B n p x).1, (Rx.digs B n p x).2)
  | 0, p, x => rfl
  | n + 1, p, x => by
    unfold Rx.digs
    rw [at_append]
    cases hb : B[p]? with
    | none => rfl
    | some c =>
      simp only
      split
      · exact digs_app A B n (p + 1) _
      · rfl
theorem number_app (A B : List Nat) (p : Nat) : Rx.number (A ++ B) (A.length + p) = ((Rx.number B p).1, (Rx.number B p).2.1, A.length + (Rx.number B p).2.2) := by
  unfold Rx.number
  rw [digs_app]
  simp
theorem boundsEnd_app (A B : List Nat) (l : Nat) (m : Option Nat) (p : Nat) : Rx.boundsEnd (A ++ B) l m (A.length + p) = ((Rx.boundsEnd B l m p).1, A.length + (Rx.boundsEnd B l m p).2) := by
  unfold Rx.boundsEnd
  rw [isAt_app]
  split <;> rfl
theorem bounds2_app (A B : List Nat) (l p : Nat) : Rx.bounds2 (A ++ B) l (A.length + p) = ((Rx.bounds2 B l p).1, A.length + (Rx.bounds2 B l p).2) := by
  unfold Rx.bounds2
  rw [isNext_app, number_app]
  simp only
  split
  · exact boundsEnd_app A B l none p
  · split
    · exact boundsEnd_app A B l _ _
    · rfl
theorem bounds_app (A B : List Nat) (p : Nat) : Rx.bounds (A ++ B) (A.length + p) = ((Rx.bounds B p).1, A.length + (Rx.bounds B p).2) := by
  unfold Rx.bounds
  rw [number_app]
  simp only
  rw [isAt_app]
  split
  · split
    · rw [Nat.add_assoc]; exact bounds2_app A B _ _
    · exact boundsEnd_app A B _ _ _
  · rfl
theorem sg_only : ∀ c, c < 256 → sg (Set4.only c) = some c := by decide +kernel
theorem join_none (x : Set4) : Set4.none.join x = x := by
  cases x
  unfold Set4.none Set4.join
  simp
def preC (c : Nat) : List Nat := 91 :: (esc1 c ++ [93])
def tailT (l : Nat) (m : Option Nat) (c : Nat) : Rx.Node := .alt [.seq [.count l m false false (.byte (Set4.only c))]]
/-- the class -/
theorem class_one (c : Nat) (hc : c < 256) (B : List Nat) : Rx.classSet sg (preC c ++ B) 0 = (some (Set4.only c), (preC c).length) := by
  by_cases hn : needs c = true
  · have e1 : esc1 c = [92, c] := by unfold esc1; rw [if_pos hn]
    have hb : preC c ++ B = 91 :: 92 :: c :: 93 :: B := by unfold preC; rw [e1]; rfl
    have hl : (preC c).length = 4 := by unfold preC; rw [e1]; rfl
    have g1 : (91 :: 92 :: c :: 93 :: B)[1]? = some 92 := rfl
    have g2 : (91 :: 92 :: c :: 93 :: B)[2]? = some c := rfl
    have g3 : (91 :: 92 :: c :: 93 :: B)[3]? = some 93 := rfl
    have hpe : Rx.plainOrEscape (91 :: 92 :: c :: 93 :: B) 1 = (some (Set4.only c), 3) := by
      unfold Rx.plainOrEscape Rx.peEnd
      rw [isAt_get g1, g2]
      simp [mean_only c hc hn, only_some c hc]
    have hit1 : Rx.item (91 :: 92 :: c :: 93 :: B) 1 = (some (Set4.only c), 3) := by
      unfold Rx.item
      rw [isNext_get g1, if_neg (by simp)]
      exact hpe
    have hit : Rx.items sg (91 :: 92 :: c :: 93 :: B) 1 1 = (some (Set4.only c), 3) := by
      unfold Rx.items
      rw [if_neg (by omega), hit1]
      simp only [sg_only c hc]
      unfold Rx.dashBetween
      rw [isNext_get g3]
      simp
    rw [hb, hl]
    unfold Rx.classSet
    rw [isAt_get g1]
    simp only [show ¬ (92 : Nat) = 94 by decide, decide_false, Bool.false_eq_true, if_false, Nat.zero_add]
    rw [Rx.classLoop, hit]
    simp only [ne_eq, not_true, false_and, if_false, join_none]
    rw [List.length_cons, Rx.classLoop, isAt_get g3]
    simp
  · have e1 : esc1 c = [c] := by unfold esc1; rw [if_neg hn]
    have hb : preC c ++ B = 91 :: c :: 93 :: B := by unfold preC; rw [e1]; rfl
    have hl : (preC c).length = 3 := by unfold preC; rw [e1]; rfl
    have hpl := plain_all c hc (by simpa using hn)
    unfold plainC at hpl
    simp at hpl
    have h93 : c ≠ 93 := by
      intro e; subst e
      exact hn (by decide)
    have g1 : (91 :: c :: 93 :: B)[1]? = some c := rfl
    have g2 : (91 :: c :: 93 :: B)[2]? = some 93 := rfl
    have hpe : Rx.plainOrEscape (91 :: c :: 93 :: B) 1 = (some (Set4.only c), 2) := by
      unfold Rx.plainOrEscape Rx.peEnd
      rw [isAt_get g1, g1]
      simp [hpl, only_some c hc]
    have hit1 : Rx.item (91 :: c :: 93 :: B) 1 = (some (Set4.only c), 2) := by
      unfold Rx.item
      rw [isNext_get g1, if_neg (by simp [h93])]
      exact hpe
    have hit : Rx.items sg (91 :: c :: 93 :: B) 1 1 = (some (Set4.only c), 2) := by
      unfold Rx.items
      rw [if_neg (by omega), hit1]
      simp only [sg_only c hc]
      unfold Rx.dashBetween
      rw [isNext_get g2]
      simp
    rw [hb, hl]
    unfold Rx.classSet
    rw [isAt_get g1]
    simp only [hpl, decide_false, Bool.false_eq_true, if_false, Nat.zero_add]
    rw [Rx.classLoop, hit]
    simp only [ne_eq, not_true, false_and, if_false, join_none]
    rw [List.length_cons, Rx.classLoop, isAt_get g2]
    simp
/-- what stands behind the class -/
structure CntTail (B : List Nat) (l : Nat) (m : Option Nat) : Prop where
  head : B[0]? = some 123
  bnd : Rx.bounds B 1 = (some (l, m), B.length)
  len : B.length ≤ 10
theorem parse_times (c : Nat) (hc : c < 256) (B : List Nat) (l : Nat) (m : Option Nat) (h : CntTail B l m) : Rx.parse sg (preC c ++ B) = (some (tailT l m c), Rx.st0.to (preC c ++ B).length) := by
  obtain ⟨f, hf⟩ : ∃ f, Rx.pat sg (preC c ++ B) (preC c ++ B).length = f := ⟨_, rfl⟩
  have h0 : (preC c ++ B)[0]? = some 91 := rfl
  have hq : ∀ k, (preC c ++ B)[(preC c).length + k]? = B[k]? := fun k => at_append _ _ _
  have hat : Rx.atom sg f (preC c ++ B) Rx.st0 = (some (.byte (Set4.only c)), Rx.st0.to (preC c).length) := by
    unfold Rx.atom
    rw [show Rx.st0.at' = 0 from rfl, isNext_get h0, isNext_get h0, isNext_get h0, class_one c hc B]
    rfl
  have hlz : ∀ st : RS, st.at' = (preC c ++ B).length → Rx.lazyEnd (preC c ++ B) st l m false (.byte (Set4.only c)) = (some (.count l m false false (.byte (Set4.only c))), st) := by
    intro st hst
    unfold Rx.lazyEnd
    rw [isAt_no (by rw [hst]; simp)]
    rfl
  have hct : Rx.countOf (preC c ++ B) (.byte (Set4.only c)) (Rx.st0.to (preC c).length) = (some (.count l m false false (.byte (Set4.only c))), Rx.st0.to (preC c ++ B).length) := by
    have g0 : (preC c ++ B)[(preC c).length]? = some 123 := by rw [← Nat.add_zero (preC c).length, hq]; exact h.head
    unfold Rx.countOf
    rw [show (Rx.st0.to (preC c).length).at' = (preC c).length from rfl, isAt_get g0, isAt_get g0, isAt_get g0, isAt_get g0, bounds_app, h.bnd]
    simp only [show ¬ (123 : Nat) = 42 by decide, show ¬ (123 : Nat) = 43 by decide, show ¬ (123 : Nat) = 63 by decide, decide_false, decide_true, Bool.false_eq_true, if_false, if_true]
    have e : (Rx.st0.to (preC c).length).to ((preC c).length + B.length) = Rx.st0.to (preC c ++ B).length := by rw [List.length_append]; rfl
    rw [e]
    exact hlz _ rfl
  have hbr : Rx.branchLoop sg f (preC c ++ B) ((preC c ++ B).length + 1) [] Rx.st0 = (some [.count l m false false (.byte (Set4.only c))], Rx.st0.to (preC c ++ B).length) := by
    have hl2 : ∃ N, (preC c ++ B).length = N + 1 := ⟨(esc1 c ++ [93] ++ B).length, by simp [preC]⟩
    obtain ⟨N, hN⟩ := hl2
    rw [Rx.branchLoop]
    have hgo : Rx.goesOn (preC c ++ B) Rx.st0.at' = true := by unfold Rx.goesOn; rw [show Rx.st0.at' = 0 from rfl, h0]; rfl
    rw [hgo]
    unfold Rx.piece
    rw [hat]
    simp only [if_true]
    rw [hct]
    simp only
    rw [hN, Rx.branchLoop]
    have hend : Rx.goesOn (preC c ++ B) (Rx.st0.to (N + 1)).at' = false := by
      unfold Rx.goesOn
      rw [show (Rx.st0.to (N + 1)).at' = N + 1 from rfl, ← hN, List.getElem?_eq_none (Nat.le_refl _)]
    rw [hend]
    rfl
  unfold Rx.parse
  rw [Rx.pat, hf, Rx.patLoop]
  unfold Rx.branch
  rw [hbr]
  simp only
  rw [isAt_no (by show (preC c ++ B)[(preC c ++ B).length]? = none; simp)]
  rfl
theorem wf_times (l : Nat) (m : Option Nat) (c : Nat) (h : ∀ M, m = some M → l ≤ M) : Rx.Wf (tailT l m c) := by
  unfold tailT Rx.Wf Rx.WfAll
  refine ⟨by simp, ?_, by unfold Rx.WfAll; trivial⟩
  unfold Rx.Wf Rx.WfAll
  refine ⟨?_, by unfold Rx.WfAll; trivial⟩
  rw [Rx.Wf]
  exact ⟨by unfold Rx.Wf; trivial, h, fun h => by cases h⟩
theorem states_times (l : Nat) (m : Option Nat) (c : Nat) (hl : l ≤ 100) (hm : ∀ M, m = some M → M ≤ 100) : Rx.states (tailT l m c) ≤ 999 := by
  unfold tailT Rx.states Rx.statesAll Rx.statesAll Rx.states Rx.statesAll Rx.statesAll Rx.states Rx.statesOf
  have e : Rx.states (.byte (Set4.only c)) = 1 := by unfold Rx.states; rfl
  rw [e]
  cases m with
  | none => simp; omega
  | some M => have := hm M rfl; simp; omega
theorem compile_times (c : Nat) (hc : c < 256) (B : List Nat) (l : Nat) (m : Option Nat) (h : CntTail B l m) (hl : l ≤ 100) (hm : ∀ M, m = some M → M ≤ 100) : Rx.compile sg (preC c ++ B) = .ok (tailT l m c, 0) := by
  have hp := parse_times c hc B l m h
  have hlen : (preC c ++ B).length ≤ 20 := by
    have := h.len
    unfold preC esc1
    split <;> simp <;> omega
  unfold Rx.compile
  rw [if_neg (by omega), hp]
  simp only
  have hs := states_times l m c hl hm
  rw [if_neg (by simp [RS.to]), if_neg (by simp [RS.to, Rx.st0]; omega)]
  rfl
theorem reps_one (c k : Nat) (hc : c < 256) : ∀ n i j, Rx.Reps (Rx.Fits (List.replicate k c) (.byte (Set4.only c))) n i j ↔ (j = i + n ∧ (n = 0 ∨ j ≤ k))
  | 0, i, j => by
    unfold Rx.Reps
    constructor
    · intro h; exact ⟨by omega, .inl rfl⟩
    · rintro ⟨h, _⟩; omega
  | n + 1, i, j => by
    unfold Rx.Reps
    constructor
    · rintro ⟨q, h1, h2⟩
      rw [reps_one c k hc n q j] at h2
      unfold Rx.Fits at h1
      obtain ⟨b, e1, _, rfl⟩ := h1
      have hlt := (List.getElem?_eq_some_iff.1 e1).1
      rw [List.length_replicate] at hlt
      refine ⟨by omega, .inr ?_⟩
      rcases h2.2 with h | h <;> omega
    · rintro ⟨rfl, h⟩
      have hi : i < k := by omega
      refine ⟨i + 1, ?_, (reps_one c k hc n (i + 1) _).2 ⟨by omega, by omega⟩⟩
      unfold Rx.Fits
      exact ⟨c, by simp [List.getElem?_replicate, hi], by rw [Rx.only_has c c hc hc]; simp, rfl⟩
def inB (l : Nat) (m : Option Nat) (k : Nat) : Bool := decide (l ≤ k) && (match m with
  | none => true
  | some M => decide (k ≤ M))
theorem fitB_times (c k : Nat) (hc : c < 256) (l : Nat) (m : Option Nat) (h : ∀ M, m = some M → l ≤ M) : fitB (tailT l m c) (List.replicate k c) = inB l m k := by
  unfold fitB
  have hm := Rx.match_iff (tailT l m c) (wf_times l m c h) (List.replicate k c) false
  have h2 : Rx.Fits (List.replicate k c) (tailT l m c) 0 (List.replicate k c).length ↔ inB l m k = true := by
    unfold tailT Rx.Fits Rx.FitsAlt Rx.FitsAlt
    rw [Rx.Fits, Rx.FitsSeq, List.length_replicate]
    have e : (∃ q, Rx.Fits (List.replicate k c) (.count l m false false (.byte (Set4.only c))) 0 q ∧ Rx.FitsSeq (List.replicate k c) [] q k) ↔ Rx.Fits (List.replicate k c) (.count l m false false (.byte (Set4.only c))) 0 k := by
      constructor
      · rintro ⟨q, h1, h3⟩
        unfold Rx.FitsSeq at h3
        subst h3
        exact h1
      · intro h1
        exact ⟨k, h1, by unfold Rx.FitsSeq; rfl⟩
    rw [e, or_false, Rx.Fits]
    constructor
    · rintro ⟨n, h1, h3, h4⟩
      rw [reps_one c k hc] at h4
      have : n = k := by omega
      subst this
      unfold inB
      rw [decide_eq_true h1]
      cases m with
      | none => rfl
      | some M => simp; exact h3 M rfl
    · intro hi
      unfold inB at hi
      rw [Bool.and_eq_true] at hi
      refine ⟨k, by simpa using hi.1, fun M hM => ?_, (reps_one c k hc k 0 k).2 ⟨by omega, by omega⟩⟩
      subst hM
      simpa using hi.2
  rw [h2] at hm
  exact Bool.eq_iff_iff.2 hm
theorem fitsV_times (c k : Nat) (hc : c < 256) (B : List Nat) (l : Nat) (m : Option Nat) (h : CntTail B l m) (hl : l ≤ 100) (hm : ∀ M, m = some M → l ≤ M ∧ M ≤ 100) : fitsV (preC c ++ B) (List.replicate k c) = (true, inB l m k) := by
  unfold fitsV
  rw [compile_times c hc B l m h hl fun M hM => (hm M hM).2]
  simp only
  rw [fitB_times c k hc l m fun M hM => (hm M hM).1]
/-- a number, base ten -/
def dgL (n : Nat) : List Nat := if n < 10 then [48 + n] else [48 + n / 10, 48 + n % 10]
theorem tailA0 : ∀ x, x < 144 → (Rx.bounds ([123] ++ dgL (x / 12) ++ [44] ++ dgL (x / 12 + x % 12) ++ [125]) 1 = (some (x / 12, some (x / 12 + x % 12)), ([123] ++ dgL (x / 12) ++ [44] ++ dgL (x / 12 + x % 12) ++ [125]).length) ∧ ([123] ++ dgL (x / 12) ++ [44] ++ dgL (x / 12 + x % 12) ++ [125]).length ≤ 10) := by decide +kernel
theorem tailA (l d : Nat) (hl : l < 12) (hd : d < 12) : Rx.bounds ([123] ++ dgL l ++ [44] ++ dgL (l + d) ++ [125]) 1 = (some (l, some (l + d)), ([123] ++ dgL l ++ [44] ++ dgL (l + d) ++ [125]).length) ∧ ([123] ++ dgL l ++ [44] ++ dgL (l + d) ++ [125]).length ≤ 10 := by
  have h := tailA0 (12 * l + d) (by omega)
  rw [show (12 * l + d) / 12 = l by omega, show (12 * l + d) % 12 = d by omega] at h
  exact h
theorem tailB : ∀ l, l < 12 → (Rx.bounds ([123] ++ dgL l ++ [44, 125]) 1 = (some (l, none), ([123] ++ dgL l ++ [44, 125]).length) ∧ ([123] ++ dgL l ++ [44, 125]).length ≤ 10) := by decide +kernel
theorem tailC : ∀ l, l < 12 → (Rx.bounds ([123] ++ dgL l ++ [125]) 1 = (some (l, some l), ([123] ++ dgL l ++ [125]).length) ∧ ([123] ++ dgL l ++ [125]).length ≤ 10) := by decide +kernel
end Go.Proofs.YtgjdeilclimpdaaDoor
namespace Go.Proofs.YtgjdeilclimpdaaDoor
set_option linter.unusedVariables false
set_option linter.unusedSimpArgs false
open Go.RowKit Go.PlainAid Go.Shelf
theorem conv_laid (W : World) (ds : List Nat) (hB : IsB ds) (hl : ds.length ≤ maxLen) (n : Nat) (hn : ds.length = n) : (convert 26 9 (.slice (some ⟨W.heap.size, 0, none⟩) n n)).run Tryd.prog (W.alloc (.cells (cellsOf ds).toArray 5)) = .ok (.string (strOf ds)) (W.alloc (.cells (cellsOf ds).toArray 5)) := by
  subst hn
  exact conv_own (Own.laid W ds hl 0 (Nat.zero_le _)) hB
theorem strOf_append (a b : List Nat) : strOf a ++ strOf b = strOf (a ++ b) := by
  apply ByteArray.ext
  rw [ByteArray.data_append]
  unfold strOf
  simp
set_option maxHeartbeats 4000000 in
set_option maxRecDepth 100000 in
theorem hex_any (c : Nat) (hc256 : c < 256) (w : World) : Calls Tryd.prog 8 #[.int .u8 ((c : Nat) : Int)] w (Gives w (.string (strOf (esc1 c)))) := by
  have hcv1 : ∀ W : World, (convert 26 9 (.slice (some ⟨W.heap.size, 0, none⟩) 1 1)).run Tryd.prog (W.alloc (.cells #[.int .u8 ((c : Nat) : Int)] 5)) = .ok (.string (strOf [c])) (W.alloc (.cells #[.int .u8 ((c : Nat) : Int)] 5)) := fun W => conv_laid W [c] (IsB.cons hc256 IsB.nil) (by unfold maxLen; simp) 1 rfl
  have hcv2 : ∀ W : World, (convert 26 9 (.slice (some ⟨W.heap.size, 0, none⟩) 2 2)).run Tryd.prog (W.alloc (.cells #[.int .u8 92, .int .u8 ((c : Nat) : Int)] 5)) = .ok (.string (strOf [92, c])) (W.alloc (.cells #[.int .u8 92, .int .u8 ((c : Nat) : Int)] 5)) := fun W => conv_laid W [92, c] (IsB.cons (by decide) (IsB.cons hc256 IsB.nil)) (by unfold maxLen; simp) 2 rfl
  have hsp : c ≤ 32 ∨ (33 ≤ c ∧ c ≤ 47) ∨ (48 ≤ c ∧ c ≤ 57) ∨ (58 ≤ c ∧ c ≤ 64) ∨ (65 ≤ c ∧ c ≤ 90) ∨ (91 ≤ c ∧ c ≤ 96) ∨ (97 ≤ c ∧ c ≤ 122) ∨ (123 ≤ c ∧ c ≤ 126) ∨ 127 ≤ c := by omega
  rcases hsp with hr | hr | hr | hr | hr | hr | hr | hr | hr
  · have q97 : decide ((97 : Int) ≤ ((c : Nat) : Int)) = false := decide_eq_false (by omega)
    have q65 : decide ((65 : Int) ≤ ((c : Nat) : Int)) = false := decide_eq_false (by omega)
    have q48 : decide ((48 : Int) ≤ ((c : Nat) : Int)) = false := decide_eq_false (by omega)
    have q33 : decide ((33 : Int) ≤ ((c : Nat) : Int)) = false := decide_eq_false (by omega)
    have q122 : decide (((c : Nat) : Int) ≤ 122) = true := decide_eq_true (by omega)
    have q90 : decide (((c : Nat) : Int) ≤ 90) = true := decide_eq_true (by omega)
    have q57 : decide (((c : Nat) : Int) ≤ 57) = true := decide_eq_true (by omega)
    have q126 : decide (((c : Nat) : Int) ≤ 126) = true := decide_eq_true (by omega)
    have hes : esc1 c = [c] := by unfold esc1 needs isLet; simp; omega
    rw [hes]
    clear hes hr hc256
    go_enter Tryd.func8, Tryd.ntmps8
    go_wp2
    go_ret
    exact ⟨rfl, (Below.refl _ w).alloc (Nat.le_refl _) _⟩
  · have q97 : decide ((97 : Int) ≤ ((c : Nat) : Int)) = false := decide_eq_false (by omega)
    have q65 : decide ((65 : Int) ≤ ((c : Nat) : Int)) = false := decide_eq_false (by omega)
    have q48 : decide ((48 : Int) ≤ ((c : Nat) : Int)) = false := decide_eq_false (by omega)
    have q33 : decide ((33 : Int) ≤ ((c : Nat) : Int)) = true := decide_eq_true (by omega)
    have q122 : decide (((c : Nat) : Int) ≤ 122) = true := decide_eq_true (by omega)
    have q90 : decide (((c : Nat) : Int) ≤ 90) = true := decide_eq_true (by omega)
    have q57 : decide (((c : Nat) : Int) ≤ 57) = true := decide_eq_true (by omega)
    have q126 : decide (((c : Nat) : Int) ≤ 126) = true := decide_eq_true (by omega)
    have hes : esc1 c = [92, c] := by unfold esc1 needs isLet; simp; omega
    rw [hes]
    clear hes hr hc256
    go_enter Tryd.func8, Tryd.ntmps8
    go_wp2
    go_ret
    exact ⟨rfl, (Below.refl _ w).alloc (Nat.le_refl _) _⟩
  · have q97 : decide ((97 : Int) ≤ ((c : Nat) : Int)) = false := decide_eq_false (by omega)
    have q65 : decide ((65 : Int) ≤ ((c : Nat) : Int)) = false := decide_eq_false (by omega)
    have q48 : decide ((48 : Int) ≤ ((c : Nat) : Int)) = true := decide_eq_true (by omega)
    have q33 : decide ((33 : Int) ≤ ((c : Nat) : Int)) = true := decide_eq_true (by omega)
    have q122 : decide (((c : Nat) : Int) ≤ 122) = true := decide_eq_true (by omega)
    have q90 : decide (((c : Nat) : Int) ≤ 90) = true := decide_eq_true (by omega)
    have q57 : decide (((c : Nat) : Int) ≤ 57) = true := decide_eq_true (by omega)
    have q126 : decide (((c : Nat) : Int) ≤ 126) = true := decide_eq_true (by omega)
    have hes : esc1 c = [c] := by unfold esc1 needs isLet; simp; omega
    rw [hes]
    clear hes hr hc256
    go_enter Tryd.func8, Tryd.ntmps8
    go_wp2
    go_ret
    exact ⟨rfl, (Below.refl _ w).alloc (Nat.le_refl _) _⟩
  · have q97 : decide ((97 : Int) ≤ ((c : Nat) : Int)) = false := decide_eq_false (by omega)
    have q65 : decide ((65 : Int) ≤ ((c : Nat) : Int)) = false := decide_eq_false (by omega)
    have q48 : decide ((48 : Int) ≤ ((c : Nat) : Int)) = true := decide_eq_true (by omega)
    have q33 : decide ((33 : Int) ≤ ((c : Nat) : Int)) = true := decide_eq_true (by omega)
    have q122 : decide (((c : Nat) : Int) ≤ 122) = true := decide_eq_true (by omega)
    have q90 : decide (((c : Nat) : Int) ≤ 90) = true := decide_eq_true (by omega)
    have q57 : decide (((c : Nat) : Int) ≤ 57) = false := decide_eq_false (by omega)
    have q126 : decide (((c : Nat) : Int) ≤ 126) = true := decide_eq_true (by omega)
    have hes : esc1 c = [92, c] := by unfold esc1 needs isLet; simp; omega
    rw [hes]
    clear hes hr hc256
    go_enter Tryd.func8, Tryd.ntmps8
    go_wp2
    go_ret
    exact ⟨rfl, (Below.refl _ w).alloc (Nat.le_refl _) _⟩
  · have q97 : decide ((97 : Int) ≤ ((c : Nat) : Int)) = false := decide_eq_false (by omega)
    have q65 : decide ((65 : Int) ≤ ((c : Nat) : Int)) = true := decide_eq_true (by omega)
    have q48 : decide ((48 : Int) ≤ ((c : Nat) : Int)) = true := decide_eq_true (by omega)
    have q33 : decide ((33 : Int) ≤ ((c : Nat) : Int)) = true := decide_eq_true (by omega)
    have q122 : decide (((c : Nat) : Int) ≤ 122) = true := decide_eq_true (by omega)
    have q90 : decide (((c : Nat) : Int) ≤ 90) = true := decide_eq_true (by omega)
    have q57 : decide (((c : Nat) : Int) ≤ 57) = false := decide_eq_false (by omega)
    have q126 : decide (((c : Nat) : Int) ≤ 126) = true := decide_eq_true (by omega)
    have hes : esc1 c = [c] := by unfold esc1 needs isLet; simp; omega
    rw [hes]
    clear hes hr hc256
    go_enter Tryd.func8, Tryd.ntmps8
    go_wp2
    go_ret
    exact ⟨rfl, (Below.refl _ w).alloc (Nat.le_refl _) _⟩
  · have q97 : decide ((97 : Int) ≤ ((c : Nat) : Int)) = false := decide_eq_false (by omega)
    have q65 : decide ((65 : Int) ≤ ((c : Nat) : Int)) = true := decide_eq_true (by omega)
    have q48 : decide ((48 : Int) ≤ ((c : Nat) : Int)) = true := decide_eq_true (by omega)
    have q33 : decide ((33 : Int) ≤ ((c : Nat) : Int)) = true := decide_eq_true (by omega)
    have q122 : decide (((c : Nat) : Int) ≤ 122) = true := decide_eq_true (by omega)
    have q90 : decide (((c : Nat) : Int) ≤ 90) = false := decide_eq_false (by omega)
    have q57 : decide (((c : Nat) : Int) ≤ 57) = false := decide_eq_false (by omega)
    have q126 : decide (((c : Nat) : Int) ≤ 126) = true := decide_eq_true (by omega)
    have hes : esc1 c = [92, c] := by unfold esc1 needs isLet; simp; omega
    rw [hes]
    clear hes hr hc256
    go_enter Tryd.func8, Tryd.ntmps8
    go_wp2
    go_ret
    exact ⟨rfl, (Below.refl _ w).alloc (Nat.le_refl _) _⟩
  · have q97 : decide ((97 : Int) ≤ ((c : Nat) : Int)) = true := decide_eq_true (by omega)
    have q65 : decide ((65 : Int) ≤ ((c : Nat) : Int)) = true := decide_eq_true (by omega)
    have q48 : decide ((48 : Int) ≤ ((c : Nat) : Int)) = true := decide_eq_true (by omega)
    have q33 : decide ((33 : Int) ≤ ((c : Nat) : Int)) = true := decide_eq_true (by omega)
    have q122 : decide (((c : Nat) : Int) ≤ 122) = true := decide_eq_true (by omega)
    have q90 : decide (((c : Nat) : Int) ≤ 90) = false := decide_eq_false (by omega)
    have q57 : decide (((c : Nat) : Int) ≤ 57) = false := decide_eq_false (by omega)
    have q126 : decide (((c : Nat) : Int) ≤ 126) = true := decide_eq_true (by omega)
    have hes : esc1 c = [c] := by unfold esc1 needs isLet; simp; omega
    rw [hes]
    clear hes hr hc256
    go_enter Tryd.func8, Tryd.ntmps8
    go_wp2
    go_ret
    exact ⟨rfl, (Below.refl _ w).alloc (Nat.le_refl _) _⟩
  · have q97 : decide ((97 : Int) ≤ ((c : Nat) : Int)) = true := decide_eq_true (by omega)
    have q65 : decide ((65 : Int) ≤ ((c : Nat) : Int)) = true := decide_eq_true (by omega)
    have q48 : decide ((48 : Int) ≤ ((c : Nat) : Int)) = true := decide_eq_true (by omega)
    have q33 : decide ((33 : Int) ≤ ((c : Nat) : Int)) = true := decide_eq_true (by omega)
    have q122 : decide (((c : Nat) : Int) ≤ 122) = false := decide_eq_false (by omega)
    have q90 : decide (((c : Nat) : Int) ≤ 90) = false := decide_eq_false (by omega)
    have q57 : decide (((c : Nat) : Int) ≤ 57) = false := decide_eq_false (by omega)
    have q126 : decide (((c : Nat) : Int) ≤ 126) = true := decide_eq_true (by omega)
    have hes : esc1 c = [92, c] := by unfold esc1 needs isLet; simp; omega
    rw [hes]
    clear hes hr hc256
    go_enter Tryd.func8, Tryd.ntmps8
    go_wp2
    go_ret
    exact ⟨rfl, (Below.refl _ w).alloc (Nat.le_refl _) _⟩
  · have q97 : decide ((97 : Int) ≤ ((c : Nat) : Int)) = true := decide_eq_true (by omega)
    have q65 : decide ((65 : Int) ≤ ((c : Nat) : Int)) = true := decide_eq_true (by omega)
    have q48 : decide ((48 : Int) ≤ ((c : Nat) : Int)) = true := decide_eq_true (by omega)
    have q33 : decide ((33 : Int) ≤ ((c : Nat) : Int)) = true := decide_eq_true (by omega)
    have q122 : decide (((c : Nat) : Int) ≤ 122) = false := decide_eq_false (by omega)
    have q90 : decide (((c : Nat) : Int) ≤ 90) = false := decide_eq_false (by omega)
    have q57 : decide (((c : Nat) : Int) ≤ 57) = false := decide_eq_false (by omega)
    have q126 : decide (((c : Nat) : Int) ≤ 126) = false := decide_eq_false (by omega)
    have hes : esc1 c = [c] := by unfold esc1 needs isLet; simp; omega
    rw [hes]
    clear hes hr hc256
    go_enter Tryd.func8, Tryd.ntmps8
    go_wp2
    go_ret
    exact ⟨rfl, (Below.refl _ w).alloc (Nat.le_refl _) _⟩
set_option maxHeartbeats 4000000 in
set_option maxRecDepth 100000 in
theorem digit_one (n : Nat) (hn : n < 10) (w : World) : Calls Tryd.prog 9 #[.int .i64 ((n : Nat) : Int)] w (Gives w (.string (strOf [48 + n]))) := by
  have h48 : ((48 + n : Nat) : Int) = 48 + ((n : Nat) : Int) := by omega
  have hcv1 : ∀ W : World, (convert 26 9 (.slice (some ⟨W.heap.size, 0, none⟩) 1 1)).run Tryd.prog (W.alloc (.cells #[.int .u8 (48 + ((n : Nat) : Int))] 5)) = .ok (.string (strOf [48 + n])) (W.alloc (.cells #[.int .u8 (48 + ((n : Nat) : Int))] 5)) := fun W => by
    have := conv_laid W [48 + n] (IsB.cons (by omega) IsB.nil) (by unfold maxLen; simp) 1 rfl
    simp only [cellsOf, List.map_cons, List.map_nil, h48] at this
    exact this
  have hd : decide (((n : Nat) : Int) < 10) = true := decide_eq_true (by omega)
  have hw1 : IntKind.u8.wrap ((n : Nat) : Int) = ((n : Nat) : Int) := by rw [IntKind.wrap_u8]; omega
  have hw2 : IntKind.u8.wrap (48 + ((n : Nat) : Int)) = 48 + ((n : Nat) : Int) := by rw [IntKind.wrap_u8]; omega
  clear h48
  go_enter Tryd.func9, Tryd.ntmps9
  go_wp2
  go_ret
  exact ⟨rfl, (Below.refl _ w).alloc (Nat.le_refl _) _⟩
set_option maxHeartbeats 4000000 in
set_option maxRecDepth 100000 in
theorem digits_any (n : Nat) (hn : n < 23) (w : World) : Calls Tryd.prog 9 #[.int .i64 ((n : Nat) : Int)] w (Gives w (.string (strOf (dgL n)))) := by
  by_cases h10 : n < 10
  · rw [show dgL n = [48 + n] by unfold dgL; rw [if_pos h10]]
    exact digit_one n h10 w
  · rcases (show n = 10 ∨ n = 11 ∨ n = 12 ∨ n = 13 ∨ n = 14 ∨ n = 15 ∨ n = 16 ∨ n = 17 ∨ n = 18 ∨ n = 19 ∨ n = 20 ∨ n = 21 ∨ n = 22 from by omega) with rfl | rfl | rfl | rfl | rfl | rfl | rfl | rfl | rfl | rfl | rfl | rfl | rfl
    · have C1 := fun w => digit_one 1 (by decide) w
      have C2 := fun w => digit_one 0 (by decide) w
      rw [show ((1 : Nat) : Int) = 1 from rfl] at C1
      rw [show ((0 : Nat) : Int) = 0 from rfl] at C2
      have C1 := Lib.hid C1
      have C2 := Lib.hid C2
      rw [show dgL 10 = [48 + 1] ++ [48 + 0] from rfl, ← strOf_append, show ((10 : Nat) : Int) = 10 from rfl]
      have s1 : (strOf [48 + 1]).size = 1 := by rw [strOf_size]; rfl
      have s2 : (strOf [48 + 0]).size = 1 := by rw [strOf_size]; rfl
      generalize strOf [48 + 1] = A at C1 s1 ⊢
      generalize strOf [48 + 0] = B at C2 s2 ⊢
      have hsm : A.size + B.size ≤ 9223372036854775807 := by omega
      have hsm2 : ¬ 9223372036854775807 < A.size + B.size := by omega
      clear hn h10
      go_enter Tryd.func9, Tryd.ntmps9
      go_wp2_with fail
      refine (C1.out _).mono ?_
      rintro e w1 ⟨rfl, hb1⟩
      go_wp2_with fail
      refine (C2.out _).mono ?_
      rintro e w2 ⟨rfl, hb2⟩
      have HB := Lib.hid (hb1.trans (hb2.mono hb1.size))
      clear hb1 hb2
      go_wp2
      go_ret
      exact ⟨rfl, HB.out⟩
    · have C1 := fun w => digit_one 1 (by decide) w
      have C2 := fun w => digit_one 1 (by decide) w
      rw [show ((1 : Nat) : Int) = 1 from rfl] at C1
      rw [show ((1 : Nat) : Int) = 1 from rfl] at C2
      have C1 := Lib.hid C1
      have C2 := Lib.hid C2
      rw [show dgL 11 = [48 + 1] ++ [48 + 1] from rfl, ← strOf_append, show ((11 : Nat) : Int) = 11 from rfl]
      have s1 : (strOf [48 + 1]).size = 1 := by rw [strOf_size]; rfl
      have s2 : (strOf [48 + 1]).size = 1 := by rw [strOf_size]; rfl
      generalize strOf [48 + 1] = A at C1 C2 s1 s2 ⊢
      have hsm : A.size + A.size ≤ 9223372036854775807 := by omega
      have hsm2 : ¬ 9223372036854775807 < A.size + A.size := by omega
      clear hn h10
      go_enter Tryd.func9, Tryd.ntmps9
      go_wp2_with fail
      refine (C1.out _).mono ?_
      rintro e w1 ⟨rfl, hb1⟩
      go_wp2_with fail
      refine (C2.out _).mono ?_
      rintro e w2 ⟨rfl, hb2⟩
      have HB := Lib.hid (hb1.trans (hb2.mono hb1.size))
      clear hb1 hb2
      go_wp2
      go_ret
      exact ⟨rfl, HB.out⟩
    · have C1 := fun w => digit_one 1 (by decide) w
      have C2 := fun w => digit_one 2 (by decide) w
      rw [show ((1 : Nat) : Int) = 1 from rfl] at C1
      rw [show ((2 : Nat) : Int) = 2 from rfl] at C2
      have C1 := Lib.hid C1
      have C2 := Lib.hid C2
      rw [show dgL 12 = [48 + 1] ++ [48 + 2] from rfl, ← strOf_append, show ((12 : Nat) : Int) = 12 from rfl]
      have s1 : (strOf [48 + 1]).size = 1 := by rw [strOf_size]; rfl
      have s2 : (strOf [48 + 2]).size = 1 := by rw [strOf_size]; rfl
      generalize strOf [48 + 1] = A at C1 s1 ⊢
      generalize strOf [48 + 2] = B at C2 s2 ⊢
      have hsm : A.size + B.size ≤ 9223372036854775807 := by omega
      have hsm2 : ¬ 9223372036854775807 < A.size + B.size := by omega
      clear hn h10
      go_enter Tryd.func9, Tryd.ntmps9
      go_wp2_with fail
      refine (C1.out _).mono ?_
      rintro e w1 ⟨rfl, hb1⟩
      go_wp2_with fail
      refine (C2.out _).mono ?_
      rintro e w2 ⟨rfl, hb2⟩
      have HB := Lib.hid (hb1.trans (hb2.mono hb1.size))
      clear hb1 hb2
      go_wp2
      go_ret
      exact ⟨rfl, HB.out⟩
    · have C1 := fun w => digit_one 1 (by decide) w
      have C2 := fun w => digit_one 3 (by decide) w
      rw [show ((1 : Nat) : Int) = 1 from rfl] at C1
      rw [show ((3 : Nat) : Int) = 3 from rfl] at C2
      have C1 := Lib.hid C1
      have C2 := Lib.hid C2
      rw [show dgL 13 = [48 + 1] ++ [48 + 3] from rfl, ← strOf_append, show ((13 : Nat) : Int) = 13 from rfl]
      have s1 : (strOf [48 + 1]).size = 1 := by rw [strOf_size]; rfl
      have s2 : (strOf [48 + 3]).size = 1 := by rw [strOf_size]; rfl
      generalize strOf [48 + 1] = A at C1 s1 ⊢
      generalize strOf [48 + 3] = B at C2 s2 ⊢
      have hsm : A.size + B.size ≤ 9223372036854775807 := by omega
      have hsm2 : ¬ 9223372036854775807 < A.size + B.size := by omega
      clear hn h10
      go_enter Tryd.func9, Tryd.ntmps9
      go_wp2_with fail
      refine (C1.out _).mono ?_
      rintro e w1 ⟨rfl, hb1⟩
      go_wp2_with fail
      refine (C2.out _).mono ?_
      rintro e w2 ⟨rfl, hb2⟩
      have HB := Lib.hid (hb1.trans (hb2.mono hb1.size))
      clear hb1 hb2
      go_wp2
      go_ret
      exact ⟨rfl, HB.out⟩
    · have C1 := fun w => digit_one 1 (by decide) w
      have C2 := fun w => digit_one 4 (by decide) w
      rw [show ((1 : Nat) : Int) = 1 from rfl] at C1
      rw [show ((4 : Nat) : Int) = 4 from rfl] at C2
      have C1 := Lib.hid C1
      have C2 := Lib.hid C2
      rw [show dgL 14 = [48 + 1] ++ [48 + 4] from rfl, ← strOf_append, show ((14 : Nat) : Int) = 14 from rfl]
      have s1 : (strOf [48 + 1]).size = 1 := by rw [strOf_size]; rfl
      have s2 : (strOf [48 + 4]).size = 1 := by rw [strOf_size]; rfl
      generalize strOf [48 + 1] = A at C1 s1 ⊢
      generalize strOf [48 + 4] = B at C2 s2 ⊢
      have hsm : A.size + B.size ≤ 9223372036854775807 := by omega
      have hsm2 : ¬ 9223372036854775807 < A.size + B.size := by omega
      clear hn h10
      go_enter Tryd.func9, Tryd.ntmps9
      go_wp2_with fail
      refine (C1.out _).mono ?_
      rintro e w1 ⟨rfl, hb1⟩
      go_wp2_with fail
      refine (C2.out _).mono ?_
      rintro e w2 ⟨rfl, hb2⟩
      have HB := Lib.hid (hb1.trans (hb2.mono hb1.size))
      clear hb1 hb2
      go_wp2
      go_ret
      exact ⟨rfl, HB.out⟩
    · have C1 := fun w => digit_one 1 (by decide) w
      have C2 := fun w => digit_one 5 (by decide) w
      rw [show ((1 : Nat) : Int) = 1 from rfl] at C1
      rw [show ((5 : Nat) : Int) = 5 from rfl] at C2
      have C1 := Lib.hid C1
      have C2 := Lib.hid C2
      rw [show dgL 15 = [48 + 1] ++ [48 + 5] from rfl, ← strOf_append, show ((15 : Nat) : Int) = 15 from rfl]
      have s1 : (strOf [48 + 1]).size = 1 := by rw [strOf_size]; rfl
      have s2 : (strOf [48 + 5]).size = 1 := by rw [strOf_size]; rfl
      generalize strOf [48 + 1] = A at C1 s1 ⊢
      generalize strOf [48 + 5] = B at C2 s2 ⊢
      have hsm : A.size + B.size ≤ 9223372036854775807 := by omega
      have hsm2 : ¬ 9223372036854775807 < A.size + B.size := by omega
      clear hn h10
      go_enter Tryd.func9, Tryd.ntmps9
      go_wp2_with fail
      refine (C1.out _).mono ?_
      rintro e w1 ⟨rfl, hb1⟩
      go_wp2_with fail
      refine (C2.out _).mono ?_
      rintro e w2 ⟨rfl, hb2⟩
      have HB := Lib.hid (hb1.trans (hb2.mono hb1.size))
      clear hb1 hb2
      go_wp2
      go_ret
      exact ⟨rfl, HB.out⟩
    · have C1 := fun w => digit_one 1 (by decide) w
      have C2 := fun w => digit_one 6 (by decide) w
      rw [show ((1 : Nat) : Int) = 1 from rfl] at C1
      rw [show ((6 : Nat) : Int) = 6 from rfl] at C2
      have C1 := Lib.hid C1
      have C2 := Lib.hid C2
      rw [show dgL 16 = [48 + 1] ++ [48 + 6] from rfl, ← strOf_append, show ((16 : Nat) : Int) = 16 from rfl]
      have s1 : (strOf [48 + 1]).size = 1 := by rw [strOf_size]; rfl
      have s2 : (strOf [48 + 6]).size = 1 := by rw [strOf_size]; rfl
      generalize strOf [48 + 1] = A at C1 s1 ⊢
      generalize strOf [48 + 6] = B at C2 s2 ⊢
      have hsm : A.size + B.size ≤ 9223372036854775807 := by omega
      have hsm2 : ¬ 9223372036854775807 < A.size + B.size := by omega
      clear hn h10
      go_enter Tryd.func9, Tryd.ntmps9
      go_wp2_with fail
      refine (C1.out _).mono ?_
      rintro e w1 ⟨rfl, hb1⟩
      go_wp2_with fail
      refine (C2.out _).mono ?_
      rintro e w2 ⟨rfl, hb2⟩
      have HB := Lib.hid (hb1.trans (hb2.mono hb1.size))
      clear hb1 hb2
      go_wp2
      go_ret
      exact ⟨rfl, HB.out⟩
    · have C1 := fun w => digit_one 1 (by decide) w
      have C2 := fun w => digit_one 7 (by decide) w
      rw [show ((1 : Nat) : Int) = 1 from rfl] at C1
      rw [show ((7 : Nat) : Int) = 7 from rfl] at C2
      have C1 := Lib.hid C1
      have C2 := Lib.hid C2
      rw [show dgL 17 = [48 + 1] ++ [48 + 7] from rfl, ← strOf_append, show ((17 : Nat) : Int) = 17 from rfl]
      have s1 : (strOf [48 + 1]).size = 1 := by rw [strOf_size]; rfl
      have s2 : (strOf [48 + 7]).size = 1 := by rw [strOf_size]; rfl
      generalize strOf [48 + 1] = A at C1 s1 ⊢
      generalize strOf [48 + 7] = B at C2 s2 ⊢
      have hsm : A.size + B.size ≤ 9223372036854775807 := by omega
      have hsm2 : ¬ 9223372036854775807 < A.size + B.size := by omega
      clear hn h10
      go_enter Tryd.func9, Tryd.ntmps9
      go_wp2_with fail
      refine (C1.out _).mono ?_
      rintro e w1 ⟨rfl, hb1⟩
      go_wp2_with fail
      refine (C2.out _).mono ?_
      rintro e w2 ⟨rfl, hb2⟩
      have HB := Lib.hid (hb1.trans (hb2.mono hb1.size))
      clear hb1 hb2
      go_wp2
      go_ret
      exact ⟨rfl, HB.out⟩
    · have C1 := fun w => digit_one 1 (by decide) w
      have C2 := fun w => digit_one 8 (by decide) w
      rw [show ((1 : Nat) : Int) = 1 from rfl] at C1
      rw [show ((8 : Nat) : Int) = 8 from rfl] at C2
      have C1 := Lib.hid C1
      have C2 := Lib.hid C2
      rw [show dgL 18 = [48 + 1] ++ [48 + 8] from rfl, ← strOf_append, show ((18 : Nat) : Int) = 18 from rfl]
      have s1 : (strOf [48 + 1]).size = 1 := by rw [strOf_size]; rfl
      have s2 : (strOf [48 + 8]).size = 1 := by rw [strOf_size]; rfl
      generalize strOf [48 + 1] = A at C1 s1 ⊢
      generalize strOf [48 + 8] = B at C2 s2 ⊢
      have hsm : A.size + B.size ≤ 9223372036854775807 := by omega
      have hsm2 : ¬ 9223372036854775807 < A.size + B.size := by omega
      clear hn h10
      go_enter Tryd.func9, Tryd.ntmps9
      go_wp2_with fail
      refine (C1.out _).mono ?_
      rintro e w1 ⟨rfl, hb1⟩
      go_wp2_with fail
      refine (C2.out _).mono ?_
      rintro e w2 ⟨rfl, hb2⟩
      have HB := Lib.hid (hb1.trans (hb2.mono hb1.size))
      clear hb1 hb2
      go_wp2
      go_ret
      exact ⟨rfl, HB.out⟩
    · have C1 := fun w => digit_one 1 (by decide) w
      have C2 := fun w => digit_one 9 (by decide) w
      rw [show ((1 : Nat) : Int) = 1 from rfl] at C1
      rw [show ((9 : Nat) : Int) = 9 from rfl] at C2
      have C1 := Lib.hid C1
      have C2 := Lib.hid C2
      rw [show dgL 19 = [48 + 1] ++ [48 + 9] from rfl, ← strOf_append, show ((19 : Nat) : Int) = 19 from rfl]
      have s1 : (strOf [48 + 1]).size = 1 := by rw [strOf_size]; rfl
      have s2 : (strOf [48 + 9]).size = 1 := by rw [strOf_size]; rfl
      generalize strOf [48 + 1] = A at C1 s1 ⊢
      generalize strOf [48 + 9] = B at C2 s2 ⊢
      have hsm : A.size + B.size ≤ 9223372036854775807 := by omega
      have hsm2 : ¬ 9223372036854775807 < A.size + B.size := by omega
      clear hn h10
      go_enter Tryd.func9, Tryd.ntmps9
      go_wp2_with fail
      refine (C1.out _).mono ?_
      rintro e w1 ⟨rfl, hb1⟩
      go_wp2_with fail
      refine (C2.out _).mono ?_
      rintro e w2 ⟨rfl, hb2⟩
      have HB := Lib.hid (hb1.trans (hb2.mono hb1.size))
      clear hb1 hb2
      go_wp2
      go_ret
      exact ⟨rfl, HB.out⟩
    · have C1 := fun w => digit_one 2 (by decide) w
      have C2 := fun w => digit_one 0 (by decide) w
      rw [show ((2 : Nat) : Int) = 2 from rfl] at C1
      rw [show ((0 : Nat) : Int) = 0 from rfl] at C2
      have C1 := Lib.hid C1
      have C2 := Lib.hid C2
      rw [show dgL 20 = [48 + 2] ++ [48 + 0] from rfl, ← strOf_append, show ((20 : Nat) : Int) = 20 from rfl]
      have s1 : (strOf [48 + 2]).size = 1 := by rw [strOf_size]; rfl
      have s2 : (strOf [48 + 0]).size = 1 := by rw [strOf_size]; rfl
      generalize strOf [48 + 2] = A at C1 s1 ⊢
      generalize strOf [48 + 0] = B at C2 s2 ⊢
      have hsm : A.size + B.size ≤ 9223372036854775807 := by omega
      have hsm2 : ¬ 9223372036854775807 < A.size + B.size := by omega
      clear hn h10
      go_enter Tryd.func9, Tryd.ntmps9
      go_wp2_with fail
      refine (C1.out _).mono ?_
      rintro e w1 ⟨rfl, hb1⟩
      go_wp2_with fail
      refine (C2.out _).mono ?_
      rintro e w2 ⟨rfl, hb2⟩
      have HB := Lib.hid (hb1.trans (hb2.mono hb1.size))
      clear hb1 hb2
      go_wp2
      go_ret
      exact ⟨rfl, HB.out⟩
    · have C1 := fun w => digit_one 2 (by decide) w
      have C2 := fun w => digit_one 1 (by decide) w
      rw [show ((2 : Nat) : Int) = 2 from rfl] at C1
      rw [show ((1 : Nat) : Int) = 1 from rfl] at C2
      have C1 := Lib.hid C1
      have C2 := Lib.hid C2
      rw [show dgL 21 = [48 + 2] ++ [48 + 1] from rfl, ← strOf_append, show ((21 : Nat) : Int) = 21 from rfl]
      have s1 : (strOf [48 + 2]).size = 1 := by rw [strOf_size]; rfl
      have s2 : (strOf [48 + 1]).size = 1 := by rw [strOf_size]; rfl
      generalize strOf [48 + 2] = A at C1 s1 ⊢
      generalize strOf [48 + 1] = B at C2 s2 ⊢
      have hsm : A.size + B.size ≤ 9223372036854775807 := by omega
      have hsm2 : ¬ 9223372036854775807 < A.size + B.size := by omega
      clear hn h10
      go_enter Tryd.func9, Tryd.ntmps9
      go_wp2_with fail
      refine (C1.out _).mono ?_
      rintro e w1 ⟨rfl, hb1⟩
      go_wp2_with fail
      refine (C2.out _).mono ?_
      rintro e w2 ⟨rfl, hb2⟩
      have HB := Lib.hid (hb1.trans (hb2.mono hb1.size))
      clear hb1 hb2
      go_wp2
      go_ret
      exact ⟨rfl, HB.out⟩
    · have C1 := fun w => digit_one 2 (by decide) w
      have C2 := fun w => digit_one 2 (by decide) w
      rw [show ((2 : Nat) : Int) = 2 from rfl] at C1
      rw [show ((2 : Nat) : Int) = 2 from rfl] at C2
      have C1 := Lib.hid C1
      have C2 := Lib.hid C2
      rw [show dgL 22 = [48 + 2] ++ [48 + 2] from rfl, ← strOf_append, show ((22 : Nat) : Int) = 22 from rfl]
      have s1 : (strOf [48 + 2]).size = 1 := by rw [strOf_size]; rfl
      have s2 : (strOf [48 + 2]).size = 1 := by rw [strOf_size]; rfl
      generalize strOf [48 + 2] = A at C1 C2 s1 s2 ⊢
      have hsm : A.size + A.size ≤ 9223372036854775807 := by omega
      have hsm2 : ¬ 9223372036854775807 < A.size + A.size := by omega
      clear hn h10
      go_enter Tryd.func9, Tryd.ntmps9
      go_wp2_with fail
      refine (C1.out _).mono ?_
      rintro e w1 ⟨rfl, hb1⟩
      go_wp2_with fail
      refine (C2.out _).mono ?_
      rintro e w2 ⟨rfl, hb2⟩
      have HB := Lib.hid (hb1.trans (hb2.mono hb1.size))
      clear hb1 hb2
      go_wp2
      go_ret
      exact ⟨rfl, HB.out⟩
end Go.Proofs.YtgjdeilclimpdaaDoor
namespace Go.Proofs.YtgjdeilclimpdaaDoor
set_option linter.unusedVariables false
set_option linter.unusedSimpArgs false
open Rx (Set4 RS)
mutual
/-- groups numbered from a later one on -/
def shift (d : Nat) : Rx.Node → Rx.Node
  | .byte x => .byte x
  | .edge e => .edge e
  | .seq ks => .seq (shiftAll d ks)
  | .alt ks => .alt (shiftAll d ks)
  | .group n t => .group (n + d) (shift d t)
  | .count l m p z t => .count l m p z (shift d t)
def shiftAll (d : Nat) : List Rx.Node → List Rx.Node
  | [] => []
  | t :: ts => shift d t :: shiftAll d ts
end
theorem shiftAll_append (d : Nat) : ∀ a b, shiftAll d (a ++ b) = shiftAll d a ++ shiftAll d b
  | [], b => by unfold shiftAll; rfl
  | t :: ts, b => by
    show shiftAll d (t :: (ts ++ b)) = shiftAll d (t :: ts) ++ _
    rw [shiftAll, shiftAll, shiftAll_append d ts b]; rfl
theorem fits_shift (T : List Nat) (d : Nat) : ∀ t i j, Rx.Fits T (shift d t) i j ↔ Rx.Fits T t i j := by
  intro t
  induction t using Rx.Node.ind with
  | h1 x => intro i j; unfold shift; exact Iff.rfl
  | h2 e => intro i j; unfold shift; exact Iff.rfl
  | h3 ks ih =>
    intro i j
    unfold shift
    rw [Rx.Fits, Rx.Fits]
    induction ks generalizing i with
    | nil => unfold shiftAll; exact Iff.rfl
    | cons t ts k =>
      unfold shiftAll
      rw [Rx.FitsSeq, Rx.FitsSeq]
      constructor
      · rintro ⟨q, a, b⟩; exact ⟨q, (ih t (by simp) i q).1 a, (k (fun u hu => ih u (by simp [hu])) q).1 b⟩
      · rintro ⟨q, a, b⟩; exact ⟨q, (ih t (by simp) i q).2 a, (k (fun u hu => ih u (by simp [hu])) q).2 b⟩
  | h4 ks ih =>
    intro i j
    unfold shift
    rw [Rx.Fits, Rx.Fits]
    induction ks with
    | nil => unfold shiftAll; exact Iff.rfl
    | cons t ts k =>
      unfold shiftAll
      rw [Rx.FitsAlt, Rx.FitsAlt, ih t (by simp) i j, k (fun u hu => ih u (by simp [hu]))]
  | h5 n t ih => intro i j; rw [shift, Rx.Fits, Rx.Fits]; exact ih i j
  | h6 l m p z t ih =>
    intro i j
    rw [shift, Rx.Fits, Rx.Fits]
    have e : Rx.Fits T (shift d t) = Rx.Fits T t := by funext a b; exact propext (ih a b)
    rw [e]
/-- a text lies in another one, behind it a parenthesis that closes -/
structure Loc (p bs : List Nat) (k : Nat) : Prop where
  at' : ∀ i, i < p.length → bs[k + i]? = p[i]?
  fin : bs[k + p.length]? = some 41
section
variable {p bs : List Nat} {k : Nat}
theorem Loc.isAt (h : Loc p bs k) {i c : Nat} (hi : i ≤ p.length) (hc : c ≠ 41) : Rx.isAt bs (k + i) c = Rx.isAt p i c := by
  unfold Rx.isAt
  rcases Nat.lt_or_ge i p.length with hl | hl
  · rw [h.at' i hl]
  · have : i = p.length := by omega
    subst this
    rw [h.fin, List.getElem?_eq_none (Nat.le_refl _)]
    simp
    omega
theorem at_lt {p : List Nat} {i c : Nat} (h : Rx.isAt p i c = true) : i < p.length := by
  unfold Rx.isAt at h
  simp only [decide_eq_true_eq] at h
  exact (List.getElem?_eq_some_iff.1 h).1
theorem Loc.shut (h : Loc p bs k) {i : Nat} (hi : Rx.isAt p i 41 = true) : Rx.isAt bs (k + i) 41 = true := by
  have hl := at_lt hi
  unfold Rx.isAt at *
  rw [h.at' i hl]
  exact hi
theorem Loc.isNext (h : Loc p bs k) {i : Nat} (hi : i ≤ p.length) {l : List Nat} (hl : l.contains 41 = false) : Rx.isNext bs (k + i) l = Rx.isNext p i l := by
  unfold Rx.isNext
  rcases Nat.lt_or_ge i p.length with hlt | hge
  · rw [h.at' i hlt]
  · have : i = p.length := by omega
    subst this
    rw [h.fin, List.getElem?_eq_none (Nat.le_refl _)]
    simpa using hl
theorem Loc.goesOn (h : Loc p bs k) {i : Nat} (hi : i ≤ p.length) : Rx.goesOn bs (k + i) = Rx.goesOn p i := by
  unfold Rx.goesOn
  rcases Nat.lt_or_ge i p.length with hlt | hge
  · rw [h.at' i hlt]
  · have : i = p.length := by omega
    subst this
    rw [h.fin, List.getElem?_eq_none (Nat.le_refl _)]
    rfl
theorem Loc.len (h : Loc p bs k) : k + p.length < bs.length := (List.getElem?_eq_some_iff.1 h.fin).1
theorem Loc.digs (h : Loc p bs k) : ∀ n i x, i ≤ p.length → Rx.digs bs n (k + i) x = (k + (Rx.digs p n i x).1, (Rx.digs p n i x).2) ∧ i ≤ (Rx.digs p n i x).1 ∧ (Rx.digs p n i x).1 ≤ p.length
  | 0, i, x, hi => ⟨rfl, Nat.le_refl _, hi⟩
  | n + 1, i, x, hi => by
    unfold Rx.digs
    rcases Nat.lt_or_ge i p.length with hlt | hge
    · rw [h.at' i hlt]
      cases hb : p[i]? with
      | none => exact ⟨rfl, Nat.le_refl _, hi⟩
      | some c =>
        simp only
        split
        · obtain ⟨a, b, c⟩ := h.digs n (i + 1) (10 * x + (c - 48)) hlt
          rw [← Nat.add_assoc] at a
          exact ⟨a, by omega, c⟩
        · exact ⟨rfl, Nat.le_refl _, hi⟩
    · have : i = p.length := by omega
      subst this
      rw [h.fin, List.getElem?_eq_none (Nat.le_refl _)]
      exact ⟨rfl, Nat.le_refl _, hi⟩
theorem Loc.number (h : Loc p bs k) {i : Nat} (hi : i ≤ p.length) : Rx.number bs (k + i) = ((Rx.number p i).1, (Rx.number p i).2.1, k + (Rx.number p i).2.2) ∧ (Rx.number p i).2.2 ≤ p.length := by
  obtain ⟨a, b, c⟩ := h.digs 4 i 0 hi
  unfold Rx.number
  rw [a]
  exact ⟨by simp, c⟩
theorem Loc.boundsEnd (h : Loc p bs k) (l : Nat) (m : Option Nat) {i : Nat} (hi : i ≤ p.length) : Rx.boundsEnd bs l m (k + i) = ((Rx.boundsEnd p l m i).1, k + (Rx.boundsEnd p l m i).2) ∧ (Rx.boundsEnd p l m i).2 ≤ p.length := by
  unfold Rx.boundsEnd
  rw [h.isAt hi (by decide)]
  split
  · rename_i hc; exact ⟨rfl, at_lt hc⟩
  · exact ⟨rfl, hi⟩
theorem Loc.bounds2 (h : Loc p bs k) (l : Nat) {i : Nat} (hi : i ≤ p.length) : Rx.bounds2 bs l (k + i) = ((Rx.bounds2 p l i).1, k + (Rx.bounds2 p l i).2) ∧ (Rx.bounds2 p l i).2 ≤ p.length := by
  obtain ⟨a, b⟩ := h.number hi
  unfold Rx.bounds2
  rw [h.isNext hi (by decide), a]
  simp only
  split
  · exact h.boundsEnd l none hi
  · split
    · exact h.boundsEnd l _ b
    · exact ⟨rfl, b⟩
theorem Loc.bounds (h : Loc p bs k) {i : Nat} (hi : i ≤ p.length) : Rx.bounds bs (k + i) = ((Rx.bounds p i).1, k + (Rx.bounds p i).2) ∧ (Rx.bounds p i).2 ≤ p.length := by
  obtain ⟨a, b⟩ := h.number hi
  unfold Rx.bounds
  rw [a]
  simp only
  rw [h.isAt b (by decide)]
  split
  · split
    · rename_i hc
      rw [Nat.add_assoc]
      exact h.bounds2 _ (at_lt hc)
    · exact h.boundsEnd _ _ b
  · exact ⟨rfl, b⟩
theorem Loc.peEnd (h : Loc p bs k) (e : Bool) {i q : Nat} {x : Set4} (hs : Rx.peEnd p e i = (some x, q)) : Rx.peEnd bs e (k + i) = (some x, k + q) ∧ q ≤ p.length := by
  unfold Rx.peEnd at hs ⊢
  cases hb : p[i]? with
  | none => rw [hb] at hs; cases hs
  | some c =>
    rw [hb] at hs
    have hl := (List.getElem?_eq_some_iff.1 hb).1
    rw [h.at' i hl, hb]
    simp only at hs ⊢
    by_cases hn : (if e = true then Rx.meaning c else Set4.only c).isNone = true
    · rw [if_pos hn] at hs; cases hs
    · rw [if_neg hn] at hs ⊢
      simp only [Prod.mk.injEq, Option.some.injEq] at hs
      obtain ⟨rfl, rfl⟩ := hs
      exact ⟨rfl, hl⟩
theorem Loc.poe (h : Loc p bs k) {i q : Nat} {x : Set4} (hi : i ≤ p.length) (hs : Rx.plainOrEscape p i = (some x, q)) : Rx.plainOrEscape bs (k + i) = (some x, k + q) ∧ q ≤ p.length := by
  unfold Rx.plainOrEscape at hs ⊢
  rw [h.isAt hi (by decide)]
  split at hs
  · rename_i hc; rw [if_pos hc, Nat.add_assoc]; exact h.peEnd true hs
  · rename_i hc; rw [if_neg hc]; exact h.peEnd false hs
theorem Loc.item (h : Loc p bs k) {i q : Nat} {x : Set4} (hi : i ≤ p.length) (hs : Rx.item p i = (some x, q)) : Rx.item bs (k + i) = (some x, k + q) ∧ q ≤ p.length := by
  unfold Rx.item at hs ⊢
  rw [h.isNext hi (by decide)]
  split at hs
  · cases hs
  · rename_i hc; rw [if_neg hc]; exact h.poe hi hs
theorem next_lt2 {p : List Nat} {i : Nat} {l : List Nat} (h : Rx.isNext p i l = true) : i < p.length := next_lt h
theorem Loc.dash (h : Loc p bs k) {i : Nat} (hi : i ≤ p.length) : Rx.dashBetween bs (k + i) = Rx.dashBetween p i := by
  unfold Rx.dashBetween
  rw [h.isNext hi (by decide), h.isAt hi (by decide)]
  rcases Nat.lt_or_ge i p.length with hlt | hge
  · rw [Nat.add_assoc, h.isAt (show i + 1 ≤ p.length from hlt) (by decide)]
  · have : Rx.isNext p i [45] = false := by unfold Rx.isNext; rw [List.getElem?_eq_none hge]
    rw [this]
    simp
theorem dash_lt {p : List Nat} {i : Nat} (h : Rx.dashBetween p i = true) : i < p.length := by
  unfold Rx.dashBetween at h
  rw [Bool.and_eq_true] at h
  exact next_lt h.1
theorem Loc.range2 (h : Loc p bs k) (f : Nat) {i q : Nat} {x : Set4} (hi : i ≤ p.length) (hs : Rx.range2 sg p f i = (some x, q)) : Rx.range2 sg bs f (k + i) = (some x, k + q) ∧ q ≤ p.length := by
  unfold Rx.range2 at hs ⊢
  rcases hit : Rx.item p i with ⟨_ | y, r⟩
  · rw [hit] at hs; cases hs
  · rw [hit] at hs
    obtain ⟨a, b⟩ := h.item hi hit
    rw [a]
    simp only at hs ⊢
    cases hg : sg y with
    | none => rw [hg] at hs; cases hs
    | some t =>
      rw [hg] at hs
      simp only at hs ⊢
      split at hs
      · cases hs
      · rename_i hc; rw [if_neg hc]; cases hs; exact ⟨rfl, b⟩
theorem Loc.items (h : Loc p bs k) (first : Nat) {i q : Nat} {x : Set4} (hi : i ≤ p.length) (hs : Rx.items sg p first i = (some x, q)) : Rx.items sg bs (k + first) (k + i) = (some x, k + q) ∧ q ≤ p.length := by
  unfold Rx.items at hs ⊢
  rw [h.dash hi]
  split at hs
  · cases hs
  · rename_i hc
    rw [if_neg (fun h => hc ⟨by omega, h.2⟩)]
    rcases hit : Rx.item p i with ⟨_ | y, r⟩
    · rw [hit] at hs; cases hs
    · rw [hit] at hs
      obtain ⟨a, b⟩ := h.item hi hit
      rw [a]
      simp only at hs ⊢
      cases hg : sg y with
      | none => rw [hg] at hs; cases hs; exact ⟨rfl, b⟩
      | some t =>
        rw [hg] at hs
        simp only at hs ⊢
        rw [h.dash b]
        split at hs
        · rename_i hd
          rw [if_pos hd, Nat.add_assoc]
          exact h.range2 t (dash_lt hd) hs
        · rename_i hd
          rw [if_neg hd]
          cases hs
          exact ⟨rfl, b⟩
theorem Loc.classLoop (h : Loc p bs k) (first : Nat) : ∀ n m i x y q, n ≤ m → i ≤ p.length → Rx.classLoop sg p first n x i = (some y, q) → Rx.classLoop sg bs (k + first) m x (k + i) = (some y, k + q) ∧ q ≤ p.length
  | 0, m, i, x, y, q, hm, hi, hs => by cases hs
  | n + 1, m, i, x, y, q, hm, hi, hs => by
    obtain ⟨m', rfl⟩ : ∃ m', m = m' + 1 := ⟨m - 1, by omega⟩
    unfold Rx.classLoop at hs ⊢
    rw [h.isAt hi (by decide)]
    split at hs
    · rename_i hc
      rw [if_pos ⟨by omega, hc.2⟩]
      cases hs
      exact ⟨rfl, at_lt hc.2⟩
    · rename_i hc
      rw [if_neg (fun h => hc ⟨by omega, h.2⟩)]
      rcases hit : Rx.items sg p first i with ⟨_ | z, r⟩
      · rw [hit] at hs; cases hs
      · rw [hit] at hs
        obtain ⟨a, b⟩ := h.items first hi hit
        rw [a]
        exact h.classLoop first n m' r _ y q (by omega) b hs
theorem Loc.classSet (h : Loc p bs k) {i q : Nat} {x : Set4} (hi : i < p.length) (hs : Rx.classSet sg p i = (some x, q)) : Rx.classSet sg bs (k + i) = (some x, k + q) ∧ q ≤ p.length := by
  have hlen := h.len
  unfold Rx.classSet at hs ⊢
  rw [Nat.add_assoc, h.isAt (show i + 1 ≤ p.length from hi) (by decide)]
  split at hs
  · rename_i hc
    rw [if_pos hc]
    have hi2 := at_lt hc
    rcases hcl : Rx.classLoop sg p (i + 2) (p.length + 1) Set4.none (i + 2) with ⟨_ | y, r⟩
    · rw [hcl] at hs; cases hs
    · rw [hcl] at hs
      obtain ⟨a, b⟩ := h.classLoop (i + 2) (p.length + 1) (bs.length + 1) (i + 2) _ y r (by omega) (by omega) hcl
      rw [show k + i + 2 = k + (i + 2) by omega, a]
      cases hs
      exact ⟨rfl, b⟩
  · rename_i hc
    rw [if_neg hc]
    exact h.classLoop (i + 1) (p.length + 1) (bs.length + 1) (i + 1) _ x q (by omega) (by omega) hs
/-- states that go together -/
structure Tog (k d : Nat) (st st' : RS) : Prop where
  at' : st'.at' = k + st.at'
  groups : st'.groups = st.groups + d
def SimF (p : List Nat) (k d : Nat) (f f' : Rx.PatF) : Prop := ∀ st st', Tog k d st st' → st.at' ≤ p.length → ∀ t s1, f st = (some t, s1) → ∃ s1', f' st' = (some (shift d t), s1') ∧ Tog k d s1 s1' ∧ s1.at' ≤ p.length
theorem Tog.to {d : Nat} {st st' : RS} (h : Tog k d st st') (q : Nat) : Tog k d (st.to q) (st'.to (k + q)) := ⟨rfl, h.groups⟩
theorem Tog.deeper {d : Nat} {st st' : RS} (h : Tog k d st st') : Tog k d (Rx.deeper st) (Rx.deeper st') := ⟨h.at', h.groups⟩
theorem Loc.parenEnd (h : Loc p bs k) {d n n' : Nat} (hn : n' = if 0 < n then n + d else 0) {r r' : Option Rx.Node × RS} (hr : ∀ t s1, r = (some t, s1) → ∃ s1', r' = (some (shift d t), s1') ∧ Tog k d s1 s1' ∧ s1.at' ≤ p.length)
    (t : Rx.Node) (s1 : RS) (hs : Rx.parenEnd p n r = (some t, s1)) : ∃ s1', Rx.parenEnd bs n' r' = (some (shift d t), s1') ∧ Tog k d s1 s1' ∧ s1.at' ≤ p.length := by
  obtain ⟨o, s⟩ := r
  cases o with
  | none => unfold Rx.parenEnd at hs; cases hs
  | some u =>
    obtain ⟨s', e, tg, hl⟩ := hr u s rfl
    subst e
    unfold Rx.parenEnd at hs ⊢
    simp only at hs ⊢
    split at hs
    · rename_i hc
      rw [tg.at', if_pos (h.shut hc)]
      cases hs
      refine ⟨_, Prod.ext ?_ rfl, ⟨by show _ = k + (s.at' + 1); show k + s.at' + 1 = _; omega, tg.groups⟩, at_lt hc⟩
      simp only [Option.some.injEq]
      by_cases hp : 0 < n
      · rw [if_pos hp] at hn
        rw [if_pos hp, if_pos (by omega), shift, hn]
      · rw [if_neg hp] at hn
        rw [if_neg hp, if_neg (by omega)]
    · cases hs
theorem Loc.paren (h : Loc p bs k) {d : Nat} {f f' : Rx.PatF} (hf : SimF p k d f f') (st st' : RS) (tg : Tog k d st st') (hi : st.at' < p.length) (t : Rx.Node) (s1 : RS) (hs : Rx.paren f p st = (some t, s1)) :
    ∃ s1', Rx.paren f' bs st' = (some (shift d t), s1') ∧ Tog k d s1 s1' ∧ s1.at' ≤ p.length := by
  unfold Rx.paren at hs ⊢
  rw [tg.at', Nat.add_assoc, h.isAt (show st.at' + 1 ≤ p.length from hi) (by decide)]
  split at hs
  · rename_i hc
    have h1 := at_lt hc
    rw [if_pos hc, Nat.add_assoc, h.isAt (show st.at' + 2 ≤ p.length from h1) (by decide)]
    split at hs
    · rename_i hc2
      have h2 := at_lt hc2
      rw [if_pos hc2, Nat.add_assoc]
      exact h.parenEnd (n := 0) (by simp) (fun u s hu => hf _ _ (tg.to (st.at' + 3)).deeper (by show st.at' + 3 ≤ _; omega) u s hu) t s1 hs
    · cases hs
  · rename_i hc
    rw [if_neg hc]
    exact h.parenEnd (n := st.groups + 1) (by rw [if_pos (Nat.succ_pos _), tg.groups]; omega) (fun u s hu => hf _ _ (Tog.deeper ⟨rfl, by show st'.groups + 1 = st.groups + 1 + d; rw [tg.groups]; omega⟩) (by show st.at' + 1 ≤ _; omega) u s hu) t s1 hs
theorem ofSet_sim {d : Nat} {st st' : RS} (tg : Tog k d st st') {r r' : Option Set4 × Nat} (hr : ∀ x q, r = (some x, q) → r' = (some x, k + q) ∧ q ≤ p.length) (t : Rx.Node) (s1 : RS) (hs : Rx.ofSet st r = (some t, s1)) : ∃ s1', Rx.ofSet st' r' = (some (shift d t), s1') ∧ Tog k d s1 s1' ∧ s1.at' ≤ p.length := by
  obtain ⟨o, q⟩ := r
  cases o with
  | none => unfold Rx.ofSet at hs; cases hs
  | some x =>
    obtain ⟨e, hl⟩ := hr x q rfl
    subst e
    unfold Rx.ofSet at hs ⊢
    cases hs
    exact ⟨_, by rw [shift]; rfl, tg.to q, hl⟩
theorem Loc.atom (h : Loc p bs k) {d : Nat} {f f' : Rx.PatF} (hf : SimF p k d f f') (st st' : RS) (tg : Tog k d st st') (hi : st.at' ≤ p.length) (t : Rx.Node) (s1 : RS) (hs : Rx.atom sg f p st = (some t, s1)) :
    ∃ s1', Rx.atom sg f' bs st' = (some (shift d t), s1') ∧ Tog k d s1 s1' ∧ s1.at' ≤ p.length := by
  unfold Rx.atom at hs ⊢
  rw [tg.at', h.isNext hi (by decide), h.isNext hi (by decide), h.isNext hi (by decide), h.isAt hi (by decide), h.isAt hi (by decide), h.isAt hi (by decide)]
  split at hs
  · cases hs
  rename_i c1
  rw [if_neg c1]
  split at hs
  · rename_i c2
    rw [if_pos c2]
    exact h.paren hf st st' tg (next_lt c2) t s1 hs
  rename_i c2
  rw [if_neg c2]
  split at hs
  · rename_i c3
    rw [if_pos c3]
    exact ofSet_sim (p := p) tg (fun x q hx => h.classSet (next_lt c3) hx) t s1 hs
  rename_i c3
  rw [if_neg c3]
  split at hs
  · rename_i c4
    rw [if_pos c4]
    cases hs
    exact ⟨st'.to (k + st.at' + 1), by rw [shift], ⟨by show k + st.at' + 1 = k + (st.at' + 1); omega, tg.groups⟩, at_lt c4⟩
  rename_i c4
  rw [if_neg c4]
  split at hs
  · rename_i c5
    rw [if_pos c5]
    cases hs
    exact ⟨st'.to (k + st.at' + 1), by rw [shift], ⟨by show k + st.at' + 1 = k + (st.at' + 1); omega, tg.groups⟩, at_lt c5⟩
  rename_i c5
  rw [if_neg c5]
  split at hs
  · rename_i c6
    rw [if_pos c6]
    cases hs
    exact ⟨st'.to (k + st.at' + 1), by rw [shift], ⟨by show k + st.at' + 1 = k + (st.at' + 1); omega, tg.groups⟩, at_lt c6⟩
  · rename_i c6
    rw [if_neg c6]
    exact ofSet_sim (p := p) tg (fun x q hx => h.poe hi hx) t s1 hs
theorem Loc.lazyEnd (h : Loc p bs k) {d : Nat} (st st' : RS) (tg : Tog k d st st') (hi : st.at' ≤ p.length) (l : Nat) (m : Option Nat) (pl : Bool) (t u : Rx.Node) (s1 : RS) (hs : Rx.lazyEnd p st l m pl t = (some u, s1)) :
    ∃ s1', Rx.lazyEnd bs st' l m pl (shift d t) = (some (shift d u), s1') ∧ Tog k d s1 s1' ∧ s1.at' ≤ p.length := by
  unfold Rx.lazyEnd at hs ⊢
  rw [tg.at', h.isAt hi (by decide)]
  split at hs
  · rename_i c
    rw [if_pos c]
    cases hs
    exact ⟨st'.to (k + st.at' + 1), by rw [shift], ⟨by show k + st.at' + 1 = k + (st.at' + 1); omega, tg.groups⟩, at_lt c⟩
  · rename_i c
    rw [if_neg c]
    cases hs
    exact ⟨_, by rw [shift], tg, hi⟩
theorem Loc.countOf (h : Loc p bs k) {d : Nat} (st st' : RS) (tg : Tog k d st st') (hi : st.at' ≤ p.length) (t u : Rx.Node) (s1 : RS) (hs : Rx.countOf p t st = (some u, s1)) :
    ∃ s1', Rx.countOf bs (shift d t) st' = (some (shift d u), s1') ∧ Tog k d s1 s1' ∧ s1.at' ≤ p.length := by
  have nx : ∀ c, Rx.isAt p st.at' c = true → Tog k d (st.to (st.at' + 1)) (st'.to (k + st.at' + 1)) ∧ (st.to (st.at' + 1)).at' ≤ p.length := fun c hc => ⟨⟨by show k + st.at' + 1 = k + (st.at' + 1); omega, tg.groups⟩, at_lt hc⟩
  unfold Rx.countOf at hs ⊢
  rw [tg.at', h.isAt hi (by decide), h.isAt hi (by decide), h.isAt hi (by decide), h.isAt hi (by decide)]
  split at hs
  · rename_i c; rw [if_pos c]; exact h.lazyEnd _ _ (nx _ c).1 (nx _ c).2 _ _ _ _ _ _ hs
  rename_i c1
  rw [if_neg c1]
  split at hs
  · rename_i c; rw [if_pos c]; exact h.lazyEnd _ _ (nx _ c).1 (nx _ c).2 _ _ _ _ _ _ hs
  rename_i c2
  rw [if_neg c2]
  split at hs
  · rename_i c; rw [if_pos c]; exact h.lazyEnd _ _ (nx _ c).1 (nx _ c).2 _ _ _ _ _ _ hs
  rename_i c3
  rw [if_neg c3]
  split at hs
  · rename_i c
    rw [if_pos c]
    obtain ⟨a, b⟩ := h.bounds (show st.at' + 1 ≤ p.length from at_lt c)
    rw [← Nat.add_assoc] at a
    rw [a]
    rcases hbd : Rx.bounds p (st.at' + 1) with ⟨_ | ⟨l, m⟩, q⟩
    · rw [hbd] at hs; cases hs
    · rw [hbd] at hs b
      exact h.lazyEnd _ _ (tg.to q) b _ _ _ _ _ _ hs
  · rename_i c
    rw [if_neg c]
    cases hs
    exact ⟨_, rfl, tg, hi⟩
theorem Loc.piece (h : Loc p bs k) {d : Nat} {f f' : Rx.PatF} (hf : SimF p k d f f') (st st' : RS) (tg : Tog k d st st') (hi : st.at' ≤ p.length) (t : Rx.Node) (s1 : RS) (hs : Rx.piece sg f p st = (some t, s1)) :
    ∃ s1', Rx.piece sg f' bs st' = (some (shift d t), s1') ∧ Tog k d s1 s1' ∧ s1.at' ≤ p.length := by
  unfold Rx.piece at hs ⊢
  rcases ha : Rx.atom sg f p st with ⟨_ | u, s⟩
  · rw [ha] at hs; cases hs
  · rw [ha] at hs
    obtain ⟨s', e, tg2, hl⟩ := h.atom hf st st' tg hi u s ha
    rw [e]
    exact h.countOf s s' tg2 hl u t s1 hs
theorem Loc.branchLoop (h : Loc p bs k) {d : Nat} {f f' : Rx.PatF} (hf : SimF p k d f f') : ∀ n m ks st st' us s1, n ≤ m → Tog k d st st' → st.at' ≤ p.length → Rx.branchLoop sg f p n ks st = (some us, s1) →
    ∃ s1', Rx.branchLoop sg f' bs m (shiftAll d ks) st' = (some (shiftAll d us), s1') ∧ Tog k d s1 s1' ∧ s1.at' ≤ p.length
  | 0, m, ks, st, st', us, s1, hm, tg, hi, hs => by cases hs
  | n + 1, m, ks, st, st', us, s1, hm, tg, hi, hs => by
    obtain ⟨m', rfl⟩ : ∃ m', m = m' + 1 := ⟨m - 1, by omega⟩
    unfold Rx.branchLoop at hs ⊢
    rw [tg.at', h.goesOn hi]
    split at hs
    · rename_i c
      rw [if_pos c]
      rcases hp : Rx.piece sg f p st with ⟨_ | u, s⟩
      · rw [hp] at hs; cases hs
      · rw [hp] at hs
        obtain ⟨s', e, tg2, hl⟩ := h.piece hf st st' tg hi u s hp
        rw [e]
        have := h.branchLoop hf n m' (ks ++ [u]) s s' us s1 (by omega) tg2 hl hs
        rw [shiftAll_append, shiftAll, shiftAll] at this
        exact this
    · rename_i c
      rw [if_neg c]
      cases hs
      exact ⟨_, rfl, tg, hi⟩
theorem Loc.branch (h : Loc p bs k) {d : Nat} {f f' : Rx.PatF} (hf : SimF p k d f f') (st st' : RS) (tg : Tog k d st st') (hi : st.at' ≤ p.length) (t : Rx.Node) (s1 : RS) (hs : Rx.branch sg f p st = (some t, s1)) :
    ∃ s1', Rx.branch sg f' bs st' = (some (shift d t), s1') ∧ Tog k d s1 s1' ∧ s1.at' ≤ p.length := by
  have hlen := h.len
  unfold Rx.branch at hs ⊢
  rcases hb : Rx.branchLoop sg f p (p.length + 1) [] st with ⟨_ | us, s⟩
  · rw [hb] at hs; cases hs
  · rw [hb] at hs
    obtain ⟨s', e, tg2, hl⟩ := h.branchLoop hf (p.length + 1) (bs.length + 1) [] st st' us s (by omega) tg hi hb
    rw [shiftAll] at e
    rw [e]
    cases hs
    exact ⟨_, by rw [shift], tg2, hl⟩
theorem Loc.patLoop (h : Loc p bs k) {d : Nat} {f f' : Rx.PatF} (hf : SimF p k d f f') : ∀ n m ks st st' t s1, n ≤ m → Tog k d st st' → st.at' ≤ p.length → Rx.patLoop sg f p n ks st = (some t, s1) →
    ∃ s1', Rx.patLoop sg f' bs m (shiftAll d ks) st' = (some (shift d t), s1') ∧ Tog k d s1 s1' ∧ s1.at' ≤ p.length
  | 0, m, ks, st, st', t, s1, hm, tg, hi, hs => by cases hs
  | n + 1, m, ks, st, st', t, s1, hm, tg, hi, hs => by
    obtain ⟨m', rfl⟩ : ∃ m', m = m' + 1 := ⟨m - 1, by omega⟩
    unfold Rx.patLoop at hs ⊢
    rcases hb : Rx.branch sg f p st with ⟨_ | u, s⟩
    · rw [hb] at hs; cases hs
    · rw [hb] at hs
      obtain ⟨s', e, tg2, hl⟩ := h.branch hf st st' tg hi u s hb
      rw [e]
      simp only at hs ⊢
      rw [tg2.at', h.isAt hl (by decide)]
      split at hs
      · rename_i c
        rw [if_pos c]
        have := h.patLoop hf n m' (ks ++ [u]) (s.to (s.at' + 1)) (s'.to (k + s.at' + 1)) t s1 (by omega) ⟨by show k + s.at' + 1 = k + (s.at' + 1); omega, tg2.groups⟩ (at_lt c) hs
        rw [shiftAll_append, shiftAll, shiftAll] at this
        exact this
      · rename_i c
        rw [if_neg c]
        cases hs
        refine ⟨_, ?_, tg2, hl⟩
        rw [shift, shiftAll_append, shiftAll, shiftAll]
theorem Loc.pat (h : Loc p bs k) (d : Nat) : ∀ n m, n ≤ m → SimF p k d (Rx.pat sg p n) (Rx.pat sg bs m)
  | 0, m, hm => fun st st' tg hi t s1 hs => by cases hs
  | n + 1, m, hm => fun st st' tg hi t s1 hs => by
    obtain ⟨m', rfl⟩ : ∃ m', m = m' + 1 := ⟨m - 1, by omega⟩
    have hlen := h.len
    have := h.patLoop (h.pat d n m' (by omega)) (p.length + 1) (bs.length + 1) [] st st' t s1 (by omega) tg hi hs
    rw [shiftAll] at this
    exact this
end
end Go.Proofs.YtgjdeilclimpdaaDoor
namespace Go.Proofs.YtgjdeilclimpdaaDoor
set_option linter.unusedVariables false
set_option linter.unusedSimpArgs false
open Rx (Set4 RS)
/-- a pattern that is one -/
structure IsP (p : List Nat) (t : Rx.Node) (st : RS) : Prop where
  parse : Rx.parse sg p = (some t, st)
  fin : st.at' = p.length
theorem compile_ok {bs : List Nat} {t : Rx.Node} {g : Nat} (h : Rx.compile sg bs = .ok (t, g)) : bs.length ≤ 500 ∧ ∃ st, IsP bs t st ∧ Rx.Wf t := by
  unfold Rx.compile at h
  split at h
  · cases h
  · rename_i hl
    rcases hp : Rx.parse sg bs with ⟨_ | u, st⟩
    · rw [hp] at h; cases h
    · rw [hp] at h
      simp only at h
      split at h
      · cases h
      · rename_i ha
        split at h
        · cases h
        · cases h
          have pf := pat_pf (bs := bs) (by omega) (bs.length + 1) Rx.st0 (inv0 bs)
          change PF bs Rx.st0 (Rx.parse sg bs) at pf
          rw [hp] at pf
          exact ⟨by omega, st, ⟨hp, by simpa using ha⟩, (pf.ok _ rfl).2.wf⟩
theorem fitB_iff (t : Rx.Node) (T : List Nat) (h : Rx.Wf t) : fitB t T = true ↔ Rx.Fits T t 0 T.length := Rx.match_iff t h T false
/-- a piece between parentheses that keep nothing -/
theorem atom_plain {p bs : List Nat} {t : Rx.Node} {st : RS} (hP : IsP p t st) {a m : Nat} (h0 : bs[a]? = some 40) (h1 : bs[a + 1]? = some 63) (h2 : bs[a + 2]? = some 58) (hL : Loc p bs (a + 3)) (hm : p.length + 1 ≤ m) (st' : RS) (ha : st'.at' = a) :
    ∃ s, Rx.atom sg (Rx.pat sg bs m) bs st' = (some (shift st'.groups t), s) ∧ s.at' = a + 3 + p.length + 1 ∧ s.groups = st.groups + st'.groups := by
  subst ha
  have hs := hL.pat st'.groups (p.length + 1) m hm Rx.st0 (Rx.deeper (st'.to (st'.at' + 3))) ⟨rfl, by show st'.groups = 0 + st'.groups; omega⟩ (Nat.zero_le _) t st hP.parse
  obtain ⟨s1, e, tg, hl⟩ := hs
  have hc : Rx.isAt bs s1.at' 41 = true := by
    rw [tg.at', hP.fin]
    unfold Rx.isAt
    rw [hL.fin]
    simp
  refine ⟨{ s1.to (s1.at' + 1) with nested := s1.nested - 1 }, ?_, ?_, tg.groups⟩
  · unfold Rx.atom
    rw [isNext_get h0, isNext_get h0]
    simp only [show ([42, 43, 63, 123, 125, 93] : List Nat).contains 40 = false from rfl, show ([40] : List Nat).contains 40 = true from rfl, Bool.false_eq_true, if_false, if_true]
    unfold Rx.paren
    rw [isAt_get h1, isAt_get h2, e]
    simp only [decide_true, if_true]
    unfold Rx.parenEnd
    simp only
    rw [if_pos hc]
    simp
  · show s1.at' + 1 = _
    rw [tg.at', hP.fin]
theorem no_count_first {p : List Nat} {t : Rx.Node} {st : RS} (hP : IsP p t st) : Rx.isAt p 0 63 = false := by
  cases hb : Rx.isAt p 0 63 with
  | false => rfl
  | true =>
    unfold Rx.isAt at hb
    simp only [decide_eq_true_eq] at hb
    have h := hP.parse
    unfold Rx.parse at h
    rw [Rx.pat, Rx.patLoop] at h
    unfold Rx.branch at h
    rw [Rx.branchLoop] at h
    have hgo : Rx.goesOn p Rx.st0.at' = true := by unfold Rx.goesOn; rw [show Rx.st0.at' = 0 from rfl, hb]; rfl
    rw [hgo] at h
    unfold Rx.piece Rx.atom at h
    rw [show Rx.st0.at' = 0 from rfl, isNext_get hb] at h
    simp at h
theorem atom_group {p bs : List Nat} {t : Rx.Node} {st : RS} (hP : IsP p t st) {a m : Nat} (h0 : bs[a]? = some 40) (hL : Loc p bs (a + 1)) (hm : p.length + 1 ≤ m) (st' : RS) (ha : st'.at' = a) :
    ∃ s, Rx.atom sg (Rx.pat sg bs m) bs st' = (some (.group (st'.groups + 1) (shift (st'.groups + 1) t)), s) ∧ s.at' = a + 1 + p.length + 1 := by
  subst ha
  have hs := hL.pat (st'.groups + 1) (p.length + 1) m hm Rx.st0 (Rx.deeper { st'.to (st'.at' + 1) with groups := st'.groups + 1 }) ⟨rfl, by show st'.groups + 1 = 0 + (st'.groups + 1); omega⟩ (Nat.zero_le _) t st hP.parse
  obtain ⟨s1, e, tg, hl⟩ := hs
  have hc : Rx.isAt bs s1.at' 41 = true := by
    rw [tg.at', hP.fin]
    unfold Rx.isAt
    rw [hL.fin]
    simp
  have h1 : Rx.isAt bs (st'.at' + 1) 63 = false := by
    have := hL.isAt (i := 0) (c := 63) (Nat.zero_le _) (by decide)
    rw [Nat.add_zero] at this
    rw [this]
    exact no_count_first hP
  refine ⟨{ s1.to (s1.at' + 1) with nested := s1.nested - 1 }, ?_, ?_⟩
  · unfold Rx.atom
    rw [isNext_get h0, isNext_get h0]
    simp only [show ([42, 43, 63, 123, 125, 93] : List Nat).contains 40 = false from rfl, show ([40] : List Nat).contains 40 = true from rfl, Bool.false_eq_true, if_false, if_true]
    unfold Rx.paren
    rw [h1, e]
    simp only [Bool.false_eq_true, if_false]
    unfold Rx.parenEnd
    simp only
    rw [if_pos hc]
    simp
  · show s1.at' + 1 = _
    rw [tg.at', hP.fin]
/-- a branch of one piece -/
theorem branch_one {bs : List Nat} {f : Rx.PatF} {st s : RS} {u : Rx.Node} (hg : Rx.goesOn bs st.at' = true) (hp : Rx.piece sg f bs st = (some u, s)) (he : Rx.goesOn bs s.at' = false) : Rx.branch sg f bs st = (some (.seq [u]), s) := by
  have hpos : 0 < bs.length := by
    cases bs with
    | nil => unfold Rx.goesOn at hg; simp at hg
    | cons => simp
  obtain ⟨N, hN⟩ : ∃ N, bs.length = N + 1 := ⟨bs.length - 1, by omega⟩
  unfold Rx.branch
  rw [Rx.branchLoop, hg, hp]
  simp only [if_true]
  rw [hN, Rx.branchLoop, he]
  rfl
theorem goes_open {bs : List Nat} {a : Nat} (h : bs[a]? = some 40) : Rx.goesOn bs a = true := by unfold Rx.goesOn; rw [h]; rfl
theorem goes_end {bs : List Nat} {a : Nat} (h : bs[a]? = none) : Rx.goesOn bs a = false := by unfold Rx.goesOn; rw [h]
theorem piece_of {bs : List Nat} {f : Rx.PatF} {st s s2 : RS} {u v : Rx.Node} (h : Rx.atom sg f bs st = (some u, s)) (hc : Rx.countOf bs u s = (some v, s2)) : Rx.piece sg f bs st = (some v, s2) := by
  unfold Rx.piece
  rw [h]
  exact hc
theorem parse_one {bs : List Nat} {s : RS} {u : Rx.Node} (hb : Rx.branch sg (Rx.pat sg bs bs.length) bs Rx.st0 = (some u, s)) (he : bs[s.at']? = none) : Rx.parse sg bs = (some (.alt [u]), s) := by
  unfold Rx.parse
  rw [Rx.pat, Rx.patLoop, hb]
  simp only
  rw [isAt_no he]
  rfl
theorem loc_of (A p Z : List Nat) : Loc p (A ++ (p ++ 41 :: Z)) A.length := by
  refine ⟨fun i hi => ?_, ?_⟩
  · rw [at_append, List.getElem?_append_left hi]
  · rw [at_append, List.getElem?_append_right (Nat.le_refl _)]
    simp
theorem shift_fits (T : List Nat) (d : Nat) (t : Rx.Node) : Rx.Fits T (shift d t) 0 T.length ↔ Rx.Fits T t 0 T.length := fits_shift T d t 0 T.length
theorem fits_seq1 (T : List Nat) (u : Rx.Node) (i j : Nat) : Rx.Fits T (.seq [u]) i j ↔ Rx.Fits T u i j := by
  rw [Rx.Fits, Rx.FitsSeq]
  constructor
  · rintro ⟨q, a, b⟩; unfold Rx.FitsSeq at b; subst b; exact a
  · intro h; exact ⟨j, h, by unfold Rx.FitsSeq; rfl⟩
theorem fits_alt1 (T : List Nat) (u : Rx.Node) (i j : Nat) : Rx.Fits T (.alt [u]) i j ↔ Rx.Fits T u i j := by
  rw [Rx.Fits, Rx.FitsAlt, Rx.FitsAlt]
  simp
theorem fits_alt2 (T : List Nat) (u v : Rx.Node) (i j : Nat) : Rx.Fits T (.alt [u, v]) i j ↔ (Rx.Fits T u i j ∨ Rx.Fits T v i j) := by
  rw [Rx.Fits, Rx.FitsAlt, Rx.FitsAlt, Rx.FitsAlt]
  simp
/-- what the laws ask comes to what the tree fits -/
theorem fitsV_eq {bs T : List Nat} {t : Rx.Node} {st : RS} (hp : Rx.parse sg bs = (some t, st)) (b : Bool) (hb : Rx.Wf t → (b = true ↔ Rx.Fits T t 0 T.length)) : (fitsV bs T).1 = false ∨ (fitsV bs T).2 = b := by
  unfold fitsV
  rcases hc : Rx.compile sg bs with e | ⟨u, g⟩
  · exact .inl rfl
  · refine .inr ?_
    obtain ⟨_, s, hP, hw⟩ := compile_ok hc
    have : u = t := by have := hP.parse; rw [hp] at this; cases this; rfl
    subst this
    simp only
    have h1 := fitB_iff u T hw
    have h2 := hb hw
    exact Bool.eq_iff_iff.2 (h1.trans h2.symm)
theorem fitsV_isP {bs T : List Nat} (h : (fitsV bs T).1 = true) : ∃ t st, IsP bs t st ∧ Rx.Wf t ∧ (fitsV bs T).2 = fitB t T := by
  unfold fitsV at *
  rcases hc : Rx.compile sg bs with e | ⟨u, g⟩
  · rw [hc] at h; cases h
  · obtain ⟨_, s, hP, hw⟩ := compile_ok hc
    exact ⟨u, s, hP, hw, rfl⟩
/-- a group -/
theorem part_group {p T : List Nat} (h : (fitsV p T).1 = true) : (fitsV ([40] ++ (p ++ [41])) T).1 = false ∨ (fitsV ([40] ++ (p ++ [41])) T).2 = (fitsV p T).2 := by
  obtain ⟨t, st, hP, hw, hf⟩ := fitsV_isP h
  rw [hf]
  have hL : Loc p ([40] ++ (p ++ [41])) (0 + 1) := loc_of [40] p []
  obtain ⟨s, e, hs⟩ := atom_group hP (a := 0) (bs := [40] ++ (p ++ [41])) rfl hL (m := ([40] ++ (p ++ [41])).length) (by simp) Rx.st0 rfl
  have hend : ([40] ++ (p ++ [41]))[s.at']? = none := List.getElem?_eq_none (by rw [hs]; simp; omega)
  have hc := countOf_none (bs := [40] ++ (p ++ [41])) (st := s) (.group (Rx.st0.groups + 1) (shift (Rx.st0.groups + 1) t)) (fun b hb => by rw [hend] at hb; cases hb)
  have hb := branch_one (goes_open (bs := [40] ++ (p ++ [41])) (a := 0) rfl) (piece_of e hc) (goes_end hend)
  refine fitsV_eq (parse_one hb hend) _ fun _ => ?_
  rw [fits_alt1, fits_seq1, Rx.Fits, fits_shift]
  exact fitB_iff t T hw
/-- counted once -/
theorem part_once {p T : List Nat} (h : (fitsV p T).1 = true) : (fitsV ([40, 63, 58] ++ (p ++ [41, 123, 49, 125])) T).1 = false ∨ (fitsV ([40, 63, 58] ++ (p ++ [41, 123, 49, 125])) T).2 = (fitsV p T).2 := by
  obtain ⟨t, st, hP, hw, hf⟩ := fitsV_isP h
  rw [hf]
  obtain ⟨bs, hbs⟩ : ∃ b, [40, 63, 58] ++ (p ++ [41, 123, 49, 125]) = b := ⟨_, rfl⟩
  have hL : Loc p ([40, 63, 58] ++ (p ++ [41, 123, 49, 125])) (0 + 3) := loc_of [40, 63, 58] p [123, 49, 125]
  obtain ⟨s, e, hs, _⟩ := atom_plain hP (a := 0) (bs := [40, 63, 58] ++ (p ++ [41, 123, 49, 125])) rfl rfl rfl hL (m := ([40, 63, 58] ++ (p ++ [41, 123, 49, 125])).length) (by simp) Rx.st0 rfl
  have hsplit : [40, 63, 58] ++ (p ++ [41, 123, 49, 125]) = ([40, 63, 58] ++ (p ++ [41])) ++ [123, 49, 125] := by simp
  have hal : ([40, 63, 58] ++ (p ++ [41])).length = s.at' := by rw [hs]; simp; omega
  have hlen : ([40, 63, 58] ++ (p ++ [41, 123, 49, 125])).length = s.at' + 3 := by rw [hs]; simp; omega
  have hx : ([40, 63, 58] ++ (p ++ [41, 123, 49, 125]))[s.at']? = some 123 := by
    have h0 := at_append ([40, 63, 58] ++ (p ++ [41])) [123, 49, 125] 0
    rw [Nat.add_zero] at h0
    rw [hsplit, ← hal, h0]; rfl
  have hbd : Rx.bounds ([40, 63, 58] ++ (p ++ [41, 123, 49, 125])) (s.at' + 1) = (some (1, some 1), s.at' + 3) := by
    rw [hsplit, ← hal, bounds_app]
    have : Rx.bounds [123, 49, 125] 1 = (some (1, some 1), 3) := by decide +kernel
    rw [this]
  have hend : ([40, 63, 58] ++ (p ++ [41, 123, 49, 125]))[(s.to (s.at' + 3)).at']? = none := List.getElem?_eq_none (by rw [hlen]; exact Nat.le_refl _)
  have hc : Rx.countOf ([40, 63, 58] ++ (p ++ [41, 123, 49, 125])) (shift Rx.st0.groups t) s = (some (.count 1 (some 1) false false (shift Rx.st0.groups t)), s.to (s.at' + 3)) := by
    unfold Rx.countOf
    rw [isAt_get hx, isAt_get hx, isAt_get hx, isAt_get hx, hbd]
    simp only [show ¬ (123 : Nat) = 42 by decide, show ¬ (123 : Nat) = 43 by decide, show ¬ (123 : Nat) = 63 by decide, decide_false, decide_true, Bool.false_eq_true, if_false, if_true]
    unfold Rx.lazyEnd
    rw [isAt_no hend]
    rfl
  have hb := branch_one (goes_open (bs := [40, 63, 58] ++ (p ++ [41, 123, 49, 125])) (a := 0) rfl) (piece_of e hc) (goes_end hend)
  refine fitsV_eq (parse_one hb hend) _ fun _ => ?_
  rw [fits_alt1, fits_seq1, Rx.Fits]
  rw [fitB_iff t T hw]
  constructor
  · intro hft
    refine ⟨1, Nat.le_refl _, fun M hM => by cases hM; exact Nat.le_refl _, T.length, (fits_shift T _ t 0 T.length).2 hft, ?_⟩
    unfold Rx.Reps; rfl
  · rintro ⟨n, h1, h2, h3⟩
    have : n = 1 := by have := h2 1 rfl; omega
    subst this
    obtain ⟨q, h4, h5⟩ := h3
    unfold Rx.Reps at h5
    subst h5
    exact (fits_shift T _ t 0 T.length).1 h4
/-- or nothing -/
theorem part_none {p T : List Nat} (h : (fitsV p T).1 = true) : (fitsV ([40, 63, 58] ++ (p ++ [41, 63])) []).1 = false ∨ (fitsV ([40, 63, 58] ++ (p ++ [41, 63])) []).2 = true := by
  obtain ⟨t, st, hP, hw, hf⟩ := fitsV_isP h
  have hL : Loc p ([40, 63, 58] ++ (p ++ [41, 63])) (0 + 3) := loc_of [40, 63, 58] p [63]
  obtain ⟨s, e, hs, _⟩ := atom_plain hP (a := 0) (bs := [40, 63, 58] ++ (p ++ [41, 63])) rfl rfl rfl hL (m := ([40, 63, 58] ++ (p ++ [41, 63])).length) (by simp) Rx.st0 rfl
  have hsplit : [40, 63, 58] ++ (p ++ [41, 63]) = ([40, 63, 58] ++ (p ++ [41])) ++ [63] := by simp
  have hal : ([40, 63, 58] ++ (p ++ [41])).length = s.at' := by rw [hs]; simp; omega
  have hlen : ([40, 63, 58] ++ (p ++ [41, 63])).length = s.at' + 1 := by rw [hs]; simp; omega
  have hx : ([40, 63, 58] ++ (p ++ [41, 63]))[s.at']? = some 63 := by
    have h0 := at_append ([40, 63, 58] ++ (p ++ [41])) [63] 0
    rw [Nat.add_zero] at h0
    rw [hsplit, ← hal, h0]; rfl
  have hend : ([40, 63, 58] ++ (p ++ [41, 63]))[(s.to (s.at' + 1)).at']? = none := List.getElem?_eq_none (by rw [hlen]; exact Nat.le_refl _)
  have hc : Rx.countOf ([40, 63, 58] ++ (p ++ [41, 63])) (shift Rx.st0.groups t) s = (some (.count 0 (some 1) false false (shift Rx.st0.groups t)), s.to (s.at' + 1)) := by
    unfold Rx.countOf
    rw [isAt_get hx, isAt_get hx, isAt_get hx]
    simp only [show ¬ (63 : Nat) = 42 by decide, show ¬ (63 : Nat) = 43 by decide, decide_false, decide_true, Bool.false_eq_true, if_false, if_true]
    unfold Rx.lazyEnd
    rw [isAt_no hend]
    rfl
  have hb := branch_one (goes_open (bs := [40, 63, 58] ++ (p ++ [41, 63])) (a := 0) rfl) (piece_of e hc) (goes_end hend)
  refine fitsV_eq (parse_one hb hend) _ fun _ => ?_
  rw [fits_alt1, fits_seq1, Rx.Fits]
  simp only [true_iff]
  exact ⟨0, Nat.le_refl _, fun M hM => by cases hM; omega, by unfold Rx.Reps; rfl⟩
/-- one of two -/
theorem part_choice {p q T : List Nat} (h : (fitsV p T).1 = true) (h' : (fitsV q T).1 = true) : (fitsV ([40, 63, 58] ++ (p ++ 41 :: ([124, 40, 63, 58] ++ (q ++ [41])))) T).1 = false ∨ (fitsV ([40, 63, 58] ++ (p ++ 41 :: ([124, 40, 63, 58] ++ (q ++ [41])))) T).2 = ((fitsV p T).2 || (fitsV q T).2) := by
  obtain ⟨t, st, hP, hw, hf⟩ := fitsV_isP h
  obtain ⟨t2, st2, hP2, hw2, hf2⟩ := fitsV_isP h'
  rw [hf, hf2]
  have hL : Loc p ([40, 63, 58] ++ (p ++ 41 :: ([124, 40, 63, 58] ++ (q ++ [41])))) (0 + 3) := loc_of [40, 63, 58] p _
  have hsplit : [40, 63, 58] ++ (p ++ 41 :: ([124, 40, 63, 58] ++ (q ++ [41]))) = ([40, 63, 58] ++ (p ++ [41])) ++ ([124, 40, 63, 58] ++ (q ++ [41])) := by simp
  have hsplit2 : [40, 63, 58] ++ (p ++ 41 :: ([124, 40, 63, 58] ++ (q ++ [41]))) = ([40, 63, 58] ++ (p ++ [41, 124, 40, 63, 58])) ++ (q ++ 41 :: []) := by simp
  have hlenS : ([40, 63, 58] ++ (p ++ 41 :: ([124, 40, 63, 58] ++ (q ++ [41])))).length = p.length + q.length + 9 := by simp; omega
  obtain ⟨s, e, hs, hg⟩ := atom_plain hP (a := 0) (bs := [40, 63, 58] ++ (p ++ 41 :: ([124, 40, 63, 58] ++ (q ++ [41])))) rfl rfl rfl hL (m := ([40, 63, 58] ++ (p ++ 41 :: ([124, 40, 63, 58] ++ (q ++ [41])))).length) (by rw [hlenS]; omega) Rx.st0 rfl
  have hal : ([40, 63, 58] ++ (p ++ [41])).length = s.at' := by rw [hs]; simp; omega
  have hal2 : ([40, 63, 58] ++ (p ++ [41, 124, 40, 63, 58])).length = s.at' + 1 + 3 := by rw [hs]; simp; omega
  have hL2 : Loc q ([40, 63, 58] ++ (p ++ 41 :: ([124, 40, 63, 58] ++ (q ++ [41])))) (s.at' + 1 + 3) := by rw [hsplit2, ← hal2]; exact loc_of _ q []
  have g : ∀ k, ([40, 63, 58] ++ (p ++ 41 :: ([124, 40, 63, 58] ++ (q ++ [41]))))[s.at' + k]? = ([124, 40, 63, 58] ++ (q ++ [41]))[k]? := fun k => by rw [hsplit, ← hal, at_append]
  obtain ⟨bs, hbs⟩ : ∃ b, [40, 63, 58] ++ (p ++ 41 :: ([124, 40, 63, 58] ++ (q ++ [41]))) = b := ⟨_, rfl⟩
  rw [hbs] at hL hL2 hlenS e g ⊢
  have h40 : bs[0]? = some 40 := by rw [← hbs]; rfl
  have x0 : bs[s.at']? = some 124 := g 0
  have x1 : bs[s.at' + 1]? = some 40 := g 1
  have x2 : bs[s.at' + 1 + 1]? = some 63 := g 2
  have x3 : bs[s.at' + 1 + 2]? = some 58 := g 3
  have hc := countOf_none (bs := bs) (st := s) (shift Rx.st0.groups t) (fun b hb => by rw [x0] at hb; cases hb; decide)
  have hb1 := branch_one (goes_open (bs := bs) (a := 0) h40) (piece_of e hc) (by unfold Rx.goesOn; rw [x0]; rfl)
  obtain ⟨s2, e2, hs2, _⟩ := atom_plain hP2 (a := s.at' + 1) (bs := bs) x1 x2 x3 hL2 (m := bs.length) (by rw [hlenS]; omega) (s.to (s.at' + 1)) rfl
  have hend : bs[s2.at']? = none := List.getElem?_eq_none (by rw [hs2, hlenS, hs]; omega)
  have hc2 := countOf_none (bs := bs) (st := s2) (shift (s.to (s.at' + 1)).groups t2) (fun b hb => by rw [hend] at hb; cases hb)
  have hb2 := branch_one (goes_open (bs := bs) (a := (s.to (s.at' + 1)).at') x1) (piece_of e2 hc2) (goes_end hend)
  have hpa : Rx.parse sg bs = (some (.alt [.seq [shift Rx.st0.groups t], .seq [shift (s.to (s.at' + 1)).groups t2]]), s2) := by
    obtain ⟨N, hN⟩ : ∃ N, bs.length = N + 1 := ⟨p.length + q.length + 8, by omega⟩
    unfold Rx.parse
    rw [Rx.pat, Rx.patLoop, hb1]
    simp only
    rw [isAt_get x0]
    simp only [decide_true, if_true, List.nil_append]
    have hfu : ∀ M, M = bs.length → Rx.patLoop sg (Rx.pat sg bs M) bs bs.length [.seq [shift Rx.st0.groups t]] (s.to (s.at' + 1)) = (some (.alt [.seq [shift Rx.st0.groups t], .seq [shift (s.to (s.at' + 1)).groups t2]]), s2) := by
      intro M hM
      subst hM
      have hp2 : ∀ K, K + 1 = bs.length → Rx.patLoop sg (Rx.pat sg bs bs.length) bs (K + 1) [.seq [shift Rx.st0.groups t]] (s.to (s.at' + 1)) = (some (.alt [.seq [shift Rx.st0.groups t], .seq [shift (s.to (s.at' + 1)).groups t2]]), s2) := by
        intro K hK
        rw [Rx.patLoop, hb2]
        simp only
        rw [isAt_no hend]
        rfl
      have := hp2 N hN.symm
      rw [← hN] at this
      exact this
    exact hfu _ rfl
  refine fitsV_eq hpa _ fun _ => ?_
  rw [fits_alt2, fits_seq1, fits_seq1, fits_shift, fits_shift, Bool.or_eq_true, fitB_iff t T hw, fitB_iff t2 T hw2]
end Go.Proofs.YtgjdeilclimpdaaDoor
namespace Go.Proofs.YtgjdeilclimpdaaDoor
set_option linter.unusedVariables false
set_option linter.unusedSimpArgs false
open Go.RowKit Go.PlainAid Go.Shelf
set_option maxHeartbeats 4000000 in
set_option maxRecDepth 100000 in
theorem compile_long (s : ByteArray) (h : 500 < s.size) (w : World) : Calls Tryd.prog 10 #[.string s] w fun e w' => e = .returned (.tuple #[.pointer none, .int .u16 81, .int .i64 0]) ∧ w' = w := by
  have hd : decide ((500 : Int) < ((s.size : Nat) : Int)) = true := decide_eq_true (by omega)
  have hd2 : decide (500 < s.size) = true := decide_eq_true h
  obtain ⟨L, hL⟩ : ∃ L, s.size = L := ⟨_, rfl⟩
  rw [hL] at hd hd2
  clear h
  go_enter Tryd.func10, Tryd.ntmps10
  go_wp2
  go_returns
  exact ⟨rfl, rfl⟩
set_option maxHeartbeats 4000000 in
set_option maxRecDepth 100000 in
theorem fits_long (s b : ByteArray) (h : 500 < s.size) (w : World) : Calls Tryd.prog 7 #[.string s, .string b] w fun e w' => e = .returned (.tuple #[.bool false, .bool false]) ∧ Below w.heap.size w w' := by
  have C := Lib.hid (fun w => compile_long s h w)
  clear h
  go_enter Tryd.func7, Tryd.ntmps7
  go_wp2_with fail
  refine (C.out _).mono ?_
  rintro e w1 ⟨rfl, rfl⟩
  go_wp2
  go_ret2
  exact ⟨rfl, Below.refl _ _⟩
theorem fitsV_long (bs T : List Nat) (h : 500 < bs.length) : fitsV bs T = (false, false) := by
  unfold fitsV Rx.compile
  rw [if_pos h]
/-- any text as a pattern -/
theorem fits_str (s b : ByteArray) (hb : b.size ≤ 10000000000) (w : World) (hTab : TabAt w) : Calls Tryd.prog 7 #[.string s, .string b] w fun e w' => e = .returned (.tuple #[.bool (fitsV (bytesOf s) (bytesOf b)).1, .bool (fitsV (bytesOf s) (bytesOf b)).2]) ∧ Below w.heap.size w w' := by
  by_cases h : 500 < s.size
  · rw [fitsV_long _ _ (by rw [bytesOf_length]; exact h)]
    exact fits_long s b h w
  · have := fits_any (bytesOf s) (bytesOf b) (isB_bytesOf s) (by rw [bytesOf_length]; omega) (isB_bytesOf b) (by rw [bytesOf_length]; exact hb) w hTab
    rw [strOf_bytesOf, strOf_bytesOf] at this
    exact this
theorem fits_small {s b : ByteArray} (h : (fitsV (bytesOf s) (bytesOf b)).1 = true) : s.size ≤ 500 := by
  rcases Nat.lt_or_ge 500 s.size with k | k
  · rw [fitsV_long _ _ (by rw [bytesOf_length]; exact k)] at h; cases h
  · exact k
theorem bytes_app (a b : ByteArray) : bytesOf (a ++ b) = bytesOf a ++ bytesOf b := by
  unfold bytesOf
  rw [ByteArray.data_append]
  simp
theorem fit3 (A B : ByteArray) (ha : A.size ≤ 2000) (hb : B.size ≤ 2000) : A.size + B.size ≤ 9223372036854775807 ∧ ¬ 9223372036854775807 < A.size + B.size := ⟨by omega, by omega⟩
theorem fit3n (A : ByteArray) (ha : A.size ≤ 2000) (n : Nat) (hn : n ≤ 10) : A.size + n ≤ 9223372036854775807 ∧ ¬ 9223372036854775807 < A.size + n ∧ n + A.size ≤ 9223372036854775807 ∧ ¬ 9223372036854775807 < n + A.size := ⟨by omega, by omega, by omega, by omega⟩
set_option maxHeartbeats 16000000 in
set_option maxRecDepth 100000 in
theorem law_parts (p q s : ByteArray) (w : World) (hT : TabAt w) : Calls Tryd.prog 3 #[.string p, .string q, .string s] w (Gives w (.bool true)) := by
  have CK := Lib.hid (fun w hT => known_any w hT)
  by_cases h1 : 2000 < s.size
  · have d1 : decide ((2000 : Int) < ((s.size : Nat) : Int)) = true := decide_eq_true (by omega)
    have d2 : decide (2000 < s.size) = true := decide_eq_true h1
    obtain ⟨L, hL⟩ : ∃ L, s.size = L := ⟨_, rfl⟩
    rw [hL] at d1 d2 h1
    have HT := Lib.hid hT
    clear h1 hT
    go_enter Tryd.func3, Tryd.ntmps3
    go_wp2_with fail
    refine (CK.out w HT.out).mono ?_
    rintro e w1 ⟨rfl, hb⟩
    have HB := Lib.hid hb
    have HT1 := Lib.hid (HT.out.below hb HT.out.lt)
    clear hb
    go_wp2_with fail
    refine (CK.out w1 HT1.out).mono ?_
    rintro e w2 ⟨rfl, hb⟩
    have HB2 := Lib.hid (HB.out.trans (hb.mono HB.out.size))
    clear hb
    go_wp2
    go_ret
    exact ⟨rfl, HB2.out⟩
  have d1 : decide ((2000 : Int) < ((s.size : Nat) : Int)) = false := decide_eq_false (by omega)
  have d2 : decide (2000 < s.size) = false := decide_eq_false h1
  have hsz : s.size ≤ 10000000000 := by omega
  have CF := Lib.hid (fun (x : ByteArray) (w : World) hT => fits_str x s hsz w hT)
  obtain ⟨L, hL⟩ : ∃ L, s.size = L := ⟨_, rfl⟩
  rw [hL] at d1 d2
  have HT := Lib.hid hT
  clear h1 hT hsz
  obtain ⟨T, hTT⟩ : ∃ T, bytesOf s = T := ⟨_, rfl⟩
  rw [hTT] at CF
  obtain ⟨A, hA⟩ : ∃ A, (fitsV (bytesOf p) T).1 = A := ⟨_, rfl⟩
  obtain ⟨X, hX⟩ : ∃ A, (fitsV (bytesOf p) T).2 = A := ⟨_, rfl⟩
  obtain ⟨B, hB⟩ : ∃ A, (fitsV (bytesOf q) T).1 = A := ⟨_, rfl⟩
  obtain ⟨Y, hY⟩ : ∃ A, (fitsV (bytesOf q) T).2 = A := ⟨_, rfl⟩
  have C1u := fun w hT => CF.out p w hT
  have C2u := fun w hT => CF.out q w hT
  rw [hA, hX] at C1u
  rw [hB, hY] at C2u
  have C1 := Lib.hid C1u
  have C2 := Lib.hid C2u
  clear C1u C2u
  cases A
  · clear hA hX hB hY CF hTT
    go_enter Tryd.func3, Tryd.ntmps3
    go_wp2_with fail
    refine (CK.out w HT.out).mono ?_
    rintro e w1 ⟨rfl, hb⟩
    have HB := Lib.hid hb
    clear hb
    go_wp2_with fail
    refine (C1.out w1 (HT.out.below HB.out HT.out.lt)).mono ?_
    rintro e w2 ⟨rfl, hb⟩
    have HB2 := Lib.hid (HB.out.trans (hb.mono HB.out.size))
    clear hb
    go_wp2_with fail
    refine (C2.out w2 (HT.out.below HB2.out HT.out.lt)).mono ?_
    rintro e w3 ⟨rfl, hb⟩
    have HB3 := Lib.hid (HB2.out.trans (hb.mono HB2.out.size))
    clear hb
    go_wp2
    go_ret
    exact ⟨rfl, HB3.out⟩
  cases B
  · clear hA hX hB hY CF hTT
    go_enter Tryd.func3, Tryd.ntmps3
    go_wp2_with fail
    refine (CK.out w HT.out).mono ?_
    rintro e w1 ⟨rfl, hb⟩
    have HB := Lib.hid hb
    clear hb
    go_wp2_with fail
    refine (C1.out w1 (HT.out.below HB.out HT.out.lt)).mono ?_
    rintro e w2 ⟨rfl, hb⟩
    have HB2 := Lib.hid (HB.out.trans (hb.mono HB.out.size))
    clear hb
    go_wp2_with fail
    refine (C2.out w2 (HT.out.below HB2.out HT.out.lt)).mono ?_
    rintro e w3 ⟨rfl, hb⟩
    have HB3 := Lib.hid (HB2.out.trans (hb.mono HB2.out.size))
    clear hb
    go_wp2
    go_ret
    exact ⟨rfl, HB3.out⟩
  have hps : p.size ≤ 500 := by rw [← hTT] at hA; exact fits_small hA
  have hqs : q.size ≤ 500 := by rw [← hTT] at hB; exact fits_small hB
  have m1 := part_choice (T := T) hA hB
  have m2 := part_group (T := T) hA
  have m3 := part_once (T := T) hA
  have m4 := part_none (T := T) hA
  rw [hX, hY] at m1
  rw [hX] at m2 m3
  have b1 : bytesOf (ByteArray.mk #[40, 63, 58]) = [40, 63, 58] := rfl
  have b2 : bytesOf (ByteArray.mk #[41, 124, 40, 63, 58]) = [41, 124, 40, 63, 58] := rfl
  have b3 : bytesOf (ByteArray.mk #[41]) = [41] := rfl
  have b4 : bytesOf (ByteArray.mk #[40]) = [40] := rfl
  have b5 : bytesOf (ByteArray.mk #[41, 123, 49, 125]) = [41, 123, 49, 125] := rfl
  have b6 : bytesOf (ByteArray.mk #[41, 63]) = [41, 63] := rfl
  have e1 : bytesOf ((ByteArray.mk #[40, 63, 58]) ++ p ++ (ByteArray.mk #[41, 124, 40, 63, 58]) ++ q ++ (ByteArray.mk #[41])) = [40, 63, 58] ++ (bytesOf p ++ 41 :: ([124, 40, 63, 58] ++ (bytesOf q ++ [41]))) := by
    simp only [bytes_app, b1, b2, b3]; simp
  have e2 : bytesOf ((ByteArray.mk #[40]) ++ p ++ (ByteArray.mk #[41])) = [40] ++ (bytesOf p ++ [41]) := by
    simp only [bytes_app, b3, b4]; simp
  have e3 : bytesOf ((ByteArray.mk #[40, 63, 58]) ++ p ++ (ByteArray.mk #[41, 123, 49, 125])) = [40, 63, 58] ++ (bytesOf p ++ [41, 123, 49, 125]) := by
    simp only [bytes_app, b1, b5]; simp
  have e4 : bytesOf ((ByteArray.mk #[40, 63, 58]) ++ p ++ (ByteArray.mk #[41, 63])) = [40, 63, 58] ++ (bytesOf p ++ [41, 63]) := by
    simp only [bytes_app, b1, b6]; simp
  rw [← e1] at m1
  rw [← e2] at m2
  rw [← e3] at m3
  rw [← e4] at m4
  have g1 : (ByteArray.mk #[40, 63, 58]).size = 3 := rfl
  have g2 : (ByteArray.mk #[41, 124, 40, 63, 58]).size = 5 := rfl
  have g3 : (ByteArray.mk #[41]).size = 1 := rfl
  have g4 : (ByteArray.mk #[40]).size = 1 := rfl
  have g5 : (ByteArray.mk #[41, 123, 49, 125]).size = 4 := rfl
  have g6 : (ByteArray.mk #[41, 63]).size = 2 := rfl
  have C4e := fun w hT => fits_str ((ByteArray.mk #[40, 63, 58]) ++ p ++ (ByteArray.mk #[41, 63])) (ByteArray.mk #[]) (by decide) w hT
  have be : bytesOf (ByteArray.mk #[]) = [] := rfl
  rw [be] at C4e
  clear b1 b2 b3 b4 b5 b6 e1 e2 e3 e4 be
  obtain ⟨Z0, hZ0⟩ : ∃ s, (ByteArray.mk #[40, 63, 58]) ++ p = s := ⟨_, rfl⟩
  have sZ0 : Z0.size = (ByteArray.mk #[40, 63, 58]).size + p.size := by rw [← hZ0, ByteArray.size_append]
  rw [hZ0] at m1 m3 m4 C4e
  have uZ0 : Z0.size ≤ 2000 := by omega
  obtain ⟨Z1, hZ1⟩ : ∃ s, Z0 ++ (ByteArray.mk #[41, 124, 40, 63, 58]) = s := ⟨_, rfl⟩
  have sZ1 : Z1.size = Z0.size + (ByteArray.mk #[41, 124, 40, 63, 58]).size := by rw [← hZ1, ByteArray.size_append]
  rw [hZ1] at m1
  have uZ1 : Z1.size ≤ 2000 := by omega
  obtain ⟨Z2, hZ2⟩ : ∃ s, Z1 ++ q = s := ⟨_, rfl⟩
  have sZ2 : Z2.size = Z1.size + q.size := by rw [← hZ2, ByteArray.size_append]
  rw [hZ2] at m1
  have uZ2 : Z2.size ≤ 2000 := by omega
  obtain ⟨Z3, hZ3⟩ : ∃ s, Z2 ++ (ByteArray.mk #[41]) = s := ⟨_, rfl⟩
  have sZ3 : Z3.size = Z2.size + (ByteArray.mk #[41]).size := by rw [← hZ3, ByteArray.size_append]
  rw [hZ3] at m1
  have uZ3 : Z3.size ≤ 2000 := by omega
  obtain ⟨G1, hG1⟩ : ∃ s, (ByteArray.mk #[40]) ++ p = s := ⟨_, rfl⟩
  have sG1 : G1.size = (ByteArray.mk #[40]).size + p.size := by rw [← hG1, ByteArray.size_append]
  rw [hG1] at m2
  have uG1 : G1.size ≤ 2000 := by omega
  obtain ⟨G2, hG2⟩ : ∃ s, G1 ++ (ByteArray.mk #[41]) = s := ⟨_, rfl⟩
  have sG2 : G2.size = G1.size + (ByteArray.mk #[41]).size := by rw [← hG2, ByteArray.size_append]
  rw [hG2] at m2
  have uG2 : G2.size ≤ 2000 := by omega
  obtain ⟨O2, hO2⟩ : ∃ s, Z0 ++ (ByteArray.mk #[41, 123, 49, 125]) = s := ⟨_, rfl⟩
  have sO2 : O2.size = Z0.size + (ByteArray.mk #[41, 123, 49, 125]).size := by rw [← hO2, ByteArray.size_append]
  rw [hO2] at m3
  have uO2 : O2.size ≤ 2000 := by omega
  obtain ⟨N2, hN2⟩ : ∃ s, Z0 ++ (ByteArray.mk #[41, 63]) = s := ⟨_, rfl⟩
  have sN2 : N2.size = Z0.size + (ByteArray.mk #[41, 63]).size := by rw [← hN2, ByteArray.size_append]
  rw [hN2] at m4 C4e
  have uN2 : N2.size ≤ 2000 := by omega
  obtain ⟨t0a, t0b⟩ := fit3 (ByteArray.mk #[40, 63, 58]) p (by omega) (by omega)
  obtain ⟨t0c, t0d, t0e, t0f⟩ := fit3n p (by omega) 3 (by decide)
  obtain ⟨t1a, t1b⟩ := fit3 Z0 (ByteArray.mk #[41, 124, 40, 63, 58]) (by omega) (by omega)
  obtain ⟨t1c, t1d, t1e, t1f⟩ := fit3n Z0 (by omega) 5 (by decide)
  obtain ⟨t2a, t2b⟩ := fit3 Z1 q (by omega) (by omega)
  obtain ⟨t3a, t3b⟩ := fit3 Z2 (ByteArray.mk #[41]) (by omega) (by omega)
  obtain ⟨t3c, t3d, t3e, t3f⟩ := fit3n Z2 (by omega) 1 (by decide)
  obtain ⟨t4a, t4b⟩ := fit3 (ByteArray.mk #[40]) p (by omega) (by omega)
  obtain ⟨t4c, t4d, t4e, t4f⟩ := fit3n p (by omega) 1 (by decide)
  obtain ⟨t5a, t5b⟩ := fit3 G1 (ByteArray.mk #[41]) (by omega) (by omega)
  obtain ⟨t5c, t5d, t5e, t5f⟩ := fit3n G1 (by omega) 1 (by decide)
  obtain ⟨t6a, t6b⟩ := fit3 Z0 (ByteArray.mk #[41, 123, 49, 125]) (by omega) (by omega)
  obtain ⟨t6c, t6d, t6e, t6f⟩ := fit3n Z0 (by omega) 4 (by decide)
  obtain ⟨t7a, t7b⟩ := fit3 Z0 (ByteArray.mk #[41, 63]) (by omega) (by omega)
  obtain ⟨t7c, t7d, t7e, t7f⟩ := fit3n Z0 (by omega) 2 (by decide)
  clear sZ0 uZ0 sZ1 uZ1 sZ2 uZ2 sZ3 uZ3 sG1 uG1 sG2 uG2 sO2 uO2 sN2 uN2 g1 g2 g3 g4 g5 g6 hps hqs
  have D1u := fun w hT => CF.out Z3 w hT
  have D2u := fun w hT => CF.out G2 w hT
  have D3u := fun w hT => CF.out O2 w hT
  obtain ⟨c1, hc1⟩ : ∃ b, (fitsV (bytesOf Z3) T).1 = b := ⟨_, rfl⟩
  obtain ⟨z1, hz1⟩ : ∃ b, (fitsV (bytesOf Z3) T).2 = b := ⟨_, rfl⟩
  obtain ⟨c2, hc2⟩ : ∃ b, (fitsV (bytesOf G2) T).1 = b := ⟨_, rfl⟩
  obtain ⟨z2, hz2⟩ : ∃ b, (fitsV (bytesOf G2) T).2 = b := ⟨_, rfl⟩
  obtain ⟨c3, hc3⟩ : ∃ b, (fitsV (bytesOf O2) T).1 = b := ⟨_, rfl⟩
  obtain ⟨z3, hz3⟩ : ∃ b, (fitsV (bytesOf O2) T).2 = b := ⟨_, rfl⟩
  obtain ⟨c4, hc4⟩ : ∃ b, (fitsV (bytesOf N2) []).1 = b := ⟨_, rfl⟩
  obtain ⟨z4, hz4⟩ : ∃ b, (fitsV (bytesOf N2) []).2 = b := ⟨_, rfl⟩
  rw [hc1, hz1] at D1u m1
  rw [hc2, hz2] at D2u m2
  rw [hc3, hz3] at D3u m3
  rw [hc4, hz4] at C4e m4
  have D1 := Lib.hid D1u
  clear D1u
  have D2 := Lib.hid D2u
  clear D2u
  have D3 := Lib.hid D3u
  clear D3u
  have D4 := Lib.hid C4e
  have M1 := Lib.hid m1
  have M2 := Lib.hid m2
  have M3 := Lib.hid m3
  have M4 := Lib.hid m4
  clear hA hX hB hY CF hTT hc1 hz1 hc2 hz2 hc3 hz3 hc4 hz4 C4e m1 m2 m3 m4
  go_enter Tryd.func3, Tryd.ntmps3
  go_wp2_with fail
  refine (CK.out w HT.out).mono ?_
  rintro e w1 ⟨rfl, hb⟩
  have HB := Lib.hid hb
  clear hb
  go_wp2_with fail
  refine (C1.out w1 (HT.out.below HB.out HT.out.lt)).mono ?_
  rintro e w2 ⟨rfl, hb⟩
  have HB2 := Lib.hid (HB.out.trans (hb.mono HB.out.size))
  clear hb
  go_wp2_with fail
  refine (C2.out w2 (HT.out.below HB2.out HT.out.lt)).mono ?_
  rintro e w3 ⟨rfl, hb⟩
  have HB3 := Lib.hid (HB2.out.trans (hb.mono HB2.out.size))
  clear hb
  go_wp2_with fail
  refine (D1.out w3 (HT.out.below HB3.out HT.out.lt)).mono ?_
  rintro e w4 ⟨rfl, hb⟩
  have HB4 := Lib.hid (HB3.out.trans (hb.mono HB3.out.size))
  clear hb
  go_wp2_with fail
  refine (D2.out w4 (HT.out.below HB4.out HT.out.lt)).mono ?_
  rintro e w5 ⟨rfl, hb⟩
  have HB5 := Lib.hid (HB4.out.trans (hb.mono HB4.out.size))
  clear hb
  go_wp2_with fail
  refine (D3.out w5 (HT.out.below HB5.out HT.out.lt)).mono ?_
  rintro e w6 ⟨rfl, hb⟩
  have HB6 := Lib.hid (HB5.out.trans (hb.mono HB5.out.size))
  clear hb
  go_wp2_with fail
  refine (D4.out w6 (HT.out.below HB6.out HT.out.lt)).mono ?_
  rintro e w7 ⟨rfl, hb⟩
  have HB7 := Lib.hid (HB6.out.trans (hb.mono HB6.out.size))
  have k1 := M1.out
  have k2 := M2.out
  have k3 := M3.out
  have k4 := M4.out
  clear hb HB HB2 HB3 HB4 HB5 HB6 D1 D2 D3 D4 C1 C2 CK M1 M2 M3 M4 HT
  clear t0a t0b hZ0 t0c t0d t0e t0f t1a t1b hZ1 t1c t1d t1e t1f t2a t2b hZ2 t3a t3b hZ3 t3c t3d t3e t3f t4a t4b hG1 t4c t4d t4e t4f t5a t5b hG2 t5c t5d t5e t5f t6a t6b hO2 t6c t6d t6e t6f t7a t7b hN2 t7c t7d t7e t7f
  have f1 : c1 = true → z1 = (X || Y) := fun h => k1.resolve_left (fun k => by rw [h] at k; cases k)
  have f2 : c2 = true → z2 = X := fun h => k2.resolve_left (fun k => by rw [h] at k; cases k)
  have f3 : c3 = true → z3 = X := fun h => k3.resolve_left (fun k => by rw [h] at k; cases k)
  have f4 : c4 = true → z4 = true := fun h => k4.resolve_left (fun k => by rw [h] at k; cases k)
  clear k1 k2 k3 k4
  cases c1 <;> cases c2 <;> cases c3 <;> cases c4 <;> cases X <;> cases Y
  all_goals
    (first | (have h := f1 rfl; subst h) | skip)
    (first | (have h := f2 rfl; subst h) | skip)
    (first | (have h := f3 rfl; subst h) | skip)
    (first | (have h := f4 rfl; subst h) | skip)
    clear f1 f2 f3 f4
    go_wp2
    go_ret
    exact ⟨rfl, HB7.out⟩
end Go.Proofs.YtgjdeilclimpdaaDoor
namespace Go.Proofs.YtgjdeilclimpdaaDoor.regexParts
open Go.ChangeShapes Go.WideShapes Go.ChangeAt Go.RowKit
open Go.ChangeMaps (open_string shut_string)
set_option linter.unusedVariables false
theorem own : ownKnob Tryd.prog.godebug = none := by kernel_rfl
set_option maxRecDepth 100000 in
theorem lifted (os : Os) (started : os.Started) (H : Type) (enc : TypeId × Value → H) (F : Stop.Interp) :
    ReturnsInHanded {} Tryd.checked os 3 .any ((OpenSpec.ofChange Rows.regexPartsSpec).preRow enc Tryd.prog Tryd.f3 [] false laid1) (((OpenSpec.ofChange Rows.regexPartsSpec).at F).post enc Tryd.prog Tryd.f3 false true false false) := by
  refine returnsInHanded_of_row (C := Tryd.checked) (s := OpenSpec.ofChange Rows.regexPartsSpec) (F := F) (laid := laid1) own started (by kernel_rfl) Tryd.func3
    (ChangeSpec.witness_shaped (enc := enc) (C := Tryd.checked) (os := os) (s := Rows.regexPartsSpec) (X := fun w _ => laidMetH Tryd.prog laid1 w) false (startWorld os) #[.string ByteArray.empty, .string ByteArray.empty, .string ByteArray.empty] 8 (startWorld_os os) (start_shaped os _) (by kernel_rfl) (by kernel_rfl) (by kernel_rfl) (door_met os _)) ?_
  intro W base args ds gs before hval0 hW hcnd _ _ hL hsh _
  have hval : ∀ (j : Nat) t v, Tryd.f3.params[j]? = some t → args[j]? = some v → Value.okWide Tryd.prog W .any base t v := hval0
  have hW' := hW
  obtain ⟨p, q, hA0, hV, rfl, hfz, hnd⟩ := hW
  have hA : DataW.TrodAll enc Tryd.prog W 0 (fun _ => true) true Tryd.f3.params.toList args.toList ds p := hA0
  rw [Tryd.params3] at hA hval
  obtain ⟨v0, vs0, d0, ds0, p0, q0, hargs, rfl, rfl, h0, r0⟩ := trodAll_cons hA
  obtain ⟨v1, vs1, d1, ds1, p1, q1, rfl, rfl, rfl, h1, r1⟩ := trodAll_cons r0
  obtain ⟨v2, vs2, d2, ds2, p2, q2, rfl, rfl, rfl, h2, r2⟩ := trodAll_cons r1
  obtain ⟨rfl, rfl, rfl⟩ := trodAll_nil r2
  obtain rfl : args = #[v0, v1, v2] := by cases args; simp_all
  obtain ⟨rfl, rfl⟩ := trodVars_none hV
  obtain ⟨a0, rfl, rfl, rfl, w0⟩ := open_string Tryd.underlying9 (hval 0 9 v0 rfl rfl) h0
  obtain ⟨a1, rfl, rfl, rfl, w1⟩ := open_string Tryd.underlying9 (hval 1 9 v1 rfl rfl) h1
  obtain ⟨a2, rfl, rfl, rfl, w2⟩ := open_string Tryd.underlying9 (hval 2 9 v2 rfl rfl) h2
  have hT : TabAt W := laid_tab hL
  clear hA0 hval0 hL hsh
  refine (law_parts a0 a1 a2 W hT).mono fun e W' ⟨he, bel⟩ => ?_
  subst he
  exact ⟨_, rfl, _, _, _, [], _, [], hW', trodAll_mk1 (shut_bool Tryd.underlying4 _), (trodAll_cons_mk (shut_string Tryd.underlying9 w0) (trodAll_cons_mk (shut_string Tryd.underlying9 w1) (trodAll_cons_mk (shut_string Tryd.underlying9 w2) trodAll_mk0))), rfl, bel.frame _, fun h => by cases h⟩
theorem over : Rows.regexPartsRow.holds Tryd.pinned (OpenSpec.ofChange Rows.regexPartsSpec) :=
  OpenClaim.holds_of_cond 3 Tryd.f3 rfl rfl rfl rfl rfl rfl rfl ⟨rfl, rfl, rfl, rfl, rfl⟩ rfl rfl rfl rfl rfl f1 Tryd.func3 f2 f3 f4
    (fun os started H enc _ F => by rw [OpenClaim.pre_eq_preRow]; exact lifted os started H enc F)
theorem proved : Rows.RegexPartsSaid := over
/-- the tied card -/
theorem card : Rows.RegexPartsCardSaid :=
  Claim7.holds_tied_plain_at .later [] [.data] true (true, "55b9552654f5e4ab7ac7b4e1554ef897c0017c3be9ebf32a2c7afd333b6d7c14") false
    proved (fun _ h => by cases h) (by kernel_rfl) (fun _ h => by cases h) regexParts_row_tie rfl ⟨rfl, rfl⟩ (by kernel_rfl) rfl
    (fun f fn hf hfn => by
      obtain rfl : f = 3 := Option.some.inj ((show Tryd.prog.funcNamed "barograph/barographlaw08.RegexParts" = some 3 by kernel_rfl).symm.trans hf) |>.symm
      obtain rfl : fn = Tryd.f3 := (Option.some.inj (Tryd.func3.symm.trans hfn)).symm
      exact ⟨by kernel_rfl, fun j t ht => by
        rw [Tryd.params3] at ht
        have hm : t ∈ [9, 9, 9] := by simpa using Array.mem_of_getElem? ht
        have hall : ([9, 9, 9].all fun u => !Tryd.prog.wantsStandIn u) = true := by kernel_rfl
        exact (show Tryd.prog.wantsStandIn t = false by simpa using List.all_eq_true.1 hall t hm)⟩)
    (by kernel_rfl)
#print axioms card
end Go.Proofs.YtgjdeilclimpdaaDoor.regexParts
