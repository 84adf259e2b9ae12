/-
  PROVED: a text with a backslash ahead of each byte that is a sign is a pattern that fits itself, and no other text.
-/
import Derived.Test.YtgjdeilclimpdaaDoorK11
import Derived.Test.YtgjdeilclimpdaaDoorKFRegexWord
import Derived.Test.YtgjdeilclimpdaaDoorTie
import Derived.Test.YtgjdeilclimpdaaDoorCards
import Derived.Deep.DeepHandedRow
import Derived.SevenTiedAt
import Derived.WalkKit
import Derived.ProofKit
import Derived.OpenShut
import Derived.ShutString
import Derived.ChangeOld
import Derived.Below
namespace Go.Proofs.YtgjdeilclimpdaaDoor
set_option linter.unusedVariables false
set_option linter.unusedSimpArgs false
open Rx (Set4 RS)
def isLet (c : Nat) : Bool := (decide (97 ≤ c) && decide (c ≤ 122)) || (decide (65 ≤ c) && decide (c ≤ 90)) || (decide (48 ≤ c) && decide (c ≤ 57))
def needs (c : Nat) : Bool := decide (33 ≤ c) && decide (c ≤ 126) && !isLet c
def esc1 (c : Nat) : List Nat := if needs c then [92, c] else [c]
def esc : List Nat → List Nat
  | [] => []
  | c :: cs => esc1 c ++ esc cs
theorem set4_ext {x y : Set4} (h : (x.a == y.a && x.b == y.b && x.c == y.c && x.d == y.d) = true) : x = y := by
  simp only [Bool.and_eq_true, beq_iff_eq] at h
  obtain ⟨⟨⟨h1, h2⟩, h3⟩, h4⟩ := h
  cases x; cases y
  simp only at h1 h2 h3 h4
  subst h1 h2 h3 h4
  rfl
theorem mean_all : ∀ c, c < 256 → needs c = true → ((Rx.meaning c).a == (Set4.only c).a && (Rx.meaning c).b == (Set4.only c).b && (Rx.meaning c).c == (Set4.only c).c && (Rx.meaning c).d == (Set4.only c).d) = true := by decide +kernel
theorem only_some : ∀ c, c < 256 → (Set4.only c).isNone = false := by decide +kernel
theorem mean_only (c : Nat) (hc : c < 256) (h : needs c = true) : Rx.meaning c = Set4.only c := set4_ext (mean_all c hc h)
/-- what begins no sign -/
def plainC (c : Nat) : Bool := !([42, 43, 63, 123, 125, 93, 40, 91, 94, 36, 46, 92, 124, 41].contains c)
theorem plain_all : ∀ c, c < 256 → needs c = false → plainC c = true := by decide +kernel
theorem esc_isB : ∀ cs, IsB cs → IsB (esc cs)
  | [], _ => IsB.nil
  | c :: cs, h => by
    unfold esc esc1
    have h1 := h c (by simp)
    have h2 := esc_isB cs fun x hx => h x (by simp [hx])
    split
    · exact IsB.cons (by omega) (IsB.cons h1 h2)
    · exact IsB.cons h1 h2
theorem esc_len : ∀ cs, (esc cs).length ≤ 2 * cs.length
  | [] => by simp [esc]
  | c :: cs => by
    have := esc_len cs
    unfold esc esc1
    split <;> simp <;> omega
/-- the first byte of an escaped word -/
theorem esc_head (cs : List Nat) (hB : IsB cs) : ∀ b, (esc cs)[0]? = some b → b = 92 ∨ (plainC b = true ∧ b < 256) := by
  intro b hb
  cases cs with
  | nil => simp [esc] at hb
  | cons c cs =>
    unfold esc esc1 at hb
    have hc := hB c (by simp)
    split at hb
    · simp at hb; exact .inl hb.symm
    · rename_i h
      simp at hb
      subst hb
      exact .inr ⟨plain_all c hc (by simpa using h), hc⟩
theorem at_append (A B : List Nat) (k : Nat) : (A ++ B)[A.length + k]? = B[k]? := by
  rw [List.getElem?_append_right (by omega)]
  congr 1
  omega
theorem isAt_get {bs : List Nat} {p b c : Nat} (h : bs[p]? = some b) : Rx.isAt bs p c = decide (b = c) := by
  unfold Rx.isAt
  rw [h]
  simp
theorem isNext_get {bs : List Nat} {p b : Nat} {l : List Nat} (h : bs[p]? = some b) : Rx.isNext bs p l = l.contains b := by
  unfold Rx.isNext
  rw [h]
theorem isAt_no {bs : List Nat} {p c : Nat} (h : bs[p]? = none) : Rx.isAt bs p c = false := by
  unfold Rx.isAt
  rw [h]
  simp
theorem isNext_no {bs : List Nat} {p : Nat} {l : List Nat} (h : bs[p]? = none) : Rx.isNext bs p l = false := by
  unfold Rx.isNext
  rw [h]
/-- behind an escaped byte no count stands -/
theorem countOf_none {bs : List Nat} {st : RS} (t : Rx.Node) (h : ∀ b, bs[st.at']? = some b → b ≠ 42 ∧ b ≠ 43 ∧ b ≠ 63 ∧ b ≠ 123) : Rx.countOf bs t st = (some t, st) := by
  have k : ∀ c, (c = 42 ∨ c = 43 ∨ c = 63 ∨ c = 123) → Rx.isAt bs st.at' c = false := by
    intro c hc
    cases hb : bs[st.at']? with
    | none => exact isAt_no hb
    | some b =>
      rw [isAt_get hb]
      have := h b hb
      simp
      omega
  unfold Rx.countOf
  rw [k 42 (by simp), k 43 (by simp), k 63 (by simp), k 123 (by simp)]
  rfl
theorem head_ok {b : Nat} (h : b = 92 ∨ (plainC b = true ∧ b < 256)) : b ≠ 42 ∧ b ≠ 43 ∧ b ≠ 63 ∧ b ≠ 123 ∧ b ≠ 124 ∧ b ≠ 41 := by
  rcases h with rfl | ⟨h, _⟩
  · decide
  · unfold plainC at h
    simp at h
    omega
theorem drop_esc (A cs : List Nat) (c : Nat) : A ++ esc (c :: cs) = (A ++ esc1 c) ++ esc cs := by
  rw [show esc (c :: cs) = esc1 c ++ esc cs from rfl, List.append_assoc]
/-- one byte of the word -/
theorem atom_esc (f : Rx.PatF) (A cs : List Nat) (c : Nat) (hc : c < 256) (hB : IsB cs) (st : RS) (hp : st.at' = A.length) :
    Rx.goesOn (A ++ esc (c :: cs)) st.at' = true ∧ Rx.piece sg f (A ++ esc (c :: cs)) st = (some (.byte (Set4.only c)), st.to (A ++ esc1 c).length) := by
  have hnext : ∀ b, (A ++ esc (c :: cs))[(A ++ esc1 c).length]? = some b → b = 92 ∨ (plainC b = true ∧ b < 256) := by
    intro b hb
    rw [drop_esc, ← Nat.add_zero (A ++ esc1 c).length, at_append] at hb
    exact esc_head cs hB b hb
  have hcnt : Rx.countOf (A ++ esc (c :: cs)) (.byte (Set4.only c)) (st.to (A ++ esc1 c).length) = (some (.byte (Set4.only c)), st.to (A ++ esc1 c).length) :=
    countOf_none _ fun b hb => by have := head_ok (hnext b hb); omega
  have hfin : Rx.atom sg f (A ++ esc (c :: cs)) st = (some (.byte (Set4.only c)), st.to (A ++ esc1 c).length) → Rx.piece sg f (A ++ esc (c :: cs)) st = (some (.byte (Set4.only c)), st.to (A ++ esc1 c).length) := by
    intro h
    unfold Rx.piece
    rw [h]
    exact hcnt
  clear hcnt hnext
  by_cases hn : needs c = true
  · have e1 : esc1 c = [92, c] := by unfold esc1; rw [if_pos hn]
    have h0 : (A ++ esc (c :: cs))[st.at']? = some 92 := by
      rw [hp, ← Nat.add_zero A.length, at_append]; unfold esc; rw [e1]; rfl
    have h1 : (A ++ esc (c :: cs))[st.at' + 1]? = some c := by
      rw [hp, at_append]; unfold esc; rw [e1]; rfl
    rw [e1] at hfin ⊢
    refine ⟨by unfold Rx.goesOn; rw [h0]; rfl, hfin ?_⟩
    unfold Rx.atom
    rw [isNext_get h0, isNext_get h0, isNext_get h0, isAt_get h0, isAt_get h0, isAt_get h0]
    unfold Rx.plainOrEscape Rx.peEnd
    rw [isAt_get h0, h1]
    have hm := mean_only c hc hn
    have ho := only_some c hc
    simp [hm, ho, Rx.ofSet, hp]
  · have e1 : esc1 c = [c] := by unfold esc1; rw [if_neg hn]
    have h0 : (A ++ esc (c :: cs))[st.at']? = some c := by
      rw [hp, ← Nat.add_zero A.length, at_append]; unfold esc; rw [e1]; rfl
    have hpl := plain_all c hc (by simpa using hn)
    unfold plainC at hpl
    simp at hpl
    rw [e1] at hfin ⊢
    refine ⟨by unfold Rx.goesOn; rw [h0]; simp; omega, hfin ?_⟩
    unfold Rx.atom
    rw [isNext_get h0, isNext_get h0, isNext_get h0, isAt_get h0, isAt_get h0, isAt_get h0]
    unfold Rx.plainOrEscape Rx.peEnd
    rw [isAt_get h0, h0]
    have ho := only_some c hc
    simp [ho, Rx.ofSet, hp, hpl]
theorem branch_esc (f : Rx.PatF) : ∀ (cs : List Nat) (A : List Nat) (ks : List Rx.Node) (n : Nat) (st : RS), IsB cs → st.at' = A.length → cs.length < n →
    Rx.branchLoop sg f (A ++ esc cs) n ks st = (some (ks ++ cs.map fun c => .byte (Set4.only c)), st.to (A ++ esc cs).length)
  | [], A, ks, n, st, hB, hp, hn => by
    cases n with
    | zero => omega
    | succ n =>
      have h0 : (A ++ esc [])[st.at']? = none := by
        rw [hp]; unfold esc; simp
      unfold Rx.branchLoop Rx.goesOn
      rw [h0]
      simp only [Bool.false_eq_true, if_false, List.map_nil, List.append_nil]
      unfold esc
      rw [List.append_nil]
      cases st
      simp only at hp
      subst hp
      rfl
  | c :: cs, A, ks, n, st, hB, hp, hn => by
    cases n with
    | zero => omega
    | succ n =>
      have hc := hB c (by simp)
      have hB2 : IsB cs := fun x hx => hB x (by simp [hx])
      obtain ⟨h1, h2⟩ := atom_esc f A cs c hc hB2 st hp
      unfold Rx.branchLoop
      rw [h1, h2]
      simp only [if_true]
      have := branch_esc f cs (A ++ esc1 c) (ks ++ [.byte (Set4.only c)]) n (st.to (A ++ esc1 c).length) hB2 rfl (by simp at hn; omega)
      rw [← drop_esc] at this
      rw [this]
      simp [RS.to]
def wordT (cs : List Nat) : Rx.Node := .alt [.seq (cs.map fun c => .byte (Set4.only c))]
theorem states_word : ∀ (cs : List Nat) (n : Nat), Rx.statesAll (cs.map fun c => .byte (Set4.only c)) n = n + cs.length
  | [], n => by unfold Rx.statesAll; rfl
  | c :: cs, n => by
    rw [List.map_cons, Rx.statesAll, states_word cs]
    unfold Rx.states
    simp
    omega
theorem wf_word : ∀ cs : List Nat, Rx.WfAll (cs.map fun c => .byte (Set4.only c))
  | [] => by unfold Rx.WfAll; trivial
  | c :: cs => by rw [List.map_cons, Rx.WfAll]; exact ⟨by unfold Rx.Wf; trivial, wf_word cs⟩
theorem wf_wordT (cs : List Nat) : Rx.Wf (wordT cs) := by
  unfold wordT Rx.Wf Rx.WfAll
  exact ⟨by simp, by unfold Rx.Wf; exact wf_word cs, by unfold Rx.WfAll; trivial⟩
theorem compile_word (cs : List Nat) (hB : IsB cs) (hl : cs.length ≤ 200) : Rx.compile sg (esc cs) = .ok (wordT cs, 0) := by
  have hle := esc_len cs
  have hp : Rx.parse sg (esc cs) = (some (wordT cs), Rx.st0.to (esc cs).length) := by
    unfold Rx.parse
    rw [Rx.pat]
    rw [Rx.patLoop]
    have hb := branch_esc (Rx.pat sg (esc cs) (esc cs).length) cs [] [] ((esc cs).length + 1) Rx.st0 hB rfl (by
      have : cs.length ≤ (esc cs).length := by
        clear hB hl hle
        induction cs with
        | nil => simp
        | cons c cs ih => unfold esc esc1; split <;> simp <;> omega
      omega)
    simp only [List.nil_append] at hb
    unfold Rx.branch
    rw [hb]
    simp only
    rw [isAt_no (by show (esc cs)[(esc cs).length]? = none; simp)]
    rfl
  unfold Rx.compile
  rw [if_neg (by omega), hp]
  simp only
  have hs : Rx.states (wordT cs) ≤ 999 := by
    unfold wordT Rx.states Rx.statesAll Rx.statesAll
    have : Rx.states (.seq (cs.map fun c => .byte (Set4.only c))) ≤ cs.length := by
      unfold Rx.states
      rw [states_word]
      omega
    simp
    omega
  rw [if_neg (by simp [RS.to]), if_neg (by simp [RS.to, Rx.st0]; omega)]
  rfl
theorem fits_word (T : List Nat) (hT : IsB T) : ∀ (cs : List Nat) (i : Nat), IsB cs → i ≤ T.length → (Rx.FitsSeq T (cs.map fun c => .byte (Set4.only c)) i T.length ↔ T.drop i = cs)
  | [], i, hB, hi => by
    rw [List.map_nil, Rx.FitsSeq]
    constructor
    · intro h; rw [h]; simp
    · intro h
      have := congrArg List.length h
      simp at this
      omega
  | c :: cs, i, hB, hi => by
    rw [List.map_cons, Rx.FitsSeq]
    have hc := hB c (by simp)
    have hB2 : IsB cs := fun x hx => hB x (by simp [hx])
    constructor
    · rintro ⟨k, h1, h2⟩
      unfold Rx.Fits at h1
      obtain ⟨b, e1, e2, rfl⟩ := h1
      have hlt := (List.getElem?_eq_some_iff.1 e1).1
      have hb : T[i] = b := (List.getElem?_eq_some_iff.1 e1).2
      rw [Rx.only_has c b hc (by rw [← hb]; exact hT.at i hlt)] at e2
      have : b = c := by simpa using e2
      rw [List.drop_eq_getElem_cons hlt, hb, this, (fits_word T hT cs (i + 1) hB2 (by omega)).1 h2]
    · intro h
      have hlt : i < T.length := by
        rcases Nat.lt_or_ge i T.length with k | k
        · exact k
        · rw [List.drop_eq_nil_of_le k] at h; cases h
      rw [List.drop_eq_getElem_cons hlt] at h
      injection h with h1 h2
      refine ⟨i + 1, ?_, (fits_word T hT cs (i + 1) hB2 (by omega)).2 h2⟩
      unfold Rx.Fits
      exact ⟨c, by rw [List.getElem?_eq_getElem hlt, h1], by rw [Rx.only_has c c hc hc]; simp, rfl⟩
theorem fitB_word (cs T : List Nat) (hB : IsB cs) (hT : IsB T) : fitB (wordT cs) T = decide (T = cs) := by
  unfold fitB
  have h := Rx.match_iff (wordT cs) (wf_wordT cs) T false
  have h2 : Rx.Fits T (wordT cs) 0 T.length ↔ T = cs := by
    unfold wordT Rx.Fits Rx.FitsAlt Rx.FitsAlt
    rw [Rx.Fits, fits_word T hT cs 0 hB (Nat.zero_le _)]
    simp
  rw [h2] at h
  by_cases e : T = cs
  · rw [h.2 e, decide_eq_true e]
  · rw [decide_eq_false e]
    cases hf : (Rx.runM (Rx.prog (wordT cs)) T false).fits
    · rfl
    · exact absurd (h.1 hf) e
theorem fitsV_word (cs T : List Nat) (hB : IsB cs) (hT : IsB T) (hl : cs.length ≤ 200) : fitsV (esc cs) T = (true, decide (T = cs)) := by
  unfold fitsV
  rw [compile_word cs hB hl]
  simp only
  rw [fitB_word cs T hB hT]
end Go.Proofs.YtgjdeilclimpdaaDoor
namespace Go.Proofs.YtgjdeilclimpdaaDoor
set_option linter.unusedVariables false
set_option linter.unusedSimpArgs false
open Go.RowKit Go.PlainAid Go.Shelf
theorem conv_own {w : World} {base : Nat} {v : Value} {ds : List Nat} (h : Own w base v ds) (hB : IsB ds) : (convert 26 9 v).run Tryd.prog w = .ok (.string (strOf ds)) w := by
  obtain ⟨a, cap, rfl, hc, hcell⟩ := h.cells
  by_cases hd : ds = []
  · subst hd
    obtain ⟨_, h2⟩ := h
    rcases h2 with ⟨hv, _⟩ | ⟨g, cap2, cur, hv, _⟩
    · cases hv
      exact run_convert_bytes_nil w 26 5 Tryd.underlying26 Tryd.underlying5 _ _ 9 Tryd.underlying9
    · cases hv
      have := run_convert_bytes_arg (P := Tryd.prog) w 26 5 Tryd.underlying26 Tryd.underlying5 g 0 0 cap [] rfl (fun i hi => by omega) 9 Tryd.underlying9
      exact this
  · have hp : 0 < ds.length := List.length_pos_iff.2 hd
    obtain ⟨b, rfl, _⟩ := hcell 0 hp
    have := run_convert_bytes_arg (P := Tryd.prog) w 26 5 Tryd.underlying26 Tryd.underlying5 b 0 ds.length cap (ds.map fun (c : Nat) => (c : Int)) (by simp) (fun i hi => by
      obtain ⟨b', hb', hc'⟩ := hcell i hi
      cases hb'
      rw [Nat.zero_add, hc']
      simp [List.getD, List.getElem?_map, List.getElem?_eq_getElem hi]) 9 Tryd.underlying9
    rw [this]
    have e : strOfNums (ds.map fun (c : Nat) => (c : Int)) = strOf ds := by
      unfold strOfNums strOf
      rw [List.map_map]
      rfl
    rw [e]
/-- a row of bytes of the call's own -/
structure Pw (w wr : World) (v : Value) (E : List Nat) : Prop where
  own : Own wr w.heap.size v E
  below : Below w.heap.size w wr
theorem Pw.alloc {w wr : World} {v : Value} {E : List Nat} (h : Pw w wr v E) (o : Obj) : Pw w (wr.alloc o) v E := ⟨h.own.below ((Below.refl _ _).alloc (Nat.le_refl _) o), h.below.alloc h.below.size o⟩
theorem Pw.app {w wr w2 : World} {v v2 : Value} {E : List Nat} {n : Nat} (h : Pw w wr v E) (hn : E.length = n) (c : Nat) (k1 : w2.ownsRow w.heap.size 5 1 v2 (n + 1) (cellsOf E ++ cellsOf [c])) (k2 : wr.grownBy w2 v.ownBlock) : Pw w w2 v2 (E ++ [c]) := by
  obtain ⟨h1, h2⟩ := own_grow (ds := E) (es := [c]) (wb := w) k1 (by rw [hn]; rfl) (own_block h.own) k2 h.below h.below.size
  exact ⟨h1, h2⟩
theorem Pw.nxt {w wr w2 : World} {v v2 : Value} {E : List Nat} {n : Nat} (h : Pw w wr v E) (hn : E.length = n) (c : Nat) (k1 : w2.ownsRow w.heap.size 5 1 v2 (n + 1) (cellsOf E ++ cellsOf [c])) (k2 : wr.grownBy w2 v.ownBlock) : ∃ a2 c2, v2 = .slice a2 (n + 1) c2 ∧ Pw w w2 (.slice a2 (n + 1) c2) (E ++ [c]) := by
  have h2 := h.app hn c k1 k2
  obtain ⟨a2, c2, hs, _⟩ := h2.own.cells
  have hl : (E ++ [c]).length = n + 1 := by rw [List.length_append, hn]; rfl
  rw [hl] at hs
  subst hs
  exact ⟨a2, c2, rfl, h2⟩
theorem Pw.row {w wr : World} {v : Value} {E : List Nat} {n : Nat} (h : Pw w wr v E) (hn : E.length = n) (o : Obj) : (wr.alloc o).ownsRow w.heap.size 5 1 v n (cellsOf E) ∧ w.heap.size ≤ (wr.alloc o).heap.size := by
  have := (h.alloc o).own
  unfold Own at this
  rw [hn] at this
  exact ⟨this, (h.alloc o).below.size⟩
theorem toList_eqb (x y : ByteArray) : (x.toList == y.toList) = decide (x = y) := by
  by_cases h : x = y
  · subst h; simp
  · rw [decide_eq_false h]
    simp only [beq_eq_false_iff_ne, ne_eq]
    intro e
    apply h
    rw [ByteArray.toList_eq, ByteArray.toList_eq] at e
    exact ByteArray.ext (Array.toList_inj.1 e)
theorem esc_snoc : ∀ (xs : List Nat) (c : Nat), esc (xs ++ [c]) = esc xs ++ esc1 c
  | [], c => by show esc [c] = _; unfold esc; unfold esc; simp
  | x :: xs, c => by
    show esc (x :: (xs ++ [c])) = _
    rw [show esc (x :: (xs ++ [c])) = esc1 x ++ esc (xs ++ [c]) from rfl, esc_snoc xs c, show esc (x :: xs) = esc1 x ++ esc xs from rfl, List.append_assoc]
theorem wrap_small (k : Nat) (h : k ≤ 1000) : RowKit.wrap64 (((k : Nat) : Int) + 1) = ((k : Nat) : Int) + 1 := IntWalk.wrap64_in _ ⟨by omega, by omega⟩
theorem meas_small (L k : Nat) (h : k < L) : L - (((k : Nat) : Int) + 1).toNat < L - (((k : Nat) : Int)).toNat := by omega
set_option maxHeartbeats 16000000 in
set_option maxRecDepth 100000 in
theorem law_word (s b : ByteArray) (w : World) (hT : TabAt w) : Calls Tryd.prog 4 #[.string s, .string b] w (Gives w (.bool true)) := by
  have CK := Lib.hid (fun w hT => known_any w hT)
  by_cases h1 : 200 < s.size
  · have d1 : decide ((200 : Int) < ((s.size : Nat) : Int)) = true := decide_eq_true (by omega)
    have d2 : decide (200 < s.size) = true := decide_eq_true h1
    obtain ⟨L, hL⟩ : ∃ L, s.size = L := ⟨_, rfl⟩
    rw [hL] at d1 d2 h1
    have HT := Lib.hid hT
    clear h1 hT
    go_enter Tryd.func4, Tryd.ntmps4
    go_wp2_with fail
    refine (CK.out w HT.out).mono ?_
    rintro e w1 ⟨rfl, hb⟩
    have HB := Lib.hid hb
    have HT1 := Lib.hid (HT.out.below hb HT.out.lt)
    clear hb
    go_wp2_with fail
    refine (CK.out w1 HT1.out).mono ?_
    rintro e w2 ⟨rfl, hb⟩
    have HB2 := Lib.hid (HB.out.trans (hb.mono HB.out.size))
    clear hb
    go_wp2
    go_ret
    exact ⟨rfl, HB2.out⟩
  by_cases h2 : 2000 < b.size
  · have d1 : decide ((200 : Int) < ((s.size : Nat) : Int)) = false := decide_eq_false (by omega)
    have d2 : decide (200 < s.size) = false := decide_eq_false h1
    have d3 : decide ((2000 : Int) < ((b.size : Nat) : Int)) = true := decide_eq_true (by omega)
    have d4 : decide (2000 < b.size) = true := decide_eq_true h2
    obtain ⟨L, hL⟩ : ∃ L, s.size = L := ⟨_, rfl⟩
    obtain ⟨M, hM⟩ : ∃ L, b.size = L := ⟨_, rfl⟩
    rw [hL] at d1 d2 h1
    rw [hM] at d3 d4 h2
    have HT := Lib.hid hT
    clear h1 h2 hT
    go_enter Tryd.func4, Tryd.ntmps4
    go_wp2_with fail
    refine (CK.out w HT.out).mono ?_
    rintro e w1 ⟨rfl, hb⟩
    have HB := Lib.hid hb
    have HT1 := Lib.hid (HT.out.below hb HT.out.lt)
    clear hb
    go_wp2_with fail
    refine (CK.out w1 HT1.out).mono ?_
    rintro e w2 ⟨rfl, hb⟩
    have HB2 := Lib.hid (HB.out.trans (hb.mono HB.out.size))
    clear hb
    go_wp2
    go_ret
    exact ⟨rfl, HB2.out⟩
  have d1 : decide ((200 : Int) < ((s.size : Nat) : Int)) = false := decide_eq_false (by omega)
  have d2 : decide (200 < s.size) = false := decide_eq_false h1
  have d3 : decide ((2000 : Int) < ((b.size : Nat) : Int)) = false := decide_eq_false (by omega)
  have d4 : decide (2000 < b.size) = false := decide_eq_false h2
  have hBs := isB_bytesOf s
  have hBb := isB_bytesOf b
  have hls := bytesOf_length s
  have hlb := bytesOf_length b
  have hse := strOf_bytesOf s
  have hbe := strOf_bytesOf b
  obtain ⟨bs, hbs⟩ : ∃ x, bytesOf s = x := ⟨_, rfl⟩
  obtain ⟨cs, hcs⟩ : ∃ x, bytesOf b = x := ⟨_, rfl⟩
  rw [hbs] at hBs hls hse
  rw [hcs] at hBb hlb hbe
  have hle := esc_len bs
  have C1 := fun w hT => fits_any (esc bs) bs (esc_isB bs hBs) (by omega) hBs (by omega) w hT
  have C2 := fun w hT => fits_any (esc bs) cs (esc_isB bs hBs) (by omega) hBb (by omega) w hT
  rw [fitsV_word bs bs hBs hBs (by omega), hse] at C1
  rw [fitsV_word bs cs hBs hBb (by omega), hbe] at C2
  simp only [decide_true] at C1
  have hbeq : decide (cs = bs) = (b.toList == s.toList) := by
    rw [toList_eqb]
    by_cases e : cs = bs
    · rw [decide_eq_true e, decide_eq_true (by rw [← hbe, ← hse, e])]
    · rw [decide_eq_false e, decide_eq_false (fun h => e (strOf_inj hBb hBs (by rw [hbe, hse, h])))]
  have C1 := Lib.hid C1
  have C2 := Lib.hid C2
  have HTW := Lib.hid hT
  have HBS := Lib.hid hBs
  have HLS := Lib.hid hls
  have HSE := Lib.hid hse
  have HEI := Lib.hid (esc_isB bs hBs)
  have HSM := Lib.hid (show s.size ≤ 200 from by omega)
  obtain ⟨i0, hi, hz0, hz1, hz2⟩ := info_parts info5
  obtain ⟨L, hL⟩ : ∃ L, s.size = L := ⟨_, rfl⟩
  obtain ⟨M, hM⟩ : ∃ L, b.size = L := ⟨_, rfl⟩
  rw [hL] at d1 d2 HLS HSM
  rw [hM] at d3 d4
  have hget := get_bt s
  have hszL := hL
  clear h1 h2 hT hBs hBb hls hlb hse hbe hbs hcs hle hL
  go_enter Tryd.func4, Tryd.ntmps4
  go_wp2_with fail
  refine (CK.out w HTW.out).mono ?_
  rintro e w1 ⟨rfl, hb⟩
  have P0 := Lib.hid (show Pw w w1 (.slice none 0 0) (esc (bs.take 0)) from ⟨Own.nil _ _, hb⟩)
  clear hb
  go_wp2
  go_loopw [5, 6] (fun r5 r6 wr => ∃ (k : Nat), k ≤ L ∧ r6 = .int .i64 ((k : Nat) : Int) ∧ Hid (Pw w wr r5 (esc (bs.take k)))) (fun _ r6 _ => L - (intOf r6).toNat)
  case atStart => exact ⟨0, Nat.zero_le _, rfl, P0⟩
  case round =>
    obtain ⟨k, hk, rfl, HP⟩ := hrel
    by_cases hkL : k < L
    · have hkb : k < bs.length := by rw [HLS.out]; exact hkL
      obtain ⟨c, hc⟩ : ∃ c, bs[k] = c := ⟨_, rfl⟩
      have hc256 : c < 256 := by rw [← hc]; exact HBS.out.at k hkb
      have hbt : bt s k = ((c : Nat) : Int) := by rw [← HSE.out, strOf_bt bs HBS.out k hkb, hc]
      have htk : bs.take (k + 1) = bs.take k ++ [c] := by rw [List.take_succ_eq_append_getElem hkb, hc]
      have hE1 := esc_snoc (bs.take k) c
      rw [← htk] at hE1
      have hlen := esc_len (bs.take k)
      rw [List.length_take] at hlen
      obtain ⟨ao, co, hsh, _, _⟩ := HP.out.own.cells
      subst hsh
      obtain ⟨E, hE⟩ : ∃ E, esc (bs.take k) = E := ⟨_, rfl⟩
      rw [hE] at HP hE1 hlen
      obtain ⟨E2, hE2⟩ : ∃ E, esc (bs.take (k + 1)) = E := ⟨_, rfl⟩
      rw [hE2] at hE1
      have HE2 := Lib.hid hE2
      rw [hE]
      obtain ⟨N, hN⟩ : ∃ N, E.length = N := ⟨_, rfl⟩
      have HN := Lib.hid hN
      have HNB := Lib.hid (show N ≤ 400 from by have := HSM.out; omega)
      have HKK := Lib.hid (show k + 1 ≤ L from hkL)
      have HMS := Lib.hid (meas_small L k hkL)
      have HK1 := Lib.hid (wrap_small k (by have := HSM.out; omega))
      have hkz : ((k : Nat) : Int) < ((s.size : Nat) : Int) := by rw [hszL]; omega
      have hkz2 : k < s.size := by rw [hszL]; exact hkL
      have hkd : decide (((k : Nat) : Int) < ((L : Nat) : Int)) = true := decide_eq_true (by omega)
      have hkd2 : decide (k < L) = true := decide_eq_true hkL
      rw [hN] at HP ⊢
      clear hc hkb htk hE hE2 hlen hN hk P0
      have hsp : c ≤ 32 ∨ (33 ≤ c ∧ c ≤ 47) ∨ (48 ≤ c ∧ c ≤ 57) ∨ (58 ≤ c ∧ c ≤ 64) ∨ (65 ≤ c ∧ c ≤ 90) ∨ (91 ≤ c ∧ c ≤ 96) ∨ (97 ≤ c ∧ c ≤ 122) ∨ (123 ≤ c ∧ c ≤ 126) ∨ 127 ≤ c := by omega
      rcases hsp with hr | hr | hr | hr | hr | hr | hr | hr | hr
      · have q97 : decide ((97 : Int) ≤ ((c : Nat) : Int)) = false := decide_eq_false (by omega)
        have q65 : decide ((65 : Int) ≤ ((c : Nat) : Int)) = false := decide_eq_false (by omega)
        have q48 : decide ((48 : Int) ≤ ((c : Nat) : Int)) = false := decide_eq_false (by omega)
        have q33 : decide ((33 : Int) ≤ ((c : Nat) : Int)) = false := decide_eq_false (by omega)
        have q122 : decide (((c : Nat) : Int) ≤ 122) = true := decide_eq_true (by omega)
        have q90 : decide (((c : Nat) : Int) ≤ 90) = true := decide_eq_true (by omega)
        have q57 : decide (((c : Nat) : Int) ≤ 57) = true := decide_eq_true (by omega)
        have q126 : decide (((c : Nat) : Int) ≤ 126) = true := decide_eq_true (by omega)
        have hes : esc1 c = [c] := by unfold esc1 needs isLet; simp; omega
        rw [hes] at hE1
        have HE1 := Lib.hid hE1
        clear hes hE1 hr hc256
        have HN1 := Lib.hid HN.out
        have HX1 := Lib.hid (show N + 1 ≤ maxLen ∧ (N + 1) * 1 ≤ 140737488355328 from ⟨by have := HNB.out; unfold maxLen; omega, by have := HNB.out; omega⟩)
        have HE3 := Lib.hid (show E2 = E ++ [c] from HE1.out)
        go_wp2_with (first | (at_builtin; refine wpList_append_own _ rfl (.tmp 70) (.tmp 72) 26 rfl w.heap.size 5 i0 (.int .u8 0) 1 1 Tryd.underlying26 hi hz0 hz1 hz2 rfl (by decide) (.slice ao (N) co) (N) (cellsOf (E)) rfl (HP.out.row HN1.out _).1 ⟨wr.heap.size, 0, none⟩ 1 1 (cellsOf [c]) rfl rfl (alloc_row _ [c]) (cellsOf_one _) HX1.out.1 HX1.out.2 (HP.out.row HN1.out _).2 ?_; intro v2 w2 k1 k2 k3; obtain ⟨a2, c2, rfl, hp2⟩ := (HP.out.alloc _).nxt HN1.out (c) k1 k2; have P2 := Lib.hid hp2; clear k1 k2 k3 hp2))
        go_roundw
        case rel => exact ⟨k + 1, HKK.out, by rw [HK1.out, Int.natCast_add] <;> rfl, Lib.hid (by rw [HE2.out, HE3.out]; exact P2.out)⟩
        case measure =>
          rw [HK1.out]
          exact HMS.out
      · have q97 : decide ((97 : Int) ≤ ((c : Nat) : Int)) = false := decide_eq_false (by omega)
        have q65 : decide ((65 : Int) ≤ ((c : Nat) : Int)) = false := decide_eq_false (by omega)
        have q48 : decide ((48 : Int) ≤ ((c : Nat) : Int)) = false := decide_eq_false (by omega)
        have q33 : decide ((33 : Int) ≤ ((c : Nat) : Int)) = true := decide_eq_true (by omega)
        have q122 : decide (((c : Nat) : Int) ≤ 122) = true := decide_eq_true (by omega)
        have q90 : decide (((c : Nat) : Int) ≤ 90) = true := decide_eq_true (by omega)
        have q57 : decide (((c : Nat) : Int) ≤ 57) = true := decide_eq_true (by omega)
        have q126 : decide (((c : Nat) : Int) ≤ 126) = true := decide_eq_true (by omega)
        have hes : esc1 c = [92, c] := by unfold esc1 needs isLet; simp; omega
        rw [hes] at hE1
        have HE1 := Lib.hid hE1
        clear hes hE1 hr hc256
        have HN1 := Lib.hid HN.out
        have HX1 := Lib.hid (show N + 1 ≤ maxLen ∧ (N + 1) * 1 ≤ 140737488355328 from ⟨by have := HNB.out; unfold maxLen; omega, by have := HNB.out; omega⟩)
        have HN2 := Lib.hid (show (E ++ [92]).length = N + 1 from by rw [List.length_append, HN.out]; rfl)
        have HX2 := Lib.hid (show N + 1 + 1 ≤ maxLen ∧ (N + 1 + 1) * 1 ≤ 140737488355328 from ⟨by have := HNB.out; unfold maxLen; omega, by have := HNB.out; omega⟩)
        have HE3 := Lib.hid (show E2 = E ++ [92] ++ [c] from by rw [HE1.out, List.append_assoc]; rfl)
        go_wp2_with (first | (at_builtin; refine wpList_append_own _ rfl (.tmp 67) (.tmp 68) 26 rfl w.heap.size 5 i0 (.int .u8 0) 1 1 Tryd.underlying26 hi hz0 hz1 hz2 rfl (by decide) (.slice ao (N) co) (N) (cellsOf (E)) rfl (HP.out.row HN1.out _).1 ⟨wr.heap.size, 0, none⟩ 1 1 (cellsOf [92]) rfl rfl (alloc_row _ [92]) (cellsOf_one _) HX1.out.1 HX1.out.2 (HP.out.row HN1.out _).2 ?_; intro v2 w2 k1 k2 k3; obtain ⟨a2, c2, rfl, hp2⟩ := (HP.out.alloc _).nxt HN1.out (92) k1 k2; have P2 := Lib.hid hp2; clear k1 k2 k3 hp2) | (at_builtin; refine wpList_append_own _ rfl (.tmp 70) (.tmp 72) 26 rfl w.heap.size 5 i0 (.int .u8 0) 1 1 Tryd.underlying26 hi hz0 hz1 hz2 rfl (by decide) (.slice a2 (N + 1) c2) (N + 1) (cellsOf (E ++ [92])) rfl (P2.out.row HN2.out _).1 ⟨w2.heap.size, 0, none⟩ 1 1 (cellsOf [c]) rfl rfl (alloc_row _ [c]) (cellsOf_one _) HX2.out.1 HX2.out.2 (P2.out.row HN2.out _).2 ?_; intro v3 w3 k1 k2 k3; obtain ⟨a3, c3, rfl, hp3⟩ := (P2.out.alloc _).nxt HN2.out (c) k1 k2; have P3 := Lib.hid hp3; clear k1 k2 k3 hp3))
        go_roundw
        case rel => exact ⟨k + 1, HKK.out, by rw [HK1.out, Int.natCast_add] <;> rfl, Lib.hid (by rw [HE2.out, HE3.out]; exact P3.out)⟩
        case measure =>
          rw [HK1.out]
          exact HMS.out
      · have q97 : decide ((97 : Int) ≤ ((c : Nat) : Int)) = false := decide_eq_false (by omega)
        have q65 : decide ((65 : Int) ≤ ((c : Nat) : Int)) = false := decide_eq_false (by omega)
        have q48 : decide ((48 : Int) ≤ ((c : Nat) : Int)) = true := decide_eq_true (by omega)
        have q33 : decide ((33 : Int) ≤ ((c : Nat) : Int)) = true := decide_eq_true (by omega)
        have q122 : decide (((c : Nat) : Int) ≤ 122) = true := decide_eq_true (by omega)
        have q90 : decide (((c : Nat) : Int) ≤ 90) = true := decide_eq_true (by omega)
        have q57 : decide (((c : Nat) : Int) ≤ 57) = true := decide_eq_true (by omega)
        have q126 : decide (((c : Nat) : Int) ≤ 126) = true := decide_eq_true (by omega)
        have hes : esc1 c = [c] := by unfold esc1 needs isLet; simp; omega
        rw [hes] at hE1
        have HE1 := Lib.hid hE1
        clear hes hE1 hr hc256
        have HN1 := Lib.hid HN.out
        have HX1 := Lib.hid (show N + 1 ≤ maxLen ∧ (N + 1) * 1 ≤ 140737488355328 from ⟨by have := HNB.out; unfold maxLen; omega, by have := HNB.out; omega⟩)
        have HE3 := Lib.hid (show E2 = E ++ [c] from HE1.out)
        go_wp2_with (first | (at_builtin; refine wpList_append_own _ rfl (.tmp 70) (.tmp 72) 26 rfl w.heap.size 5 i0 (.int .u8 0) 1 1 Tryd.underlying26 hi hz0 hz1 hz2 rfl (by decide) (.slice ao (N) co) (N) (cellsOf (E)) rfl (HP.out.row HN1.out _).1 ⟨wr.heap.size, 0, none⟩ 1 1 (cellsOf [c]) rfl rfl (alloc_row _ [c]) (cellsOf_one _) HX1.out.1 HX1.out.2 (HP.out.row HN1.out _).2 ?_; intro v2 w2 k1 k2 k3; obtain ⟨a2, c2, rfl, hp2⟩ := (HP.out.alloc _).nxt HN1.out (c) k1 k2; have P2 := Lib.hid hp2; clear k1 k2 k3 hp2))
        go_roundw
        case rel => exact ⟨k + 1, HKK.out, by rw [HK1.out, Int.natCast_add] <;> rfl, Lib.hid (by rw [HE2.out, HE3.out]; exact P2.out)⟩
        case measure =>
          rw [HK1.out]
          exact HMS.out
      · have q97 : decide ((97 : Int) ≤ ((c : Nat) : Int)) = false := decide_eq_false (by omega)
        have q65 : decide ((65 : Int) ≤ ((c : Nat) : Int)) = false := decide_eq_false (by omega)
        have q48 : decide ((48 : Int) ≤ ((c : Nat) : Int)) = true := decide_eq_true (by omega)
        have q33 : decide ((33 : Int) ≤ ((c : Nat) : Int)) = true := decide_eq_true (by omega)
        have q122 : decide (((c : Nat) : Int) ≤ 122) = true := decide_eq_true (by omega)
        have q90 : decide (((c : Nat) : Int) ≤ 90) = true := decide_eq_true (by omega)
        have q57 : decide (((c : Nat) : Int) ≤ 57) = false := decide_eq_false (by omega)
        have q126 : decide (((c : Nat) : Int) ≤ 126) = true := decide_eq_true (by omega)
        have hes : esc1 c = [92, c] := by unfold esc1 needs isLet; simp; omega
        rw [hes] at hE1
        have HE1 := Lib.hid hE1
        clear hes hE1 hr hc256
        have HN1 := Lib.hid HN.out
        have HX1 := Lib.hid (show N + 1 ≤ maxLen ∧ (N + 1) * 1 ≤ 140737488355328 from ⟨by have := HNB.out; unfold maxLen; omega, by have := HNB.out; omega⟩)
        have HN2 := Lib.hid (show (E ++ [92]).length = N + 1 from by rw [List.length_append, HN.out]; rfl)
        have HX2 := Lib.hid (show N + 1 + 1 ≤ maxLen ∧ (N + 1 + 1) * 1 ≤ 140737488355328 from ⟨by have := HNB.out; unfold maxLen; omega, by have := HNB.out; omega⟩)
        have HE3 := Lib.hid (show E2 = E ++ [92] ++ [c] from by rw [HE1.out, List.append_assoc]; rfl)
        go_wp2_with (first | (at_builtin; refine wpList_append_own _ rfl (.tmp 67) (.tmp 68) 26 rfl w.heap.size 5 i0 (.int .u8 0) 1 1 Tryd.underlying26 hi hz0 hz1 hz2 rfl (by decide) (.slice ao (N) co) (N) (cellsOf (E)) rfl (HP.out.row HN1.out _).1 ⟨wr.heap.size, 0, none⟩ 1 1 (cellsOf [92]) rfl rfl (alloc_row _ [92]) (cellsOf_one _) HX1.out.1 HX1.out.2 (HP.out.row HN1.out _).2 ?_; intro v2 w2 k1 k2 k3; obtain ⟨a2, c2, rfl, hp2⟩ := (HP.out.alloc _).nxt HN1.out (92) k1 k2; have P2 := Lib.hid hp2; clear k1 k2 k3 hp2) | (at_builtin; refine wpList_append_own _ rfl (.tmp 70) (.tmp 72) 26 rfl w.heap.size 5 i0 (.int .u8 0) 1 1 Tryd.underlying26 hi hz0 hz1 hz2 rfl (by decide) (.slice a2 (N + 1) c2) (N + 1) (cellsOf (E ++ [92])) rfl (P2.out.row HN2.out _).1 ⟨w2.heap.size, 0, none⟩ 1 1 (cellsOf [c]) rfl rfl (alloc_row _ [c]) (cellsOf_one _) HX2.out.1 HX2.out.2 (P2.out.row HN2.out _).2 ?_; intro v3 w3 k1 k2 k3; obtain ⟨a3, c3, rfl, hp3⟩ := (P2.out.alloc _).nxt HN2.out (c) k1 k2; have P3 := Lib.hid hp3; clear k1 k2 k3 hp3))
        go_roundw
        case rel => exact ⟨k + 1, HKK.out, by rw [HK1.out, Int.natCast_add] <;> rfl, Lib.hid (by rw [HE2.out, HE3.out]; exact P3.out)⟩
        case measure =>
          rw [HK1.out]
          exact HMS.out
      · have q97 : decide ((97 : Int) ≤ ((c : Nat) : Int)) = false := decide_eq_false (by omega)
        have q65 : decide ((65 : Int) ≤ ((c : Nat) : Int)) = true := decide_eq_true (by omega)
        have q48 : decide ((48 : Int) ≤ ((c : Nat) : Int)) = true := decide_eq_true (by omega)
        have q33 : decide ((33 : Int) ≤ ((c : Nat) : Int)) = true := decide_eq_true (by omega)
        have q122 : decide (((c : Nat) : Int) ≤ 122) = true := decide_eq_true (by omega)
        have q90 : decide (((c : Nat) : Int) ≤ 90) = true := decide_eq_true (by omega)
        have q57 : decide (((c : Nat) : Int) ≤ 57) = false := decide_eq_false (by omega)
        have q126 : decide (((c : Nat) : Int) ≤ 126) = true := decide_eq_true (by omega)
        have hes : esc1 c = [c] := by unfold esc1 needs isLet; simp; omega
        rw [hes] at hE1
        have HE1 := Lib.hid hE1
        clear hes hE1 hr hc256
        have HN1 := Lib.hid HN.out
        have HX1 := Lib.hid (show N + 1 ≤ maxLen ∧ (N + 1) * 1 ≤ 140737488355328 from ⟨by have := HNB.out; unfold maxLen; omega, by have := HNB.out; omega⟩)
        have HE3 := Lib.hid (show E2 = E ++ [c] from HE1.out)
        go_wp2_with (first | (at_builtin; refine wpList_append_own _ rfl (.tmp 70) (.tmp 72) 26 rfl w.heap.size 5 i0 (.int .u8 0) 1 1 Tryd.underlying26 hi hz0 hz1 hz2 rfl (by decide) (.slice ao (N) co) (N) (cellsOf (E)) rfl (HP.out.row HN1.out _).1 ⟨wr.heap.size, 0, none⟩ 1 1 (cellsOf [c]) rfl rfl (alloc_row _ [c]) (cellsOf_one _) HX1.out.1 HX1.out.2 (HP.out.row HN1.out _).2 ?_; intro v2 w2 k1 k2 k3; obtain ⟨a2, c2, rfl, hp2⟩ := (HP.out.alloc _).nxt HN1.out (c) k1 k2; have P2 := Lib.hid hp2; clear k1 k2 k3 hp2))
        go_roundw
        case rel => exact ⟨k + 1, HKK.out, by rw [HK1.out, Int.natCast_add] <;> rfl, Lib.hid (by rw [HE2.out, HE3.out]; exact P2.out)⟩
        case measure =>
          rw [HK1.out]
          exact HMS.out
      · have q97 : decide ((97 : Int) ≤ ((c : Nat) : Int)) = false := decide_eq_false (by omega)
        have q65 : decide ((65 : Int) ≤ ((c : Nat) : Int)) = true := decide_eq_true (by omega)
        have q48 : decide ((48 : Int) ≤ ((c : Nat) : Int)) = true := decide_eq_true (by omega)
        have q33 : decide ((33 : Int) ≤ ((c : Nat) : Int)) = true := decide_eq_true (by omega)
        have q122 : decide (((c : Nat) : Int) ≤ 122) = true := decide_eq_true (by omega)
        have q90 : decide (((c : Nat) : Int) ≤ 90) = false := decide_eq_false (by omega)
        have q57 : decide (((c : Nat) : Int) ≤ 57) = false := decide_eq_false (by omega)
        have q126 : decide (((c : Nat) : Int) ≤ 126) = true := decide_eq_true (by omega)
        have hes : esc1 c = [92, c] := by unfold esc1 needs isLet; simp; omega
        rw [hes] at hE1
        have HE1 := Lib.hid hE1
        clear hes hE1 hr hc256
        have HN1 := Lib.hid HN.out
        have HX1 := Lib.hid (show N + 1 ≤ maxLen ∧ (N + 1) * 1 ≤ 140737488355328 from ⟨by have := HNB.out; unfold maxLen; omega, by have := HNB.out; omega⟩)
        have HN2 := Lib.hid (show (E ++ [92]).length = N + 1 from by rw [List.length_append, HN.out]; rfl)
        have HX2 := Lib.hid (show N + 1 + 1 ≤ maxLen ∧ (N + 1 + 1) * 1 ≤ 140737488355328 from ⟨by have := HNB.out; unfold maxLen; omega, by have := HNB.out; omega⟩)
        have HE3 := Lib.hid (show E2 = E ++ [92] ++ [c] from by rw [HE1.out, List.append_assoc]; rfl)
        go_wp2_with (first | (at_builtin; refine wpList_append_own _ rfl (.tmp 67) (.tmp 68) 26 rfl w.heap.size 5 i0 (.int .u8 0) 1 1 Tryd.underlying26 hi hz0 hz1 hz2 rfl (by decide) (.slice ao (N) co) (N) (cellsOf (E)) rfl (HP.out.row HN1.out _).1 ⟨wr.heap.size, 0, none⟩ 1 1 (cellsOf [92]) rfl rfl (alloc_row _ [92]) (cellsOf_one _) HX1.out.1 HX1.out.2 (HP.out.row HN1.out _).2 ?_; intro v2 w2 k1 k2 k3; obtain ⟨a2, c2, rfl, hp2⟩ := (HP.out.alloc _).nxt HN1.out (92) k1 k2; have P2 := Lib.hid hp2; clear k1 k2 k3 hp2) | (at_builtin; refine wpList_append_own _ rfl (.tmp 70) (.tmp 72) 26 rfl w.heap.size 5 i0 (.int .u8 0) 1 1 Tryd.underlying26 hi hz0 hz1 hz2 rfl (by decide) (.slice a2 (N + 1) c2) (N + 1) (cellsOf (E ++ [92])) rfl (P2.out.row HN2.out _).1 ⟨w2.heap.size, 0, none⟩ 1 1 (cellsOf [c]) rfl rfl (alloc_row _ [c]) (cellsOf_one _) HX2.out.1 HX2.out.2 (P2.out.row HN2.out _).2 ?_; intro v3 w3 k1 k2 k3; obtain ⟨a3, c3, rfl, hp3⟩ := (P2.out.alloc _).nxt HN2.out (c) k1 k2; have P3 := Lib.hid hp3; clear k1 k2 k3 hp3))
        go_roundw
        case rel => exact ⟨k + 1, HKK.out, by rw [HK1.out, Int.natCast_add] <;> rfl, Lib.hid (by rw [HE2.out, HE3.out]; exact P3.out)⟩
        case measure =>
          rw [HK1.out]
          exact HMS.out
      · have q97 : decide ((97 : Int) ≤ ((c : Nat) : Int)) = true := decide_eq_true (by omega)
        have q65 : decide ((65 : Int) ≤ ((c : Nat) : Int)) = true := decide_eq_true (by omega)
        have q48 : decide ((48 : Int) ≤ ((c : Nat) : Int)) = true := decide_eq_true (by omega)
        have q33 : decide ((33 : Int) ≤ ((c : Nat) : Int)) = true := decide_eq_true (by omega)
        have q122 : decide (((c : Nat) : Int) ≤ 122) = true := decide_eq_true (by omega)
        have q90 : decide (((c : Nat) : Int) ≤ 90) = false := decide_eq_false (by omega)
        have q57 : decide (((c : Nat) : Int) ≤ 57) = false := decide_eq_false (by omega)
        have q126 : decide (((c : Nat) : Int) ≤ 126) = true := decide_eq_true (by omega)
        have hes : esc1 c = [c] := by unfold esc1 needs isLet; simp; omega
        rw [hes] at hE1
        have HE1 := Lib.hid hE1
        clear hes hE1 hr hc256
        have HN1 := Lib.hid HN.out
        have HX1 := Lib.hid (show N + 1 ≤ maxLen ∧ (N + 1) * 1 ≤ 140737488355328 from ⟨by have := HNB.out; unfold maxLen; omega, by have := HNB.out; omega⟩)
        have HE3 := Lib.hid (show E2 = E ++ [c] from HE1.out)
        go_wp2_with (first | (at_builtin; refine wpList_append_own _ rfl (.tmp 70) (.tmp 72) 26 rfl w.heap.size 5 i0 (.int .u8 0) 1 1 Tryd.underlying26 hi hz0 hz1 hz2 rfl (by decide) (.slice ao (N) co) (N) (cellsOf (E)) rfl (HP.out.row HN1.out _).1 ⟨wr.heap.size, 0, none⟩ 1 1 (cellsOf [c]) rfl rfl (alloc_row _ [c]) (cellsOf_one _) HX1.out.1 HX1.out.2 (HP.out.row HN1.out _).2 ?_; intro v2 w2 k1 k2 k3; obtain ⟨a2, c2, rfl, hp2⟩ := (HP.out.alloc _).nxt HN1.out (c) k1 k2; have P2 := Lib.hid hp2; clear k1 k2 k3 hp2))
        go_roundw
        case rel => exact ⟨k + 1, HKK.out, by rw [HK1.out, Int.natCast_add] <;> rfl, Lib.hid (by rw [HE2.out, HE3.out]; exact P2.out)⟩
        case measure =>
          rw [HK1.out]
          exact HMS.out
      · have q97 : decide ((97 : Int) ≤ ((c : Nat) : Int)) = true := decide_eq_true (by omega)
        have q65 : decide ((65 : Int) ≤ ((c : Nat) : Int)) = true := decide_eq_true (by omega)
        have q48 : decide ((48 : Int) ≤ ((c : Nat) : Int)) = true := decide_eq_true (by omega)
        have q33 : decide ((33 : Int) ≤ ((c : Nat) : Int)) = true := decide_eq_true (by omega)
        have q122 : decide (((c : Nat) : Int) ≤ 122) = false := decide_eq_false (by omega)
        have q90 : decide (((c : Nat) : Int) ≤ 90) = false := decide_eq_false (by omega)
        have q57 : decide (((c : Nat) : Int) ≤ 57) = false := decide_eq_false (by omega)
        have q126 : decide (((c : Nat) : Int) ≤ 126) = true := decide_eq_true (by omega)
        have hes : esc1 c = [92, c] := by unfold esc1 needs isLet; simp; omega
        rw [hes] at hE1
        have HE1 := Lib.hid hE1
        clear hes hE1 hr hc256
        have HN1 := Lib.hid HN.out
        have HX1 := Lib.hid (show N + 1 ≤ maxLen ∧ (N + 1) * 1 ≤ 140737488355328 from ⟨by have := HNB.out; unfold maxLen; omega, by have := HNB.out; omega⟩)
        have HN2 := Lib.hid (show (E ++ [92]).length = N + 1 from by rw [List.length_append, HN.out]; rfl)
        have HX2 := Lib.hid (show N + 1 + 1 ≤ maxLen ∧ (N + 1 + 1) * 1 ≤ 140737488355328 from ⟨by have := HNB.out; unfold maxLen; omega, by have := HNB.out; omega⟩)
        have HE3 := Lib.hid (show E2 = E ++ [92] ++ [c] from by rw [HE1.out, List.append_assoc]; rfl)
        go_wp2_with (first | (at_builtin; refine wpList_append_own _ rfl (.tmp 67) (.tmp 68) 26 rfl w.heap.size 5 i0 (.int .u8 0) 1 1 Tryd.underlying26 hi hz0 hz1 hz2 rfl (by decide) (.slice ao (N) co) (N) (cellsOf (E)) rfl (HP.out.row HN1.out _).1 ⟨wr.heap.size, 0, none⟩ 1 1 (cellsOf [92]) rfl rfl (alloc_row _ [92]) (cellsOf_one _) HX1.out.1 HX1.out.2 (HP.out.row HN1.out _).2 ?_; intro v2 w2 k1 k2 k3; obtain ⟨a2, c2, rfl, hp2⟩ := (HP.out.alloc _).nxt HN1.out (92) k1 k2; have P2 := Lib.hid hp2; clear k1 k2 k3 hp2) | (at_builtin; refine wpList_append_own _ rfl (.tmp 70) (.tmp 72) 26 rfl w.heap.size 5 i0 (.int .u8 0) 1 1 Tryd.underlying26 hi hz0 hz1 hz2 rfl (by decide) (.slice a2 (N + 1) c2) (N + 1) (cellsOf (E ++ [92])) rfl (P2.out.row HN2.out _).1 ⟨w2.heap.size, 0, none⟩ 1 1 (cellsOf [c]) rfl rfl (alloc_row _ [c]) (cellsOf_one _) HX2.out.1 HX2.out.2 (P2.out.row HN2.out _).2 ?_; intro v3 w3 k1 k2 k3; obtain ⟨a3, c3, rfl, hp3⟩ := (P2.out.alloc _).nxt HN2.out (c) k1 k2; have P3 := Lib.hid hp3; clear k1 k2 k3 hp3))
        go_roundw
        case rel => exact ⟨k + 1, HKK.out, by rw [HK1.out, Int.natCast_add] <;> rfl, Lib.hid (by rw [HE2.out, HE3.out]; exact P3.out)⟩
        case measure =>
          rw [HK1.out]
          exact HMS.out
      · have q97 : decide ((97 : Int) ≤ ((c : Nat) : Int)) = true := decide_eq_true (by omega)
        have q65 : decide ((65 : Int) ≤ ((c : Nat) : Int)) = true := decide_eq_true (by omega)
        have q48 : decide ((48 : Int) ≤ ((c : Nat) : Int)) = true := decide_eq_true (by omega)
        have q33 : decide ((33 : Int) ≤ ((c : Nat) : Int)) = true := decide_eq_true (by omega)
        have q122 : decide (((c : Nat) : Int) ≤ 122) = false := decide_eq_false (by omega)
        have q90 : decide (((c : Nat) : Int) ≤ 90) = false := decide_eq_false (by omega)
        have q57 : decide (((c : Nat) : Int) ≤ 57) = false := decide_eq_false (by omega)
        have q126 : decide (((c : Nat) : Int) ≤ 126) = false := decide_eq_false (by omega)
        have hes : esc1 c = [c] := by unfold esc1 needs isLet; simp; omega
        rw [hes] at hE1
        have HE1 := Lib.hid hE1
        clear hes hE1 hr hc256
        have HN1 := Lib.hid HN.out
        have HX1 := Lib.hid (show N + 1 ≤ maxLen ∧ (N + 1) * 1 ≤ 140737488355328 from ⟨by have := HNB.out; unfold maxLen; omega, by have := HNB.out; omega⟩)
        have HE3 := Lib.hid (show E2 = E ++ [c] from HE1.out)
        go_wp2_with (first | (at_builtin; refine wpList_append_own _ rfl (.tmp 70) (.tmp 72) 26 rfl w.heap.size 5 i0 (.int .u8 0) 1 1 Tryd.underlying26 hi hz0 hz1 hz2 rfl (by decide) (.slice ao (N) co) (N) (cellsOf (E)) rfl (HP.out.row HN1.out _).1 ⟨wr.heap.size, 0, none⟩ 1 1 (cellsOf [c]) rfl rfl (alloc_row _ [c]) (cellsOf_one _) HX1.out.1 HX1.out.2 (HP.out.row HN1.out _).2 ?_; intro v2 w2 k1 k2 k3; obtain ⟨a2, c2, rfl, hp2⟩ := (HP.out.alloc _).nxt HN1.out (c) k1 k2; have P2 := Lib.hid hp2; clear k1 k2 k3 hp2))
        go_roundw
        case rel => exact ⟨k + 1, HKK.out, by rw [HK1.out, Int.natCast_add] <;> rfl, Lib.hid (by rw [HE2.out, HE3.out]; exact P2.out)⟩
        case measure =>
          rw [HK1.out]
          exact HMS.out
    · have hkE : k = L := by omega
      subst hkE
      rw [List.take_of_length_le (by rw [HLS.out]; omega)] at HP
      have hcv := conv_own HP.out.own HEI.out
      have C1' := Lib.hid (C1.out wr (HTW.out.below HP.out.below HTW.out.lt))
      clear P0 C1
      go_wp2_with fail
      refine C1'.out.mono ?_
      rintro e w2 ⟨rfl, hb⟩
      have P2 := Lib.hid (show Pw w w2 _ (esc bs) from ⟨HP.out.own.below hb, HP.out.below.trans (hb.mono HP.out.below.size)⟩)
      have hcv2 := conv_own P2.out.own HEI.out
      have C2' := Lib.hid (C2.out w2 (HTW.out.below P2.out.below HTW.out.lt))
      clear hb hcv C1' C2 HP
      go_wp2_with fail
      refine C2'.out.mono ?_
      rintro e w3 ⟨rfl, hb⟩
      have B3 := Lib.hid (P2.out.below.trans (hb.mono P2.out.below.size))
      clear hb hcv2 C2' P2
      rw [hbeq]
      go_wp2
      go_ret
      exact ⟨by simp, B3.out⟩
end Go.Proofs.YtgjdeilclimpdaaDoor
namespace Go.Proofs.YtgjdeilclimpdaaDoor.regexWord
open Go.ChangeShapes Go.WideShapes Go.ChangeAt Go.RowKit
open Go.ChangeMaps (open_string shut_string)
set_option linter.unusedVariables false
theorem own : ownKnob Tryd.prog.godebug = none := by kernel_rfl
set_option maxRecDepth 100000 in
theorem lifted (os : Os) (started : os.Started) (H : Type) (enc : TypeId × Value → H) (F : Stop.Interp) :
    ReturnsInHanded {} Tryd.checked os 4 .any ((OpenSpec.ofChange Rows.regexWordSpec).preRow enc Tryd.prog Tryd.f4 [] false laid1) (((OpenSpec.ofChange Rows.regexWordSpec).at F).post enc Tryd.prog Tryd.f4 false true false false) := by
  refine returnsInHanded_of_row (C := Tryd.checked) (s := OpenSpec.ofChange Rows.regexWordSpec) (F := F) (laid := laid1) own started (by kernel_rfl) Tryd.func4
    (ChangeSpec.witness_shaped (enc := enc) (C := Tryd.checked) (os := os) (s := Rows.regexWordSpec) (X := fun w _ => laidMetH Tryd.prog laid1 w) false (startWorld os) #[.string ByteArray.empty, .string ByteArray.empty] 8 (startWorld_os os) (start_shaped os _) (by kernel_rfl) (by kernel_rfl) (by kernel_rfl) (door_met os _)) ?_
  intro W base args ds gs before hval0 hW hcnd _ _ hL hsh _
  have hval : ∀ (j : Nat) t v, Tryd.f4.params[j]? = some t → args[j]? = some v → Value.okWide Tryd.prog W .any base t v := hval0
  have hW' := hW
  obtain ⟨p, q, hA0, hV, rfl, hfz, hnd⟩ := hW
  have hA : DataW.TrodAll enc Tryd.prog W 0 (fun _ => true) true Tryd.f4.params.toList args.toList ds p := hA0
  rw [Tryd.params4] at hA hval
  obtain ⟨v0, vs0, d0, ds0, p0, q0, hargs, rfl, rfl, h0, r0⟩ := trodAll_cons hA
  obtain ⟨v1, vs1, d1, ds1, p1, q1, rfl, rfl, rfl, h1, r1⟩ := trodAll_cons r0
  obtain ⟨rfl, rfl, rfl⟩ := trodAll_nil r1
  obtain rfl : args = #[v0, v1] := by cases args; simp_all
  obtain ⟨rfl, rfl⟩ := trodVars_none hV
  obtain ⟨a0, rfl, rfl, rfl, w0⟩ := open_string Tryd.underlying9 (hval 0 9 v0 rfl rfl) h0
  obtain ⟨a1, rfl, rfl, rfl, w1⟩ := open_string Tryd.underlying9 (hval 1 9 v1 rfl rfl) h1
  have hT : TabAt W := laid_tab hL
  clear hA0 hval0 hL hsh
  refine (law_word a0 a1 W hT).mono fun e W' ⟨he, bel⟩ => ?_
  subst he
  exact ⟨_, rfl, _, _, _, [], _, [], hW', trodAll_mk1 (shut_bool Tryd.underlying4 _), (trodAll_cons_mk (shut_string Tryd.underlying9 w0) (trodAll_cons_mk (shut_string Tryd.underlying9 w1) trodAll_mk0)), rfl, bel.frame _, fun h => by cases h⟩
theorem over : Rows.regexWordRow.holds Tryd.pinned (OpenSpec.ofChange Rows.regexWordSpec) :=
  OpenClaim.holds_of_cond 4 Tryd.f4 rfl rfl rfl rfl rfl rfl rfl ⟨rfl, rfl, rfl, rfl, rfl⟩ rfl rfl rfl rfl rfl f1 Tryd.func4 f2 f3 f4
    (fun os started H enc _ F => by rw [OpenClaim.pre_eq_preRow]; exact lifted os started H enc F)
theorem proved : Rows.RegexWordSaid := over
/-- the tied card -/
theorem card : Rows.RegexWordCardSaid :=
  Claim7.holds_tied_plain_at .later [] [.data] true (true, "55b9552654f5e4ab7ac7b4e1554ef897c0017c3be9ebf32a2c7afd333b6d7c14") false
    proved (fun _ h => by cases h) (by kernel_rfl) (fun _ h => by cases h) regexWord_row_tie rfl ⟨rfl, rfl⟩ (by kernel_rfl) rfl
    (fun f fn hf hfn => by
      obtain rfl : f = 4 := Option.some.inj ((show Tryd.prog.funcNamed "barograph/barographlaw08.RegexWord" = some 4 by kernel_rfl).symm.trans hf) |>.symm
      obtain rfl : fn = Tryd.f4 := (Option.some.inj (Tryd.func4.symm.trans hfn)).symm
      exact ⟨by kernel_rfl, fun j t ht => by
        rw [Tryd.params4] at ht
        have hm : t ∈ [9, 9] := by simpa using Array.mem_of_getElem? ht
        have hall : ([9, 9].all fun u => !Tryd.prog.wantsStandIn u) = true := by kernel_rfl
        exact (show Tryd.prog.wantsStandIn t = false by simpa using List.all_eq_true.1 hall t hm)⟩)
    (by kernel_rfl)
#print axioms card
end Go.Proofs.YtgjdeilclimpdaaDoor.regexWord
