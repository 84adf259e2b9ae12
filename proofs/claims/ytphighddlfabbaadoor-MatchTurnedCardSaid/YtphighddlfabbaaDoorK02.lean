/-
  PACKED: RxF, RxG, WaA, WaB, MtB
-/
import Derived.Test.YtphighddlfabbaaDoorK01
import Derived.Laws.Bits64b
import Derived.BigRegion
import Derived.Laws.CopyOwn
import Derived.Lib.TrailingZeros
import Derived.Laws.Bits128
namespace Go.Proofs.YtphighddlfabbaaDoor
namespace Rx
set_option linter.unusedVariables false
set_option linter.unusedSimpArgs false
def inst (P : List Instr) (s : Nat) : Instr := (P[s]?).getD (iJump 0)
theorem inst_of {P : List Instr} {s : Nat} {x : Instr} (h : P[s]? = some x) : inst P s = x := by unfold inst; rw [h]; rfl
def fuel (P : List Instr) : Nat := 3 * P.length + 1
def scanOne (P : List Instr) (L : Nat) (keeps : Bool) (i c : Nat) (x : Nat × List Rec) (st : MS) : MS :=
  if (inst P x.1).bytes.has c then (follow P L keeps i (fuel P) st (inst P x.1).next 0 x.2).1 else st
def scan (P : List Instr) (L : Nat) (keeps : Bool) (i c : Nat) : List (Nat × List Rec) → MS → MS
  | [], st => st
  | x :: xs, st => if (scanOne P L keeps i c x st).fits then scanOne P L keeps i c x st else scan P L keeps i c xs (scanOne P L keeps i c x st)
def loopM (P : List Instr) (L : Nat) (keeps : Bool) : List Nat → Nat → MS → MS
  | [], _, st => st
  | c :: cs, i, st =>
    if (scan P L keeps (i + 1) c st.next { st with next := [] }).fits then scan P L keeps (i + 1) c st.next { st with next := [] }
    else if (scan P L keeps (i + 1) c st.next { st with next := [] }).next.length = 0 then scan P L keeps (i + 1) c st.next { st with next := [] }
    else loopM P L keeps cs (i + 1) (scan P L keeps (i + 1) c st.next { st with next := [] })
def start0 : MS := ⟨fun _ _ => 0, [], false, []⟩
def runM (P : List Instr) (T : List Nat) (keeps : Bool) : MS := loopM P T.length keeps T 0 (follow P T.length keeps 0 (fuel P) start0 0 0 []).1
def NR (P : List Instr) (T : List Nat) (i c : Nat) : Prop := ∃ m, Run P T m 0 0 c i
theorem NR.step {P : List Instr} {T : List Nat} {i c i' c' : Nat} (h : NR P T i c) (k : NStep P T c i c' i') : NR P T i' c' := by obtain ⟨m, h⟩ := h; exact ⟨_, run_snoc h k⟩
theorem star_ind {P : List Instr} {T : List Nat} {M : Cf → Prop} {a : Cf} (h0 : M a) (h1 : ∀ b c, Star P T a b → M b → Step P T b c → M c) : ∀ c, Star P T a c → M c := by
  have : ∀ x c, Star P T x c → Star P T a x → M x → M c := by
    intro x c h
    induction h with
    | refl => intro _ m; exact m
    | head s _ ih => intro k m; exact ih (k.trans (.one s)) (h1 _ _ k m s)
  exact fun c h => this a c h (.refl _) h0
theorem step_way {P : List Instr} {T : List Nat} {b c : Cf} (h : Step P T b c) (hb : b.w ≠ 2) : c.w ≠ 2 := by
  cases h <;> simp_all
/-- how it stands behind a place -/
structure Inv (P : List Instr) (T : List Nat) (i : Nat) (st : MS) : Prop where
  le : ∀ a c, st.seen a c ≤ i + 1
  full : ∀ d, Star P T ⟨0, 0, 0⟩ d → d.i = i → st.seen d.w d.s = i + 1
  good : ∀ a c, st.seen a c = i + 1 → NR P T i c
  next : ∀ x ∈ st.next, NR P T i x.1 ∧ ∃ y, P[x.1]? = some y ∧ y.kind = 0
  list : ∀ a c x, st.seen a c = i + 1 → P[c]? = some x → x.kind = 0 → ∃ p, (c, p) ∈ st.next
  fits : st.fits = true → i = T.length ∧ ∃ c x, NR P T i c ∧ P[c]? = some x ∧ x.kind = 1
  ends : ∀ a c x, st.seen a c = i + 1 → P[c]? = some x → x.kind = 1 → i = T.length → st.fits = true
theorem scanOne_fine {P : List Instr} {T : List Nat} (hG : Good P) (keeps : Bool) {i c : Nat} (hc : T[i]? = some c) (x : Nat × List Rec) (hx : NR P T i x.1 ∧ ∃ y, P[x.1]? = some y ∧ y.kind = 0) (st : MS) :
    Ext P T (i + 1) (NR P T (i + 1)) st (scanOne P T.length keeps (i + 1) c x st) ∧ ((inst P x.1).bytes.has c = true → (scanOne P T.length keeps (i + 1) c x st).seen 0 (inst P x.1).next = i + 1 + 1) := by
  obtain ⟨hr, y, hy, hk⟩ := hx
  unfold scanOne
  rw [inst_of hy]
  split
  · rename_i hb
    have q : NR P T (i + 1) y.next := hr.step (.fit _ _ y c hy hk hc hb)
    obtain ⟨a1, a2, a3⟩ := follow_fine (T := T) (i := i + 1) (Q := NR P T (i + 1)) hG (fun c c' h s => h.step s) keeps (fuel P) st y.next 0 x.2 (hG.next _ _ hy (by omega)) (by omega) (by have := unm_le st.seen (i + 1 + 1) P.length; unfold fuel; omega) q
    exact ⟨a1, fun _ => a2⟩
  · rename_i hb
    exact ⟨Ext.refl _, fun h => absurd h hb⟩
theorem scan_fine {P : List Instr} {T : List Nat} (hG : Good P) (keeps : Bool) {i c : Nat} (hc : T[i]? = some c) : ∀ (xs : List (Nat × List Rec)) (st : MS), (∀ x ∈ xs, NR P T i x.1 ∧ ∃ y, P[x.1]? = some y ∧ y.kind = 0) →
    Ext P T (i + 1) (NR P T (i + 1)) st (scan P T.length keeps (i + 1) c xs st) ∧ ((scan P T.length keeps (i + 1) c xs st).fits = false → ∀ x ∈ xs, (inst P x.1).bytes.has c = true → (scan P T.length keeps (i + 1) c xs st).seen 0 (inst P x.1).next = i + 1 + 1)
  | [], st, _ => ⟨Ext.refl _, fun _ x hx => by cases hx⟩
  | x :: xs, st, h => by
    obtain ⟨a1, a2⟩ := scanOne_fine hG keeps hc x (h x (by simp)) st
    unfold scan
    split
    · rename_i hf
      exact ⟨a1, fun e => by rw [hf] at e; cases e⟩
    · rename_i hf
      obtain ⟨b1, b2⟩ := scan_fine hG keeps hc xs (scanOne P T.length keeps (i + 1) c x st) (fun y hy => h y (by simp [hy]))
      refine ⟨a1.trans b1, fun e y hy hb => ?_⟩
      rcases List.mem_cons.1 hy with rfl | hy
      · exact b1.keep _ _ (a2 hb)
      · exact b2 e y hy hb
/-- the next place -/
theorem inv_next {P : List Instr} {T : List Nat} (hG : Good P) (keeps : Bool) {i c : Nat} (hc : T[i]? = some c) {st : MS} (h : Inv P T i st) :
    ((scan P T.length keeps (i + 1) c st.next { st with next := [] }).fits = true → i + 1 = T.length ∧ ∃ c x, NR P T (i + 1) c ∧ P[c]? = some x ∧ x.kind = 1)
    ∧ ((scan P T.length keeps (i + 1) c st.next { st with next := [] }).fits = false → Inv P T (i + 1) (scan P T.length keeps (i + 1) c st.next { st with next := [] })) := by
  have hi : i < T.length := (List.getElem?_eq_some_iff.1 hc).1
  obtain ⟨a1, a2⟩ := scan_fine hG keeps hc st.next { st with next := [] } h.next
  generalize scan P T.length keeps (i + 1) c st.next { st with next := [] } = st1 at a1 a2
  have hf0 : st.fits = false := by
    cases hf : st.fits with
    | false => rfl
    | true => have := (h.fits hf).1; omega
  have hnew : ∀ a c, ({ st with next := [] } : MS).seen a c ≠ i + 1 + 1 := by
    intro a c e
    have h1 : st.seen a c ≤ i + 1 := h.le a c
    have h2 : st.seen a c = i + 1 + 1 := e
    omega
  have hfit : st1.fits = true → i + 1 = T.length ∧ ∃ c x, NR P T (i + 1) c ∧ P[c]? = some x ∧ x.kind = 1 := by
    intro e
    rcases a1.fits3 e with e | e
    · rw [show ({ st with next := [] } : MS).fits = st.fits from rfl, hf0] at e; cases e
    · exact e
  refine ⟨hfit, fun e => ⟨fun a c => ?_, fun d hd hdi => ?_, fun a c m => (a1.good a c m (hnew a c)).1, fun x hx => ?_, fun a c x m => a1.list a c x m (hnew a c), hfit, fun a c x m p q r => a1.fits2 a c x m (hnew a c) p q r⟩⟩
  · rcases a1.old a c with o | o
    · have : st1.seen a c = st.seen a c := o
      have := h.le a c
      omega
    · omega
  · have : ∀ d, Star P T ⟨0, 0, 0⟩ d → d.w ≠ 2 ∧ (d.i = i + 1 → st1.seen d.w d.s = i + 1 + 1) := by
      refine star_ind ⟨by decide, fun e => by cases e⟩ ?_
      intro b d hb ⟨hw, hm⟩ hs
      refine ⟨step_way hs hw, fun hdi => ?_⟩
      by_cases hbi : b.i = i + 1
      · have hm' := hm hbi
        obtain ⟨bs, bw, bi⟩ := b
        obtain ⟨ds, dw, di⟩ := d
        simp only at hbi hdi hw hm'
        subst hbi
        subst hdi
        exact a1.shut bw bs hw hm' (hnew _ _) ds dw hs
      · cases hs with
        | fit s w j x c' h1 h2 h3 h4 =>
          simp only at hdi hbi
          have : j = i := by omega
          subst this
          rw [hc] at h3
          cases h3
          obtain ⟨p, hp⟩ := h.list w s x (h.full ⟨s, w, j⟩ hb rfl) h1 h2
          have := a2 e (s, p) hp (by rw [inst_of h1]; exact h4)
          rw [inst_of h1] at this
          exact this
        | edge s w j x => simp only at hdi hbi; omega
        | goto s w j x => simp only at hdi hbi; omega
        | other s w j x => simp only at hdi hbi; omega
        | body s w j x => simp only at hdi hbi; omega
        | pass s w j x => simp only at hdi hbi; omega
        | leave s j x => simp only at hdi hbi; omega
        | more s j x => simp only at hdi hbi; omega
    exact (this d hd).2 hdi
  · obtain ⟨l, e1, e2⟩ := a1.next
    rw [e1] at hx
    exact e2 x (by simpa using hx)
theorem inv_zero {P : List Instr} {T : List Nat} (hG : Good P) (h0 : 0 < P.length) (keeps : Bool) : Inv P T 0 (follow P T.length keeps 0 (fuel P) start0 0 0 []).1 := by
  obtain ⟨a1, a2, a3⟩ := follow_fine (T := T) (i := 0) (Q := NR P T 0) hG (fun c c' h s => h.step s) keeps (fuel P) start0 0 0 [] h0 (by omega) (by have := unm_le start0.seen (0 + 1) P.length; unfold fuel; omega) ⟨0, .nil _ _⟩
  generalize (follow P T.length keeps 0 (fuel P) start0 0 0 []).1 = st1 at a1 a2
  have hnew : ∀ a c, start0.seen a c ≠ 0 + 1 := fun a c e => by cases e
  refine ⟨fun a c => ?_, fun d hd hdi => ?_, fun a c m => (a1.good a c m (hnew a c)).1, fun x hx => ?_, fun a c x m => a1.list a c x m (hnew a c), fun e => ?_, fun a c x m p q r => a1.fits2 a c x m (hnew a c) p q r⟩
  · rcases a1.old a c with o | o
    · rw [o]; exact Nat.zero_le _
    · omega
  · have : ∀ d, Star P T ⟨0, 0, 0⟩ d → d.w ≠ 2 ∧ (d.i = 0 → st1.seen d.w d.s = 0 + 1) := by
      refine star_ind ⟨by decide, fun e => a2⟩ ?_
      intro b d hb ⟨hw, hm⟩ hs
      refine ⟨step_way hs hw, fun hdi => ?_⟩
      by_cases hbi : b.i = 0
      · have hm' := hm hbi
        obtain ⟨bs, bw, bi⟩ := b
        obtain ⟨ds, dw, di⟩ := d
        simp only at hbi hdi hw hm'
        subst hbi
        subst hdi
        exact a1.shut bw bs hw hm' (hnew _ _) ds dw hs
      · cases hs with
        | fit s w j x => simp only at hdi; omega
        | edge s w j x => simp only at hdi hbi; omega
        | goto s w j x => simp only at hdi hbi; omega
        | other s w j x => simp only at hdi hbi; omega
        | body s w j x => simp only at hdi hbi; omega
        | pass s w j x => simp only at hdi hbi; omega
        | leave s j x => simp only at hdi hbi; omega
        | more s j x => simp only at hdi hbi; omega
    exact (this d hd).2 hdi
  · obtain ⟨l, e1, e2⟩ := a1.next
    rw [e1] at hx
    exact e2 x (by simpa [start0] using hx)
  · rcases a1.fits3 e with e | e
    · cases e
    · exact e
theorem loop_fine {P : List Instr} {T : List Nat} (hG : Good P) (keeps : Bool) : ∀ (cs : List Nat) (i : Nat) (st : MS), i + cs.length = T.length → (∀ k, k < cs.length → T[i + k]? = cs[k]?) → Inv P T i st →
    ((loopM P T.length keeps cs i st).fits = true → ∃ c x, NR P T T.length c ∧ P[c]? = some x ∧ x.kind = 1)
    ∧ (∀ a c x, Star P T ⟨0, 0, 0⟩ ⟨c, a, T.length⟩ → P[c]? = some x → x.kind = 1 → (loopM P T.length keeps cs i st).fits = true)
  | [], i, st, hl, ht, h => by
    simp only [List.length_nil, Nat.add_zero] at hl
    unfold loopM
    subst hl
    exact ⟨fun e => (h.fits e).2, fun a c x s p q => h.ends a c x (h.full _ s rfl) p q rfl⟩
  | b :: cs, i, st, hl, ht, h => by
    simp only [List.length_cons] at hl
    have hc : T[i]? = some b := by simpa using ht 0 (by simp)
    obtain ⟨n1, n2⟩ := inv_next hG keeps hc h
    unfold loopM
    split
    · rename_i hf
      obtain ⟨e1, e2⟩ := n1 hf
      exact ⟨fun _ => by rw [← e1]; exact e2, fun _ _ _ _ _ _ => hf⟩
    · rename_i hf
      have h2 := n2 (by simpa using hf)
      split
      · rename_i hn
        generalize scan P T.length keeps (i + 1) b st.next { st with next := [] } = st1 at hf h2 hn
        have hn : st1.next = [] := List.eq_nil_of_length_eq_zero hn
        refine ⟨fun e => absurd e hf, fun a c x s p q => ?_⟩
        have : ∀ d, Star P T ⟨0, 0, 0⟩ d → d.i ≤ i + 1 := by
          refine star_ind (Nat.zero_le _) ?_
          intro b d hb hbi hs
          cases hs with
          | fit s w j x c' h1 h2' h3 h4 =>
            simp only at hbi ⊢
            by_cases hj : j = i + 1
            · subst hj
              obtain ⟨p, hp⟩ := h2.list w s x (h2.full _ hb rfl) h1 h2'
              rw [hn] at hp
              cases hp
            · omega
          | edge s w j x => exact hbi
          | goto s w j x => exact hbi
          | other s w j x => exact hbi
          | body s w j x => exact hbi
          | pass s w j x => exact hbi
          | leave s j x => exact hbi
          | more s j x => exact hbi
        have hle : T.length ≤ i + 1 := this _ s
        have : T.length = i + 1 := by omega
        rw [this] at s
        exact h2.ends a c x (h2.full _ s rfl) p q this.symm
      · refine loop_fine hG keeps cs (i + 1) _ (by omega) (fun k hk => ?_) h2
        have := ht (k + 1) (by simp; omega)
        rw [show i + 1 + k = i + (k + 1) by omega, this]
        rfl
/-- all instructions of a tree -/
theorem rep_all {f : Nat → List Instr} {s : Nat} {p : Nat → Instr → Prop} (hp : ∀ b x, x ∈ f b → p (b + s) x) (hm : ∀ a b x, a ≤ b → p a x → p b x) : ∀ n b x, x ∈ repCode f s n b → p (b + n * s) x
  | 0, b, x, h => by cases h
  | n + 1, b, x, h => by
    unfold repCode at h
    rw [Nat.succ_mul]
    rcases List.mem_append.1 h with h | h
    · exact hm _ _ x (by omega) (hp b x h)
    · exact hm _ _ x (by omega) (rep_all hp hm n (b + s) x h)
def InB (B : Nat) (x : Instr) : Prop := x.kind ≤ 8 ∧ x.kind ≠ 1 ∧ x.next ≤ B ∧ x.other ≤ B
theorem InB.mono {a b : Nat} (x : Instr) (h : a ≤ b) (k : InB a x) : InB b x := ⟨k.1, k.2.1, by have := k.2.2.1; omega, by have := k.2.2.2; omega⟩
theorem opt_all {f : Nat → List Instr} {s : Nat} {z : Bool} {E : Nat} (hp : ∀ b x, x ∈ f b → InB (b + s) x) : ∀ n b x, E = b + n * (s + 1) → x ∈ optCode f s z E n b → InB E x
  | 0, b, x, hE, h => by cases h
  | n + 1, b, x, hE, h => by
    unfold optCode at h
    rw [Nat.succ_mul] at hE
    rcases List.mem_cons.1 h with rfl | h
    · cases z
      · exact ⟨(by decide : (5 : Nat) ≤ 8), (by decide : (5 : Nat) ≠ 1), by show b + 1 ≤ E; omega, Nat.le_refl _⟩
      · exact ⟨(by decide : (5 : Nat) ≤ 8), (by decide : (5 : Nat) ≠ 1), Nat.le_refl _, by show b + 1 ≤ E; omega⟩
    · rcases List.mem_append.1 h with h | h
      · exact InB.mono x (by omega) (hp _ x h)
      · exact opt_all hp n _ x (by omega) h
theorem code_all : ∀ t, Wf t → ∀ b x, x ∈ code t b → InB (b + size t) x := by
  intro t
  induction t using Node.ind with
  | h1 y => intro _ b x h; unfold code at h; rw [List.mem_singleton.1 h]; unfold size; exact ⟨(by decide : (0 : Nat) ≤ 8), (by decide : (0 : Nat) ≠ 1), Nat.le_refl _, Nat.zero_le _⟩
  | h2 e => intro _ b x h; unfold code at h; rw [List.mem_singleton.1 h]; unfold size; exact ⟨(by decide : (2 : Nat) ≤ 8), (by decide : (2 : Nat) ≠ 1), Nat.le_refl _, Nat.zero_le _⟩
  | h3 ks ih =>
    intro hw b x h
    unfold Wf at hw
    unfold code at h
    unfold size
    induction ks generalizing b with
    | nil => unfold codeSeq at h; cases h
    | cons t ts k =>
      unfold WfAll at hw
      unfold codeSeq at h
      rw [sizeAll]
      rcases List.mem_append.1 h with h | h
      · exact InB.mono x (by omega) (ih t (by simp) hw.1 b x h)
      · exact InB.mono x (by omega) (k (fun u hu => ih u (by simp [hu])) (b + size t) hw.2 h)
  | h4 ks ih =>
    intro hw b x h
    unfold Wf at hw
    unfold code at h
    unfold size
    replace hw := hw.2
    generalize hE : b + (sizeAll ks + 2 * (ks.length - 1)) = E at h ⊢
    induction ks generalizing b with
    | nil => unfold codeAlt at h; cases h
    | cons t ts k =>
      unfold WfAll at hw
      cases ts with
      | nil =>
        unfold codeAlt at h
        rw [sizeAll, sizeAll] at hE
        simp only [List.length_cons, List.length_nil] at hE
        exact InB.mono x (by omega) (ih t (by simp) hw.1 b x h)
      | cons u us =>
        unfold codeAlt at h
        rw [sizeAll] at hE
        simp only [List.length_cons] at hE
        rcases List.mem_cons.1 h with rfl | h
        · exact ⟨(by decide : (5 : Nat) ≤ 8), (by decide : (5 : Nat) ≠ 1), by show b + 1 ≤ E; omega, by show b + 1 + size t + 1 ≤ E; omega⟩
        rcases List.mem_append.1 h with h | h
        · exact InB.mono x (by omega) (ih t (by simp) hw.1 (b + 1) x h)
        rcases List.mem_cons.1 h with rfl | h
        · exact ⟨(by decide : (4 : Nat) ≤ 8), (by decide : (4 : Nat) ≠ 1), Nat.le_refl _, Nat.zero_le _⟩
        · exact k (fun u hu => ih u (by simp [hu])) (b + 1 + size t + 1) hw.2 (by simp only [List.length_cons]; omega) h
  | h5 n t ih =>
    intro hw b x h
    unfold Wf at hw
    rw [code] at h
    rw [size]
    rcases List.mem_cons.1 h with rfl | h
    · exact ⟨(by decide : (3 : Nat) ≤ 8), (by decide : (3 : Nat) ≠ 1), by show b + 1 ≤ _; omega, Nat.zero_le _⟩
    rcases List.mem_append.1 h with h | h
    · exact InB.mono x (by omega) (ih hw (b + 1) x h)
    · rw [List.mem_singleton.1 h]; exact ⟨(by decide : (3 : Nat) ≤ 8), (by decide : (3 : Nat) ≠ 1), by show b + 1 + size t + 1 ≤ _; omega, Nat.zero_le _⟩
  | h6 l m p z t ih =>
    intro hw b x h
    rw [Wf] at hw
    rw [code] at h
    rw [size_count]
    have hi := ih hw.1
    cases p
    · simp only [Bool.false_eq_true, if_false] at h ⊢
      have hsz : (if states t = 0 then 0 else l * size t) = (if states t = 0 then 0 else l) * size t := by split <;> simp
      rw [hsz, ← Nat.add_assoc]
      generalize (if states t = 0 then 0 else l) = q at h ⊢
      rcases List.mem_append.1 h with h | h
      · exact InB.mono x (by omega) (rep_all (p := InB) hi (fun a b x h k => InB.mono x h k) q b x h)
      · generalize b + q * size t = d at h ⊢
        cases m with
        | none =>
          simp only at h ⊢
          rcases List.mem_cons.1 h with rfl | h
          · exact ⟨(by decide : (7 : Nat) ≤ 8), (by decide : (7 : Nat) ≠ 1), by show d + size t + 2 ≤ _; omega, by show d + 1 ≤ _; omega⟩
          rcases List.mem_append.1 h with h | h
          · exact InB.mono x (by omega) (hi (d + 1) x h)
          · rw [List.mem_singleton.1 h]; exact ⟨(by decide : (8 : Nat) ≤ 8), (by decide : (8 : Nat) ≠ 1), by show d + size t + 2 ≤ _; omega, by show d + 1 ≤ _; omega⟩
        | some M =>
          simp only at h ⊢
          exact opt_all hi (M - l) d x rfl h
    · simp only [if_true] at h ⊢
      rcases List.mem_cons.1 h with rfl | h
      · exact ⟨(by decide : (6 : Nat) ≤ 8), (by decide : (6 : Nat) ≠ 1), by show b + size t + 2 ≤ _; omega, by show b + 1 ≤ _; omega⟩
      rcases List.mem_append.1 h with h | h
      · exact InB.mono x (by omega) (hi (b + 1) x h)
      · rw [List.mem_singleton.1 h]; exact ⟨(by decide : (8 : Nat) ≤ 8), (by decide : (8 : Nat) ≠ 1), by show b + size t + 2 ≤ _; omega, by show b + 1 ≤ _; omega⟩
/-- a whole pattern's program -/
def prog (t : Node) : List Instr := code t 0 ++ [iFitted (size t)]
theorem prog_length (t : Node) (h : Wf t) : (prog t).length = size t + 1 := by unfold prog; rw [List.length_append, code_length t h]; rfl
theorem prog_last (t : Node) (h : Wf t) : (prog t)[size t]? = some (iFitted (size t)) := by
  unfold prog
  rw [List.getElem?_append_right (by rw [code_length t h]; omega), code_length t h]
  simp
theorem prog_get (t : Node) (h : Wf t) (s : Nat) (x : Instr) (hx : (prog t)[s]? = some x) : InB (size t) x ∨ (s = size t ∧ x = iFitted (size t)) := by
  by_cases hs : s < size t
  · unfold prog at hx
    rw [List.getElem?_append_left (by rw [code_length t h]; exact hs)] at hx
    have := code_all t h 0 x (List.mem_of_getElem? hx)
    rw [Nat.zero_add] at this
    exact .inl this
  · have hl : s < (prog t).length := (List.getElem?_eq_some_iff.1 hx).1
    rw [prog_length t h] at hl
    have : s = size t := by omega
    subst this
    rw [prog_last t h] at hx
    cases hx
    exact .inr ⟨rfl, rfl⟩
theorem prog_good (t : Node) (h : Wf t) : Good (prog t) := by
  refine ⟨fun s x hx hk => ?_, fun s x hx hk => ?_, fun s x hx => ?_⟩
  · rw [prog_length t h]
    rcases prog_get t h s x hx with k | ⟨_, rfl⟩
    · have := k.2.2.1; omega
    · exact absurd rfl hk
  · rw [prog_length t h]
    rcases prog_get t h s x hx with k | ⟨_, rfl⟩
    · have := k.2.2.2; omega
    · exact absurd hk (by decide : ¬ (5 : Nat) ≤ 1)
  · rcases prog_get t h s x hx with k | ⟨_, rfl⟩
    · exact k.1
    · exact (by decide : (1 : Nat) ≤ 8)
/-- the machine says just whether the tree fits the whole text -/
theorem match_iff (t : Node) (h : Wf t) (T : List Nat) (keeps : Bool) : (runM (prog t) T keeps).fits = true ↔ Fits T t 0 T.length := by
  have hG := prog_good t h
  have hl := prog_length t h
  have hA : At (prog t) 0 (code t 0) := by
    intro k hk
    unfold prog
    rw [Nat.zero_add, List.getElem?_append_left hk]
  obtain ⟨l1, l2⟩ := loop_fine (T := T) hG keeps T 0 _ (by omega) (fun k _ => by rw [Nat.zero_add]) (inv_zero hG (by omega) keeps)
  constructor
  · intro e
    obtain ⟨c, x, ⟨m, hr⟩, hx, hk⟩ := l1 e
    rcases prog_get t h c x hx with k | ⟨rfl, rfl⟩
    · exact absurd hk k.2.1
    · obtain ⟨j, m2, _, hf, hr2⟩ := sound (prog t) T t h 0 hA m 0 (size t) T.length hr (by omega)
      rw [Nat.zero_add] at hr2
      cases hr2 with
      | nil => exact hf
      | cons st _ =>
        rcases step_inv hx st with h | h | h | h | h
        all_goals (have := h.1; simp [iFitted] at this)
  · intro hf
    have := complete (prog t) T t h 0 hA 0 T.length 0 (by decide) hf
    rw [Nat.zero_add] at this
    exact l2 _ _ _ this (prog_last t h) rfl
#print axioms match_iff
end Rx
end Go.Proofs.YtphighddlfabbaaDoor
namespace Go.Proofs.YtphighddlfabbaaDoor
namespace Rx
set_option linter.unusedVariables false
set_option linter.unusedSimpArgs false
def Set4.set (x : Set4) (i v : Nat) : Set4 := if i = 0 then { x with a := v } else if i = 1 then { x with b := v } else if i = 2 then { x with c := v } else { x with d := v }
def Set4.put (x : Set4) (c : Nat) : Set4 := x.set (c / 64) (x.word (c / 64) ||| 2 ^ (c % 64))
/-- the bytes from one to another -/
def spanFrom (x : Set4) (c : Nat) : Nat → Set4
  | 0 => x
  | n + 1 => spanFrom (x.put c) (c + 1) n
def Set4.span (f t : Nat) : Set4 := spanFrom Set4.none f (t + 1 - f)
def Set4.only (c : Nat) : Set4 := Set4.span c c
def Set4.join (x y : Set4) : Set4 := ⟨x.a ||| y.a, x.b ||| y.b, x.c ||| y.c, x.d ||| y.d⟩
def inv64 (w : Nat) : Nat := 18446744073709551615 - w
def Set4.others (x : Set4) : Set4 := ⟨inv64 x.a, inv64 x.b, inv64 x.c, inv64 x.d⟩
def Set4.isNone (x : Set4) : Bool := x.a == 0 && x.b == 0 && x.c == 0 && x.d == 0
def Set4.Ok (x : Set4) : Prop := x.a < 2 ^ 64 ∧ x.b < 2 ^ 64 ∧ x.c < 2 ^ 64 ∧ x.d < 2 ^ 64
theorem only_eq (c : Nat) : Set4.only c = Set4.none.put c := by
  unfold Set4.only Set4.span
  rw [show c + 1 - c = 1 by omega]
  rfl
theorem only_has (c k : Nat) (hc : c < 256) (hk : k < 256) : (Set4.only c).has k = decide (k = c) := by
  rw [only_eq]
  unfold Set4.put Set4.set Set4.has Set4.word Set4.none
  have e : ∀ m n, (2 ^ m : Nat).testBit n = decide (m = n) := fun m n => Nat.testBit_two_pow
  have hq : c / 64 = 0 ∨ c / 64 = 1 ∨ c / 64 = 2 ∨ c / 64 = 3 := by omega
  have hr : k / 64 = 0 ∨ k / 64 = 1 ∨ k / 64 = 2 ∨ k / 64 = 3 := by omega
  rcases hq with h | h | h | h <;> rcases hr with g | g | g | g <;> simp [h, g, e] <;> omega
/-- letters; digits -/
def setD : Set4 := Set4.span 48 57
def setL : Set4 := (Set4.span 97 122).join (Set4.span 65 90)
def setLD : Set4 := setL.join setD
def meanLow (c : Nat) : Option Set4 :=
  if c = 110 then some (Set4.only 10) else if c = 116 then some (Set4.only 9) else if c = 114 then some (Set4.only 13)
  else if c = 100 then some setD else if c = 119 then some (setLD.join (Set4.only 95))
  else if c = 115 then some (((Set4.only 32).join (Set4.span 9 10)).join (Set4.span 12 13))
  else none
/-- what a byte stands for behind a backslash -/
def meaning (c : Nat) : Set4 :=
  match meanLow c with
  | some x => x
  | none => if c = 68 ∨ c = 87 ∨ c = 83 then ((meanLow (c + 32)).getD Set4.none).others
    else if c < 33 ∨ 126 < c ∨ setLD.has c then Set4.none else Set4.only c
structure RS where
  at' : Nat
  groups : Nat
  nested : Nat
  deepest : Nat
def RS.to (st : RS) (p : Nat) : RS := { st with at' := p }
/-- one of these comes next -/
def isNext (bs : List Nat) (p : Nat) (l : List Nat) : Bool := match bs[p]? with
  | none => false
  | some c => l.contains c
def isAt (bs : List Nat) (p c : Nat) : Bool := decide (bs[p]? = some c)
def digs (bs : List Nat) : Nat → Nat → Nat → Nat × Nat
  | 0, p, n => (p, n)
  | k + 1, p, n => match bs[p]? with
    | none => (p, n)
    | some c => if 48 ≤ c ∧ c ≤ 57 then digs bs k (p + 1) (10 * n + (c - 48)) else (p, n)
/-- a bound: its number, whether it is one, where it stays -/
def number (bs : List Nat) (p : Nat) : Nat × Bool × Nat := ((digs bs 4 p 0).2, decide (p < (digs bs 4 p 0).1) && decide ((digs bs 4 p 0).2 ≤ 1000), (digs bs 4 p 0).1)
def boundsEnd (bs : List Nat) (l : Nat) (m : Option Nat) (p : Nat) : Option (Nat × Option Nat) × Nat := if isAt bs p 125 then (some (l, m), p + 1) else (none, p)
def bounds2 (bs : List Nat) (l p : Nat) : Option (Nat × Option Nat) × Nat :=
  if isNext bs p [125] then boundsEnd bs l none p
  else if (number bs p).2.1 && decide (l ≤ (number bs p).1) then boundsEnd bs l (some (number bs p).1) (number bs p).2.2 else (none, (number bs p).2.2)
def bounds (bs : List Nat) (p : Nat) : Option (Nat × Option Nat) × Nat :=
  if (number bs p).2.1 then
    (if isAt bs (number bs p).2.2 44 then bounds2 bs (number bs p).1 ((number bs p).2.2 + 1) else boundsEnd bs (number bs p).1 (some (number bs p).1) (number bs p).2.2)
  else (none, (number bs p).2.2)
/-- a byte that matches itself, or a backslash and what stands behind it -/
def peEnd (bs : List Nat) (e : Bool) (p : Nat) : Option Set4 × Nat := match bs[p]? with
  | none => (none, p)
  | some c => if (if e then meaning c else Set4.only c).isNone then (none, p) else (some (if e then meaning c else Set4.only c), p + 1)
def plainOrEscape (bs : List Nat) (p : Nat) : Option Set4 × Nat := if isAt bs p 92 then peEnd bs true (p + 1) else peEnd bs false p
def item (bs : List Nat) (p : Nat) : Option Set4 × Nat := if isNext bs p [93] then (none, p) else plainOrEscape bs p
def dashBetween (bs : List Nat) (p : Nat) : Bool := isNext bs p [45] && !(isAt bs p 45 && isAt bs (p + 1) 93)
def stray (bs : List Nat) (p : Nat) : Nat := if bs.length = p + 1 ∧ isAt bs p 45 then p + 1 else p
/-- an item of a class, or a range; by the byte of a set of one -/
def range2 (sg : Set4 → Option Nat) (bs : List Nat) (f p : Nat) : Option Set4 × Nat := match item bs p with
  | (none, q) => (none, q)
  | (some y, q) => match sg y with
    | none => (none, p)
    | some t => if t < f then (none, p) else (some (Set4.span f t), q)
def items (sg : Set4 → Option Nat) (bs : List Nat) (first p : Nat) : Option Set4 × Nat :=
  if first < p ∧ dashBetween bs p then (none, stray bs p) else
  match item bs p with
  | (none, q) => (none, q)
  | (some x, q) => match sg x with
    | none => (some x, q)
    | some f => if dashBetween bs q then range2 sg bs f (q + 1) else (some x, q)
def classLoop (sg : Set4 → Option Nat) (bs : List Nat) (first : Nat) : Nat → Set4 → Nat → Option Set4 × Nat
  | 0, _, p => (none, p)
  | n + 1, x, p => if p ≠ first ∧ isAt bs p 93 then (some x, p + 1) else match items sg bs first p with
    | (none, q) => (none, q)
    | (some y, q) => classLoop sg bs first n (x.join y) q
def classSet (sg : Set4 → Option Nat) (bs : List Nat) (p : Nat) : Option Set4 × Nat :=
  if isAt bs (p + 1) 94 then ((classLoop sg bs (p + 2) (bs.length + 1) Set4.none (p + 2)).1.map Set4.others, (classLoop sg bs (p + 2) (bs.length + 1) Set4.none (p + 2)).2)
  else classLoop sg bs (p + 1) (bs.length + 1) Set4.none (p + 1)
abbrev PatF := RS → Option Node × RS
def parenEnd (bs : List Nat) (number : Nat) (r : Option Node × RS) : Option Node × RS := match r with
  | (none, st) => (none, st)
  | (some t, st) => if isAt bs st.at' 41 then (some (if 0 < number then .group number t else t), { st.to (st.at' + 1) with nested := st.nested - 1 }) else (none, st)
def deeper (st : RS) : RS := { st with nested := st.nested + 1, deepest := max st.deepest (st.nested + 1) }
def paren (f : PatF) (bs : List Nat) (st : RS) : Option Node × RS :=
  if isAt bs (st.at' + 1) 63 then
    (if isAt bs (st.at' + 2) 58 then parenEnd bs 0 (f (deeper (st.to (st.at' + 3)))) else (none, st.to (st.at' + 2)))
  else parenEnd bs (st.groups + 1) (f (deeper { st.to (st.at' + 1) with groups := st.groups + 1 }))
def ofSet (st : RS) (r : Option Set4 × Nat) : Option Node × RS := (r.1.map .byte, st.to r.2)
def atom (sg : Set4 → Option Nat) (f : PatF) (bs : List Nat) (st : RS) : Option Node × RS :=
  if isNext bs st.at' [42, 43, 63, 123, 125, 93] then (none, st)
  else if isNext bs st.at' [40] then paren f bs st
  else if isNext bs st.at' [91] then ofSet st (classSet sg bs st.at')
  else if isAt bs st.at' 94 then (some (.edge 1), st.to (st.at' + 1))
  else if isAt bs st.at' 36 then (some (.edge 2), st.to (st.at' + 1))
  else if isAt bs st.at' 46 then (some (.byte Set4.none.others), st.to (st.at' + 1))
  else ofSet st (plainOrEscape bs st.at')
def lazyEnd (bs : List Nat) (st : RS) (l : Nat) (m : Option Nat) (p : Bool) (t : Node) : Option Node × RS :=
  if isAt bs st.at' 63 then (some (.count l m p true t), st.to (st.at' + 1)) else (some (.count l m p false t), st)
def countOf (bs : List Nat) (t : Node) (st : RS) : Option Node × RS :=
  if isAt bs st.at' 42 then lazyEnd bs (st.to (st.at' + 1)) 0 none false t
  else if isAt bs st.at' 43 then lazyEnd bs (st.to (st.at' + 1)) 1 none true t
  else if isAt bs st.at' 63 then lazyEnd bs (st.to (st.at' + 1)) 0 (some 1) false t
  else if isAt bs st.at' 123 then (match bounds bs (st.at' + 1) with
    | (none, q) => (none, st.to q)
    | (some (l, m), q) => lazyEnd bs (st.to q) l m false t)
  else (some t, st)
/-- a branch goes on -/
def goesOn (bs : List Nat) (p : Nat) : Bool := match bs[p]? with
  | none => false
  | some c => !([124, 41].contains c)
def piece (sg : Set4 → Option Nat) (f : PatF) (bs : List Nat) (st : RS) : Option Node × RS := match atom sg f bs st with
  | (none, st1) => (none, st1)
  | (some t, st1) => countOf bs t st1
def branchLoop (sg : Set4 → Option Nat) (f : PatF) (bs : List Nat) : Nat → List Node → RS → Option (List Node) × RS
  | 0, _, st => (none, st)
  | n + 1, ks, st => if goesOn bs st.at' then (match piece sg f bs st with
      | (none, st1) => (none, st1)
      | (some t, st1) => branchLoop sg f bs n (ks ++ [t]) st1)
    else (some ks, st)
def branch (sg : Set4 → Option Nat) (f : PatF) (bs : List Nat) (st : RS) : Option Node × RS := match branchLoop sg f bs (bs.length + 1) [] st with
  | (none, st1) => (none, st1)
  | (some ks, st1) => (some (.seq ks), st1)
def patLoop (sg : Set4 → Option Nat) (f : PatF) (bs : List Nat) : Nat → List Node → RS → Option Node × RS
  | 0, _, st => (none, st)
  | n + 1, ks, st => match branch sg f bs st with
    | (none, st1) => (none, st1)
    | (some t, st1) => if isAt bs st1.at' 124 then patLoop sg f bs n (ks ++ [t]) (st1.to (st1.at' + 1)) else (some (.alt (ks ++ [t])), st1)
def pat (sg : Set4 → Option Nat) (bs : List Nat) : Nat → PatF
  | 0, st => (none, st)
  | n + 1, st => patLoop sg (pat sg bs n) bs (bs.length + 1) [] st
def st0 : RS := ⟨0, 0, 0, 0⟩
def parse (sg : Set4 → Option Nat) (bs : List Nat) : Option Node × RS := pat sg bs (bs.length + 1) st0
/-- what Compile says: the tree, the groups; or an error's number and the place -/
def compile (sg : Set4 → Option Nat) (bs : List Nat) : Except (Nat × Nat) (Node × Nat) :=
  if 500 < bs.length then .error (81, 0) else
  match parse sg bs with
  | (none, st) => .error (80, st.at')
  | (some t, st) => if st.at' ≠ bs.length then .error (80, st.at') else if 100 < st.deepest ∨ 999 < states t then .error (81, 0) else .ok (t, st.groups)
/-- the parts of a text that the groups have -/
def setSlot (f : Nat → Option Nat) (s v : Nat) : Nat → Option Nat := fun k => if k = s then (match f s with | none => some v | some u => some u) else f k
end Rx
end Go.Proofs.YtphighddlfabbaaDoor
namespace Go.Proofs.YtphighddlfabbaaDoor
set_option linter.unusedVariables false
set_option linter.unusedSimpArgs false
open Go.RowKit Go.PlainAid
open Rx (Set4)
theorem below_drew {B : Nat} {a b : World} (h : Below B a b) : Below B a b.drew := ⟨h.os, h.tape, h.output, h.size, h.block⟩
theorem below_drewN {B : Nat} {a b : World} (h : Below B a b) (n : Nat) : Below B a (b.drewN n) := ⟨h.os, h.tape, h.output, h.size, h.block⟩
def u64V (n : Nat) : Value := .int .u64 ((n : Nat) : Int)
def setC (x : Set4) : Array Value := #[.int .u64 ((x.a : Nat) : Int), .int .u64 ((x.b : Nat) : Int), .int .u64 ((x.c : Nat) : Int), .int .u64 ((x.d : Nat) : Int)]
def setV (x : Set4) : Value := .agg (setC x)
theorem word_get (x : Set4) (q : Nat) (hq : q < 4) : [Value.int .u64 ((x.a : Nat) : Int), .int .u64 ((x.b : Nat) : Int), .int .u64 ((x.c : Nat) : Int), .int .u64 ((x.d : Nat) : Int)][q]? = some (.int .u64 ((x.word q : Nat) : Int)) := by
  rcases (by omega : q = 0 ∨ q = 1 ∨ q = 2 ∨ q = 3) with rfl | rfl | rfl | rfl <;> rfl
theorem word_lt (x : Set4) (hx : x.Ok) (q : Nat) : x.word q < 2 ^ 64 := by
  obtain ⟨a, b, c, d⟩ := hx
  unfold Set4.word
  split
  · exact a
  split
  · exact b
  split
  · exact c
  · exact d
theorem bit_test (W s : Nat) (hW : W < 2 ^ 64) : (bits BinOp.and IntKind.u64 ((W : Int) / 2 ^ s) 1 == 1) = W.testBit s := by
  have e : (W : Int) / 2 ^ s = ((W / 2 ^ s : Nat) : Int) := by rw [Int.natCast_ediv]; norm_cast
  have hl : W / 2 ^ s ≤ W := Nat.div_le_self _ _
  have h := u64_and_nat (W / 2 ^ s) 1 (by omega) (by decide)
  rw [e, show (1 : Int) = ((1 : Nat) : Int) from rfl, h, Nat.testBit, Nat.shiftRight_eq_div_pow, Nat.and_comm]
  rw [Nat.one_and_eq_mod_two]
  rcases Nat.mod_two_eq_zero_or_one (W / 2 ^ s) with h | h <;> rw [h] <;> rfl
set_option maxHeartbeats 1000000 in
theorem has_any (x : Set4) (hx : x.Ok) (c : Nat) (hc : c < 256) (w : World) : Calls Tryd.prog 35 #[setV x, .int .u8 (c : Int)] w fun e w' => e = .returned (.bool (x.has c)) ∧ Below w.heap.size w w' := by
  have hget := word_get x (c / 64) (by omega)
  have hW := word_lt x hx (c / 64)
  unfold Set4.has
  obtain ⟨W, hWd⟩ : ∃ W, x.word (c / 64) = W := ⟨_, rfl⟩
  rw [hWd] at hget hW ⊢
  clear hWd
  unfold setV setC
  go_enter Tryd.func35, Tryd.ntmps35
  go_wp2
  go_ret
  refine ⟨?_, (Below.refl _ _).alloc (Nat.le_refl _) _⟩
  show Ending.returned (.bool (bits BinOp.and IntKind.u64 ((W : Int) / 2 ^ (c % 64)) 1 == 1)) = _
  rw [bit_test W (c % 64) hW]
theorem xor_max (a : Nat) (h : a < 2 ^ 64) : bits BinOp.xor IntKind.u64 IntKind.u64.max ((a : Nat) : Int) = ((Rx.inv64 a : Nat) : Int) := by
  have e : IntKind.u64.max = ((18446744073709551615 : Nat) : Int) := rfl
  rw [e, u64_xor_nat _ _ (by decide) (by omega)]
  unfold Rx.inv64
  congr 1
  have h1 : (BitVec.ofNat 64 a).toNat = a := by rw [BitVec.toNat_ofNat]; exact Nat.mod_eq_of_lt h
  have h2 := BitVec.toNat_not (x := BitVec.ofNat 64 a)
  rw [h1] at h2
  have h3 : (BitVec.allOnes 64 ^^^ BitVec.ofNat 64 a) = ~~~ (BitVec.ofNat 64 a) := by
    rw [BitVec.allOnes_xor]
  have h4 := congrArg BitVec.toNat h3
  rw [BitVec.toNat_xor, h1, h2] at h4
  simpa using h4
set_option maxHeartbeats 2000000 in
theorem others_any (x : Set4) (hx : x.Ok) (w : World) : Calls Tryd.prog 59 #[setV x] w fun e w' => e = .returned (setV x.others) ∧ Below w.heap.size w w' := by
  have ha := xor_max x.a hx.1
  have hb := xor_max x.b hx.2.1
  have hc := xor_max x.c hx.2.2.1
  have hd := xor_max x.d hx.2.2.2
  unfold setV setC
  have hz : (Array.size #[Value.int .u64 ((Rx.inv64 x.a : Nat) : Int), .int .u64 ((Rx.inv64 x.b : Nat) : Int), .int .u64 ((Rx.inv64 x.c : Nat) : Int), .int .u64 ((Rx.inv64 x.d : Nat) : Int)]) = 4 := rfl
  go_enter Tryd.func59, Tryd.ntmps59
  go_wp2
  refine wp_loop_rounds 5 ?_
  rw [rounds_succ]
  go_wp2
  rw [rounds_succ]
  go_wp2
  rw [rounds_succ]
  go_wp2
  rw [rounds_succ]
  go_wp2
  rw [rounds_succ]
  go_wp2
  exact bodyPost_ret (v := setV x.others) (by simp [results, Tryd.results51, go_sem, setV, setC, Set4.others]) rfl ⟨rfl, ((Below.refl _ _).alloc (Nat.le_refl _) _).alloc (by simp) _⟩
set_option maxHeartbeats 2000000 in
set_option maxRecDepth 100000 in
theorem join_any (x y : Set4) (hx : x.Ok) (hy : y.Ok) (w : World) : Calls Tryd.prog 67 #[setV x, setV y] w fun e w' => e = .returned (setV (x.join y)) ∧ Below w.heap.size w w' := by
  have ha := u64_or_nat x.a y.a hx.1 hy.1
  have hb := u64_or_nat x.b y.b hx.2.1 hy.2.1
  have hc := u64_or_nat x.c y.c hx.2.2.1 hy.2.2.1
  have hd := u64_or_nat x.d y.d hx.2.2.2 hy.2.2.2
  unfold setV setC
  go_enter Tryd.func67, Tryd.ntmps67
  go_wp2
  refine wp_loop_rounds 5 ?_
  rw [rounds_succ]
  go_wp2
  go_region
  go_wp2
  rw [rounds_succ]
  go_wp2
  go_region
  go_wp2
  rw [rounds_succ]
  go_wp2
  go_region
  go_wp2
  rw [rounds_succ]
  go_wp2
  go_region
  go_wp2
  rw [rounds_succ]
  go_wp2
  exact bodyPost_ret (v := setV (x.join y)) (by simp [results, Tryd.results59, go_sem, setV, setC, Set4.join]) rfl ⟨rfl, below_drew (below_drew (below_drew (below_drew ((((Below.refl _ _).alloc (Nat.le_refl _) _).alloc (by simp) _).alloc (by simp; omega) _))))⟩

theorem or_pow (W s : Nat) (hW : W < 2 ^ 64) (hs : s < 64) : bits BinOp.or IntKind.u64 (W : Int) (IntKind.u64.wrap (2 ^ s)) = ((W ||| 2 ^ s : Nat) : Int) := by
  have hl : (2 : Nat) ^ s < 2 ^ 64 := Nat.pow_lt_pow_right (by decide) hs
  have e : ((2 : Int) ^ s) = ((2 ^ s : Nat) : Int) := by norm_cast
  have e2 : IntKind.u64.wrap ((2 ^ s : Nat) : Int) = ((2 ^ s : Nat) : Int) := by
    rw [IntKind.wrap_u64]
    generalize (2 ^ s : Nat) = q at hl
    omega
  rw [e, e2, u64_or_nat _ _ (by omega) (by omega)]
theorem set_put_ok (x : Set4) (c : Nat) (hx : x.Ok) : (x.put c).Ok := by
  have hl : (2 : Nat) ^ (c % 64) < 2 ^ 64 := Nat.pow_lt_pow_right (by decide) (by omega)
  have h : x.word (c / 64) ||| 2 ^ (c % 64) < 2 ^ 64 := Nat.or_lt_two_pow (word_lt x hx _) hl
  obtain ⟨a, b, d, e⟩ := hx
  unfold Set4.put Set4.set
  split
  · exact ⟨h, b, d, e⟩
  split
  · exact ⟨a, h, d, e⟩
  split
  · exact ⟨a, b, h, e⟩
  · exact ⟨a, b, d, h⟩
theorem spanFrom_ok : ∀ n x c, Set4.Ok x → (Rx.spanFrom x c n).Ok
  | 0, x, c, h => h
  | n + 1, x, c, h => spanFrom_ok n (x.put c) (c + 1) (set_put_ok x c h)
theorem none_ok : Set4.none.Ok := by unfold Set4.none; exact ⟨by decide, by decide, by decide, by decide⟩
theorem span_ok (f t : Nat) : (Set4.span f t).Ok := spanFrom_ok _ _ _ none_ok
theorem only_ok (c : Nat) : (Set4.only c).Ok := span_ok c c
theorem join_ok {x y : Set4} (hx : x.Ok) (hy : y.Ok) : (x.join y).Ok := ⟨Nat.or_lt_two_pow hx.1 hy.1, Nat.or_lt_two_pow hx.2.1 hy.2.1, Nat.or_lt_two_pow hx.2.2.1 hy.2.2.1, Nat.or_lt_two_pow hx.2.2.2 hy.2.2.2⟩
theorem others_ok (x : Set4) : x.others.Ok := by unfold Set4.others Rx.inv64; exact ⟨by simp; omega, by simp; omega, by simp; omega, by simp; omega⟩
theorem spanFrom_snoc : ∀ n x c, Rx.spanFrom x c (n + 1) = (Rx.spanFrom x c n).put (c + n)
  | 0, x, c => rfl
  | n + 1, x, c => by
    show Rx.spanFrom (x.put c) (c + 1) (n + 1) = _
    rw [spanFrom_snoc n (x.put c) (c + 1), show c + 1 + n = c + (n + 1) by omega]
    rfl
theorem setC_get (x : Set4) (q : Nat) (hq : q < 4) : (setC x)[q]? = some (.int .u64 ((x.word q : Nat) : Int)) := by
  rcases (by omega : q = 0 ∨ q = 1 ∨ q = 2 ∨ q = 3) with rfl | rfl | rfl | rfl <;> rfl
theorem setC_one (x : Set4) : (setC x).all (·.oneCell') = true := by simp [setC, Value.oneCell']
theorem setC_set (x : Set4) (q v : Nat) (hq : q < 4) : (setC x).setIfInBounds q (.int .u64 ((v : Nat) : Int)) = setC (x.set q v) := by
  rcases (by omega : q = 0 ∨ q = 1 ∨ q = 2 ∨ q = 3) with rfl | rfl | rfl | rfl <;> rfl
/-- the set lies there -/
def SetAt (w : World) (b : Nat) (x : Set4) : Prop := w.heap[b]? = some (.cells (setC x) 65 (0, 0))
structure SpanAt (w wr : World) (x : Set4) : Prop where
  new : SetAt wr (w.heap.size + 1) x
  old : SetAt wr w.heap.size Set4.none
  below : Below w.heap.size w wr
theorem SpanAt.put {w wr : World} {x : Set4} (h : SpanAt w wr x) (c : Nat) (hc : c < 256) : SpanAt w (wr.setCell ⟨w.heap.size + 1, c / 64, none⟩ (.int .u64 ((x.word (c / 64) ||| 2 ^ (c % 64) : Nat) : Int))) (x.put c) := by
  refine ⟨?_, ?_, h.below.setCell (by simp) _⟩
  · unfold SetAt; rw [heap_setCell_same _ _ _ _ _ _ h.new, setC_set _ _ _ (by omega)]; rfl
  · unfold SetAt; rw [heap_setCell_other _ _ _ _ (by simp)]; exact h.old
theorem SpanAt.drew {w wr : World} {x : Set4} (h : SpanAt w wr x) : SpanAt w wr.drew x := ⟨h.new, h.old, below_drew h.below⟩
set_option maxHeartbeats 2000000 in
set_option maxRecDepth 100000 in
theorem span_any (f t : Nat) (hf : f < 256) (ht : t < 256) (w : World) : Calls Tryd.prog 77 #[.int .u8 ((f : Nat) : Int), .int .u8 ((t : Nat) : Int)] w fun e w' => e = .returned (setV (Set4.span f t)) ∧ Below w.heap.size w w' := by
  have h0 := Lib.hid (show SpanAt w ((w.alloc (.cells (setC Set4.none) 65)).alloc (.cells (setC Set4.none) 65)) Set4.none from ⟨heap_alloc2_new _ _ _, heap_alloc2_old _ _ _, ((Below.refl _ _).alloc (Nat.le_refl _) _).alloc (by simp) _⟩)
  rw [show setC Set4.none = #[Value.int .u64 0, .int .u64 0, .int .u64 0, .int .u64 0] from rfl] at h0
  go_enter Tryd.func77, Tryd.ntmps77
  go_wp2
  go_loopw [6] (fun i wr => ∃ k : Nat, k ≤ t + 1 - f ∧ i = .int .i64 ((f + k : Nat) : Int) ∧ Hid (SpanAt w wr (Rx.spanFrom Set4.none f k))) (fun i _ => 257 - (intOf i).toNat)
  case atStart => exact ⟨0, Nat.zero_le _, rfl, h0⟩
  case round =>
    obtain ⟨k, hk, rfl, HT⟩ := hrel
    by_cases hlt : f + k ≤ t
    · obtain ⟨c, hc⟩ : ∃ c, f + k = c := ⟨_, rfl⟩
      rw [hc] at hlt ⊢
      have hd : decide (c ≤ t) = true := by simp; omega
      have hcell : wr.cell? ⟨w.heap.size + 1, c / 64, none⟩ = some (.int .u64 (((Rx.spanFrom Set4.none f k).word (c / 64) : Nat) : Int)) := by
        rw [cell_of_row wr _ _ _ _ _ HT.out.new, setC_get _ _ (by omega)]
      have hfr : wr.frozen? ⟨w.heap.size + 1, c / 64, none⟩ = false := frozen_of_row wr _ _ _ _ HT.out.new
      obtain ⟨W, hW⟩ : ∃ W, (Rx.spanFrom Set4.none f k).word (c / 64) = W := ⟨_, rfl⟩
      have hWl : W < 2 ^ 64 := by rw [← hW]; exact word_lt _ (spanFrom_ok _ _ _ none_ok) _
      rw [hW] at hcell
      have hcb : c < 256 := by omega
      have hk1 : k + 1 ≤ t + 1 - f := by omega
      have HB := Lib.hid (or_pow W (c % 64) hWl (by omega))
      have HI := Lib.hid (show (c : Int) + 1 = ((f + (k + 1) : Nat) : Int) by omega)
      have HN := Lib.hid (show SpanAt w (wr.setCell ⟨w.heap.size + 1, c / 64, none⟩ (.int .u64 ((W ||| 2 ^ (c % 64) : Nat) : Int))) (Rx.spanFrom Set4.none f (k + 1)) by
        rw [spanFrom_snoc, hc, ← hW]; exact HT.out.put c hcb)
      have HW := Lib.hid hW
      have HC := Lib.hid hc
      clear hW hc
      go_wp2
      go_region
      go_wp2
      go_roundw
      case rel => exact ⟨k + 1, hk1, by rw [HI.out], Lib.hid (by rw [HB.out]; exact HN.out.drew)⟩
      case measure => simp [intOf]; omega
    · obtain rfl : k = t + 1 - f := by omega
      obtain ⟨c, hc⟩ : ∃ c, f + (t + 1 - f) = c := ⟨_, rfl⟩
      rw [hc] at hlt ⊢
      have hd : decide (c ≤ t) = false := by simp; omega
      obtain ⟨X, hX⟩ : ∃ X, Rx.spanFrom Set4.none f (t + 1 - f) = X := ⟨_, rfl⟩
      rw [hX] at HT
      obtain ⟨h1, h2, h3⟩ := HT.out
      have HE := Lib.hid (show setV (Set4.span f t) = .agg (setC X) by rw [← hX]; rfl)
      clear HT hlt hk hX hc
      have hn := setRow_heap wr w.heap.size (setC Set4.none) (setC X) 65 (0, 0) h2
      have HZ := Lib.hid (show (setC Set4.none).size = (setC X).size from rfl)
      have HO := Lib.hid (setC_one X)
      have h1' : wr.heap[w.heap.size + 1]? = some (.cells (setC X) 65 (0, 0)) := h1
      have h2' : wr.heap[w.heap.size]? = some (.cells (setC Set4.none) 65 (0, 0)) := h2
      clear h1 h2
      go_wp2_with (first | (refine wpList_load_row rfl 65 (.tmp 5) rfl (w.heap.size + 1) rfl 65 (setC X) (0, 0) _ h1' Tryd.underlying65 rfl (by kernel_rfl) ?_) | (refine wpList_store_row rfl 65 (.tmp 4) (.tmp 24) rfl w.heap.size (setC X) rfl rfl 65 (setC Set4.none) h2' (by kernel_rfl) HZ.out HO.out ?_))
      refine bodyPost_ret (v := .agg (setC X)) ?_ ?_ ?_
      · exact results_cell_row rfl _ _ w.heap.size 65 (setC X) (0, 0) _ rfl hn Tryd.underlying65 rfl (by kernel_rfl)
      · rfl
      · exact ⟨by rw [HE.out], below_setRow h3 (Nat.le_refl _) _⟩
theorem none_lit : setC Set4.none = #[Value.int .u64 0, .int .u64 0, .int .u64 0, .int .u64 0] := rfl
/-- a result of a set, in its cell of the heap -/
theorem laid_none (w : World) : (w.alloc (.cells #[Value.int .u64 0, .int .u64 0, .int .u64 0, .int .u64 0] 65)).heap[w.heap.size]? = some (.cells (setC Set4.none) 65 (0, 0)) := heap_alloc_new w _
set_option maxHeartbeats 2000000 in
theorem only_any (c : Nat) (hc : c < 256) (w : World) : Calls Tryd.prog 68 #[.int .u8 ((c : Nat) : Int)] w fun e w' => e = .returned (setV (Set4.only c)) ∧ Below w.heap.size w w' := by
  have CS := Lib.hid (fun w1 => span_any c c hc hc w1)
  have HL := Lib.hid (laid_none w)
  have HE := Lib.hid (show setV (Set4.only c) = .agg (setC (Set4.span c c)) from rfl)
  have HZ := Lib.hid (fun X => show (setC Set4.none).size = (setC X).size from rfl)
  have HO := Lib.hid setC_one
  obtain ⟨X, hX⟩ : ∃ X, Set4.span c c = X := ⟨_, rfl⟩
  rw [hX] at CS HE
  clear hX
  go_enter Tryd.func68, Tryd.ntmps68
  go_wp2_with fail
  refine (CS.out _).mono ?_
  rintro e w1 ⟨rfl, hb⟩
  have h2 := (hb.block _ (by simp)).trans HL.out
  have hn := setRow_heap w1 w.heap.size (setC Set4.none) (setC X) 65 (0, 0) h2
  have HB := Lib.hid (below_setRow (((Below.refl _ w).alloc (Nat.le_refl _) _).trans (hb.mono (by simp))) (Nat.le_refl _) (setC X))
  clear hb
  unfold setV
  go_wp2_with (refine wpList_store_row rfl 65 (.tmp 2) (.tmp 5) rfl w.heap.size (setC X) rfl rfl 65 (setC Set4.none) h2 (by kernel_rfl) (HZ.out X) (HO.out X) ?_)
  refine bodyPost_ret (v := .agg (setC X)) ?_ ?_ ?_
  · exact results_cell_row rfl _ _ w.heap.size 65 (setC X) (0, 0) _ rfl hn Tryd.underlying65 rfl (by kernel_rfl)
  · rfl
  · exact ⟨by rw [HE.out], HB.out⟩
end Go.Proofs.YtphighddlfabbaaDoor
namespace Go.Proofs.YtphighddlfabbaaDoor
set_option linter.unusedVariables false
set_option linter.unusedSimpArgs false
open Go.RowKit Go.PlainAid
open Rx (Set4)
def pA (x : Int) : Int := IntKind.u64.wrap (bits .and .u64 (x / 2) 6148914691236517205 + bits .and .u64 x 6148914691236517205)
def pB (y : Int) : Int := IntKind.u64.wrap (bits .and .u64 (y / 4) 3689348814741910323 + bits .and .u64 y 3689348814741910323)
def pC (y : Int) : Int := bits .and .u64 (IntKind.u64.wrap (y / 16 + y)) 1085102592571150095
def pD (y : Int) : Int := IntKind.u64.wrap (y + y / 256)
def pE (y : Int) : Int := IntKind.u64.wrap (y + y / 65536)
def pF (y : Int) : Int := IntKind.u64.wrap (y + y / 4294967296)
def popN (x : Nat) : Nat := (pF (pE (pD (pC (pB (pA (x : Int)))))) % 128).toNat
theorem popN_lt (x : Nat) : popN x < 128 := by unfold popN; omega
set_option maxHeartbeats 1000000 in
theorem pop_any (x : Nat) (hx : x < 2 ^ 64) (w : World) : Calls Tryd.prog 80 #[.int .u64 ((x : Nat) : Int)] w fun e w' => e = .returned (.int .i64 ((popN x : Nat) : Int)) ∧ w = w' := by
  have HR := Lib.hid (show ((popN x : Nat) : Int) = pF (pE (pD (pC (pB (pA (x : Int)))))) % 128 by
    unfold popN
    generalize pF (pE (pD (pC (pB (pA (x : Int)))))) = q
    omega)
  obtain ⟨y1, h1⟩ : ∃ y, pA (x : Int) = y := ⟨_, rfl⟩
  obtain ⟨y2, h2⟩ : ∃ y, pB y1 = y := ⟨_, rfl⟩
  obtain ⟨y3, h3⟩ : ∃ y, pC y2 = y := ⟨_, rfl⟩
  obtain ⟨y4, h4⟩ : ∃ y, pD y3 = y := ⟨_, rfl⟩
  obtain ⟨y5, h5⟩ : ∃ y, pE y4 = y := ⟨_, rfl⟩
  obtain ⟨y6, h6⟩ : ∃ y, pF y5 = y := ⟨_, rfl⟩
  rw [h1, h2, h3, h4, h5, h6] at HR
  unfold pA at h1
  unfold pB at h2
  unfold pC at h3
  unfold pD at h4
  unfold pE at h5
  unfold pF at h6
  have hP := i64_and127
  go_enter Tryd.func80, Tryd.ntmps80
  go_wp2
  go_ret
  refine ⟨?_, rfl⟩
  show Ending.returned (.int .i64 (wrap64 y6 % 128)) = _
  rw [HR.out]
  congr 2
  unfold wrap64
  omega
/-- the table of the library -/
def TabAt (w : World) : Prop := ∀ j, j < Lib.deBruijn64tab.length → w.cell? ⟨1, j, none⟩ = some (.int .u8 (Lib.deBruijn64tab.getD j 0))
theorem tz_key (x a : Nat) (hx : x < 18446744073709551616) (hlow : x &&& (18446744073709551616 - x) = a) (hx0 : x ≠ 0) :
    IntKind.u64.wrap (bits BinOp.and IntKind.u64 (x : Int) (IntKind.u64.wrap (-(x : Int))) * 285870213051353865) / 288230376151711744 = ((a * 285870213051353865 % 18446744073709551616 / 288230376151711744 : Nat) : Int) := by
  have e1 : IntKind.u64.wrap (-(x : Int)) = ((18446744073709551616 - x : Nat) : Int) := by rw [IntKind.wrap_u64]; omega
  rw [e1, bits_and_u64_nat x _ hx (by omega), hlow, IntKind.wrap_u64]
  omega
set_option maxHeartbeats 1000000 in
theorem tz_core (x k idx : Nat) (w : World) (hx0 : ((x : Int) == 0) = false)
    (key : IntKind.u64.wrap (bits BinOp.and IntKind.u64 (x : Int) (IntKind.u64.wrap (-(x : Int))) * 285870213051353865) / 288230376151711744 = (idx : Int))
    (hi : idx < 64) (hk : k < 64) (hcell : w.cell? ⟨1, idx, none⟩ = some (.int .u8 k)) :
    Calls Tryd.prog 81 #[.int .u64 x] w fun e w' => e = .returned (.int .i64 k) ∧ w = w' := by
  go_enter Tryd.func81, Tryd.ntmps81
  go_wp2_with (simp only [key])
  go_ret
  exact ⟨rfl, rfl⟩
theorem tz_any (x : Nat) (hx : x < 18446744073709551616) (hx0 : x ≠ 0) (w : World) (hT : TabAt w) :
    Calls Tryd.prog 81 #[.int .u64 x] w fun e w' => e = .returned (.int .i64 ((Lib.ctz 64 x : Nat) : Int)) ∧ w = w' := by
  obtain ⟨hlow, hk⟩ := Lib.lowest_bit 64 x hx0 hx
  obtain ⟨hi, htab⟩ := Lib.deBruijn64_at _ hk
  have hcell := hT _ hi
  rw [htab] at hcell
  exact tz_core x _ _ w (by simp; omega) (tz_key x _ hx hlow hx0) hi hk hcell
theorem idx_agg (x : Set4) (k : Nat) (hk : k < 4) (w : World) : (Instr.index 65 (.agg #[.int .u64 ((x.a : Nat) : Int), .int .u64 ((x.b : Nat) : Int), .int .u64 ((x.c : Nat) : Int), .int .u64 ((x.d : Nat) : Int)]) (.int .i64 ((k : Nat) : Int))).run Tryd.prog w = .ok (.int .u64 ((x.word k : Nat) : Int)) w := by
  rcases (by omega : k = 0 ∨ k = 1 ∨ k = 2 ∨ k = 3) with rfl | rfl | rfl | rfl <;> kernel_rfl
def cnt4 (x : Set4) : Nat → Nat
  | 0 => 0
  | k + 1 => cnt4 x k + popN (x.word k)
def last4 (x : Set4) : Nat → Nat
  | 0 => 0
  | k + 1 => if x.word k = 0 then last4 x k else (64 * k + Lib.ctz 64 (x.word k)) % 256
theorem cnt4_lt (x : Set4) : ∀ k, cnt4 x k ≤ 128 * k
  | 0 => Nat.le_refl _
  | k + 1 => by unfold cnt4; have := cnt4_lt x k; have := popN_lt (x.word k); omega
/-- the byte of a set of one -/
def sg (x : Set4) : Option Nat := if cnt4 x 4 = 1 then some (last4 x 4) else none
def sgV (x : Set4) : Value := match sg x with
  | none => .tuple #[.int .u8 0, .bool false]
  | some c => .tuple #[.int .u8 ((c : Nat) : Int), .bool true]
theorem TabAt.below {w w' : World} (h : TabAt w) {B : Nat} (hb : Below B w w') (h1 : 1 < B) : TabAt w' := fun j hj => (hb.cell (p := ⟨1, j, none⟩) h1).trans (h j hj)
theorem TabAt.lt {w : World} (h : TabAt w) : 1 < w.heap.size := by
  rcases Nat.lt_or_ge 1 w.heap.size with k | k
  · exact k
  · have := h 0 (by decide)
    simp [World.cell?, Array.getElem?_eq_none k] at this
set_option maxHeartbeats 4000000 in
set_option maxRecDepth 100000 in
theorem single_any (x : Set4) (hx : x.Ok) (w : World) (hT : TabAt w) : Calls Tryd.prog 76 #[setV x] w fun e w' => e = .returned (sgV x) ∧ Below w.heap.size w w' := by
  have CP := Lib.hid (fun q hq w1 => pop_any q hq w1)
  have CT := Lib.hid (fun q hq hq0 w1 h => tz_any q hq hq0 w1 h)
  have HT := Lib.hid (fun o => (hT.below (((Below.refl _ w).alloc (Nat.le_refl _) o)) hT.lt))
  have HB := Lib.hid (fun o => ((Below.refl w.heap.size w).alloc (Nat.le_refl _) o))
  have HW := Lib.hid (fun q hq w1 => idx_agg x q hq w1)
  have HL := Lib.hid (fun q => word_lt x hx q)
  have hV : setV x = .agg #[.int .u64 ((x.a : Nat) : Int), .int .u64 ((x.b : Nat) : Int), .int .u64 ((x.c : Nat) : Int), .int .u64 ((x.d : Nat) : Int)] := rfl
  rw [hV]
  clear hV hT
  go_enter Tryd.func76, Tryd.ntmps76
  go_wp2
  go_loop [2, 4, 5, 6, 8] (fun c n i wd j => ∃ k : Nat, k ≤ 4 ∧ j = .int .i64 ((k : Nat) : Int) ∧ n = .int .i64 ((cnt4 x k : Nat) : Int) ∧ c = .int .u8 ((last4 x k : Nat) : Int)) (fun _ _ _ _ j => 4 - (intOf j).toNat)
  case atStart => exact ⟨0, Nat.zero_le _, rfl, rfl, rfl⟩
  case round =>
    obtain ⟨k, hk, rfl, rfl, rfl⟩ := hrel
    by_cases hlt : k < 4
    · have hd : decide ((k : Int) < 4) = true := by simp; omega
      have hget := HW.out k hlt
      have hWl := HL.out k
      have hc := cnt4_lt x k
      have hp := popN_lt (x.word k)
      have HC1 := Lib.hid (show cnt4 x (k + 1) = cnt4 x k + popN (x.word k) from rfl)
      have HC2 := Lib.hid (show last4 x (k + 1) = if x.word k = 0 then last4 x k else (64 * k + Lib.ctz 64 (x.word k)) % 256 from rfl)
      obtain ⟨W, hW⟩ : ∃ W, x.word k = W := ⟨_, rfl⟩
      rw [hW] at hget hWl hp HC1 HC2
      have HP := Lib.hid (fun w1 => CP.out W hWl w1)
      obtain ⟨n, hn⟩ : ∃ n, popN W = n := ⟨_, rfl⟩
      obtain ⟨m, hm⟩ : ∃ n, cnt4 x k = n := ⟨_, rfl⟩
      rw [hn] at HP hp HC1
      rw [hm] at hc HC1 ⊢
      have HCT := Lib.hid (fun h0 w1 h => CT.out W hWl h0 w1 h)
      clear hn hm hW
      by_cases h0 : W = 0
      · have HC3 := Lib.hid (HC2.out.trans (if_pos h0))
        clear HC2
        subst h0
        have hz : (((0 : Nat) : Int) != 0) = false := rfl
        go_wp2_with fail
        refine (HP.out _).mono ?_
        rintro e w1 ⟨rfl, rfl⟩
        go_wp2_with fail
        go_round
        case rel => exact ⟨k + 1, by omega, by go_num, by rw [HC1.out]; go_num, by rw [HC3.out]⟩
        case measure => simp [intOf]; omega
      · have hz : ((W : Int) != 0) = true := by simp; omega
        have hk1 : Lib.ctz 64 W < 64 := (Lib.lowest_bit 64 W h0 hWl).2
        obtain ⟨t, ht⟩ : ∃ t, Lib.ctz 64 W = t := ⟨_, rfl⟩
        rw [ht] at HCT hk1 HC2
        have HC3 := Lib.hid (HC2.out.trans ((if_neg h0).trans (Nat.mod_eq_of_lt (show 64 * k + t < 256 by omega))))
        clear ht HC2
        go_wp2_with fail
        refine (HP.out _).mono ?_
        rintro e w1 ⟨rfl, rfl⟩
        go_wp2_with fail
        refine (HCT.out h0 _ (HT.out _)).mono ?_
        rintro e w1 ⟨rfl, rfl⟩
        go_wp2_with fail
        go_round
        case rel => exact ⟨k + 1, by omega, by go_num, by rw [HC1.out]; go_num, by rw [HC3.out]; go_num⟩
        case measure => simp [intOf]; omega
    · obtain rfl : k = 4 := by omega
      have hd : decide (((4 : Nat) : Int) < 4) = false := rfl
      have hr : sgV x = if cnt4 x 4 = 1 then .tuple #[.int .u8 ((last4 x 4 : Nat) : Int), .bool true] else .tuple #[.int .u8 0, .bool false] := by
        unfold sgV sg
        by_cases h : cnt4 x 4 = 1
        · rw [if_pos h, if_pos h]
        · rw [if_neg h, if_neg h]
      have HRR := Lib.hid hr
      clear hr
      obtain ⟨m, hm⟩ : ∃ n, cnt4 x 4 = n := ⟨_, rfl⟩
      rw [hm] at HRR ⊢
      clear hm
      by_cases h1 : m = 1
      · subst h1
        go_wp2
        go_ret2
        exact ⟨by rw [HRR.out]; rfl, HB.out _⟩
      · have hz : ((m : Int) != 1) = true := by simp; omega
        go_wp2
        go_ret2
        exact ⟨by rw [HRR.out, if_neg h1]; rfl, HB.out _⟩
end Go.Proofs.YtphighddlfabbaaDoor
namespace Go.Proofs.YtphighddlfabbaaDoor
set_option linter.unusedVariables false
set_option linter.unusedSimpArgs false
open Go.RowKit Go.PlainAid
abbrev pt (b : Nat) : Value := .pointer (some ⟨b, 0, none⟩)
theorem hmfM : ∀ (fn : Fn) (first cap : Array Value) (w : World), (Instr.makeFunc fn first cap).run Tryd.prog w = .ok (.func fn first cap) w := fun _ _ _ _ => rfl
/-- asks for that value -/
def EqC (w : World) (u : Value) (v : ByteArray) : Prop := ∃ c, u = .func (.func 21) #[] #[pt c] ∧ w.cell? ⟨c, 0, none⟩ = some (.string v)
def NeC (w : World) (u : Value) (v : ByteArray) : Prop := ∃ d c, u = .func (.func 23) #[] #[pt d] ∧ w.cell? ⟨d, 0, none⟩ = some (.func (.func 21) #[] #[pt c]) ∧ w.cell? ⟨c, 0, none⟩ = some (.string v)
theorem cell_below {w w' : World} {a : Addr} {v : Value} (h : w.cell? a = some v) (hb : Below w.heap.size w w') : w'.cell? a = some v := (hb.cell (World.block_lt_of_cell? _ _ h)).trans h
set_option maxHeartbeats 1000000 in
theorem eq21_any (s v : ByteArray) (c : Nat) (w : World) (hc : w.cell? ⟨c, 0, none⟩ = some (.string v)) :
    Calls Tryd.prog 21 #[.string s, pt c] w fun e w' => e = .returned (.bool (decide (s = v))) ∧ w' = w := by
  by_cases h : s = v
  · subst h
    rw [decide_eq_true rfl]
    go_enter Tryd.func21, Tryd.ntmps21
    go_wp2
    go_ret
    exact ⟨rfl, rfl⟩
  · rw [decide_eq_false h]
    have hq : ¬ s.toList = v.toList := fun e => h ((toList_iff _ _).1 e)
    have hq2 : (s.toList == v.toList) = false := by simpa using hq
    clear h
    go_enter Tryd.func21, Tryd.ntmps21
    go_wp2
    go_ret
    exact ⟨rfl, rfl⟩
set_option maxHeartbeats 1000000 in
theorem ne23_any (s v : ByteArray) (d c : Nat) (w : World) (hd : w.cell? ⟨d, 0, none⟩ = some (.func (.func 21) #[] #[pt c])) (hc : w.cell? ⟨c, 0, none⟩ = some (.string v)) :
    Calls Tryd.prog 23 #[.string s, pt d] w fun e w' => e = .returned (.bool (!decide (s = v))) ∧ w' = w := by
  have C := Lib.hid (eq21_any s v c w hc)
  obtain ⟨r, hr⟩ : ∃ r, decide (s = v) = r := ⟨_, rfl⟩
  rw [hr] at C ⊢
  clear hr hc
  unfold pt at C hd ⊢
  go_enter Tryd.func23, Tryd.ntmps23
  go_wp2_with (go_at_call 21; refine C.out.mono ?_; rintro e w' ⟨rfl, rfl⟩)
  all_goals (go_ret; exact ⟨rfl, rfl⟩)
set_option maxHeartbeats 1000000 in
theorem equals_any (v : ByteArray) (w : World) : Calls Tryd.prog 17 #[.string v] w fun e w' => ∃ u, e = .returned (.tuple #[u, .int .u16 0]) ∧ EqC w' u v ∧ Below w.heap.size w w' := by
  have hmf := hmfM
  have B1 := Lib.hid ((Below.refl _ w).alloc (Nat.le_refl _) (.cells #[.string v] 9))
  have C1 := Lib.hid (show (w.alloc (.cells #[.string v] 9)).cell? ⟨w.heap.size, 0, none⟩ = some (.string v) from World.cell?_alloc_at _ _ _ _ rfl)
  go_enter Tryd.func17, Tryd.ntmps17
  go_wp2
  go_ret2
  exact ⟨_, rfl, ⟨_, rfl, C1.out⟩, B1.out⟩
set_option maxHeartbeats 1000000 in
theorem opposite_any (n : Nat) (w : World) : Calls Tryd.prog 18 #[.func (.func n) #[] #[]] w fun e w' => e = .returned (.func (.func 22) #[] #[pt w.heap.size]) ∧ w' = w.alloc (.cells #[.func (.func n) #[] #[]] 37) := by
  have hmf := hmfM
  go_enter Tryd.func18, Tryd.ntmps18
  go_wp2
  go_ret
  exact ⟨rfl, rfl⟩
theorem st_func (W : World) (n t : Nat) (first cap : Array Value) : (store ⟨W.heap.size, 0, none⟩ (.func (.func n) first cap)).run Tryd.prog (W.alloc (.cells #[.nilFunc] t)) = .ok () ((W.alloc (.cells #[.nilFunc] t)).setCell ⟨W.heap.size, 0, none⟩ (.func (.func n) first cap)) := by
  have cc0 : (W.alloc (.cells #[.nilFunc] t)).cell? ⟨W.heap.size, 0, none⟩ = some .nilFunc := by rw [cell_of_row _ _ _ _ _ _ (heap_alloc_new W _)]; rfl
  have ff0 : (W.alloc (.cells #[.nilFunc] t)).frozen? ⟨W.heap.size, 0, none⟩ = false := frozen_of_row _ _ _ _ _ (heap_alloc_new W _)
  rw [run_store Tryd.prog _ _ _ _ rfl]
  simp only [cc0, ff0]
  rfl
set_option maxHeartbeats 1000000 in
theorem opp22_eq (v : ByteArray) (c : Nat) (w : World) (hc : w.cell? ⟨c, 0, none⟩ = some (.func (.func 17) #[] #[])) :
    Calls Tryd.prog 22 #[.string v, pt c] w fun e w' => ∃ u, e = .returned (.tuple #[u, .int .u16 0]) ∧ NeC w' u v ∧ Below w.heap.size w w' := by
  have hmf := hmfM
  have C := Lib.hid (equals_any v w)
  unfold pt at *
  go_enter Tryd.func22, Tryd.ntmps22
  go_wp2_with fail
  go_at_call 17
  refine C.out.mono ?_
  rintro e w1 ⟨u, rfl, ⟨c1, rfl, h1⟩, hb⟩
  have H1 := Lib.hid h1
  have HB := Lib.hid hb
  clear h1 hb C
  have HA := Lib.hid ((Below.refl w1.heap.size w1).alloc (Nat.le_refl _) (.cells #[.func (.func 21) #[] #[pt c1]] 34))
  have HC := Lib.hid (show (w1.alloc (.cells #[.func (.func 21) #[] #[pt c1]] 34)).cell? ⟨w1.heap.size, 0, none⟩ = some (.func (.func 21) #[] #[pt c1]) from World.cell?_alloc_at _ _ _ _ rfl)
  unfold pt at *
  have hst := st_func w1 21 34 #[] #[.pointer (some ⟨c1, 0, none⟩)]
  go_wp2
  go_ret2
  refine ⟨_, rfl, ⟨_, c1, rfl, HC.out, cell_below H1.out HA.out⟩, HB.out.trans (HA.out.mono HB.out.size)⟩
/-- the four kinds in memory -/
structure Kinds (w : World) (B : Nat) : Prop where
  row : w.heap[B + 2]? = some (.cells #[.int .u8 1, .string ⟨#[61]⟩, .func (.func 17) #[] #[], .int .u8 2, .string ⟨#[33, 61]⟩, .func (.func 22) #[] #[pt B], .int .u8 3, .string ⟨#[61, 126]⟩, .func (.func 19) #[] #[], .int .u8 4, .string ⟨#[33, 126]⟩, .func (.func 22) #[] #[pt (B + 1)]] 39 (0, 0))
  one : w.cell? ⟨B, 0, none⟩ = some (.func (.func 17) #[] #[])
  two : w.cell? ⟨B + 1, 0, none⟩ = some (.func (.func 19) #[] #[])
set_option maxHeartbeats 4000000 in
theorem kinds_any (w : World) : Calls Tryd.prog 15 #[] w fun e w' => e = .returned (.slice (some ⟨w.heap.size + 2, 0, none⟩) 4 4) ∧ Kinds w' w.heap.size ∧ Below w.heap.size w w' := by
  have C := Lib.hid (fun n w => opposite_any n w)
  unfold pt at *
  go_enter Tryd.func15, Tryd.ntmps15
  go_wp2_with fail
  go_at_call 18
  refine (C.out 17 _).mono ?_
  rintro e w1 ⟨rfl, rfl⟩
  go_wp2_with fail
  go_at_call 18
  refine (C.out 19 _).mono ?_
  rintro e w1 ⟨rfl, rfl⟩
  go_wp2
  go_ret
  have b1 := (Below.refl w.heap.size w).alloc (Nat.le_refl _) (.cells #[.func (.func 17) #[] #[]] 37)
  have e1 : (w.alloc (.cells #[.func (.func 17) #[] #[]] 37)).heap.size = w.heap.size + 1 := by simp
  have c1 : (w.alloc (.cells #[.func (.func 17) #[] #[]] 37)).cell? ⟨w.heap.size, 0, none⟩ = some (.func (.func 17) #[] #[]) := World.cell?_alloc_at _ _ _ _ rfl
  generalize w.alloc (.cells #[.func (.func 17) #[] #[]] 37) = W1 at *
  have b2 := (Below.refl W1.heap.size W1).alloc (Nat.le_refl _) (.cells #[.func (.func 19) #[] #[]] 37)
  have e2 : (W1.alloc (.cells #[.func (.func 19) #[] #[]] 37)).heap.size = w.heap.size + 2 := by simp [e1]
  have c2 : (W1.alloc (.cells #[.func (.func 19) #[] #[]] 37)).cell? ⟨w.heap.size + 1, 0, none⟩ = some (.func (.func 19) #[] #[]) := by rw [← e1]; exact World.cell?_alloc_at _ _ _ _ rfl
  have c1' := cell_below c1 b2
  generalize W1.alloc (.cells #[.func (.func 19) #[] #[]] 37) = W2 at *
  have b3 := fun o => (Below.refl W2.heap.size W2).alloc (Nat.le_refl _) o
  have hn := fun o => heap_alloc_new W2 o
  rw [e2] at hn
  exact ⟨rfl, ⟨hn _, cell_below c1' (b3 _), cell_below c2 (b3 _)⟩, (b1.trans (b2.mono b1.size)).trans ((b3 _).mono (by omega))⟩
end Go.Proofs.YtphighddlfabbaaDoor
