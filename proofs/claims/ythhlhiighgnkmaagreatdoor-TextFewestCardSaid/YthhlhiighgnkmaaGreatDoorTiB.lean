/-
  WALKS: whole numbers, units and sums of any text.
-/
import Derived.Test.YthhlhiighgnkmaaGreatDoorTiA
import Derived.Test.YthhlhiighgnkmaaGreatDoorMem
import Derived.Test.YthhlhiighgnkmaaGreatDoorLaidR
import Derived.Test.YthhlhiighgnkmaaGreatDoorShelfB
namespace Go.Proofs.YthhlhiighgnkmaaGreatDoor
set_option linter.unusedVariables false
set_option linter.unusedSimpArgs false
open Go.RowKit Go.PlainAid
set_option maxHeartbeats 1000000 in
theorem refusal_any (R : Nat) (bs : List Nat) (p : Nat) (E : Int) (w : World) (H : Rd w R bs p) :
    Calls Tryz.prog 84 #[.pointer (some ⟨R, 0, none⟩), .int .u16 E] w fun e w' => ∃ t v, e = .returned (.iface t v) ∧ Below w.heap.size w w' := by
  have CD := Lib.hid (isdone_any R bs p w H)
  have HH := Lib.hid H
  by_cases hd : p = bs.length
  · rw [decide_eq_true hd] at CD
    clear H hd
    go_enter Tryz.func84, Tryz.ntmps84
    go_wp2_with fail
    refine CD.out.mono ?_
    rintro e w1 ⟨rfl, hb⟩
    have h1 := (HH.out.stay hb).c1
    have BB := Lib.hid hb
    clear hb
    go_wp2
    go_ret
    exact ⟨_, _, rfl, BB.out.trans (((Below.refl w1.heap.size w1).alloc (Nat.le_refl _) _).mono BB.out.size)⟩
  · rw [decide_eq_false hd] at CD
    clear H hd
    go_enter Tryz.func84, Tryz.ntmps84
    go_wp2_with fail
    refine CD.out.mono ?_
    rintro e w1 ⟨rfl, hb⟩
    have h1 := (HH.out.stay hb).c1
    have BB := Lib.hid hb
    clear hb
    go_wp2
    go_ret
    exact ⟨_, _, rfl, BB.out.trans (((Below.refl w1.heap.size w1).alloc (Nat.le_refl _) _).mono BB.out.size)⟩
theorem digs_mem {bs : List Nat} {p : Nat} : ∀ c ∈ digs bs p, dig c = true := by
  intro c hc
  obtain ⟨k, hk, hke⟩ := List.getElem_of_mem hc
  exact (tw_get (List.getElem?_eq_some_iff.2 ⟨hk, hke⟩)).2
/-- a whole number that is there -/
theorem whole_good (R : Nat) (bs : List Nat) (p : Nat) (hB : IsB bs) (hl : bs.length ≤ 200000) (hp : p ≤ bs.length) (hne : digs bs p ≠ []) (hv : decV 0 (digs bs p) < 9223372036854775808) (w : World) (H : Rd w R bs p) :
    Calls Tryz.prog 101 #[.pointer (some ⟨R, 0, none⟩)] w fun e w' => e = .returned (.tuple #[.int .i64 ((decV 0 (digs bs p) : Nat) : Int), .nilIface]) ∧ Only [R] w w' ∧ Rd w' R bs (p + (digs bs p).length) :=
  whole_ok R bs p _ (digs bs p) _ hB hl rfl (List.length_pos_iff.2 hne) (tw_le hp) (fun k c h => tw_get h) (fun c h => tw_end h) ((parse_dec hne digs_mem).1 hv) w H
set_option maxRecDepth 100000 in
set_option maxHeartbeats 1000000 in
/-- .. that is not -/
theorem whole_bad (R : Nat) (bs : List Nat) (p : Nat) (hB : IsB bs) (hl : bs.length ≤ 30000) (hp : p ≤ bs.length) (hbad : digs bs p = [] ∨ 9223372036854775808 ≤ decV 0 (digs bs p)) (w : World) (H : Rd w R bs p) (hR : R ≠ 6) (hE : ErrR w) :
    Calls Tryz.prog 101 #[.pointer (some ⟨R, 0, none⟩)] w fun e w' => ∃ t v, e = .returned (.tuple #[.int .i64 0, .iface t v]) ∧ Only [R] w w' := by
  have hsz := strOf_size (digs bs p)
  have hle : p + (digs bs p).length ≤ bs.length := tw_le hp
  have CR := Lib.hid (fun w H => run_dig R bs p _ (digs bs p) hB (by omega) rfl (tw_le hp) (fun k c h => tw_get h) (fun c h => tw_end h) w H)
  have h1 := H.c1
  have H0 := Lib.hid H
  by_cases hne : digs bs p = []
  · have CF := Lib.hid (fun w (H : Rd w R bs (p + (digs bs p).length)) => refusal_any R bs (p + (digs bs p).length) 40 w H)
    rw [hne] at CR CF
    have hem : (strOf ([] : List Nat)).toList.isEmpty = true := by rw [toList_strOf]; rfl
    obtain ⟨S, hS⟩ : ∃ S, strOf ([] : List Nat) = S := ⟨_, rfl⟩
    rw [hS] at CR hem
    clear hbad hne hS hsz hle H hB hl hp hE hR
    go_enter Tryz.func101, Tryz.ntmps101
    go_wp2_with fail
    refine (CR.out _ H0.out).mono ?_
    rintro e w1 ⟨rfl, ho, hr⟩
    have CFF := Lib.hid (CF.out w1 hr)
    have O1 := Lib.hid ho
    clear ho hr
    go_wp2_with fail
    refine CFF.out.mono ?_
    rintro e w2 ⟨t, v, rfl, hb⟩
    have O2 := Lib.hid (O1.out.trans (Only.of_below hb [R]) (fun x hx => .inl hx))
    clear hb
    go_wp2
    go_ret2
    exact ⟨_, _, rfl, O2.out⟩
  · have hrange := (parse_dec hne digs_mem).2 (by rcases hbad with h | h; exact absurd h hne; exact h)
    have CP : Hid (∀ (w : World), ErrR w → Calls Tryz.prog 147 #[.string (strOf (digs bs p)), .int .i64 10, .int .i64 64] w fun e w' => ∃ (N : Nat) (x : Int), e = .returned (.tuple #[.int .i64 x, .iface 204 (.pointer (some ⟨N, 0, none⟩))]) ∧ Below w.heap.size w w') := Lib.hid (fun w hE => by
      obtain ⟨ev, he1, he2⟩ := hE
      refine (Tryz.strconv_ParseInt_10_at64_range (strOf (digs bs p)) (by rw [hsz]; omega) hrange ev w he1 he2).mono ?_
      rintro e w' ⟨N, h1, _, _, h2⟩
      exact ⟨N, _, h1, h2⟩)
    have hem : (strOf (digs bs p)).toList.isEmpty = false := by
      rw [toList_strOf]
      cases hd : digs bs p with
      | nil => exact absurd hd hne
      | cons c ds => rfl
    obtain ⟨S, hS⟩ : ∃ S, strOf (digs bs p) = S := ⟨_, rfl⟩
    rw [hS] at CR CP hem
    have HE := Lib.hid hE
    have HRR := Lib.hid hR
    clear hbad hne hS hsz hle H hB hl hp hE hR hrange
    go_enter Tryz.func101, Tryz.ntmps101
    go_wp2_with fail
    refine (CR.out _ H0.out).mono ?_
    rintro e w1 ⟨rfl, ho, hr⟩
    have CPP := Lib.hid (CP.out w1 (HE.out.only ho HRR.out))
    have O1 := Lib.hid ho
    clear ho hr
    go_wp2_with fail
    refine CPP.out.mono ?_
    rintro e w2 ⟨N, x, rfl, hb⟩
    have O2 := Lib.hid (O1.out.trans (Only.of_below hb [R]) (fun x hx => .inl hx))
    clear hb
    go_wp2
    go_ret2
    exact ⟨_, _, rfl, O2.out.alloc _⟩
/-- names and units -/
def unl (i : Nat) : List Nat := match i with | 0 => [121] | 1 => [119] | 2 => [100] | 3 => [104] | 4 => [109] | 5 => [115] | _ => [109, 115]
theorem unm_eq (i : Nat) : unm i = strOf (unl i) := by
  match i with
  | 0 => rfl
  | 1 => rfl
  | 2 => rfl
  | 3 => rfl
  | 4 => rfl
  | 5 => rfl
  | i + 6 => rfl
theorem unl_isB (i : Nat) : IsB (unl i) := by
  match i with
  | 0 => unfold IsB unl; decide
  | 1 => unfold IsB unl; decide
  | 2 => unfold IsB unl; decide
  | 3 => unfold IsB unl; decide
  | 4 => unfold IsB unl; decide
  | 5 => unfold IsB unl; decide
  | i + 6 => exact show IsB [109, 115] by unfold IsB; decide
theorem unitI_cases (ns : List Nat) : (ns = [121] ∧ unitI ns = 1) ∨ (ns = [119] ∧ unitI ns = 2) ∨ (ns = [100] ∧ unitI ns = 3) ∨ (ns = [104] ∧ unitI ns = 4) ∨ (ns = [109] ∧ unitI ns = 5) ∨ (ns = [115] ∧ unitI ns = 6) ∨ (ns = [109, 115] ∧ unitI ns = 7) ∨ (unitI ns = 0 ∧ ns ≠ [121] ∧ ns ≠ [119] ∧ ns ≠ [100] ∧ ns ≠ [104] ∧ ns ≠ [109] ∧ ns ≠ [115] ∧ ns ≠ [109, 115]) := by
  by_cases h1 : ns = [121]
  · subst h1; exact .inl ⟨rfl, rfl⟩
  by_cases h2 : ns = [119]
  · subst h2; exact .inr (.inl ⟨rfl, rfl⟩)
  by_cases h3 : ns = [100]
  · subst h3; exact .inr (.inr (.inl ⟨rfl, rfl⟩))
  by_cases h4 : ns = [104]
  · subst h4; exact .inr (.inr (.inr (.inl ⟨rfl, rfl⟩)))
  by_cases h5 : ns = [109]
  · subst h5; exact .inr (.inr (.inr (.inr (.inl ⟨rfl, rfl⟩))))
  by_cases h6 : ns = [115]
  · subst h6; exact .inr (.inr (.inr (.inr (.inr (.inl ⟨rfl, rfl⟩)))))
  by_cases h7 : ns = [109, 115]
  · subst h7; exact .inr (.inr (.inr (.inr (.inr (.inr (.inl ⟨rfl, rfl⟩))))))
  refine .inr (.inr (.inr (.inr (.inr (.inr (.inr ⟨?_, h1, h2, h3, h4, h5, h6, h7⟩))))))
  unfold unitI
  rw [if_neg h1, if_neg h2, if_neg h3, if_neg h4, if_neg h5, if_neg h6, if_neg h7]
theorem unl_key (i : Nat) (hi : i < 7) : unitI (unl i) = i + 1 := by
  match i, hi with
  | 0, _ => rfl
  | 1, _ => rfl
  | 2, _ => rfl
  | 3, _ => rfl
  | 4, _ => rfl
  | 5, _ => rfl
  | 6, _ => rfl
theorem unitI_unl (ns : List Nat) (i : Nat) (hi : i < 7) : unl i = ns ↔ unitI ns = i + 1 := by
  constructor
  · rintro rfl; exact unl_key i hi
  · intro h
    rcases unitI_cases ns with ⟨rfl, h2⟩ | ⟨rfl, h2⟩ | ⟨rfl, h2⟩ | ⟨rfl, h2⟩ | ⟨rfl, h2⟩ | ⟨rfl, h2⟩ | ⟨rfl, h2⟩ | ⟨h2, _⟩
    · obtain rfl : i = 0 := by omega
      rfl
    · obtain rfl : i = 1 := by omega
      rfl
    · obtain rfl : i = 2 := by omega
      rfl
    · obtain rfl : i = 3 := by omega
      rfl
    · obtain rfl : i = 4 := by omega
      rfl
    · obtain rfl : i = 5 := by omega
      rfl
    · obtain rfl : i = 6 := by omega
      rfl
    · omega
theorem unit_beq (ns : List Nat) (hB : IsB ns) (i : Nat) (hi : i < 7) : ((unm i).toList == (strOf ns).toList) = decide (unitI ns = i + 1) := by
  have h : (unm i).toList = (strOf ns).toList ↔ unl i = ns := by
    rw [unm_eq, toList_strOf, toList_strOf]
    constructor
    · intro h
      refine strOf_inj (unl_isB i) hB ?_
      unfold strOf
      rw [h]
    · intro h; rw [h]
  rw [Bool.eq_iff_iff]
  simp only [beq_iff_eq, decide_eq_true_eq]
  rw [h]
  exact unitI_unl ns i hi
theorem ums_eq (i : Nat) (hi : i < 7) : ums i = ((unitMs (i + 1) : Nat) : Int) := by
  match i, hi with
  | 0, _ => rfl
  | 1, _ => rfl
  | 2, _ => rfl
  | 3, _ => rfl
  | 4, _ => rfl
  | 5, _ => rfl
  | 6, _ => rfl
theorem unitMs_pos (k : Nat) (h0 : 0 < k) (h7 : k ≤ 7) : 1 ≤ unitMs k ∧ unitMs k ≤ 31536000000 := by
  have hall : ∀ i : Fin 8, 0 < i.val → 1 ≤ unitMs i.val ∧ unitMs i.val ≤ 31536000000 := by decide
  exact hall ⟨k, by omega⟩ h0
/-- the units that are left -/
def LeftV (g cap last : Nat) (v : Value) : Prop := (last < 7 ∧ v = .slice (some ⟨g, last * 2, none⟩) (7 - last) (cap - last)) ∨ (last = 7 ∧ ∃ a c, v = .slice a 0 c)
set_option maxRecDepth 100000 in
theorem index_no (g off n cap N : Nat) (nm : Nat → ByteArray) (ms : Nat → Int) (t : ByteArray) (w : World) (hn : n ≤ 10) (hcap : n ≤ cap) (hg : g < w.heap.size) (hN : N < w.heap.size)
    (hc : ∀ i, i < n → w.cell? ⟨g, off + i * 2, none⟩ = some (.string (nm i)) ∧ w.cell? ⟨g, off + i * 2 + 1, none⟩ = some (.int .i64 (ms i))) (ht : w.cell? ⟨N, 0, none⟩ = some (.string t)) (h0 : ∀ i, i < n → ((nm i).toList == t.toList) = false) :
    Calls Tryz.prog 149 #[.slice (some ⟨g, off, none⟩) n cap, .func (.func 150) #[] #[.pointer (some ⟨N, 0, none⟩)]] w (Gives w (.int .i64 (-1))) := by
  have CU := Lib.hid (fun (a : ByteArray) (m : Int) (w1 : World) (hb : Below w.heap.size w w1) => unitname_any a t m N w1 (Nat.lt_of_lt_of_le hN hb.size) ((hb.cell hN).trans ht))
  have HC := Lib.hid (fun (i : Nat) (hi : i < n) (w1 : World) (hb : Below w.heap.size w w1) => And.intro ((hb.cell (p := ⟨g, off + i * 2, none⟩) hg).trans (hc i hi).1) ((hb.cell (p := ⟨g, off + i * 2 + 1, none⟩) hg).trans (hc i hi).2))
  have H0 := Lib.hid h0
  clear hc ht h0 hg hN
  go_enter Tryz.func149, Tryz.ntmps149
  go_wp2
  go_loopw [8] (fun i wr => ∃ (k : Nat), k ≤ n ∧ i = .int .i64 k ∧ Hid (Below w.heap.size w wr)) (fun i _ => (n - intOf i).toNat)
  case atStart => exact ⟨0, by omega, rfl, Lib.hid (Below.refl _ _)⟩
  case round =>
    obtain ⟨k, hk, rfl, HB⟩ := hrel
    by_cases hkn : k < n
    · obtain ⟨c0, c1⟩ := HC.out k (by omega) wr HB.out
      have da : decide ((k : Int) < (n : Int)) = true := decide_eq_true (by omega)
      have da2 : decide (k < n) = true := decide_eq_true (by omega)
      have CX := Lib.hid (CU.out (nm k) (ms k) wr HB.out)
      rw [H0.out k (by omega)] at CX
      go_wp2_with fail
      refine CX.out.mono ?_
      rintro e w1 ⟨rfl, hb⟩
      have B2 := Lib.hid (HB.out.trans (hb.mono HB.out.size))
      clear hb
      go_wp2
      go_roundw
      case rel => exact ⟨k + 1, by omega, rfl, B2⟩
      case measure => simp [intOf]; omega
    · have da : decide ((k : Int) < (n : Int)) = false := decide_eq_false (by omega)
      have da2 : decide (k < n) = false := decide_eq_false (by omega)
      go_wp2
      go_ret
      exact ⟨rfl, HB.out⟩
theorem index_nil (a : Option Addr) (cap : Nat) (f : Value) (w : World) : Calls Tryz.prog 149 #[.slice a 0 cap, f] w (Gives w (.int .i64 (-1))) := by
  go_enter Tryz.func149, Tryz.ntmps149
  go_wp2
  go_loopw [8] (fun i wr => i = .int .i64 0 ∧ Hid (Below w.heap.size w wr)) (fun i _ => 0)
  case atStart => exact ⟨rfl, Lib.hid (Below.refl _ _)⟩
  case round =>
    obtain ⟨rfl, HB⟩ := hrel
    go_wp2
    go_ret
    exact ⟨rfl, HB.out⟩
theorem add_over (sum n ms : Int) (h0 : 0 ≤ sum) (h1 : sum ≤ 9007199254740992) (h3 : 1 ≤ ms) (h4 : ¬ n ≤ (9007199254740992 - sum) / ms) (w : World) :
    Calls Tryz.prog 151 #[.int .i64 sum, .int .i64 n, .int .i64 ms] w fun e w' => e = .returned (.tuple #[.int .i64 0, .iface 28 (.int .u16 41)]) ∧ w' = w := by
  have e1 : IntKind.i64.wrap (9007199254740992 - sum) = 9007199254740992 - sum := by rw [IntKind.wrap_i64]; omega
  have e2 : (9007199254740992 - sum).tdiv ms = (9007199254740992 - sum) / ms := Int.tdiv_eq_ediv_of_nonneg (by omega)
  have e3 : (ms == 0) = false := by simp; omega
  have d1 : decide (n > (9007199254740992 - sum) / ms) = true := decide_eq_true (by omega)
  have d2 : decide ((9007199254740992 - sum) / ms < n) = true := d1
  obtain ⟨q, hq⟩ : ∃ q, (9007199254740992 - sum) / ms = q := ⟨_, rfl⟩
  rw [hq] at e2 d1 d2 h4
  have q1 : 0 ≤ q := by rw [← hq]; exact Int.ediv_nonneg (by omega) (by omega)
  have q2 : q ≤ 9007199254740992 - sum := by rw [← hq]; exact Int.ediv_le_self _ (by omega)
  have e6 : IntKind.i64.wrap q = q := by rw [IntKind.wrap_i64]; omega
  clear h4
  go_enter Tryz.func151, Tryz.ntmps151
  go_wp2
  go_ret2
  exact ⟨rfl, rfl⟩
end Go.Proofs.YthhlhiighgnkmaaGreatDoor
