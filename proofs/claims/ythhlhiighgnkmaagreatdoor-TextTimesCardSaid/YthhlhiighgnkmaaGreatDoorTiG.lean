/-
  WALKS: times of any text; what errors.As makes of both.
-/
import Derived.Test.YthhlhiighgnkmaaGreatDoorTiF
import Derived.Test.YthhlhiighgnkmaaGreatDoorNumZ
namespace Go.Proofs.YthhlhiighgnkmaaGreatDoor
set_option linter.unusedVariables false
set_option linter.unusedSimpArgs false
open Go.RowKit Go.PlainAid Go.Extern.Stop Go.Stop Go.Extern
theorem index_one (ch c : Nat) (hch : ch = 45 ∨ ch = 46) (hc : c < 256) : Lib.indexByte [UInt8.ofNat ch] c.toUInt8 = if c = ch then 0 else -1 := by
  have h1 : ∀ i : Fin 256, Lib.indexByte [UInt8.ofNat 45] i.val.toUInt8 = if i.val = 45 then 0 else -1 := by decide +kernel
  have h2 : ∀ i : Fin 256, Lib.indexByte [UInt8.ofNat 46] i.val.toUInt8 = if i.val = 46 then 0 else -1 := by decide +kernel
  rcases hch with rfl | rfl
  · exact h1 ⟨c, hc⟩
  · exact h2 ⟨c, hc⟩
theorem skip_one (R : Nat) (bs : List Nat) (p ch : Nat) (hch : ch = 45 ∨ ch = 46) (hB : IsB bs) (hl : bs.length ≤ 30000) (hp : p ≤ bs.length) (w : World) (H : Rd w R bs p) :
    Calls Tryz.prog 103 #[.pointer (some ⟨R, 0, none⟩), .string (strOf [ch])] w fun e w' => e = .returned (.bool (decide (bs[p]? = some ch))) ∧ Only [R] w w' ∧ Rd w' R bs (if bs[p]? = some ch then p + 1 else p) := by
  cases hc : bs[p]? with
  | none =>
    have hpe : p = bs.length := by have := List.getElem?_eq_none_iff.1 hc; omega
    refine (skip_end R bs p _ hpe w H).mono ?_
    rintro e w' ⟨h1, m, rfl⟩
    exact ⟨by rw [h1]; rfl, (Only.refl _ w).drewN m, by rw [if_neg (by simp)]; exact H⟩
  | some c =>
    have hc256 := at_isB hB hc
    have hi := index_one ch c hch hc256
    have hd : (strOf [ch]).data.toList = [UInt8.ofNat ch] := rfl
    by_cases he : c = ch
    · rw [if_pos he] at hi
      refine (skip_yes R bs p c _ 0 hB (by omega) hc (by rw [hd]; exact hi) w H).mono ?_
      rintro e w' ⟨h1, h2, h3⟩
      subst he
      exact ⟨by rw [h1]; simp, h2, by rw [if_pos rfl]; exact h3⟩
    · rw [if_neg he] at hi
      refine (skip_no R bs p c _ hB (by omega) hc (by rw [hd]; exact hi) w H).mono ?_
      rintro e w' ⟨h1, m, rfl⟩
      have hne : ¬ (some c = some ch) := by simp; exact he
      exact ⟨by rw [h1, decide_eq_false hne], (Only.refl _ w).drewN m, by rw [if_neg hne]; exact H⟩
/-- a part of a time: a value, and where it ends -/
def PartPost (R : Nat) (bs : List Nat) (w : World) : Option (Nat × Nat) → Ending → World → Prop
  | some (v, p), e, w' => e = .returned (.tuple #[.int .i64 ((v : Nat) : Int), .nilIface]) ∧ Only [R] w w' ∧ Rd w' R bs p
  | none, e, w' => ∃ t y, e = .returned (.tuple #[.int .i64 0, .iface t y]) ∧ Only [R] w w'
def thouR (bs : List Nat) (p : Nat) : Option (Nat × Nat) :=
  if (digs bs p).length = 1 then some (decV 0 (digs bs p) * 100, p + 1) else if (digs bs p).length = 2 then some (decV 0 (digs bs p) * 10, p + 2) else if (digs bs p).length = 3 then some (decV 0 (digs bs p), p + 3) else none
theorem decV_lt (acc : Nat) (l : List Nat) (h : ∀ c ∈ l, dig c = true) : decV acc l < (acc + 1) * 10 ^ l.length := by
  induction l generalizing acc with
  | nil => rw [decV_nil]; simp
  | cons c l ih =>
    rw [decV_cons, List.length_cons, Nat.pow_succ]
    have h1 := ih (10 * acc + (c - 48)) (fun x hx => h x (List.mem_cons_of_mem _ hx))
    have h2 := dig_lt (h c (List.mem_cons_self ..))
    refine Nat.lt_of_lt_of_le h1 ?_
    rw [Nat.mul_comm (10 ^ l.length) 10, ← Nat.mul_assoc]
    exact Nat.mul_le_mul_right _ (by omega)
theorem digs_le {bs : List Nat} {p : Nat} (h : p ≤ bs.length) : p + (digs bs p).length ≤ bs.length := tw_le h
set_option maxRecDepth 100000 in
set_option maxHeartbeats 2000000 in
theorem thou_any (R : Nat) (bs : List Nat) (p : Nat) (hB : IsB bs) (hl : bs.length ≤ 30000) (hp : p ≤ bs.length) (w : World) (H : Rd w R bs p) (hE : ErrR w) (hR6 : R ≠ 6) :
    Calls Tryz.prog 153 #[.pointer (some ⟨R, 0, none⟩)] w (PartPost R bs w (thouR bs p)) := by
  have h1 := H.c1
  by_cases hw : digs bs p = [] ∨ 9223372036854775808 ≤ decV 0 (digs bs p)
  · have CW := Lib.hid (whole_bad R bs p hB hl hp hw w H hR6 hE)
    have hn : thouR bs p = none := by
      have hlen : (digs bs p).length = 0 ∨ 3 < (digs bs p).length := by
        rcases hw with h | h
        · rw [h]; exact .inl rfl
        · right
          rcases Nat.lt_or_ge 3 (digs bs p).length with h3 | h3
          · exact h3
          · have h4 := decV_lt 0 (digs bs p) digs_mem
            have h5 : 10 ^ (digs bs p).length ≤ 10 ^ 3 := Nat.pow_le_pow_right (by decide) h3
            omega
      unfold thouR
      rw [if_neg (by omega), if_neg (by omega), if_neg (by omega)]
    rw [hn]
    clear hw hn hB hl hp H hE
    go_enter Tryz.func153, Tryz.ntmps153
    go_wp2_with fail
    refine CW.out.mono ?_
    rintro e w1 ⟨t, v, rfl, ho⟩
    have O1 := Lib.hid ho
    clear ho
    go_wp2
    go_ret2
    exact ⟨_, _, rfl, O1.out⟩
  · have hne : digs bs p ≠ [] := fun h => hw (.inl h)
    have hlt : decV 0 (digs bs p) < 9223372036854775808 := by
      rcases Nat.lt_or_ge (decV 0 (digs bs p)) 9223372036854775808 with h | h
      · exact h
      · exact absurd (.inr h) hw
    have CW := Lib.hid (whole_good R bs p hB (by omega) hp hne hlt w H)
    have hle := digs_le hp
    have h4 := decV_lt 0 (digs bs p) digs_mem
    unfold thouR
    obtain ⟨n, hn⟩ : ∃ n, (digs bs p).length = n := ⟨_, rfl⟩
    obtain ⟨V, hV⟩ : ∃ V, decV 0 (digs bs p) = V := ⟨_, rfl⟩
    rw [hn, hV] at CW h4
    rw [hn] at hle
    rw [hn, hV]
    have e1 : IntKind.i64.wrap (((p + n : Nat) : Int) - (p : Int)) = (n : Int) := by rw [IntKind.wrap_i64]; omega
    obtain ⟨q, hq⟩ : ∃ q, p + n = q := ⟨_, rfl⟩
    have HQ := Lib.hid hq
    rw [hq] at CW e1
    by_cases h1' : n = 1
    · rw [if_pos h1']
      have n1 : ((n : Int) == 1) = true := by simp; omega
      have n2 : ((n : Int) == 2) = false := by simp; omega
      have n3 : ((n : Int) == 3) = false := by simp; omega
      have hpw : V < 10 := by rw [h1'] at h4; exact h4
      obtain ⟨M, hM⟩ : ∃ M, V * 100 = M := ⟨_, rfl⟩
      have e2 : IntKind.i64.wrap ((V : Int) * 100) = (M : Int) := by rw [IntKind.wrap_i64]; omega
      rw [hM]
      clear hpw hM
      rw [show p + 1 = q by omega]
      clear hw hne hlt hV hn hq h4 hle hB hl hp H hE h1'
      go_enter Tryz.func153, Tryz.ntmps153
      go_wp2_with fail
      refine CW.out.mono ?_
      rintro e w1 ⟨rfl, ho, hr⟩
      have O1 := Lib.hid ho
      have R1 := Lib.hid hr
      have hc1 := hr.c1
      clear ho hr
      go_wp2
      go_ret2
      exact ⟨rfl, O1.out, R1.out⟩
    · rw [if_neg h1']
      by_cases h2' : n = 2
      · rw [if_pos h2']
        have n1 : ((n : Int) == 1) = false := by simp; omega
        have n2 : ((n : Int) == 2) = true := by simp; omega
        have n3 : ((n : Int) == 3) = false := by simp; omega
        have hpw : V < 100 := by rw [h2'] at h4; exact h4
        obtain ⟨M, hM⟩ : ∃ M, V * 10 = M := ⟨_, rfl⟩
        have e2 : IntKind.i64.wrap ((V : Int) * 10) = (M : Int) := by rw [IntKind.wrap_i64]; omega
        rw [hM]
        clear hpw hM
        rw [show p + 2 = q by omega]
        clear hw hne hlt hV hn hq h4 hle hB hl hp H hE h2'
        go_enter Tryz.func153, Tryz.ntmps153
        go_wp2_with fail
        refine CW.out.mono ?_
        rintro e w1 ⟨rfl, ho, hr⟩
        have O1 := Lib.hid ho
        have R1 := Lib.hid hr
        have hc1 := hr.c1
        clear ho hr
        go_wp2
        go_ret2
        exact ⟨rfl, O1.out, R1.out⟩
      · rw [if_neg h2']
        by_cases h3' : n = 3
        · rw [if_pos h3']
          have n1 : ((n : Int) == 1) = false := by simp; omega
          have n2 : ((n : Int) == 2) = false := by simp; omega
          have n3 : ((n : Int) == 3) = true := by simp; omega
          rw [show p + 3 = q by omega]
          clear hw hne hlt hV hn hq h4 hle hB hl hp H hE h3'
          go_enter Tryz.func153, Tryz.ntmps153
          go_wp2_with fail
          refine CW.out.mono ?_
          rintro e w1 ⟨rfl, ho, hr⟩
          have O1 := Lib.hid ho
          have R1 := Lib.hid hr
          have hc1 := hr.c1
          clear ho hr
          go_wp2
          go_ret2
          exact ⟨rfl, O1.out, R1.out⟩
        · rw [if_neg h3']
          have n1 : ((n : Int) == 1) = false := by simp; omega
          have n2 : ((n : Int) == 2) = false := by simp; omega
          have n3 : ((n : Int) == 3) = false := by simp; omega
          clear hw hne hlt hV hn hq h4 hle hB hl hp H hE h1' h2' h3'
          go_enter Tryz.func153, Tryz.ntmps153
          go_wp2_with fail
          refine CW.out.mono ?_
          rintro e w1 ⟨rfl, ho, hr⟩
          have O1 := Lib.hid ho
          have R1 := Lib.hid hr
          have hc1 := hr.c1
          clear ho hr
          go_wp2
          go_ret2
          exact ⟨_, _, rfl, O1.out.alloc _⟩
end Go.Proofs.YthhlhiighgnkmaaGreatDoor
