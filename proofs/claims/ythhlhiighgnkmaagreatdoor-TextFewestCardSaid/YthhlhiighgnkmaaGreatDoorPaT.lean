/-
  PaF, PaE, PaG, PaH, PaI, put together (a claim holds at most 60 files).
-/
import Derived.Test.YthhlhiighgnkmaaGreatDoorPaR
import Derived.Test.YthhlhiighgnkmaaGreatDoorNumZ
import Derived.Test.YthhlhiighgnkmaaGreatDoorLaidR
import Derived.Test.YthhlhiighgnkmaaGreatDoorPaD
import Derived.Test.YthhlhiighgnkmaaGreatDoorTiA
import Derived.Test.YthhlhiighgnkmaaGreatDoorPtZ
import Derived.Test.YthhlhiighgnkmaaGreatDoorLawQ
/-! ## WALKS: the library's ParseFloat and the code's rounded, where atof64 hands back a double with an
  error or without. -/
namespace Go.Proofs.YthhlhiighgnkmaaGreatDoor
set_option linter.unusedVariables false
set_option linter.unusedSimpArgs false
open Go.RowKit Go.PlainAid
/-- a double, how far was read, an error or none -/
def Floats3 (w : World) (r : Nat) (n : Int) (e : Ending) (w' : World) : Prop := ∃ ev, e = .returned (.tuple #[.float .f64 r, .int .i64 n, ev]) ∧ IsErr ev ∧ Below w.heap.size w w'
/-- the library's public error of what is out of range -/
theorem toerror_range (s : ByteArray) (hs : s.size ≤ 200000) (w : World) (H : ErrR w) :
    Calls Tryz.prog 121 #[.string ⟨#[80, 97, 114, 115, 101, 70, 108, 111, 97, 116]⟩, .string s, .int .i64 0, .int .i64 64, .iface 203 (.int .i64 1)] w fun e w' => ∃ N, e = .returned (.iface 204 (.pointer (some ⟨N, 0, none⟩))) ∧ Below w.heap.size w w' := by
  obtain ⟨ev, h1, h2⟩ := H
  refine (Any.strconv_toError_range { Tryz.laysC174 with } ⟨#[80, 97, 114, 115, 101, 70, 108, 111, 97, 116]⟩ s 0 64 ev w (by omega) h1 h2).mono ?_
  rintro e w' ⟨N, he, h3, h4, h5⟩
  exact ⟨N, he, h5⟩
set_option maxRecDepth 100000 in
theorem rounded_any (S : ByteArray) (hs : S.size ≤ 200000) (r : Nat) (w : World) (hE : ErrR w)
    (CA : Calls Tryz.prog 242 #[.string S] w (Floats3 w r (S.size : Int))) :
    Calls Tryz.prog 175 #[.string S] w fun e w' => e = .returned (.int .u64 (r : Int)) ∧ Below w.heap.size w w' := by
  have C1 := Lib.hid CA
  clear CA
  have C2 : Hid (Calls Tryz.prog 240 #[.string S, .int .i64 64] w (Floats3 w r (S.size : Int))) := by
    refine Lib.hid ?_
    clear hE hs
    go_enter Tryz.func240, Tryz.ntmps240
    go_wp2_with fail
    refine C1.out.mono ?_
    rintro e w1 ⟨ev, rfl, hev, hb⟩
    go_wp2
    go_returns
    exact ⟨_, rfl, hev, hb⟩
  clear C1
  have C3 : Hid (Calls Tryz.prog 236 #[.string S, .int .i64 64] w (Floats w r)) := by
    refine Lib.hid ?_
    have x1 : decide (S.size = S.size) = true := decide_eq_true rfl
    clear hE hs
    go_enter Tryz.func236, Tryz.ntmps236
    go_wp2_with fail
    refine C2.out.mono ?_
    rintro e w1 ⟨ev, rfl, hev, hb⟩
    go_wp2
    go_returns
    exact ⟨_, rfl, hev, hb⟩
  clear C2
  have C4 : Hid (Calls Tryz.prog 209 #[.string S, .int .i64 64] w fun e w' => ∃ ev, e = .returned (.tuple #[.float .f64 r, ev]) ∧ Below w.heap.size w w') := by
    refine Lib.hid ?_
    have HE := Lib.hid hE
    have CT := Lib.hid (fun w H => toerror_range S hs w H)
    clear hE hs
    go_enter Tryz.func209, Tryz.ntmps209
    go_wp2_with fail
    refine C3.out.mono ?_
    rintro e w1 ⟨ev, rfl, hev, hb⟩
    rcases hev with rfl | rfl
    · go_wp2
      go_returns
      exact ⟨_, rfl, hb⟩
    · go_wp2_with fail
      refine (CT.out w1 (HE.out.below hb)).mono ?_
      rintro e w2 ⟨N, rfl, hb2⟩
      go_wp2
      go_returns
      exact ⟨_, rfl, hb.trans (hb2.mono hb.size)⟩
  clear C3
  have hbits := bits210 r
  clear hE hs
  go_enter Tryz.func175, Tryz.ntmps175
  go_wp2_with fail
  refine C4.out.mono ?_
  rintro e w1 ⟨ev, rfl, hb⟩
  go_wp2
  go_returns
  exact ⟨rfl, hb⟩
end Go.Proofs.YthhlhiighgnkmaaGreatDoor
/-! ## WALKS: the library's atof64 and ParseFloat, and the code's rounded, on a text that readFloat reads
  whole, in decimal, with nothing cut off. -/
namespace Go.Proofs.YthhlhiighgnkmaaGreatDoor
set_option linter.unusedVariables false
set_option linter.unusedSimpArgs false
open Go.RowKit Go.PlainAid
/-- what the library's decimal number m·10^p is as a double -/
def decR (m : Nat) (p : Int) : Nat := if m = 0 then 0 else Nr.rndN (Nr.decN m p) (Nr.decD p)
set_option maxRecDepth 100000 in
set_option maxHeartbeats 4000000 in
theorem atof_any (S : ByteArray) (m : Nat) (p n : Int) (hm : m < 10 ^ 19)
    (CA : ∀ w, Calls Tryz.prog 243 #[.string S] w fun e w' => e = .returned (.tuple #[.float .f64 0, .int .i64 0, .bool false]) ∧ w' = w)
    (CB : ∀ w, Calls Tryz.prog 244 #[.string S] w fun e w' => e = .returned (.tuple #[.int .u64 (m : Int), .int .i64 p, .bool false, .bool false, .bool false, .int .i64 n, .bool true]) ∧ w' = w)
    (a o cap : Nat) (w : World) (F : PowF w a o cap) (T : PTab w) (hS : 18 ≤ w.heap.size) :
    Calls Tryz.prog 242 #[.string S] w (Floats3 w (decR m p) n) := by
  have HA := Lib.hid CA
  have HB := Lib.hid CB
  have HZ := Lib.hid bool2_false
  have c1 := F.opt
  have f0 := from252 0
  have f1 := from252 9218868437227405312
  rw [show ((0 : Nat) : Int) = 0 from rfl] at f0
  rw [show ((9218868437227405312 : Nat) : Int) = 9218868437227405312 from rfl] at f1
  have o0 : bits .or .u64 0 0 = 0 := by decide +kernel
  have o1 : bits .or .u64 0 9218868437227405312 = 9218868437227405312 := by decide +kernel
  have hm64 : m < 2 ^ 64 := Nat.lt_of_lt_of_le hm (by decide)
  by_cases h0 : m = 0
  · subst h0
    rw [show decR 0 p = 0 from if_pos rfl]
    clear CA CB F T hm hm64
    go_enter Tryz.func242, Tryz.ntmps242
    go_wp2_with fail
    refine (HA.out _).mono ?_
    rintro e w1 ⟨rfl, rfl⟩
    go_wp2_with fail
    refine (HB.out _).mono ?_
    rintro e w1 ⟨rfl, rfl⟩
    go_wp2_with fail
    refine (HZ.out _).mono ?_
    rintro e w1 ⟨rfl, rfl⟩
    go_wp2
    go_returns
    exact ⟨_, rfl, .inl rfl, Below.refl _ _⟩
  · rw [show decR m p = Nr.rndN (Nr.decN m p) (Nr.decD p) from if_neg h0]
    have m1 : ((m : Int) == 0) = false := by rw [beq_eq_false_iff_ne]; omega
    have m2 : (m == 0) = false := by rw [beq_eq_false_iff_ne]; omega
    have m3 : decide (m = 0) = false := decide_eq_false h0
    by_cases hp : 310 < p
    · rw [Nr.dec_inf h0 (show 309 ≤ p by omega)]
      have p1 : decide (310 < p) = true := decide_eq_true hp
      clear CA CB F T hm hm64
      go_enter Tryz.func242, Tryz.ntmps242
      go_wp2_with fail
      refine (HA.out _).mono ?_
      rintro e w1 ⟨rfl, rfl⟩
      go_wp2_with fail
      refine (HB.out _).mono ?_
      rintro e w1 ⟨rfl, rfl⟩
      go_wp2_with fail
      refine (HZ.out _).mono ?_
      rintro e w1 ⟨rfl, rfl⟩
      go_wp2
      go_returns
      exact ⟨_, rfl, .inr rfl, Below.refl _ _⟩
    · have p1 : decide (310 < p) = false := decide_eq_false hp
      by_cases hq : p < -345
      · rw [Nr.dec_zero hm (show p + 19 ≤ -324 by omega)]
        have p2 : decide (p < -345) = true := decide_eq_true hq
        clear CA CB F T hm hm64
        go_enter Tryz.func242, Tryz.ntmps242
        go_wp2_with fail
        refine (HA.out _).mono ?_
        rintro e w1 ⟨rfl, rfl⟩
        go_wp2_with fail
        refine (HB.out _).mono ?_
        rintro e w1 ⟨rfl, rfl⟩
        go_wp2_with fail
        refine (HZ.out _).mono ?_
        rintro e w1 ⟨rfl, rfl⟩
        go_wp2
        go_returns
        exact ⟨_, rfl, .inl rfl, Below.refl _ _⟩
      · have p2 : decide (p < -345) = false := decide_eq_false hq
        obtain ⟨i, hi⟩ : ∃ i : Nat, p = (i : Int) - 348 := ⟨(p + 348).toNat, by omega⟩
        have HX := Lib.hid (exact_any m p (by omega) hm64 a o cap w F)
        have HP := Lib.hid (parse64_any m i (by omega) (Nat.le_of_lt hm) (by omega) (by omega) w T hS)
        rw [← hi] at HP
        obtain ⟨R, hR⟩ : ∃ R, Nr.rndN (Nr.decN m p) (Nr.decD p) = R := ⟨_, rfl⟩
        rw [hR] at HX HP ⊢
        clear CA CB F T hm hm64 hR hi
        go_enter Tryz.func242, Tryz.ntmps242
        go_wp2_with fail
        refine (HA.out _).mono ?_
        rintro e w1 ⟨rfl, rfl⟩
        go_wp2_with fail
        refine (HB.out _).mono ?_
        rintro e w1 ⟨rfl, rfl⟩
        go_wp2_with fail
        refine (HZ.out _).mono ?_
        rintro e w1 ⟨rfl, rfl⟩
        go_wp2_with fail
        refine HX.out.mono ?_
        rintro e w1 ⟨f, ok, rfl, hok, rfl⟩
        cases ok with
        | true =>
          have := hok rfl
          subst this
          go_wp2
          go_returns
          exact ⟨_, rfl, .inl rfl, Below.refl _ _⟩
        | false =>
          clear hok
          go_wp2_with fail
          refine HP.out.mono ?_
          rintro e w1 ⟨ev, rfl, hev, hb⟩
          go_wp2
          go_returns
          exact ⟨_, rfl, hev, hb⟩
end Go.Proofs.YthhlhiighgnkmaaGreatDoor
/-! ## WALKS: the code's rounded on a point, digits and an exponent: the double next to the decimal number. -/
namespace Go.Proofs.YthhlhiighgnkmaaGreatDoor
set_option linter.unusedVariables false
open Go.RowKit Go.PlainAid
/-- a point, digits, an exponent with its sign -/
def ptX (ds : List Nat) (E : Int) : List Nat := ptE ds (decide (E < 0)) E.natAbs
theorem mantF_zero {ds : List Nat} (h : Nr.truncF ds = false) : (Nr.mantF ds = 0 ↔ Nr.dv 0 ds = 0) := by
  rw [Nr.dv_whole ds h]
  constructor
  · intro e; rw [e, Nat.zero_mul]
  · intro e
    rcases Nat.mul_eq_zero.1 e with e | e
    · exact e
    · exact absurd e (Nat.pos_iff_ne_zero.1 (Nat.pow_pos (by decide)))
theorem decR_kept {ds : List Nat} {E : Int} (h : Nr.truncF ds = false) : decR (Nr.mantF ds) (if Nr.mantF ds = 0 then 0 else E - Nr.lead ds - Nr.ndMF ds) = decR (Nr.dv 0 ds) (E - ds.length) := by
  unfold decR
  by_cases h0 : Nr.mantF ds = 0
  · rw [if_pos h0, if_pos ((mantF_zero h).1 h0)]
  · rw [if_neg h0, if_neg h0, if_neg (fun e => h0 ((mantF_zero h).2 e)), Nr.dec_kept ds E h]
theorem parsed_any (ds : List Nat) (E : Int) (hd : Nr.Digs ds) (hl1 : 1 ≤ ds.length) (hl2 : ds.length ≤ 2000) (hE : E.natAbs < 100000) (ht : Nr.truncF ds = false) (a o cap : Nat) (w : World) (F : PowF w a o cap) (T : PTab w) (hS : 18 ≤ w.heap.size) (hR : ErrR w) :
    Calls Tryz.prog 175 #[.string (strOf (ptX ds E))] w fun e w' => e = .returned (.int .u64 (decR (Nr.dv 0 ds) (E - ds.length) : Int)) ∧ Below w.heap.size w w' := by
  have hm : Nr.mantF ds < 10 ^ 19 := Nat.lt_of_lt_of_le (Nr.mantF_lt ds hd) (Nat.pow_le_pow_right (by decide) (Nr.ndMF_le ds))
  have hlen : ∀ b, (ptE ds b E.natAbs).length ≤ 3000 := by
    intro b
    have := decN_len 4 E.natAbs (by omega)
    unfold ptE itT
    cases b <;> simp <;> omega
  have hsz : ∀ b, (strOf (ptE ds b E.natAbs)).size = (ptE ds b E.natAbs).length := fun b => strOf_size _
  have h46 : ∀ b, bt (strOf (ptE ds b E.natAbs)) 0 = 46 := fun b => rfl
  have hpos : ∀ b, 1 ≤ (ptE ds b E.natAbs).length := fun b => by unfold ptE; simp
  refine rounded_any _ (by unfold ptX; rw [hsz]; have := hlen (decide (E < 0)); omega) _ w hR ?_
  unfold ptX
  rw [hsz, ← decR_kept ht]
  refine atof_any _ _ _ _ hm (fun w => special_any _ (by rw [hsz]; exact hpos _) (h46 _) w) ?_ a o cap w F T hS
  intro w
  by_cases hn : E < 0
  · rw [decide_eq_true hn]
    have h := readfloat_neg ds E.natAbs hd hl1 hl2 hE w
    rw [ht, show -(E.natAbs : Int) = E by omega] at h
    exact h
  · rw [decide_eq_false hn]
    have h := readfloat_any ds E.natAbs hd hl1 hl2 hE w
    rw [ht, show (E.natAbs : Int) = E by omega] at h
    exact h
end Go.Proofs.YthhlhiighgnkmaaGreatDoor
/-! ## WALKS: the reader's sign and its exponent, where both are there. -/
namespace Go.Proofs.YthhlhiighgnkmaaGreatDoor
set_option linter.unusedVariables false
set_option linter.unusedSimpArgs false
open Go.RowKit Go.PlainAid
open Go.Lib in
theorem uint10_dec (ds : List Nat) (hd : ∀ c ∈ ds, dig c = true) : ∀ acc, decV acc ds < 1000000000000000 → parseUint10 acc (ds.map UInt8.ofNat) = .ok (decV acc ds) := by
  induction ds with
  | nil => intro acc h; rw [decV_nil, List.map_nil, parseUint10]
  | cons c ds ih =>
    intro acc h
    have hc := dig_lt (hd c (List.mem_cons_self ..))
    have hu : (UInt8.ofNat c).toNat = c := u8_small (by omega)
    rw [decV_cons] at h
    have hge := decV_ge (10 * acc + (c - 48)) ds
    have hih := ih (fun x hx => hd x (List.mem_cons_of_mem _ hx)) (10 * acc + (c - 48)) h
    rw [decV_cons, List.map_cons, parseUint10, hu, if_pos hc, if_neg (by omega), if_neg (by omega), Nat.mul_comm acc 10]
    exact hih
theorem atoi_dec {ds : List Nat} (hne : ds ≠ []) (hd : ∀ c ∈ ds, dig c = true) (h : decV 0 ds < 1000000000000000) : Lib.atoiAll (strOf ds).data.toList = .ok (decV 0 ds : Int) := by
  have e : (strOf ds).data.toList = ds.map UInt8.ofNat := rfl
  rw [e]
  cases ds with
  | nil => exact absurd rfl hne
  | cons c r =>
    have hc := dig_lt (hd c (List.mem_cons_self ..))
    have hu : (UInt8.ofNat c).toNat = c := u8_small (by omega)
    have hm := uint10_dec (c :: r) hd 0 h
    have hp : Lib.parseMag ((c :: r).map UInt8.ofNat) = .ok (decV 0 (c :: r)) := by
      unfold Lib.parseMag
      rw [if_neg (by simp)]
      exact hm
    rw [List.map_cons] at hp ⊢
    unfold Lib.atoiAll
    have h45 : ¬ c = 45 := by omega
    simp only [hu, show ¬ (c = 43 ∨ c = 45) by omega, if_false]
    rw [hp]
    simp only [h45, not_false_eq_true, true_and, false_and, if_false]
    rw [if_neg (by omega)]
set_option maxRecDepth 100000 in
theorem sign_minus (R : Nat) (bs : List Nat) (p : Nat) (hB : IsB bs) (hl : bs.length ≤ 200000) (hc : bs[p]? = some 45) (w : World) (H : Rd w R bs p) : Calls Tryz.prog 81 #[.pointer (some ⟨R, 0, none⟩)] w fun e w' => e = .returned (.bool true) ∧ Only [R] w w' ∧ Rd w' R bs (p + 1) := by
  have C1 := Lib.hid (fun w (H : Rd w R bs p) => skip_yes R bs p 45 { data := #[45] } 0 hB hl hc (by decide +kernel) w H)
  have HR := Lib.hid H
  clear H hc
  go_enter Tryz.func81, Tryz.ntmps81
  go_wp2_with fail
  refine (C1.out _ HR.out).mono ?_
  rintro e w1 ⟨rfl, ho, hr⟩
  have O1 := Lib.hid ho
  have R1 := Lib.hid hr
  clear ho hr
  go_wp2
  go_ret
  exact ⟨rfl, O1.out, R1.out⟩
set_option maxRecDepth 100000 in
theorem sign_plus (R : Nat) (bs : List Nat) (p : Nat) (hB : IsB bs) (hl : bs.length ≤ 200000) (hc : bs[p]? = some 43) (w : World) (H : Rd w R bs p) : Calls Tryz.prog 81 #[.pointer (some ⟨R, 0, none⟩)] w fun e w' => e = .returned (.bool false) ∧ Only [R] w w' ∧ Rd w' R bs (p + 1) := by
  have C1 := Lib.hid (fun w (H : Rd w R bs p) => skip_no R bs p 43 { data := #[45] } hB hl hc (by decide +kernel) w H)
  have C2 := Lib.hid (fun w (H : Rd w R bs p) => skip_yes R bs p 43 { data := #[43] } 0 hB hl hc (by decide +kernel) w H)
  have HR := Lib.hid H
  clear H hc
  go_enter Tryz.func81, Tryz.ntmps81
  go_wp2_with fail
  refine (C1.out _ HR.out).mono ?_
  rintro e w1 ⟨rfl, m1, rfl⟩
  go_wp2_with fail
  refine (C2.out (w.drewN m1) HR.out).mono ?_
  rintro e w1 ⟨rfl, ho, hr⟩
  have O1 := Lib.hid (((Only.refl [R] w).drewN m1).trans ho (fun x hx => .inl hx))
  have R1 := Lib.hid hr
  clear ho hr
  go_wp2
  go_ret
  exact ⟨rfl, O1.out, R1.out⟩
set_option maxRecDepth 100000 in
theorem sign_none (R : Nat) (bs : List Nat) (p c : Nat) (hB : IsB bs) (hl : bs.length ≤ 200000) (hc : bs[p]? = some c) (h1 : c ≠ 45) (h2 : c ≠ 43) (w : World) (H : Rd w R bs p) : Calls Tryz.prog 81 #[.pointer (some ⟨R, 0, none⟩)] w fun e w' => e = .returned (.bool false) ∧ ∃ m, w' = w.drewN m := by
  have hc8 := at_isB hB hc
  have i1 : Lib.indexByte ({ data := #[45] } : ByteArray).data.toList c.toUInt8 = -1 := by
    have : ∀ x : Fin 256, x.val ≠ 45 → Lib.indexByte ({ data := #[45] } : ByteArray).data.toList x.val.toUInt8 = -1 := by decide +kernel
    exact this ⟨c, hc8⟩ h1
  have i2 : Lib.indexByte ({ data := #[43] } : ByteArray).data.toList c.toUInt8 = -1 := by
    have : ∀ x : Fin 256, x.val ≠ 43 → Lib.indexByte ({ data := #[43] } : ByteArray).data.toList x.val.toUInt8 = -1 := by decide +kernel
    exact this ⟨c, hc8⟩ h2
  have C1 := Lib.hid (fun w (H : Rd w R bs p) => skip_no R bs p c { data := #[45] } hB hl hc i1 w H)
  have C2 := Lib.hid (fun w (H : Rd w R bs p) => skip_no R bs p c { data := #[43] } hB hl hc i2 w H)
  have HR := Lib.hid H
  clear H hc i1 i2
  go_enter Tryz.func81, Tryz.ntmps81
  go_wp2_with fail
  refine (C1.out _ HR.out).mono ?_
  rintro e w1 ⟨rfl, m1, rfl⟩
  go_wp2_with fail
  refine (C2.out (w.drewN m1) HR.out).mono ?_
  rintro e w1 ⟨rfl, m2, rfl⟩
  go_wp2
  go_ret
  exact ⟨rfl, m1 + m2, rfl⟩
set_option maxRecDepth 100000 in
theorem exponent_any (R : Nat) (bs : List Nat) (p n : Nat) (neg : Bool) (ds : List Nat) (hB : IsB bs) (hl : bs.length ≤ 200000) (hc : bs[p]? = some (if neg then 45 else 43)) (hlen : ds.length = n) (hn : 1 ≤ n) (hp : p + 1 + n ≤ bs.length) (hds : ∀ k c, ds[k]? = some c → bs[p + 1 + k]? = some c ∧ dig c = true) (hend : ∀ c, bs[p + 1 + n]? = some c → dig c = false) (hv : decV 0 ds ≤ 10000) (w : World) (H : Rd w R bs p) :
    Calls Tryz.prog 176 #[.pointer (some ⟨R, 0, none⟩)] w fun e w' => e = .returned (.tuple #[.int .i64 (if neg then -(decV 0 ds : Int) else (decV 0 ds : Int)), .nilIface]) ∧ Only [R] w w' ∧ Rd w' R bs (p + 1 + n) := by
  have CS : Hid (Calls Tryz.prog 81 #[.pointer (some ⟨R, 0, none⟩)] w fun e w' => e = .returned (.bool neg) ∧ Only [R] w w' ∧ Rd w' R bs (p + 1)) := by
    cases neg with
    | true => exact Lib.hid (sign_minus R bs p hB hl hc w H)
    | false => exact Lib.hid (sign_plus R bs p hB hl hc w H)
  have CR := Lib.hid (fun w H => run_dig R bs (p + 1) n ds hB hl hlen hp hds hend w H)
  have hne0 : ds ≠ [] := fun e => by rw [e] at hlen; simp at hlen; omega
  have hdd : ∀ c ∈ ds, dig c = true := fun c hc => by
    obtain ⟨k, hk⟩ := List.getElem?_of_mem hc
    exact (hds k c hk).2
  have CP := Lib.hid (fun w => Tryz.strconv_Atoi_ok (strOf ds) (by rw [strOf_size]; omega) (decV 0 ds : Int) (atoi_dec hne0 hdd (by omega)) w)
  have hne : (strOf ds).toList.isEmpty = false := by
    rw [toList_strOf]
    cases ds with
    | nil => simp at hlen; omega
    | cons c ds => rfl
  obtain ⟨S, hS⟩ : ∃ S, strOf ds = S := ⟨_, rfl⟩
  rw [hS] at CR CP hne
  obtain ⟨V, hV⟩ : ∃ V, decV 0 ds = V := ⟨_, rfl⟩
  rw [hV] at CP hv ⊢
  have v1 : decide ((10000 : Int) < (V : Int)) = false := decide_eq_false (by omega)
  have v2 : decide (10000 < V) = false := decide_eq_false (by omega)
  have v3 : IntKind.i64.wrap (-(V : Int)) = -(V : Int) := by rw [IntKind.wrap_i64]; omega
  clear hds hend hS H hc hdd hne0 hV
  cases neg with
  | true =>
    rw [if_pos rfl]
    go_enter Tryz.func176, Tryz.ntmps176
    go_wp2_with fail
    refine CS.out.mono ?_
    rintro e w1 ⟨rfl, ho, hr⟩
    have O1 := Lib.hid ho
    have R1 := Lib.hid hr
    clear ho hr
    go_wp2_with fail
    refine (CR.out _ R1.out).mono ?_
    rintro e w2 ⟨rfl, ho, hr⟩
    have O2 := Lib.hid (O1.out.trans ho (fun x hx => .inl hx))
    have R2 := Lib.hid hr
    clear ho hr
    go_wp2_with fail
    refine (CP.out _).mono ?_
    rintro e w3 ⟨rfl, hw⟩
    have O3 := Lib.hid (show Only [R] w w3 ∧ Rd w3 R bs (p + 1 + n) by
      rcases hw with rfl | ⟨t, rfl⟩
      · exact ⟨O2.out, R2.out⟩
      · exact ⟨O2.out.trans (Only.of_below (Lib.bytesWorld_below w2 5 t) [R]) (fun x hx => .inl hx), R2.out.stay (Lib.bytesWorld_below w2 5 t)⟩)
    clear hw
    go_wp2
    go_ret2
    exact ⟨rfl, O3.out.1, O3.out.2⟩
  | false =>
    rw [if_neg (by decide)]
    go_enter Tryz.func176, Tryz.ntmps176
    go_wp2_with fail
    refine CS.out.mono ?_
    rintro e w1 ⟨rfl, ho, hr⟩
    have O1 := Lib.hid ho
    have R1 := Lib.hid hr
    clear ho hr
    go_wp2_with fail
    refine (CR.out _ R1.out).mono ?_
    rintro e w2 ⟨rfl, ho, hr⟩
    have O2 := Lib.hid (O1.out.trans ho (fun x hx => .inl hx))
    have R2 := Lib.hid hr
    clear ho hr
    go_wp2_with fail
    refine (CP.out _).mono ?_
    rintro e w3 ⟨rfl, hw⟩
    have O3 := Lib.hid (show Only [R] w w3 ∧ Rd w3 R bs (p + 1 + n) by
      rcases hw with rfl | ⟨t, rfl⟩
      · exact ⟨O2.out, R2.out⟩
      · exact ⟨O2.out.trans (Only.of_below (Lib.bytesWorld_below w2 5 t) [R]) (fun x hx => .inl hx), R2.out.stay (Lib.bytesWorld_below w2 5 t)⟩)
    clear hw
    go_wp2
    go_ret2
    exact ⟨rfl, O3.out.1, O3.out.2⟩
end Go.Proofs.YthhlhiighgnkmaaGreatDoor
/-! ## WALKS: the reader's decimal number: digits, a point and more of them or not, an exponent or not. -/
namespace Go.Proofs.YthhlhiighgnkmaaGreatDoor
set_option linter.unusedVariables false
set_option linter.unusedSimpArgs false
open Go.RowKit Go.PlainAid
theorem itoa_neg (u : Nat) (hu : 1 ≤ u) : (⟨(Lib.itoa (-(u : Int))).toArray⟩ : ByteArray) = strOf (45 :: decN u) := by
  unfold Lib.itoa strOf
  rw [if_pos (by omega), show (-(u : Int)).natAbs = u by omega, decN_digits u u (Nat.le_refl _)]
  rfl
theorem itoaZ_any (E : Int) (h1 : -1000000 ≤ E) (h2 : E ≤ 1000000) (w : World) (ht : PowT w) : Calls Tryz.prog 111 #[.int .i64 E] w (Gives w (.string (strOf (itT (decide (E < 0)) E.natAbs)))) := by
  by_cases hn : E < 0
  · refine (Tryz.strconv_Itoa E (by omega) (by omega) w ht).mono ?_
    rintro e w' ⟨h1, k, os, rfl⟩
    refine ⟨?_, Lib.below_grow _ w (Nat.le_refl _) k os⟩
    rw [h1, decide_eq_true hn]
    have := itoa_neg E.natAbs (by omega)
    rw [show -(E.natAbs : Int) = E by omega] at this
    rw [this]; rfl
  · have := itoa_any E.natAbs (by omega) w ht
    rw [show (E.natAbs : Int) = E by omega] at this
    rw [decide_eq_false hn]
    exact this
/-- what reading numbers needs of the library's variables -/
structure NumTabs (w : World) (a o cap : Nat) : Prop where
  f : PowF w a o cap
  t : PTab w
  p : PowT w
  r : ErrR w
  s : 18 ≤ w.heap.size
theorem below_only {W0 w w' : World} {R : Nat} (h : Below W0.heap.size W0 w) (ho : Only [R] w w') (hR : W0.heap.size ≤ R) : Below W0.heap.size W0 w' :=
  ⟨ho.os.trans h.os, ho.tape.trans h.tape, ho.output.trans h.output, Nat.le_trans h.size ho.size, fun k hk => (ho.block k (Nat.lt_of_lt_of_le hk h.size) (by simp; omega)).trans (h.block k hk)⟩
theorem NumTabs.stay {w w' : World} {a o cap : Nat} (h : NumTabs w a o cap) (hb : Below w.heap.size w w') : NumTabs w' a o cap :=
  ⟨h.f.stay hb, h.t.below hb (by have := h.s; omega), h.p.below hb, h.r.below hb, Nat.le_trans h.s hb.size⟩
theorem strOf_cat (a b : List Nat) : strOf a ++ strOf b = strOf (a ++ b) := strOf_append a b
set_option maxRecDepth 100000 in
set_option maxHeartbeats 4000000 in
theorem decimal_pe (R : Nat) (bs : List Nat) (p n : Nat) (W : List Nat) (F : List Nat) (m : Nat) (neg : Bool) (X : List Nat) (x : Nat) (hB : IsB bs) (hl : bs.length ≤ 1000) (hW : W.length = n) (hn : 1 ≤ n) (hds : ∀ k c, W[k]? = some c → bs[p + k]? = some c ∧ dig c = true) (hpt : bs[p + n]? = some 46) (hF : F.length = m) (hfs : ∀ k c, F[k]? = some c → bs[p + n + 1 + k]? = some c ∧ dig c = true) (hex : bs[p + n + 1 + m]? = some 101) (hsg : bs[p + n + 1 + m + 1]? = some (if neg then 45 else 43)) (hX : X.length = x) (hx : 1 ≤ x) (hxs : ∀ k c, X[k]? = some c → bs[p + n + 1 + m + 1 + 1 + k]? = some c ∧ dig c = true) (hv : decV 0 X ≤ 10000) (hend : p + n + 1 + m + 1 + 1 + x = bs.length) (ht : Nr.truncF (W ++ F) = false) (a o cap : Nat) (W0 w : World) (T : NumTabs W0 a o cap) (hb0 : Below W0.heap.size W0 w) (hR : W0.heap.size ≤ R) (H : Rd w R bs p) :
    Calls Tryz.prog 134 #[.pointer (some ⟨R, 0, none⟩)] w fun e w' => e = .returned (.tuple #[.int .u64 (decR (Nr.dv 0 (W ++ F)) ((if neg then -(decV 0 X : Int) else (decV 0 X : Int)) + (n : Int) - ((W ++ F).length : Int)) : Int), .nilIface]) ∧ Only [R] w w' ∧ Rd w' R bs bs.length := by
  have hdW : ∀ c ∈ W, dig c = true := fun c hc => by obtain ⟨k, hk⟩ := List.getElem?_of_mem hc; exact (hds k c hk).2
  have hdF : ∀ c ∈ F, dig c = true := fun c hc => by obtain ⟨k, hk⟩ := List.getElem?_of_mem hc; exact (hfs k c hk).2
  have hD : Nr.Digs (W ++ F) := fun c hc => by rcases List.mem_append.1 hc with h | h; exact dig_lt (hdW c h); exact dig_lt (hdF c h)
  have hDl : (W ++ F).length ≤ 2000 := by rw [List.length_append]; omega
  have hDl1 : 1 ≤ (W ++ F).length := by rw [List.length_append]; omega
  have CR0 := Lib.hid (fun w H => run_dig R bs p n W hB (by omega) hW (by omega) hds (fun c hc => by rw [hpt] at hc; cases hc; rfl) w H)
  have CS1 := Lib.hid (fun w H => skip_yes R bs (p + n) 46 { data := #[46] } 0 hB (by omega) hpt (by decide +kernel) w H)
  have CR1 := Lib.hid (fun w H => run_dig R bs (p + n + 1) m F hB (by omega) hF (by omega) hfs (fun c hc => by rw [hex] at hc; cases hc; rfl) w H)
  have CS2 := Lib.hid (fun w H => skip_yes R bs (p + n + 1 + m) 101 { data := #[101, 69] } 0 hB (by omega) hex (by decide +kernel) w H)
  have CX := Lib.hid (fun w H => exponent_any R bs (p + n + 1 + m + 1) x neg X hB (by omega) hsg hX hx (by omega) hxs (fun c hc => by rw [hend, List.getElem?_eq_none (Nat.le_refl _)] at hc; cases hc) hv w H)
  have hEv : -10000 ≤ (if neg then -(decV 0 X : Int) else (decV 0 X : Int)) ∧ (if neg then -(decV 0 X : Int) else (decV 0 X : Int)) ≤ 10000 := by cases neg <;> simp <;> omega
  obtain ⟨E, hE⟩ : ∃ E : Int, (if neg then -(decV 0 X : Int) else (decV 0 X : Int)) = E := ⟨_, rfl⟩
  rw [hE] at hEv CX ⊢
  have CI := Lib.hid (fun w ht => itoaZ_any (E + (n : Int)) (by omega) (by omega) w ht)
  have CP := Lib.hid (fun w (T : NumTabs w a o cap) => parsed_any (W ++ F) (E + (n : Int)) hD hDl1 hDl (by omega) ht a o cap w T.f T.t T.s T.r)
  have e1 : IntKind.i64.wrap (E + (n : Int)) = E + (n : Int) := by rw [IntKind.wrap_i64]; omega
  obtain ⟨I, hI⟩ : ∃ I, itT (decide (E + (n : Int) < 0)) (E + (n : Int)).natAbs = I := ⟨_, rfl⟩
  have hIl : I.length ≤ 10 := by
    have := decN_len 4 (E + (n : Int)).natAbs (by omega)
    rw [← hI]; unfold itT; split <;> simp <;> omega
  have HQ : ((({ data := #[46] } ++ strOf W) ++ strOf F) ++ { data := #[101] }) ++ strOf I = strOf (ptX (W ++ F) (E + (n : Int))) := by
    rw [show (ByteArray.mk #[46]) = strOf [46] from rfl, show (ByteArray.mk #[101]) = strOf [101] from rfl, strOf_cat, strOf_cat, strOf_cat, strOf_cat, ← hI]; congr 1; unfold ptX ptE; simp
  rw [hI] at CI
  rw [← HQ] at CP
  have sW := strOf_size W
  rw [hW] at sW
  have sF := strOf_size F
  rw [hF] at sF
  have sI := strOf_size I
  have he : (strOf W ++ strOf F).toList.isEmpty = false := by rw [strOf_cat, toList_strOf]; cases W with | nil => simp at hW; omega | cons c r => rfl
  have hF2 : m ≤ 1000 := by omega
  have hn2 : n ≤ 1000 := by omega
  obtain ⟨V, hV⟩ : ∃ V, decR (Nr.dv 0 (W ++ F)) (E + (n : Int) - ((W ++ F).length : Int)) = V := ⟨_, rfl⟩
  rw [hV] at CP ⊢
  obtain ⟨SW, hSW⟩ : ∃ S, strOf W = S := ⟨_, rfl⟩
  rw [hSW] at CR0 CP sW he
  obtain ⟨SF, hSF⟩ : ∃ S, strOf F = S := ⟨_, rfl⟩
  rw [hSF] at CR1 CP sF he
  obtain ⟨SI, hSI⟩ : ∃ S, strOf I = S := ⟨_, rfl⟩
  rw [hSI] at CI CP sI
  have HH := Lib.hid H
  have TT := Lib.hid T
  have HB0 := Lib.hid hb0
  have hRB := Lib.hid hR
  have HEnd := Lib.hid hend
  clear hdW hD hDl hDl1 HQ hI hV hSW hSI H T hb0 hR hend hds hB ht hdF hSF hfs hpt hex hsg hxs hE hv
  go_enter Tryz.func134, Tryz.ntmps134
  go_wp2_with fail
  refine (CR0.out _ HH.out).mono ?_
  rintro e w1 ⟨rfl, ho, hr⟩
  have O1 := Lib.hid ho
  have R1 := Lib.hid hr
  clear ho hr
  go_wp2_with fail
  refine (CS1.out _ R1.out).mono ?_
  rintro e w2 ⟨rfl, ho, hr⟩
  have O2 := Lib.hid (O1.out.trans ho (fun x hx => .inl hx))
  have R2 := Lib.hid hr
  clear ho hr
  go_wp2_with fail
  refine (CR1.out _ R2.out).mono ?_
  rintro e w3 ⟨rfl, ho, hr⟩
  have O3 := Lib.hid (O2.out.trans ho (fun x hx => .inl hx))
  have R3 := Lib.hid hr
  clear ho hr
  go_wp2_with fail
  refine (CS2.out _ R3.out).mono ?_
  rintro e w4 ⟨rfl, ho, hr⟩
  have O4 := Lib.hid (O3.out.trans ho (fun x hx => .inl hx))
  have R4 := Lib.hid hr
  clear ho hr
  go_wp2_with fail
  refine (CX.out _ R4.out).mono ?_
  rintro e w5 ⟨rfl, ho, hr⟩
  have O5 := Lib.hid (O4.out.trans ho (fun x hx => .inl hx))
  have R5 := Lib.hid hr
  clear ho hr
  have B0 := Lib.hid (below_only HB0.out O5.out hRB.out)
  have T1 := Lib.hid (TT.out.stay B0.out)
  go_wp2_with fail
  refine (CI.out w5 T1.out.p).mono ?_
  rintro e v1 ⟨rfl, hb⟩
  have T2 := Lib.hid (T1.out.stay hb)
  have V1 := Lib.hid hb
  clear hb
  go_wp2_with fail
  refine (CP.out v1 T2.out).mono ?_
  rintro e v2 ⟨rfl, hb⟩
  have V2 := Lib.hid (V1.out.trans (hb.mono V1.out.size))
  clear hb
  go_wp2
  go_ret2
  refine ⟨rfl, O5.out.trans (Only.of_below V2.out [R]) (fun x hx => .inl hx), ?_⟩
  rw [← HEnd.out]
  exact R5.out.stay V2.out
set_option maxRecDepth 100000 in
set_option maxHeartbeats 4000000 in
theorem decimal_pn (R : Nat) (bs : List Nat) (p n : Nat) (W : List Nat) (F : List Nat) (m : Nat) (hB : IsB bs) (hl : bs.length ≤ 1000) (hW : W.length = n) (hn : 1 ≤ n) (hds : ∀ k c, W[k]? = some c → bs[p + k]? = some c ∧ dig c = true) (hpt : bs[p + n]? = some 46) (hF : F.length = m) (hfs : ∀ k c, F[k]? = some c → bs[p + n + 1 + k]? = some c ∧ dig c = true) (hend : p + n + 1 + m = bs.length) (ht : Nr.truncF (W ++ F) = false) (a o cap : Nat) (W0 w : World) (T : NumTabs W0 a o cap) (hb0 : Below W0.heap.size W0 w) (hR : W0.heap.size ≤ R) (H : Rd w R bs p) :
    Calls Tryz.prog 134 #[.pointer (some ⟨R, 0, none⟩)] w fun e w' => e = .returned (.tuple #[.int .u64 (decR (Nr.dv 0 (W ++ F)) ((n : Int) - ((W ++ F).length : Int)) : Int), .nilIface]) ∧ Only [R] w w' ∧ Rd w' R bs bs.length := by
  have hdW : ∀ c ∈ W, dig c = true := fun c hc => by obtain ⟨k, hk⟩ := List.getElem?_of_mem hc; exact (hds k c hk).2
  have hdF : ∀ c ∈ F, dig c = true := fun c hc => by obtain ⟨k, hk⟩ := List.getElem?_of_mem hc; exact (hfs k c hk).2
  have hD : Nr.Digs (W ++ F) := fun c hc => by rcases List.mem_append.1 hc with h | h; exact dig_lt (hdW c h); exact dig_lt (hdF c h)
  have hDl : (W ++ F).length ≤ 2000 := by rw [List.length_append]; omega
  have hDl1 : 1 ≤ (W ++ F).length := by rw [List.length_append]; omega
  have CR0 := Lib.hid (fun w H => run_dig R bs p n W hB (by omega) hW (by omega) hds (fun c hc => by rw [hpt] at hc; cases hc; rfl) w H)
  have CS1 := Lib.hid (fun w H => skip_yes R bs (p + n) 46 { data := #[46] } 0 hB (by omega) hpt (by decide +kernel) w H)
  have CR1 := Lib.hid (fun w H => run_dig R bs (p + n + 1) m F hB (by omega) hF (by omega) hfs (fun c hc => by rw [hend, List.getElem?_eq_none (Nat.le_refl _)] at hc; cases hc) w H)
  have CS2 := Lib.hid (fun w H => skip_end R bs (p + n + 1 + m) { data := #[101, 69] } hend w H)
  have CI := Lib.hid (fun w ht => itoaZ_any ((n : Int)) (by omega) (by omega) w ht)
  have CP := Lib.hid (fun w (T : NumTabs w a o cap) => parsed_any (W ++ F) ((n : Int)) hD hDl1 hDl (by omega) ht a o cap w T.f T.t T.s T.r)
  have e1 : IntKind.i64.wrap ((n : Int)) = (n : Int) := by rw [IntKind.wrap_i64]; omega
  obtain ⟨I, hI⟩ : ∃ I, itT (decide ((n : Int) < 0)) ((n : Int)).natAbs = I := ⟨_, rfl⟩
  have hIl : I.length ≤ 10 := by
    have := decN_len 4 ((n : Int)).natAbs (by omega)
    rw [Int.natAbs_natCast] at this
    rw [← hI]; unfold itT; split <;> simp <;> omega
  have HQ : ((({ data := #[46] } ++ strOf W) ++ strOf F) ++ { data := #[101] }) ++ strOf I = strOf (ptX (W ++ F) ((n : Int))) := by
    rw [show (ByteArray.mk #[46]) = strOf [46] from rfl, show (ByteArray.mk #[101]) = strOf [101] from rfl, strOf_cat, strOf_cat, strOf_cat, strOf_cat, ← hI]; congr 1; unfold ptX ptE; simp
  rw [hI] at CI
  rw [← HQ] at CP
  have sW := strOf_size W
  rw [hW] at sW
  have sF := strOf_size F
  rw [hF] at sF
  have sI := strOf_size I
  have he : (strOf W ++ strOf F).toList.isEmpty = false := by rw [strOf_cat, toList_strOf]; cases W with | nil => simp at hW; omega | cons c r => rfl
  have hF2 : m ≤ 1000 := by omega
  have hn2 : n ≤ 1000 := by omega
  obtain ⟨V, hV⟩ : ∃ V, decR (Nr.dv 0 (W ++ F)) ((n : Int) - ((W ++ F).length : Int)) = V := ⟨_, rfl⟩
  rw [hV] at CP ⊢
  obtain ⟨SW, hSW⟩ : ∃ S, strOf W = S := ⟨_, rfl⟩
  rw [hSW] at CR0 CP sW he
  obtain ⟨SF, hSF⟩ : ∃ S, strOf F = S := ⟨_, rfl⟩
  rw [hSF] at CR1 CP sF he
  obtain ⟨SI, hSI⟩ : ∃ S, strOf I = S := ⟨_, rfl⟩
  rw [hSI] at CI CP sI
  have HH := Lib.hid H
  have TT := Lib.hid T
  have HB0 := Lib.hid hb0
  have hRB := Lib.hid hR
  have HEnd := Lib.hid hend
  clear hdW hD hDl hDl1 HQ hI hV hSW hSI H T hb0 hR hend hds hB ht hdF hSF hfs hpt
  go_enter Tryz.func134, Tryz.ntmps134
  go_wp2_with fail
  refine (CR0.out _ HH.out).mono ?_
  rintro e w1 ⟨rfl, ho, hr⟩
  have O1 := Lib.hid ho
  have R1 := Lib.hid hr
  clear ho hr
  go_wp2_with fail
  refine (CS1.out _ R1.out).mono ?_
  rintro e w2 ⟨rfl, ho, hr⟩
  have O2 := Lib.hid (O1.out.trans ho (fun x hx => .inl hx))
  have R2 := Lib.hid hr
  clear ho hr
  go_wp2_with fail
  refine (CR1.out _ R2.out).mono ?_
  rintro e w3 ⟨rfl, ho, hr⟩
  have O3 := Lib.hid (O2.out.trans ho (fun x hx => .inl hx))
  have R3 := Lib.hid hr
  clear ho hr
  go_wp2_with fail
  refine (CS2.out w3 R3.out).mono ?_
  rintro e w4 ⟨rfl, m4, rfl⟩
  have O4 := Lib.hid (show Only [R] w (w3.drewN m4) from O3.out.drewN _)
  have R4 : Hid (Rd (w3.drewN m4) R bs _) := Lib.hid R3.out
  have B0 := Lib.hid (below_only HB0.out O4.out hRB.out)
  have T1 := Lib.hid (TT.out.stay B0.out)
  go_wp2_with fail
  refine (CI.out (w3.drewN m4) T1.out.p).mono ?_
  rintro e v1 ⟨rfl, hb⟩
  have T2 := Lib.hid (T1.out.stay hb)
  have V1 := Lib.hid hb
  clear hb
  go_wp2_with fail
  refine (CP.out v1 T2.out).mono ?_
  rintro e v2 ⟨rfl, hb⟩
  have V2 := Lib.hid (V1.out.trans (hb.mono V1.out.size))
  clear hb
  go_wp2
  go_ret2
  refine ⟨rfl, O4.out.trans (Only.of_below V2.out [R]) (fun x hx => .inl hx), ?_⟩
  rw [← HEnd.out]
  exact R4.out.stay V2.out
set_option maxRecDepth 100000 in
set_option maxHeartbeats 4000000 in
theorem decimal_ne (R : Nat) (bs : List Nat) (p n : Nat) (W : List Nat) (neg : Bool) (X : List Nat) (x : Nat) (hB : IsB bs) (hl : bs.length ≤ 1000) (hW : W.length = n) (hn : 1 ≤ n) (hds : ∀ k c, W[k]? = some c → bs[p + k]? = some c ∧ dig c = true) (hex : bs[p + n]? = some 101) (hsg : bs[p + n + 1]? = some (if neg then 45 else 43)) (hX : X.length = x) (hx : 1 ≤ x) (hxs : ∀ k c, X[k]? = some c → bs[p + n + 1 + 1 + k]? = some c ∧ dig c = true) (hv : decV 0 X ≤ 10000) (hend : p + n + 1 + 1 + x = bs.length) (ht : Nr.truncF W = false) (a o cap : Nat) (W0 w : World) (T : NumTabs W0 a o cap) (hb0 : Below W0.heap.size W0 w) (hR : W0.heap.size ≤ R) (H : Rd w R bs p) :
    Calls Tryz.prog 134 #[.pointer (some ⟨R, 0, none⟩)] w fun e w' => e = .returned (.tuple #[.int .u64 (decR (Nr.dv 0 W) ((if neg then -(decV 0 X : Int) else (decV 0 X : Int)) + (n : Int) - (W.length : Int)) : Int), .nilIface]) ∧ Only [R] w w' ∧ Rd w' R bs bs.length := by
  have hdW : ∀ c ∈ W, dig c = true := fun c hc => by obtain ⟨k, hk⟩ := List.getElem?_of_mem hc; exact (hds k c hk).2
  have hD : Nr.Digs W := fun c hc => dig_lt (hdW c hc)
  have hDl : W.length ≤ 2000 := by omega
  have hDl1 : 1 ≤ W.length := by omega
  have CR0 := Lib.hid (fun w H => run_dig R bs p n W hB (by omega) hW (by omega) hds (fun c hc => by rw [hex] at hc; cases hc; rfl) w H)
  have CS1 := Lib.hid (fun w H => skip_no R bs (p + n) 101 { data := #[46] } hB (by omega) hex (by decide +kernel) w H)
  have CS2 := Lib.hid (fun w H => skip_yes R bs (p + n) 101 { data := #[101, 69] } 0 hB (by omega) hex (by decide +kernel) w H)
  have CX := Lib.hid (fun w H => exponent_any R bs (p + n + 1) x neg X hB (by omega) hsg hX hx (by omega) hxs (fun c hc => by rw [hend, List.getElem?_eq_none (Nat.le_refl _)] at hc; cases hc) hv w H)
  have hEv : -10000 ≤ (if neg then -(decV 0 X : Int) else (decV 0 X : Int)) ∧ (if neg then -(decV 0 X : Int) else (decV 0 X : Int)) ≤ 10000 := by cases neg <;> simp <;> omega
  obtain ⟨E, hE⟩ : ∃ E : Int, (if neg then -(decV 0 X : Int) else (decV 0 X : Int)) = E := ⟨_, rfl⟩
  rw [hE] at hEv CX ⊢
  have CI := Lib.hid (fun w ht => itoaZ_any (E + (n : Int)) (by omega) (by omega) w ht)
  have CP := Lib.hid (fun w (T : NumTabs w a o cap) => parsed_any W (E + (n : Int)) hD hDl1 hDl (by omega) ht a o cap w T.f T.t T.s T.r)
  have e1 : IntKind.i64.wrap (E + (n : Int)) = E + (n : Int) := by rw [IntKind.wrap_i64]; omega
  obtain ⟨I, hI⟩ : ∃ I, itT (decide (E + (n : Int) < 0)) (E + (n : Int)).natAbs = I := ⟨_, rfl⟩
  have hIl : I.length ≤ 10 := by
    have := decN_len 4 (E + (n : Int)).natAbs (by omega)
    rw [← hI]; unfold itT; split <;> simp <;> omega
  have HQ : ((({ data := #[46] } ++ strOf W) ++ { data := #[] }) ++ { data := #[101] }) ++ strOf I = strOf (ptX W (E + (n : Int))) := by
    rw [show (ByteArray.mk #[46]) = strOf [46] from rfl, show (ByteArray.mk #[101]) = strOf [101] from rfl, show (ByteArray.mk #[]) = strOf [] from rfl, strOf_cat, strOf_cat, strOf_cat, strOf_cat, ← hI]; congr 1; unfold ptX ptE; simp
  rw [hI] at CI
  rw [← HQ] at CP
  have sW := strOf_size W
  rw [hW] at sW
  have sI := strOf_size I
  have he : (strOf W ++ { data := #[] }).toList.isEmpty = false := by rw [show (ByteArray.mk #[]) = strOf [] from rfl, strOf_cat, toList_strOf]; cases W with | nil => simp at hW; omega | cons c r => rfl
  have he2 : (strOf W).toList.isEmpty = false := by rw [toList_strOf]; cases W with | nil => simp at hW; omega | cons c r => rfl
  have hn2 : n ≤ 1000 := by omega
  obtain ⟨V, hV⟩ : ∃ V, decR (Nr.dv 0 W) (E + (n : Int) - (W.length : Int)) = V := ⟨_, rfl⟩
  rw [hV] at CP ⊢
  obtain ⟨SW, hSW⟩ : ∃ S, strOf W = S := ⟨_, rfl⟩
  rw [hSW] at CR0 CP sW he he2
  obtain ⟨SI, hSI⟩ : ∃ S, strOf I = S := ⟨_, rfl⟩
  rw [hSI] at CI CP sI
  have HH := Lib.hid H
  have TT := Lib.hid T
  have HB0 := Lib.hid hb0
  have hRB := Lib.hid hR
  have HEnd := Lib.hid hend
  clear hdW hD hDl hDl1 HQ hI hV hSW hSI H T hb0 hR hend hds hB ht hex hsg hxs hE hv
  go_enter Tryz.func134, Tryz.ntmps134
  go_wp2_with fail
  refine (CR0.out _ HH.out).mono ?_
  rintro e w1 ⟨rfl, ho, hr⟩
  have O1 := Lib.hid ho
  have R1 := Lib.hid hr
  clear ho hr
  go_wp2_with fail
  refine (CS1.out w1 R1.out).mono ?_
  rintro e w2 ⟨rfl, m2, rfl⟩
  have O2 := Lib.hid (show Only [R] w (w1.drewN m2) from O1.out.drewN _)
  have R2 : Hid (Rd (w1.drewN m2) R bs _) := Lib.hid R1.out
  go_wp2_with fail
  refine (CS2.out _ R2.out).mono ?_
  rintro e w3 ⟨rfl, ho, hr⟩
  have O3 := Lib.hid (O2.out.trans ho (fun x hx => .inl hx))
  have R3 := Lib.hid hr
  clear ho hr
  go_wp2_with fail
  refine (CX.out _ R3.out).mono ?_
  rintro e w4 ⟨rfl, ho, hr⟩
  have O4 := Lib.hid (O3.out.trans ho (fun x hx => .inl hx))
  have R4 := Lib.hid hr
  clear ho hr
  have B0 := Lib.hid (below_only HB0.out O4.out hRB.out)
  have T1 := Lib.hid (TT.out.stay B0.out)
  go_wp2_with fail
  refine (CI.out w4 T1.out.p).mono ?_
  rintro e v1 ⟨rfl, hb⟩
  have T2 := Lib.hid (T1.out.stay hb)
  have V1 := Lib.hid hb
  clear hb
  go_wp2_with fail
  refine (CP.out v1 T2.out).mono ?_
  rintro e v2 ⟨rfl, hb⟩
  have V2 := Lib.hid (V1.out.trans (hb.mono V1.out.size))
  clear hb
  go_wp2
  go_ret2
  refine ⟨rfl, O4.out.trans (Only.of_below V2.out [R]) (fun x hx => .inl hx), ?_⟩
  rw [← HEnd.out]
  exact R4.out.stay V2.out
set_option maxRecDepth 100000 in
set_option maxHeartbeats 4000000 in
theorem decimal_nn (R : Nat) (bs : List Nat) (p n : Nat) (W : List Nat) (hB : IsB bs) (hl : bs.length ≤ 1000) (hW : W.length = n) (hn : 1 ≤ n) (hds : ∀ k c, W[k]? = some c → bs[p + k]? = some c ∧ dig c = true) (hend : p + n = bs.length) (ht : Nr.truncF W = false) (a o cap : Nat) (W0 w : World) (T : NumTabs W0 a o cap) (hb0 : Below W0.heap.size W0 w) (hR : W0.heap.size ≤ R) (H : Rd w R bs p) :
    Calls Tryz.prog 134 #[.pointer (some ⟨R, 0, none⟩)] w fun e w' => e = .returned (.tuple #[.int .u64 (decR (Nr.dv 0 W) ((n : Int) - (W.length : Int)) : Int), .nilIface]) ∧ Only [R] w w' ∧ Rd w' R bs bs.length := by
  have hdW : ∀ c ∈ W, dig c = true := fun c hc => by obtain ⟨k, hk⟩ := List.getElem?_of_mem hc; exact (hds k c hk).2
  have hD : Nr.Digs W := fun c hc => dig_lt (hdW c hc)
  have hDl : W.length ≤ 2000 := by omega
  have hDl1 : 1 ≤ W.length := by omega
  have CR0 := Lib.hid (fun w H => run_dig R bs p n W hB (by omega) hW (by omega) hds (fun c hc => by rw [hend, List.getElem?_eq_none (Nat.le_refl _)] at hc; cases hc) w H)
  have CS1 := Lib.hid (fun w H => skip_end R bs (p + n) { data := #[46] } hend w H)
  have CS2 := Lib.hid (fun w H => skip_end R bs (p + n) { data := #[101, 69] } hend w H)
  have CI := Lib.hid (fun w ht => itoaZ_any ((n : Int)) (by omega) (by omega) w ht)
  have CP := Lib.hid (fun w (T : NumTabs w a o cap) => parsed_any W ((n : Int)) hD hDl1 hDl (by omega) ht a o cap w T.f T.t T.s T.r)
  have e1 : IntKind.i64.wrap ((n : Int)) = (n : Int) := by rw [IntKind.wrap_i64]; omega
  obtain ⟨I, hI⟩ : ∃ I, itT (decide ((n : Int) < 0)) ((n : Int)).natAbs = I := ⟨_, rfl⟩
  have hIl : I.length ≤ 10 := by
    have := decN_len 4 ((n : Int)).natAbs (by omega)
    rw [Int.natAbs_natCast] at this
    rw [← hI]; unfold itT; split <;> simp <;> omega
  have HQ : ((({ data := #[46] } ++ strOf W) ++ { data := #[] }) ++ { data := #[101] }) ++ strOf I = strOf (ptX W ((n : Int))) := by
    rw [show (ByteArray.mk #[46]) = strOf [46] from rfl, show (ByteArray.mk #[101]) = strOf [101] from rfl, show (ByteArray.mk #[]) = strOf [] from rfl, strOf_cat, strOf_cat, strOf_cat, strOf_cat, ← hI]; congr 1; unfold ptX ptE; simp
  rw [hI] at CI
  rw [← HQ] at CP
  have sW := strOf_size W
  rw [hW] at sW
  have sI := strOf_size I
  have he : (strOf W ++ { data := #[] }).toList.isEmpty = false := by rw [show (ByteArray.mk #[]) = strOf [] from rfl, strOf_cat, toList_strOf]; cases W with | nil => simp at hW; omega | cons c r => rfl
  have he2 : (strOf W).toList.isEmpty = false := by rw [toList_strOf]; cases W with | nil => simp at hW; omega | cons c r => rfl
  have hn2 : n ≤ 1000 := by omega
  obtain ⟨V, hV⟩ : ∃ V, decR (Nr.dv 0 W) ((n : Int) - (W.length : Int)) = V := ⟨_, rfl⟩
  rw [hV] at CP ⊢
  obtain ⟨SW, hSW⟩ : ∃ S, strOf W = S := ⟨_, rfl⟩
  rw [hSW] at CR0 CP sW he he2
  obtain ⟨SI, hSI⟩ : ∃ S, strOf I = S := ⟨_, rfl⟩
  rw [hSI] at CI CP sI
  have HH := Lib.hid H
  have TT := Lib.hid T
  have HB0 := Lib.hid hb0
  have hRB := Lib.hid hR
  have HEnd := Lib.hid hend
  clear hdW hD hDl hDl1 HQ hI hV hSW hSI H T hb0 hR hend hds hB ht
  go_enter Tryz.func134, Tryz.ntmps134
  go_wp2_with fail
  refine (CR0.out _ HH.out).mono ?_
  rintro e w1 ⟨rfl, ho, hr⟩
  have O1 := Lib.hid ho
  have R1 := Lib.hid hr
  clear ho hr
  go_wp2_with fail
  refine (CS1.out w1 R1.out).mono ?_
  rintro e w2 ⟨rfl, m2, rfl⟩
  have O2 := Lib.hid (show Only [R] w (w1.drewN m2) from O1.out.drewN _)
  have R2 : Hid (Rd (w1.drewN m2) R bs _) := Lib.hid R1.out
  go_wp2_with fail
  refine (CS2.out (w1.drewN m2) R2.out).mono ?_
  rintro e w3 ⟨rfl, m3, rfl⟩
  have O3 := Lib.hid (show Only [R] w (w1.drewN (m2 + m3)) from O1.out.drewN _)
  have R3 : Hid (Rd (w1.drewN (m2 + m3)) R bs _) := Lib.hid R1.out
  have B0 := Lib.hid (below_only HB0.out O3.out hRB.out)
  have T1 := Lib.hid (TT.out.stay B0.out)
  go_wp2_with fail
  refine (CI.out (w1.drewN (m2 + m3)) T1.out.p).mono ?_
  rintro e v1 ⟨rfl, hb⟩
  have T2 := Lib.hid (T1.out.stay hb)
  have V1 := Lib.hid hb
  clear hb
  go_wp2_with fail
  refine (CP.out v1 T2.out).mono ?_
  rintro e v2 ⟨rfl, hb⟩
  have V2 := Lib.hid (V1.out.trans (hb.mono V1.out.size))
  clear hb
  go_wp2
  go_ret2
  refine ⟨rfl, O3.out.trans (Only.of_below V2.out [R]) (fun x hx => .inl hx), ?_⟩
  rw [← HEnd.out]
  exact R3.out.stay V2.out
end Go.Proofs.YthhlhiighgnkmaaGreatDoor
