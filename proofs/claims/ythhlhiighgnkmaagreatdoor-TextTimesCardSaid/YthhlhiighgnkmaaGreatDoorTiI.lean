/-
  WALKS: the document's own digits, bounded numbers, units.
-/
import Derived.Test.YthhlhiighgnkmaaGreatDoorTiB
import Derived.Handy
namespace Go.Proofs.YthhlhiighgnkmaaGreatDoor
set_option linter.unusedVariables false
set_option linter.unusedSimpArgs false
open Go.RowKit Go.PlainAid
theorem rdig_any (c : Nat) (hc : c < 256) (w : World) : Calls Tryz.prog 59 #[.int .u8 (c : Int)] w fun e w' => e = .returned (.bool (dig c)) ∧ w' = w := rdigit_any c hc w
set_option maxRecDepth 100000 in
set_option maxHeartbeats 1000000 in
theorem rrun_any (bs : List Nat) (p : Nat) (hB : IsB bs) (hl : bs.length ≤ 30000) (hp : p ≤ bs.length) (w : World) : Calls Tryz.prog 57 #[.string (strOf bs), .int .i64 (p : Int)] w (Gives w (.int .i64 (((digs bs p).length : Nat) : Int))) := by
  have hsz := strOf_size bs
  have hbt := get_bt (strOf bs)
  have HG := Lib.hid (fun (k : Nat) (hk : k < (digs bs p).length) => show ∃ c : Nat, bs[p + k]? = some c ∧ bt (strOf bs) (p + k) = (c : Int) ∧ p + k < bs.length ∧ c < 256 ∧ dig c = true by
    have h1 := List.getElem?_eq_getElem (l := digs bs p) hk
    obtain ⟨h2, h3⟩ := tw_get h1
    obtain ⟨h4, h5⟩ := List.getElem?_eq_some_iff.1 h2
    have h6 := strOf_bt bs hB (p + k) h4
    rw [h5] at h6
    exact ⟨_, h2, h6, h4, at_isB hB h2, h3⟩)
  have HE := Lib.hid (show bs.length ≤ p + (digs bs p).length ∨ ∃ c : Nat, bt (strOf bs) (p + (digs bs p).length) = (c : Int) ∧ p + (digs bs p).length < bs.length ∧ c < 256 ∧ dig c = false by
    cases h : bs[p + (digs bs p).length]? with
    | none => exact .inl (List.getElem?_eq_none_iff.1 h)
    | some c =>
      obtain ⟨h4, h5⟩ := List.getElem?_eq_some_iff.1 h
      have h6 := strOf_bt bs hB _ h4
      rw [h5] at h6
      exact .inr ⟨c, h6, h4, at_isB hB h, tw_end h⟩)
  have hle : p + (digs bs p).length ≤ bs.length := tw_le hp
  obtain ⟨n, hn⟩ : ∃ n, (digs bs p).length = n := ⟨_, rfl⟩
  rw [hn] at HG HE hle ⊢
  obtain ⟨L, hL⟩ : ∃ L, bs.length = L := ⟨_, rfl⟩
  rw [hL] at hsz hl hle HG HE
  clear hn hL hB hp
  go_enter Tryz.func57, Tryz.ntmps57
  go_wp2
  go_loopw [5] (fun i wr => ∃ (k : Nat), k ≤ n ∧ i = .int .i64 k ∧ Hid (Below w.heap.size w wr)) (fun i _ => (n - intOf i).toNat)
  case atStart => exact ⟨0, by omega, rfl, Lib.hid (Below.refl _ _)⟩
  case round =>
    obtain ⟨k, hk, rfl, HBL⟩ := hrel
    have e1 : IntKind.i64.wrap ((p : Int) + (k : Int)) = ((p + k : Nat) : Int) := by rw [IntKind.wrap_i64]; omega
    by_cases hkn : k < n
    · obtain ⟨c, _, hb, hlt, hc, hd⟩ := HG.out k hkn
      have CD := Lib.hid (fun w => rdig_any c hc w)
      rw [hd] at CD
      obtain ⟨q, hq⟩ : ∃ q, p + k = q := ⟨_, rfl⟩
      rw [hq] at e1 hb hlt
      have hi : (q : Int) < (L : Int) := by omega
      have d1 : decide ((q : Int) < (L : Int)) = true := decide_eq_true hi
      have d2 : decide (q < L) = true := decide_eq_true hlt
      clear hd hq hlt
      go_wp2_with fail
      refine (CD.out _).mono ?_
      rintro e w1 ⟨rfl, rfl⟩
      go_wp2
      go_roundw
      case rel => exact ⟨k + 1, by omega, rfl, HBL⟩
      case measure => simp [intOf]; omega
    · obtain rfl : k = n := by omega
      rcases HE.out with hge | ⟨c, hb, hlt, hc, hd⟩
      · obtain ⟨q, hq⟩ : ∃ q, p + k = q := ⟨_, rfl⟩
        rw [hq] at e1 hge
        have d1 : decide ((q : Int) < (L : Int)) = false := decide_eq_false (by omega)
        have d2 : decide (q < L) = false := decide_eq_false (by omega)
        clear hq hge hkn
        go_wp2
        go_ret
        exact ⟨rfl, HBL.out⟩
      · have CD := Lib.hid (fun w => rdig_any c hc w)
        rw [hd] at CD
        obtain ⟨q, hq⟩ : ∃ q, p + k = q := ⟨_, rfl⟩
        rw [hq] at e1 hb hlt
        have hi : (q : Int) < (L : Int) := by omega
        have d1 : decide ((q : Int) < (L : Int)) = true := decide_eq_true hi
        have d2 : decide (q < L) = true := decide_eq_true hlt
        clear hd hq hlt hkn
        go_wp2_with fail
        refine (CD.out _).mono ?_
        rintro e w1 ⟨rfl, rfl⟩
        go_wp2
        go_ret
        exact ⟨rfl, HBL.out⟩
def bndV (V : Nat) : Value := .tuple #[.int .i64 ((if V ≤ 9007199254740992 then V else 0 : Nat) : Int), .bool (decide (V ≤ 9007199254740992))]
set_option maxRecDepth 100000 in
set_option maxHeartbeats 1000000 in
theorem rbounded_any (ds : List Nat) (hd : ∀ c ∈ ds, dig c = true) (hl : ds.length ≤ 30000) (w : World) : Calls Tryz.prog 58 #[.string (strOf ds)] w (Gives w (bndV (decV 0 ds))) := by
  have hsz := strOf_size ds
  have hbt := get_bt (strOf ds)
  have hB : IsB ds := fun c hc => by have := dig_lt (hd c hc); omega
  have HG := Lib.hid (fun (k : Nat) (hk : k < ds.length) => show ∃ c : Nat, bt (strOf ds) k = (c : Int) ∧ 48 ≤ c ∧ c ≤ 57 ∧ ∀ a, decV a (ds.drop k) = decV (10 * a + (c - 48)) (ds.drop (k + 1)) by
    have h6 := strOf_bt ds hB k hk
    have h7 := dig_lt (hd _ (List.getElem_mem hk))
    refine ⟨ds[k], h6, h7.1, h7.2, fun a => ?_⟩
    rw [List.drop_eq_getElem_cons hk, decV_cons])
  have HZ := Lib.hid (show ∀ a, decV a (ds.drop ds.length) = a by intro a; rw [List.drop_length, decV_nil])
  have HGE := Lib.hid (fun a k => decV_ge a (ds.drop k))
  obtain ⟨T, hT⟩ : ∃ T, decV 0 ds = T := ⟨_, rfl⟩
  have HT0 := Lib.hid (show decV 0 (ds.drop 0) = T from hT)
  rw [hT]
  obtain ⟨L, hL⟩ : ∃ L, ds.length = L := ⟨_, rfl⟩
  rw [hL] at hsz hl HG HZ
  clear hL hT hd hB
  go_enter Tryz.func58, Tryz.ntmps58
  go_wp2
  go_loopw [4, 5] (fun n i wr => ∃ (k a : Nat), k ≤ L ∧ i = .int .i64 k ∧ n = .int .i64 ((a : Nat) : Int) ∧ a ≤ 9007199254740992 ∧ Hid (decV a (ds.drop k) = T) ∧ Hid (Below w.heap.size w wr)) (fun _ i _ => (L - intOf i).toNat)
  case atStart => exact ⟨0, 0, by omega, rfl, rfl, by omega, HT0, Lib.hid (Below.refl _ _)⟩
  case round =>
    obtain ⟨k, a, hk, rfl, rfl, ha, HD, HBL⟩ := hrel
    by_cases hkn : k < L
    · obtain ⟨c, hb, h48, h57, hstep⟩ := HG.out k hkn
      have hi : (k : Int) < (L : Int) := by omega
      have d1 : decide ((k : Int) < (L : Int)) = true := decide_eq_true hi
      have d2 : decide (k < L) = true := decide_eq_true hkn
      have hnew := HD.out
      rw [hstep] at hnew
      obtain ⟨dd, hdd⟩ : ∃ d, c - 48 = d := ⟨_, rfl⟩
      have e0 : IntKind.u8.wrap ((c : Int) - 48) = (dd : Int) := by rw [IntKind.wrap_u8]; omega
      have e1 : IntKind.i64.wrap (10 * (a : Int)) = ((10 * a : Nat) : Int) := by rw [IntKind.wrap_i64]; omega
      obtain ⟨m, hm⟩ : ∃ m, 10 * a = m := ⟨_, rfl⟩
      rw [hm] at e1
      have em : (10 * (a : Int)) = (m : Int) := by omega
      have e2 : IntKind.i64.wrap (dd : Int) = (dd : Int) := by rw [IntKind.wrap_i64]; omega
      obtain ⟨t, ht⟩ : ∃ t, m + dd = t := ⟨_, rfl⟩
      have e3 : IntKind.i64.wrap ((m : Int) + (dd : Int)) = (t : Int) := by rw [IntKind.wrap_i64]; omega
      rw [hdd, hm, ht] at hnew
      have HN := Lib.hid hnew
      by_cases hbig : 9007199254740992 < t
      · have g1 : decide ((t : Int) > 9007199254740992) = true := decide_eq_true (by omega)
        have g2 : decide ((9007199254740992 : Int) < (t : Int)) = true := g1
        have g3 : decide (9007199254740992 < t) = true := decide_eq_true hbig
        have HV : Hid (bndV T = .tuple #[.int .i64 0, .bool false]) := Lib.hid (by
          have h1 := HGE.out t (k + 1)
          rw [hnew] at h1
          unfold bndV
          rw [if_neg (by omega), decide_eq_false (by omega)]
          rfl)
        clear hstep hnew hdd hm ht hbig hkn h48 h57
        rw [HV.out] at *
        go_wp2
        go_ret2
        exact ⟨rfl, HBL.out⟩
      · have g1 : decide ((t : Int) > 9007199254740992) = false := decide_eq_false (by omega)
        have g2 : decide ((9007199254740992 : Int) < (t : Int)) = false := g1
        have g3 : decide (9007199254740992 < t) = false := decide_eq_false hbig
        clear hstep hnew hdd hm ht
        go_wp2
        go_roundw
        case rel => exact ⟨k + 1, t, by omega, rfl, rfl, by omega, HN, HBL⟩
        case measure => simp [intOf]; omega
    · obtain rfl : k = L := by omega
      have d1 : decide ((k : Int) < (k : Int)) = false := decide_eq_false (by omega)
      have d2 : decide (k < k) = false := decide_eq_false hkn
      have hTa : T = a := by rw [← HD.out, HZ.out]
      have HV : Hid (bndV T = .tuple #[.int .i64 ((a : Nat) : Int), .bool true]) := Lib.hid (by
        rw [hTa]
        unfold bndV
        rw [if_pos ha, decide_eq_true ha])
      clear hTa hkn
      go_wp2
      go_ret2
      rw [HV.out]
      exact ⟨rfl, HBL.out⟩
theorem unit_beq2 (ns : List Nat) (hB : IsB ns) (i : Nat) (hi : i < 7) : ((strOf ns).toList == (unm i).toList) = decide (unitI ns = i + 1) := by
  rw [← unit_beq ns hB i hi, Bool.eq_iff_iff]
  simp only [beq_iff_eq]
  exact ⟨fun h => h.symm, fun h => h.symm⟩
theorem unit_list (ns : List Nat) (hB : IsB ns) (i : Nat) (hi : i < 7) (l : List UInt8) (hl : (unl i).map UInt8.ofNat = l) : ((strOf ns).toList == l) = decide (unitI ns = i + 1) := by
  rw [← unit_beq2 ns hB i hi, unm_eq, toList_strOf (unl i), hl]
set_option maxHeartbeats 1000000 in
theorem runit_any (ns : List Nat) (hB : IsB ns) (w : World) : Calls Tryz.prog 54 #[.string (strOf ns)] w (Gives w (.tuple #[.int .i64 ((unitMs (unitI ns) : Nat) : Int), .int .i64 ((unitI ns : Nat) : Int)])) := by
  have f0 := unit_list ns hB 0 (by decide) [121] rfl
  have f1 := unit_list ns hB 1 (by decide) [119] rfl
  have f2 := unit_list ns hB 2 (by decide) [100] rfl
  have f3 := unit_list ns hB 3 (by decide) [104] rfl
  have f4 := unit_list ns hB 4 (by decide) [109] rfl
  have f5 := unit_list ns hB 5 (by decide) [115] rfl
  have f6 := unit_list ns hB 6 (by decide) [109, 115] rfl
  have hk := unitI_le ns
  obtain ⟨S, hS⟩ : ∃ S, strOf ns = S := ⟨_, rfl⟩
  obtain ⟨k, hk2⟩ : ∃ k, unitI ns = k := ⟨_, rfl⟩
  rw [hS, hk2] at f0 f1 f2 f3 f4 f5 f6
  rw [hS, hk2]
  rw [hk2] at hk
  clear hS hk2 hB
  have hall : k = 0 ∨ k = 1 ∨ k = 2 ∨ k = 3 ∨ k = 4 ∨ k = 5 ∨ k = 6 ∨ k = 7 := by omega
  clear hk
  rcases hall with rfl | rfl | rfl | rfl | rfl | rfl | rfl | rfl
  · rw [decide_eq_false (by decide)] at f0
    rw [decide_eq_false (by decide)] at f1
    rw [decide_eq_false (by decide)] at f2
    rw [decide_eq_false (by decide)] at f3
    rw [decide_eq_false (by decide)] at f4
    rw [decide_eq_false (by decide)] at f5
    rw [decide_eq_false (by decide)] at f6
    go_enter Tryz.func54, Tryz.ntmps54
    go_wp2
    go_ret2
    exact ⟨rfl, Below.refl _ _⟩
  · rw [decide_eq_true rfl] at f0
    rw [decide_eq_false (by decide)] at f1
    rw [decide_eq_false (by decide)] at f2
    rw [decide_eq_false (by decide)] at f3
    rw [decide_eq_false (by decide)] at f4
    rw [decide_eq_false (by decide)] at f5
    rw [decide_eq_false (by decide)] at f6
    go_enter Tryz.func54, Tryz.ntmps54
    go_wp2
    go_ret2
    exact ⟨rfl, Below.refl _ _⟩
  · rw [decide_eq_false (by decide)] at f0
    rw [decide_eq_true rfl] at f1
    rw [decide_eq_false (by decide)] at f2
    rw [decide_eq_false (by decide)] at f3
    rw [decide_eq_false (by decide)] at f4
    rw [decide_eq_false (by decide)] at f5
    rw [decide_eq_false (by decide)] at f6
    go_enter Tryz.func54, Tryz.ntmps54
    go_wp2
    go_ret2
    exact ⟨rfl, Below.refl _ _⟩
  · rw [decide_eq_false (by decide)] at f0
    rw [decide_eq_false (by decide)] at f1
    rw [decide_eq_true rfl] at f2
    rw [decide_eq_false (by decide)] at f3
    rw [decide_eq_false (by decide)] at f4
    rw [decide_eq_false (by decide)] at f5
    rw [decide_eq_false (by decide)] at f6
    go_enter Tryz.func54, Tryz.ntmps54
    go_wp2
    go_ret2
    exact ⟨rfl, Below.refl _ _⟩
  · rw [decide_eq_false (by decide)] at f0
    rw [decide_eq_false (by decide)] at f1
    rw [decide_eq_false (by decide)] at f2
    rw [decide_eq_true rfl] at f3
    rw [decide_eq_false (by decide)] at f4
    rw [decide_eq_false (by decide)] at f5
    rw [decide_eq_false (by decide)] at f6
    go_enter Tryz.func54, Tryz.ntmps54
    go_wp2
    go_ret2
    exact ⟨rfl, Below.refl _ _⟩
  · rw [decide_eq_false (by decide)] at f0
    rw [decide_eq_false (by decide)] at f1
    rw [decide_eq_false (by decide)] at f2
    rw [decide_eq_false (by decide)] at f3
    rw [decide_eq_true rfl] at f4
    rw [decide_eq_false (by decide)] at f5
    rw [decide_eq_false (by decide)] at f6
    go_enter Tryz.func54, Tryz.ntmps54
    go_wp2
    go_ret2
    exact ⟨rfl, Below.refl _ _⟩
  · rw [decide_eq_false (by decide)] at f0
    rw [decide_eq_false (by decide)] at f1
    rw [decide_eq_false (by decide)] at f2
    rw [decide_eq_false (by decide)] at f3
    rw [decide_eq_false (by decide)] at f4
    rw [decide_eq_true rfl] at f5
    rw [decide_eq_false (by decide)] at f6
    go_enter Tryz.func54, Tryz.ntmps54
    go_wp2
    go_ret2
    exact ⟨rfl, Below.refl _ _⟩
  · rw [decide_eq_false (by decide)] at f0
    rw [decide_eq_false (by decide)] at f1
    rw [decide_eq_false (by decide)] at f2
    rw [decide_eq_false (by decide)] at f3
    rw [decide_eq_false (by decide)] at f4
    rw [decide_eq_false (by decide)] at f5
    rw [decide_eq_true rfl] at f6
    go_enter Tryz.func54, Tryz.ntmps54
    go_wp2
    go_ret2
    exact ⟨rfl, Below.refl _ _⟩
end Go.Proofs.YthhlhiighgnkmaaGreatDoor
