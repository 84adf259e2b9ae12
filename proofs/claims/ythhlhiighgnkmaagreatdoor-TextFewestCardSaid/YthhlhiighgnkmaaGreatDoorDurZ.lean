/-
  DurA, DurB, DurC, DurD, put together (a claim holds at most 60 files).
-/
import Derived.Test.YthhlhiighgnkmaaGreatDoorUnC
import Derived.Test.YthhlhiighgnkmaaGreatDoorShelf
import Derived.Lib.Strings
import Derived.Handy
import Derived.LoopN
/-! ## WALKS: runs of bytes; whole numbers; units. -/
namespace Go.Proofs.YthhlhiighgnkmaaGreatDoor
set_option linter.unusedVariables false
set_option linter.unusedSimpArgs false
open Go.RowKit Go.PlainAid
theorem isdone_q (R : Nat) (bs : List Nat) (p : Nat) (w : World) (H : Rd w R bs p) : Calls Tryz.prog 83 #[.pointer (some ⟨R, 0, none⟩)] w fun e w' => e = .returned (.bool (decide (p = bs.length))) ∧ ∃ m, w' = w.drewN m := by
  have h0 := H.c0
  have h1 := H.c1
  have hsz := strOf_size bs
  obtain ⟨L, hL⟩ : ∃ L, bs.length = L := ⟨_, rfl⟩
  rw [hL] at hsz ⊢
  have he : (((p : Nat) : Int) == ((L : Nat) : Int)) = decide (p = L) := by
    by_cases h : p = L
    · subst h; simp
    · rw [decide_eq_false h]; simp; omega
  clear H hL
  go_enter Tryz.func83, Tryz.ntmps83
  go_wp2_with fail
  go_quiet (fail)
  go_wp2
  go_ret
  exact ⟨rfl, _, rfl⟩
theorem toList_strOf (bs : List Nat) : (strOf bs).toList = bs.map UInt8.ofNat := by
  rw [Lib.toList_data]
  rfl
def dig (c : Nat) : Bool := decide (48 ≤ c) && decide (c ≤ 57)
theorem notdigit_any (c : Nat) (hc : c < 256) (w : World) : Calls Tryz.prog 148 #[.int .u8 (c : Int)] w fun e w' => e = .returned (.bool (!dig c)) ∧ w' = w := by
  have CD := Lib.hid (fun w => isdigit_any c hc w)
  unfold dig
  obtain ⟨x, hx⟩ : ∃ x, (decide (48 ≤ c) && decide (c ≤ 57)) = x := ⟨_, rfl⟩
  rw [hx] at CD ⊢
  clear hx hc
  go_enter Tryz.func148, Tryz.ntmps148
  go_wp2_with fail
  refine (CD.out _).mono ?_
  rintro e w1 ⟨rfl, rfl⟩
  go_wp2
  go_ret
  exact ⟨rfl, rfl⟩
theorem extract_strOf (bs ds : List Nat) (p n : Nat) (hlen : ds.length = n) (hds : ∀ k c, ds[k]? = some c → bs[p + k]? = some c) : (strOf bs).extract p (p + n) = strOf ds := by
  have e : ds = (bs.drop p).take n := by
    apply List.ext_getElem?
    intro k
    by_cases hk : k < n
    · rw [List.getElem?_take, if_pos hk, List.getElem?_drop]
      have h := List.getElem?_eq_getElem (l := ds) (show k < ds.length by omega)
      rw [h, hds k _ h]
    · rw [List.getElem?_eq_none (by omega), List.getElem?_take, if_neg hk]
  apply ByteArray.ext
  rw [ByteArray.data_extract]
  unfold strOf
  rw [e]
  apply Array.ext'
  simp [List.map_take, List.map_drop]
set_option maxHeartbeats 2000000 in
theorem run_not (R : Nat) (bs : List Nat) (p n : Nat) (ds : List Nat) (hB : IsB bs) (hl : bs.length ≤ 200000) (hlen : ds.length = n) (hp : p + n ≤ bs.length) (hds : ∀ k c, ds[k]? = some c → bs[p + k]? = some c ∧ (!dig c) = true) (hend : ∀ c, bs[p + n]? = some c → (!dig c) = false) (w : World) (H : Rd w R bs p) :
    Calls Tryz.prog 145 #[.pointer (some ⟨R, 0, none⟩), .func (.func 148) #[] #[]] w fun e w' => e = .returned (.string (strOf ds)) ∧ Only [R] w w' ∧ Rd w' R bs (p + n) := by
  have HQ := Lib.hid (fun (q : Nat) (w : World) (H : Rd w R bs q) => isdone_q R bs q w H)
  have HF := Lib.hid (fun (q c : Nat) (hc : bs[q]? = some c) (w : World) => notdigit_any c (at_isB hB hc) w)
  have HX := Lib.hid (extract_strOf bs ds p n hlen (fun k c hk => (hds k c hk).1))
  have HG := Lib.hid hds
  have HE := Lib.hid hend
  have HL := Lib.hid hlen
  have H0 := Lib.hid H
  have h1 := H.c1
  have hsz := strOf_size bs
  have hbt := get_bt (strOf bs)
  have HBT := Lib.hid (fun (q c : Nat) (hc : bs[q]? = some c) => show bt (strOf bs) q = ((c : Nat) : Int) by
    obtain ⟨hq, rfl⟩ := List.getElem?_eq_some_iff.1 hc
    exact strOf_bt bs hB q hq)
  obtain ⟨L, hL⟩ : ∃ L, bs.length = L := ⟨_, rfl⟩
  have HLL := Lib.hid hL
  rw [hL] at hsz hl hp HQ
  clear hds hend hlen hB hL H
  go_enter Tryz.func145, Tryz.ntmps145
  go_wp2
  clear h1
  go_loopw [] (fun wr => ∃ (k : Nat), k ≤ n ∧ Hid (Only [R] w wr) ∧ Hid (Rd wr R bs (p + k))) (fun wr => match wr.cell? ⟨R, 1, none⟩ with | some v => (p + n - intOf v).toNat | none => 0)
  case atStart => exact ⟨0, by omega, Lib.hid (Only.refl _ _), H0⟩
  case round =>
    obtain ⟨k, hk, HO, HR⟩ := hrel
    have h0 := HR.out.c0
    have h1 := HR.out.c1
    have f1 := HR.out.fz 1
    have CQ := Lib.hid (fun m => HQ.out (p + k) (wr.drewN m) HR.out)
    by_cases hkn : k < n
    · obtain ⟨c, hce⟩ : ∃ c, ds[k]? = some c := ⟨_, List.getElem?_eq_getElem (by rw [HL.out]; exact hkn)⟩
      obtain ⟨hc, hfc⟩ := HG.out k c hce
      have hb := HBT.out (p + k) c hc
      have CF := Lib.hid (fun w => HF.out (p + k) c hc w)
      simp only [hfc] at CF
      have hpk : p + k < L := by omega
      rw [decide_eq_false (by omega)] at CQ
      have hpi : ((p + k : Nat) : Int) < (L : Int) := by omega
      obtain ⟨q, hq⟩ : ∃ q, p + k = q := ⟨_, rfl⟩
      rw [hq] at h1 hb hpk hpi
      have HQQ := Lib.hid hq
      clear hce hc hfc hq
      have e1 : IntKind.i64.wrap ((q : Int) + 1) = ((q + 1 : Nat) : Int) := by rw [IntKind.wrap_i64]; omega
      go_wp2_with fail
      go_quiet ((first
        | (go_at_call 83; exact Calls.quiet_of (CQ.out _))
        | (go_at_call 148; exact Calls.quiet_of_same (CF.out _))))
      go_wp2
      go_roundw
      case rel => exact ⟨k + 1, by omega, Lib.hid ((HO.out.drewN nq).setCell (.inl (by simp)) _), Lib.hid (by have h := Rd.set (w := wr.drewN nq) HR.out (q + 1); rw [← HQQ.out] at h ⊢; exact h)⟩
      case measure =>
        have h9 := HQQ.out
        have hms3 : ((wr.drewN nq).setCell ⟨R, 1, none⟩ (.int .i64 ((q : Int) + 1))).cell? ⟨R, 1, none⟩ = some (.int .i64 ((q : Int) + 1)) := (Rd.set (w := wr.drewN nq) HR.out (q + 1)).c1
        rw [hms3, h1]
        simp only [intOf]
        omega
    · obtain rfl : k = n := by omega
      have HK := Lib.hid (HO.out)
      obtain ⟨q, hq⟩ : ∃ q, p + k = q := ⟨_, rfl⟩
      have hx := HX.out
      rw [hq] at h1 hp hx
      have HQQ := Lib.hid hq
      by_cases hd : q = L
      · rw [hq, decide_eq_true hd] at CQ
        subst hd
        have hle : p ≤ q := by omega
        have hqi : ((q : Nat) : Int) ≤ (q : Int) := by omega
        have hpi : ((p : Nat) : Int) ≤ (q : Int) := by omega
        clear hq hkn hk
        go_wp2_with fail
        go_quiet ((go_at_call 83; exact Calls.quiet_of (CQ.out _)))
        go_wp2_with fail
        go_quiet (fail)
        go_wp2
        go_ret
        refine ⟨?_, (HK.out.drewN _).drewN _, by first | exact HR.out | (rw [← HQQ.out]; exact HR.out)⟩
        first | rfl | rw [hx] | simp [hx]
      · obtain ⟨c, hc⟩ : ∃ c, bs[q]? = some c := ⟨_, List.getElem?_eq_getElem (by rw [HLL.out]; omega)⟩
        have hfc := HE.out c (by rw [HQQ.out]; exact hc)
        have hb := HBT.out q c hc
        have CF := Lib.hid (fun w => HF.out q c hc w)
        simp only [hfc] at CF
        rw [hq, decide_eq_false hd] at CQ
        have hle : p ≤ q := by omega
        have hql : q < L := by omega
        have hqi2 : ((q : Nat) : Int) < (L : Int) := by omega
        have hqi : ((q : Nat) : Int) ≤ (L : Int) := by omega
        have hpi : ((p : Nat) : Int) ≤ (q : Int) := by omega
        clear hq hkn hk hc hfc
        go_wp2_with fail
        go_quiet ((first
          | (go_at_call 83; exact Calls.quiet_of (CQ.out _))
          | (go_at_call 148; exact Calls.quiet_of_same (CF.out _))))
        go_wp2_with fail
        go_quiet (fail)
        go_wp2
        go_ret
        refine ⟨?_, (HK.out.drewN _).drewN _, by first | exact HR.out | (rw [← HQQ.out]; exact HR.out)⟩
        first | rfl | rw [hx] | simp [hx]
set_option maxHeartbeats 2000000 in
theorem run_dig (R : Nat) (bs : List Nat) (p n : Nat) (ds : List Nat) (hB : IsB bs) (hl : bs.length ≤ 200000) (hlen : ds.length = n) (hp : p + n ≤ bs.length) (hds : ∀ k c, ds[k]? = some c → bs[p + k]? = some c ∧ dig c = true) (hend : ∀ c, bs[p + n]? = some c → dig c = false) (w : World) (H : Rd w R bs p) :
    Calls Tryz.prog 145 #[.pointer (some ⟨R, 0, none⟩), .func (.func 146) #[] #[]] w fun e w' => e = .returned (.string (strOf ds)) ∧ Only [R] w w' ∧ Rd w' R bs (p + n) := by
  have HQ := Lib.hid (fun (q : Nat) (w : World) (H : Rd w R bs q) => isdone_q R bs q w H)
  have HF := Lib.hid (fun (q c : Nat) (hc : bs[q]? = some c) (w : World) => isdigit_any c (at_isB hB hc) w)
  have HX := Lib.hid (extract_strOf bs ds p n hlen (fun k c hk => (hds k c hk).1))
  have HG := Lib.hid hds
  have HE := Lib.hid hend
  have HL := Lib.hid hlen
  have H0 := Lib.hid H
  have h1 := H.c1
  have hsz := strOf_size bs
  have hbt := get_bt (strOf bs)
  have HBT := Lib.hid (fun (q c : Nat) (hc : bs[q]? = some c) => show bt (strOf bs) q = ((c : Nat) : Int) by
    obtain ⟨hq, rfl⟩ := List.getElem?_eq_some_iff.1 hc
    exact strOf_bt bs hB q hq)
  obtain ⟨L, hL⟩ : ∃ L, bs.length = L := ⟨_, rfl⟩
  have HLL := Lib.hid hL
  rw [hL] at hsz hl hp HQ
  clear hds hend hlen hB hL H
  go_enter Tryz.func145, Tryz.ntmps145
  go_wp2
  clear h1
  go_loopw [] (fun wr => ∃ (k : Nat), k ≤ n ∧ Hid (Only [R] w wr) ∧ Hid (Rd wr R bs (p + k))) (fun wr => match wr.cell? ⟨R, 1, none⟩ with | some v => (p + n - intOf v).toNat | none => 0)
  case atStart => exact ⟨0, by omega, Lib.hid (Only.refl _ _), H0⟩
  case round =>
    obtain ⟨k, hk, HO, HR⟩ := hrel
    have h0 := HR.out.c0
    have h1 := HR.out.c1
    have f1 := HR.out.fz 1
    have CQ := Lib.hid (fun m => HQ.out (p + k) (wr.drewN m) HR.out)
    by_cases hkn : k < n
    · obtain ⟨c, hce⟩ : ∃ c, ds[k]? = some c := ⟨_, List.getElem?_eq_getElem (by rw [HL.out]; exact hkn)⟩
      obtain ⟨hc, hfc⟩ := HG.out k c hce
      have hb := HBT.out (p + k) c hc
      have CF := Lib.hid (fun w => HF.out (p + k) c hc w)
      simp only [show (decide (48 ≤ c) && decide (c ≤ 57)) = dig c from rfl, hfc] at CF
      have hpk : p + k < L := by omega
      rw [decide_eq_false (by omega)] at CQ
      have hpi : ((p + k : Nat) : Int) < (L : Int) := by omega
      obtain ⟨q, hq⟩ : ∃ q, p + k = q := ⟨_, rfl⟩
      rw [hq] at h1 hb hpk hpi
      have HQQ := Lib.hid hq
      clear hce hc hfc hq
      have e1 : IntKind.i64.wrap ((q : Int) + 1) = ((q + 1 : Nat) : Int) := by rw [IntKind.wrap_i64]; omega
      go_wp2_with fail
      go_quiet ((first
        | (go_at_call 83; exact Calls.quiet_of (CQ.out _))
        | (go_at_call 146; exact Calls.quiet_of_same (CF.out _))))
      go_wp2
      go_roundw
      case rel => exact ⟨k + 1, by omega, Lib.hid ((HO.out.drewN nq).setCell (.inl (by simp)) _), Lib.hid (by have h := Rd.set (w := wr.drewN nq) HR.out (q + 1); rw [← HQQ.out] at h ⊢; exact h)⟩
      case measure =>
        have h9 := HQQ.out
        have hms3 : ((wr.drewN nq).setCell ⟨R, 1, none⟩ (.int .i64 ((q : Int) + 1))).cell? ⟨R, 1, none⟩ = some (.int .i64 ((q : Int) + 1)) := (Rd.set (w := wr.drewN nq) HR.out (q + 1)).c1
        rw [hms3, h1]
        simp only [intOf]
        omega
    · obtain rfl : k = n := by omega
      have HK := Lib.hid (HO.out)
      obtain ⟨q, hq⟩ : ∃ q, p + k = q := ⟨_, rfl⟩
      have hx := HX.out
      rw [hq] at h1 hp hx
      have HQQ := Lib.hid hq
      by_cases hd : q = L
      · rw [hq, decide_eq_true hd] at CQ
        subst hd
        have hle : p ≤ q := by omega
        have hqi : ((q : Nat) : Int) ≤ (q : Int) := by omega
        have hpi : ((p : Nat) : Int) ≤ (q : Int) := by omega
        clear hq hkn hk
        go_wp2_with fail
        go_quiet ((go_at_call 83; exact Calls.quiet_of (CQ.out _)))
        go_wp2_with fail
        go_quiet (fail)
        go_wp2
        go_ret
        refine ⟨?_, (HK.out.drewN _).drewN _, by first | exact HR.out | (rw [← HQQ.out]; exact HR.out)⟩
        first | rfl | rw [hx] | simp [hx]
      · obtain ⟨c, hc⟩ : ∃ c, bs[q]? = some c := ⟨_, List.getElem?_eq_getElem (by rw [HLL.out]; omega)⟩
        have hfc := HE.out c (by rw [HQQ.out]; exact hc)
        have hb := HBT.out q c hc
        have CF := Lib.hid (fun w => HF.out q c hc w)
        simp only [show (decide (48 ≤ c) && decide (c ≤ 57)) = dig c from rfl, hfc] at CF
        rw [hq, decide_eq_false hd] at CQ
        have hle : p ≤ q := by omega
        have hql : q < L := by omega
        have hqi2 : ((q : Nat) : Int) < (L : Int) := by omega
        have hqi : ((q : Nat) : Int) ≤ (L : Int) := by omega
        have hpi : ((p : Nat) : Int) ≤ (q : Int) := by omega
        clear hq hkn hk hc hfc
        go_wp2_with fail
        go_quiet ((first
          | (go_at_call 83; exact Calls.quiet_of (CQ.out _))
          | (go_at_call 146; exact Calls.quiet_of_same (CF.out _))))
        go_wp2_with fail
        go_quiet (fail)
        go_wp2
        go_ret
        refine ⟨?_, (HK.out.drewN _).drewN _, by first | exact HR.out | (rw [← HQQ.out]; exact HR.out)⟩
        first | rfl | rw [hx] | simp [hx]
/-- a whole number is read -/
theorem whole_ok (R : Nat) (bs : List Nat) (p n : Nat) (ds : List Nat) (v : Int) (hB : IsB bs) (hl : bs.length ≤ 200000) (hlen : ds.length = n) (hn : 1 ≤ n) (hp : p + n ≤ bs.length) (hds : ∀ k c, ds[k]? = some c → bs[p + k]? = some c ∧ dig c = true) (hend : ∀ c, bs[p + n]? = some c → dig c = false) (hv : Lib.parseIntB 64 (strOf ds).data.toList = .ok v) (w : World) (H : Rd w R bs p) :
    Calls Tryz.prog 101 #[.pointer (some ⟨R, 0, none⟩)] w fun e w' => e = .returned (.tuple #[.int .i64 v, .nilIface]) ∧ Only [R] w w' ∧ Rd w' R bs (p + n) := by
  have CR := Lib.hid (fun w H => run_dig R bs p n ds hB hl hlen hp hds hend w H)
  have CP := Lib.hid (fun w => Tryz.strconv_ParseInt_10_at64_ok (strOf ds) (by rw [strOf_size]; omega) v hv w)
  have h1 := H.c1
  have hsz := strOf_size ds
  have hne : (strOf ds).toList.isEmpty = false := by
    rw [toList_strOf]
    cases ds with
    | nil => simp at hlen; omega
    | cons c ds => rfl
  obtain ⟨S, hS⟩ : ∃ S, strOf ds = S := ⟨_, rfl⟩
  rw [hS] at CR CP hne
  have H0 := Lib.hid H
  clear hds hend hv hsz hS H
  go_enter Tryz.func101, Tryz.ntmps101
  go_wp2_with fail
  refine (CR.out _ H0.out).mono ?_
  rintro e w1 ⟨rfl, ho, hr⟩
  have O1 := Lib.hid ho
  have R1 := Lib.hid hr
  clear ho hr
  go_wp2_with fail
  refine (CP.out _).mono ?_
  rintro e w2 ⟨rfl, hw⟩
  have O2 := Lib.hid (show Only [R] w w2 ∧ Rd w2 R bs (p + n) by
    rcases hw with rfl | ⟨t, rfl⟩
    · exact ⟨O1.out, R1.out⟩
    · exact ⟨O1.out.trans (Only.of_below (Lib.bytesWorld_below w1 5 t) [R]) (fun x hx => .inl hx), R1.out.stay (Lib.bytesWorld_below w1 5 t)⟩)
  clear hw
  go_wp2
  go_ret2
  exact ⟨rfl, O2.out.1, O2.out.2⟩
end Go.Proofs.YthhlhiighgnkmaaGreatDoor
/-! ## WALKS: units; a duration that is well formed. -/
namespace Go.Proofs.YthhlhiighgnkmaaGreatDoor
set_option linter.unusedVariables false
set_option linter.unusedSimpArgs false
open Go.RowKit Go.PlainAid
theorem unitname_any (a t : ByteArray) (m : Int) (N : Nat) (w : World) (hN : N < w.heap.size) (hc : w.cell? ⟨N, 0, none⟩ = some (.string t)) :
    Calls Tryz.prog 150 #[.agg #[.string a, .int .i64 m], .pointer (some ⟨N, 0, none⟩)] w (Gives w (.bool (a.toList == t.toList))) := by
  have hc2 : ∀ o, (w.alloc o).cell? ⟨N, 0, none⟩ = some (.string t) := fun o => (((Below.refl w.heap.size w).alloc (Nat.le_refl _) o).cell hN).trans hc
  clear hc
  go_enter Tryz.func150, Tryz.ntmps150
  go_wp2
  go_ret
  exact ⟨rfl, (Below.refl _ _).alloc (Nat.le_refl _) _⟩
theorem add_any (sum n ms : Int) (h0 : 0 ≤ sum) (h1 : sum ≤ 9007199254740992) (h2 : 0 ≤ n) (h3 : 1 ≤ ms) (h4 : n ≤ (9007199254740992 - sum) / ms) (h5 : ms ≤ 31536000000) (hv : sum + n * ms ≤ 9007199254740992) (h6 : 0 ≤ n * ms) (w : World) :
    Calls Tryz.prog 151 #[.int .i64 sum, .int .i64 n, .int .i64 ms] w fun e w' => e = .returned (.tuple #[.int .i64 (sum + n * ms), .nilIface]) ∧ w' = w := by
  have e1 : IntKind.i64.wrap (9007199254740992 - sum) = 9007199254740992 - sum := by rw [IntKind.wrap_i64]; omega
  have e2 : (9007199254740992 - sum).tdiv ms = (9007199254740992 - sum) / ms := Int.tdiv_eq_ediv_of_nonneg (by omega)
  have e3 : (ms == 0) = false := by simp; omega
  have d1 : decide (n > (9007199254740992 - sum) / ms) = false := decide_eq_false (by omega)
  have d2 : decide ((9007199254740992 - sum) / ms < n) = false := d1
  obtain ⟨q, hq⟩ : ∃ q, (9007199254740992 - sum) / ms = q := ⟨_, rfl⟩
  rw [hq] at e2 d1 d2 h4
  obtain ⟨r, hr⟩ : ∃ r, n * ms = r := ⟨_, rfl⟩
  have e4 : IntKind.i64.wrap r = r := by rw [IntKind.wrap_i64]; omega
  have e5 : IntKind.i64.wrap (sum + r) = sum + r := by rw [IntKind.wrap_i64]; omega
  have q1 : 0 ≤ q := by rw [← hq]; exact Int.ediv_nonneg (by omega) (by omega)
  have q2 : q ≤ 9007199254740992 - sum := by rw [← hq]; exact Int.ediv_le_self _ (by omega)
  have e6 : IntKind.i64.wrap q = q := by rw [IntKind.wrap_i64]; omega
  go_enter Tryz.func151, Tryz.ntmps151
  go_wp2
  go_ret2
  refine ⟨?_, rfl⟩
  rw [hr]
  rfl
theorem info77 : (Tryz.prog.info? 77).map (fun i => (i.zero, i.size, i.bytes)) = some (some (.agg #[.string { data := #[] }, .int .i64 0]), 2, 24) := by kernel_rfl
def unitsA : List Value := [.string { data := #[121] }, .int .i64 31536000000, .string { data := #[119] }, .int .i64 604800000]
def unitsB : List Value := [.string { data := #[100] }, .int .i64 86400000, .string { data := #[104] }, .int .i64 3600000, .string { data := #[109] }, .int .i64 60000, .string { data := #[115] }, .int .i64 1000, .string { data := #[109, 115] }, .int .i64 1]
def unitCells : List Value := unitsA ++ unitsB
theorem row_of {w : World} {g : Nat} {cs : List Value} {t : TypeId} (h : w.heap[g]? = some (.cells cs.toArray t (0, 0))) (j : Nat) (u : Value) (hu : cs[j]? = some u) : w.cell? ((⟨g, 0, none⟩ : Addr).add j) = some u := by
  rw [add_here, cell_of_row _ _ _ _ _ _ h, List.getElem?_toArray]
  exact hu
theorem two_blocks (w : World) (o1 o2 : Obj) : ((w.alloc o1).alloc o2).heap[w.heap.size]? = some o1 ∧ ((w.alloc o1).alloc o2).heap[w.heap.size + 1]? = some o2 := by
  refine ⟨(Below.heap_alloc _ _ _ (by simp)).trans (heap_alloc_new w o1), ?_⟩
  have := heap_alloc_new (w.alloc o1) o2
  simpa using this
theorem unitsOwn (w : World) : ((w.alloc (.cells unitsA.toArray 77)).alloc (.cells unitsB.toArray 77)).ownsRow w.heap.size 77 2 (.slice (some ⟨w.heap.size, 0, none⟩) 2 2) 2 unitsA :=
  ⟨rfl, .inr ⟨w.heap.size, 2, unitsA.toArray, rfl, Nat.le_refl _, (two_blocks w _ _).1, Nat.le_refl _, by decide, rfl, rfl⟩⟩
theorem own_row {w : World} {B n : Nat} {v : Value} {cs : List Value} (h : w.ownsRow B 77 2 v n cs) (hn : 0 < n) : ∃ g cap, v = .slice (some ⟨g, 0, none⟩) n cap ∧ n ≤ cap ∧ B ≤ g ∧ g < w.heap.size ∧ ∀ i u, cs[i]? = some u → w.cell? ⟨g, i, none⟩ = some u := by
  obtain ⟨h1, h2⟩ := h
  rcases h2 with ⟨rfl, h0⟩ | ⟨g, cap, cur, rfl, hg, hc, h3, h4, h5, h6⟩
  · omega
  · refine ⟨g, cap, rfl, h3, hg, (Array.getElem?_eq_some_iff.1 hc).1, fun i u hu => ?_⟩
    rw [cell_of_row _ _ _ _ _ _ hc, ← Array.getElem?_toList]
    have := congrArg (fun l => l[i]?) h6
    have hi : i < n * 2 := by have := (List.getElem?_eq_some_iff.1 hu).1; omega
    simp only [List.getElem?_take, if_pos hi, hu] at this
    exact this
set_option maxRecDepth 100000 in
theorem allunits_any (w : World) : Calls Tryz.prog 100 #[] w fun e w' => ∃ g cap, e = .returned (.slice (some ⟨g, 0, none⟩) 7 cap) ∧ 7 ≤ cap ∧ w.heap.size ≤ g ∧ g < w'.heap.size ∧ (∀ i v, unitCells[i]? = some v → w'.cell? ⟨g, i, none⟩ = some v) ∧ Below w.heap.size w w' := by
  obtain ⟨i0, hi, hz0, hz1, hz2⟩ := info_parts info77
  go_enter Tryz.func100, Tryz.ntmps100
  go_wp2_with (first | (at_builtin; refine wpList_append_own _ rfl (.tmp 3) (.tmp 4) 74 rfl w.heap.size 77 i0 (.agg #[.string { data := #[] }, .int .i64 0]) 2 24 Tryz.underlying74 hi hz0 hz1 hz2 rfl (by decide) (.slice (some ⟨w.heap.size, 0, none⟩) 2 2) 2 unitsA rfl (unitsOwn w) ⟨w.heap.size + 1, 0, none⟩ 5 5 unitsB rfl rfl (row_of (two_blocks w _ _).2) (by intro u hu; simp [unitsB] at hu; rcases hu with rfl | rfl | rfl | rfl | rfl | rfl | rfl | rfl | rfl | rfl <;> rfl) (by decide) (by decide) (by simp; omega) ?_; intro v2 w2 hown2 hgr2 hne2) | go_in)
  obtain ⟨g, cap, rfl, h1, h2, h3, h4⟩ := own_row hown2 (by decide)
  have hb := (((Below.refl w.heap.size w).alloc (Nat.le_refl _) (.cells unitsA.toArray 77)).alloc (by simp) (.cells unitsB.toArray 77)).grown hgr2 (by simp; omega) (fun k hk => by simp [Value.ownBlock] at hk; omega)
  have HB := Lib.hid hb
  have H4 := Lib.hid h4
  clear hown2 hgr2 hne2 hb h4
  go_wp2
  go_ret
  exact ⟨g, cap, rfl, h1, h2, h3, H4.out, HB.out⟩
end Go.Proofs.YthhlhiighgnkmaaGreatDoor
/-! ## WALKS: the unit of a name; a duration that is well formed. -/
namespace Go.Proofs.YthhlhiighgnkmaaGreatDoor
set_option linter.unusedVariables false
set_option linter.unusedSimpArgs false
open Go.RowKit Go.PlainAid
set_option maxRecDepth 100000 in
theorem index_ok (g off n cap j N : Nat) (nm : Nat → ByteArray) (ms : Nat → Int) (t : ByteArray) (w : World) (hn : n ≤ 10) (hcap : n ≤ cap) (hg : g < w.heap.size) (hN : N < w.heap.size)
    (hc : ∀ i, i < n → w.cell? ⟨g, off + i * 2, none⟩ = some (.string (nm i)) ∧ w.cell? ⟨g, off + i * 2 + 1, none⟩ = some (.int .i64 (ms i))) (ht : w.cell? ⟨N, 0, none⟩ = some (.string t)) (hj : j < n) (h1 : ((nm j).toList == t.toList) = true) (h0 : ∀ i, i < j → ((nm i).toList == t.toList) = false) :
    Calls Tryz.prog 149 #[.slice (some ⟨g, off, none⟩) n cap, .func (.func 150) #[] #[.pointer (some ⟨N, 0, none⟩)]] w (Gives w (.int .i64 (j : Int))) := by
  have CU := Lib.hid (fun (a : ByteArray) (m : Int) (w1 : World) (hb : Below w.heap.size w w1) => unitname_any a t m N w1 (Nat.lt_of_lt_of_le hN hb.size) ((hb.cell hN).trans ht))
  have HC := Lib.hid (fun (i : Nat) (hi : i < n) (w1 : World) (hb : Below w.heap.size w w1) => And.intro ((hb.cell (p := ⟨g, off + i * 2, none⟩) hg).trans (hc i hi).1) ((hb.cell (p := ⟨g, off + i * 2 + 1, none⟩) hg).trans (hc i hi).2))
  have H1 := Lib.hid h1
  have H0 := Lib.hid h0
  clear hc ht h1 h0 hg hN
  go_enter Tryz.func149, Tryz.ntmps149
  go_wp2
  go_loopw [8] (fun i wr => ∃ (k : Nat), k ≤ j ∧ i = .int .i64 k ∧ Hid (Below w.heap.size w wr)) (fun i _ => (n - intOf i).toNat)
  case atStart => exact ⟨0, by omega, rfl, Lib.hid (Below.refl _ _)⟩
  case round =>
    obtain ⟨k, hk, rfl, HB⟩ := hrel
    obtain ⟨c0, c1⟩ := HC.out k (by omega) wr HB.out
    have da : decide ((k : Int) < (n : Int)) = true := decide_eq_true (by omega)
    have da2 : decide (k < n) = true := decide_eq_true (by omega)
    have hkn : k < n := by omega
    have CX := Lib.hid (CU.out (nm k) (ms k) wr HB.out)
    by_cases hkj : k = j
    · subst hkj
      rw [H1.out] at CX
      go_wp2_with fail
      refine CX.out.mono ?_
      rintro e w1 ⟨rfl, hb⟩
      have B2 := Lib.hid (HB.out.trans (hb.mono HB.out.size))
      clear hb
      go_wp2
      go_ret
      exact ⟨rfl, B2.out⟩
    · rw [H0.out k (by omega)] at CX
      go_wp2_with fail
      refine CX.out.mono ?_
      rintro e w1 ⟨rfl, hb⟩
      have B2 := Lib.hid (HB.out.trans (hb.mono HB.out.size))
      clear hb
      go_wp2
      go_roundw
      case rel => exact ⟨k + 1, by omega, rfl, B2⟩
      case measure => simp [intOf]; omega
set_option maxRecDepth 100000 in
set_option maxHeartbeats 2000000 in
theorem addunits_ok (R : Nat) (bs : List Nat) (p m : Nat) (ds : List Nat) (g off n cap j : Nat) (nm : Nat → ByteArray) (ms : Nat → Int) (sum x : Int) (w : World) (hB : IsB bs) (hl : bs.length ≤ 200000) (hlen : ds.length = m) (hp : p + m ≤ bs.length) (hds : ∀ k c, ds[k]? = some c → bs[p + k]? = some c ∧ (!dig c) = true) (hend : ∀ c, bs[p + m]? = some c → (!dig c) = false)
    (H : Rd w R bs p) (hgR : g ≠ R) (hn : n ≤ 10) (hcap : n ≤ cap) (hg : g < w.heap.size) (hcells : ∀ i, i < n → w.cell? ⟨g, off + i * 2, none⟩ = some (.string (nm i)) ∧ w.cell? ⟨g, off + i * 2 + 1, none⟩ = some (.int .i64 (ms i)))
    (hj : j < n) (hj2 : j + 1 < n) (h1 : ((nm j).toList == (strOf ds).toList) = true) (h0 : ∀ i, i < j → ((nm i).toList == (strOf ds).toList) = false)
    (hadd : ∀ w, Calls Tryz.prog 151 #[.int .i64 sum, .int .i64 x, .int .i64 (ms j)] w fun e w' => e = .returned (.tuple #[.int .i64 (sum + x * ms j), .nilIface]) ∧ w' = w) :
    Calls Tryz.prog 102 #[.pointer (some ⟨R, 0, none⟩), .int .i64 sum, .int .i64 x, .slice (some ⟨g, off, none⟩) n cap] w fun e w' =>
      e = .returned (.tuple #[.int .i64 (sum + x * ms j), .slice (some ⟨g, off + (j + 1) * 2, none⟩) (n - (j + 1)) (cap - (j + 1)), .nilIface]) ∧ Only [R] w w' ∧ Rd w' R bs (p + m) := by
  have hmf : ∀ (fn : Fn) (first cap : Array Value) (w : World), (Instr.makeFunc fn first cap).run Tryz.prog w = .ok (.func fn first cap) w := fun _ _ _ _ => rfl
  have CR := Lib.hid (run_not R bs p m ds hB hl hlen hp hds hend w H)
  have CI := Lib.hid (fun (N : Nat) (w1 : World) (h2 : g < w1.heap.size) (h3 : N < w1.heap.size) hc ht => index_ok g off n cap j N nm ms (strOf ds) w1 hn hcap h2 h3 hc ht hj h1 h0)
  have CA := Lib.hid hadd
  have HC := Lib.hid hcells
  have HG := Lib.hid hg
  have HGR := Lib.hid hgR
  have hc1 := H.c1
  obtain ⟨S, hS⟩ : ∃ S, strOf ds = S := ⟨_, rfl⟩
  rw [hS] at CR CI
  obtain ⟨T, hT⟩ : ∃ T, sum + x * ms j = T := ⟨_, rfl⟩
  rw [hT] at CA ⊢
  have e1 : IntKind.i64.wrap ((j : Int) + 1) = ((j + 1 : Nat) : Int) := by rw [IntKind.wrap_i64]; omega
  have dneg : decide ((j : Int) < 0) = false := decide_eq_false (by omega)
  clear hS hT hB hl hlen hp hds hend H hadd h1 h0 hcells hg hgR
  go_enter Tryz.func102, Tryz.ntmps102
  go_wp2_with fail
  refine CR.out.mono ?_
  rintro e w1 ⟨rfl, ho, hr⟩
  have G1 : g < (w1.alloc (.cells #[.string S] 9)).heap.size := by have := HG.out; have := ho.size; simp; omega
  have KC : ∀ i, i < n → (w1.alloc (.cells #[.string S] 9)).cell? ⟨g, off + i * 2, none⟩ = some (.string (nm i)) ∧ (w1.alloc (.cells #[.string S] 9)).cell? ⟨g, off + i * 2 + 1, none⟩ = some (.int .i64 (ms i)) := fun i hi => by
    have hb := (Below.refl w1.heap.size w1).alloc (Nat.le_refl _) (.cells #[.string S] 9)
    have hg1 : g < w1.heap.size := Nat.lt_of_lt_of_le HG.out ho.size
    have hn : g ∉ [R] := by simpa using HGR.out
    exact ⟨((hb.cell (p := ⟨g, off + i * 2, none⟩) hg1).trans (ho.cell (p := ⟨g, off + i * 2, none⟩) HG.out hn)).trans (HC.out i hi).1, ((hb.cell (p := ⟨g, off + i * 2 + 1, none⟩) hg1).trans (ho.cell (p := ⟨g, off + i * 2 + 1, none⟩) HG.out hn)).trans (HC.out i hi).2⟩
  have CI2 := Lib.hid (CI.out w1.heap.size (w1.alloc (.cells #[.string S] 9)) G1 (by simp) KC (World.cell?_alloc_at _ _ _ _ rfl))
  have HKC := Lib.hid (KC j hj).2
  have HG1 := Lib.hid G1
  have O1 := Lib.hid (ho.alloc (.cells #[.string S] 9))
  have R1 := Lib.hid (hr.stay ((Below.refl w1.heap.size w1).alloc (Nat.le_refl _) (.cells #[.string S] 9)))
  clear ho hr G1 KC
  go_wp2_with fail
  refine CI2.out.mono ?_
  rintro e w2 ⟨rfl, hb⟩
  have hms : w2.cell? ⟨g, off + j * 2 + 1, none⟩ = some (.int .i64 (ms j)) := (hb.cell (p := ⟨g, off + j * 2 + 1, none⟩) HG1.out).trans HKC.out
  have O2 := Lib.hid (O1.out.trans (Only.of_below hb [R]) (fun x hx => .inl hx))
  have R2 := Lib.hid (R1.out.stay hb)
  clear hb
  go_wp2_with fail
  refine (CA.out _).mono ?_
  rintro e w3 ⟨rfl, rfl⟩
  go_wp2_with fail
  go_quiet (fail)
  go_wp2
  go_returns
  exact ⟨rfl, O2.out.drewN _, R2.out⟩
end Go.Proofs.YthhlhiighgnkmaaGreatDoor
/-! ## WALKS: ReadDuration of "1h30m". -/
namespace Go.Proofs.YthhlhiighgnkmaaGreatDoor
set_option linter.unusedVariables false
set_option linter.unusedSimpArgs false
open Go.RowKit Go.PlainAid
def unm (i : Nat) : ByteArray := match i with | 0 => { data := #[121] } | 1 => { data := #[119] } | 2 => { data := #[100] } | 3 => { data := #[104] } | 4 => { data := #[109] } | 5 => { data := #[115] } | _ => { data := #[109, 115] }
def ums (i : Nat) : Int := match i with | 0 => 31536000000 | 1 => 604800000 | 2 => 86400000 | 3 => 3600000 | 4 => 60000 | 5 => 1000 | _ => 1
theorem units_at {w : World} {g : Nat} (h : ∀ i v, unitCells[i]? = some v → w.cell? ⟨g, i, none⟩ = some v) (i : Nat) (hi : i < 7) : w.cell? ⟨g, i * 2, none⟩ = some (.string (unm i)) ∧ w.cell? ⟨g, i * 2 + 1, none⟩ = some (.int .i64 (ums i)) := by
  match i, hi with
  | 0, _ => exact ⟨h _ _ rfl, h _ _ rfl⟩
  | 1, _ => exact ⟨h _ _ rfl, h _ _ rfl⟩
  | 2, _ => exact ⟨h _ _ rfl, h _ _ rfl⟩
  | 3, _ => exact ⟨h _ _ rfl, h _ _ rfl⟩
  | 4, _ => exact ⟨h _ _ rfl, h _ _ rfl⟩
  | 5, _ => exact ⟨h _ _ rfl, h _ _ rfl⟩
  | 6, _ => exact ⟨h _ _ rfl, h _ _ rfl⟩
def b130 : List Nat := [49, 104, 51, 48, 109]
theorem b130_isB : IsB b130 := by unfold IsB b130; decide
theorem w1_any (R : Nat) (w : World) (H : Rd w R b130 0) : Calls Tryz.prog 101 #[.pointer (some ⟨R, 0, none⟩)] w fun e w' => e = .returned (.tuple #[.int .i64 1, .nilIface]) ∧ Only [R] w w' ∧ Rd w' R b130 1 :=
  whole_ok R b130 0 1 [49] 1 b130_isB (by decide) rfl (by decide) (by decide) (fun k c hk => by
    match k, hk with
    | 0, hk => cases hk; exact ⟨rfl, rfl⟩
    | k + 1, hk => simp at hk) (fun c hc => by cases hc; rfl) (by decide +kernel) w H
theorem w2_any (R : Nat) (w : World) (H : Rd w R b130 2) : Calls Tryz.prog 101 #[.pointer (some ⟨R, 0, none⟩)] w fun e w' => e = .returned (.tuple #[.int .i64 30, .nilIface]) ∧ Only [R] w w' ∧ Rd w' R b130 4 :=
  whole_ok R b130 2 2 [51, 48] 30 b130_isB (by decide) rfl (by decide) (by decide) (fun k c hk => by
    match k, hk with
    | 0, hk => cases hk; exact ⟨rfl, rfl⟩
    | 1, hk => cases hk; exact ⟨rfl, rfl⟩
    | k + 2, hk => simp at hk) (fun c hc => by cases hc; rfl) (by decide +kernel) w H
theorem u1_any (R g cap : Nat) (w : World) (H : Rd w R b130 1) (hgR : g ≠ R) (hcap : 7 ≤ cap) (hg : g < w.heap.size) (hc : ∀ i v, unitCells[i]? = some v → w.cell? ⟨g, i, none⟩ = some v) :
    Calls Tryz.prog 102 #[.pointer (some ⟨R, 0, none⟩), .int .i64 0, .int .i64 1, .slice (some ⟨g, 0, none⟩) 7 cap] w fun e w' =>
      e = .returned (.tuple #[.int .i64 3600000, .slice (some ⟨g, 8, none⟩) 3 (cap - 4), .nilIface]) ∧ Only [R] w w' ∧ Rd w' R b130 2 :=
  addunits_ok R b130 1 1 [104] g 0 7 cap 3 unm ums 0 1 w b130_isB (by decide) rfl (by decide) (fun k c hk => by
    match k, hk with
    | 0, hk => cases hk; exact ⟨rfl, rfl⟩
    | k + 1, hk => simp at hk) (fun c hc => by cases hc; rfl) H hgR (by decide) hcap hg (fun i hi => by rw [Nat.zero_add]; exact units_at hc i hi) (by decide) (by decide) (by rw [Lib.toList_data, Lib.toList_data]; decide +kernel) (fun i hi => by
    rw [Lib.toList_data, Lib.toList_data]
    match i, hi with
    | 0, _ => decide +kernel
    | 1, _ => decide +kernel
    | 2, _ => decide +kernel) (fun w => add_any 0 1 3600000 (by decide) (by decide) (by decide) (by decide) (by decide) (by decide) (by decide) (by decide) w)
theorem u2_any (R g cap : Nat) (w : World) (H : Rd w R b130 4) (hgR : g ≠ R) (hcap : 3 ≤ cap) (hg : g < w.heap.size) (hc : ∀ i v, unitCells[i]? = some v → w.cell? ⟨g, i, none⟩ = some v) :
    Calls Tryz.prog 102 #[.pointer (some ⟨R, 0, none⟩), .int .i64 3600000, .int .i64 30, .slice (some ⟨g, 8, none⟩) 3 cap] w fun e w' =>
      e = .returned (.tuple #[.int .i64 5400000, .slice (some ⟨g, 10, none⟩) 2 (cap - 1), .nilIface]) ∧ Only [R] w w' ∧ Rd w' R b130 5 :=
  addunits_ok R b130 4 1 [109] g 8 3 cap 0 (fun i => unm (i + 4)) (fun i => ums (i + 4)) 3600000 30 w b130_isB (by decide) rfl (by decide) (fun k c hk => by
    match k, hk with
    | 0, hk => cases hk; exact ⟨rfl, rfl⟩
    | k + 1, hk => simp at hk) (fun c hc => by cases hc) H hgR (by decide) hcap hg (fun i hi => by
    have h := units_at hc (i + 4) (by omega)
    rw [show (i + 4) * 2 = 8 + i * 2 by omega] at h
    exact h) (by decide) (by decide) (by rw [Lib.toList_data, Lib.toList_data]; decide +kernel) (fun i hi => by omega) (fun w => add_any 3600000 30 60000 (by decide) (by decide) (by decide) (by decide) (by decide) (by decide) (by decide) (by decide) w)
set_option maxRecDepth 100000 in
set_option maxHeartbeats 2000000 in
theorem duration_130 (R : Nat) (w : World) (H : Rd w R b130 0) : Calls Tryz.prog 55 #[.pointer (some ⟨R, 0, none⟩)] w fun e w' => e = .returned (.tuple #[.int .i64 5400000, .nilIface]) ∧ Only [R] w w' := by
  have h0 := H.c0
  have h1 := H.c1
  have hsz : (strOf b130).size = 5 := rfl
  have CW1 := Lib.hid (w1_any R)
  have CW2 := Lib.hid (w2_any R)
  have CU1 := Lib.hid (u1_any R)
  have CU2 := Lib.hid (u2_any R)
  have CD1 := Lib.hid (fun w (H : Rd w R b130 2) => isdone_any R b130 2 w H)
  have CD2 := Lib.hid (fun w (H : Rd w R b130 5) => isdone_any R b130 5 w H)
  rw [show decide (2 = b130.length) = false by decide] at CD1
  rw [show decide (5 = b130.length) = true by decide] at CD2
  have CAU := Lib.hid allunits_any
  have H0 := Lib.hid H
  obtain ⟨S, hS⟩ : ∃ S, strOf b130 = S := ⟨_, rfl⟩
  rw [hS] at h0 hsz
  clear hS H
  go_enter Tryz.func55, Tryz.ntmps55
  go_wp2_with fail
  refine (CAU.out _).mono ?_
  rintro e w1 ⟨g, cap, rfl, hcap, hgw, hg, hcl, hb⟩
  have hgR : g ≠ R := by have := H0.out.lt; omega
  have R1 := H0.out.stay hb
  have h2 := R1.c1
  have CX1 := Lib.hid (CW1.out w1 R1)
  have O1 := Lib.hid (Only.of_below hb [R])
  have HCL := Lib.hid hcl
  have HGR := Lib.hid hgR
  have HG := Lib.hid hg
  have HK : Hid (∀ (w2 : World), Only [R] w1 w2 → g < w2.heap.size ∧ ∀ i v, unitCells[i]? = some v → w2.cell? ⟨g, i, none⟩ = some v) := Lib.hid (fun w2 ho => ⟨Nat.lt_of_lt_of_le hg ho.size, fun i v hv => (ho.cell (p := ⟨g, i, none⟩) hg (by simpa using hgR)).trans (hcl i v hv)⟩)
  clear hb hcl R1 h0 h1 hg hgR hgw
  go_wp2_with fail
  refine wp_loop_rounds 3 ?_
  rw [rounds_succ]
  go_wp2_with fail
  refine CX1.out.mono ?_
  rintro e w2 ⟨rfl, ho, hr⟩
  have A2 := Lib.hid ho
  have k2 := HK.out w2 ho
  have CX2 := Lib.hid (CU1.out g cap w2 hr HGR.out hcap k2.1 k2.2)
  clear ho hr k2 h2
  go_wp2_with fail
  refine CX2.out.mono ?_
  rintro e w3 ⟨rfl, ho, hr⟩
  have A3 := Lib.hid (A2.out.trans ho (fun x hx => .inl hx))
  have R3 := Lib.hid hr
  clear ho hr
  go_wp2_with fail
  refine (CD1.out _ R3.out).mono ?_
  rintro e w4 ⟨rfl, hb⟩
  have A4 := Lib.hid (A3.out.trans (Only.of_below hb [R]) (fun x hx => .inl hx))
  have r4 := R3.out.stay hb
  have h4 := r4.c1
  have CX4 := Lib.hid (CW2.out w4 r4)
  clear hb r4
  go_wp2
  rw [rounds_succ]
  go_wp2_with fail
  refine CX4.out.mono ?_
  rintro e w5 ⟨rfl, ho, hr⟩
  have A5 := Lib.hid (A4.out.trans ho (fun x hx => .inl hx))
  have k5 := HK.out w5 A5.out
  have CX5 := Lib.hid (CU2.out g (cap - 4) w5 hr HGR.out (by omega) k5.1 k5.2)
  clear ho hr k5 h4
  go_wp2_with fail
  refine CX5.out.mono ?_
  rintro e w6 ⟨rfl, ho, hr⟩
  have A6 := Lib.hid (A5.out.trans ho (fun x hx => .inl hx))
  have R6 := Lib.hid hr
  clear ho hr
  go_wp2_with fail
  refine (CD2.out _ R6.out).mono ?_
  rintro e w7 ⟨rfl, hb⟩
  have A7 := Lib.hid (A6.out.trans (Only.of_below hb [R]) (fun x hx => .inl hx))
  clear hb
  go_wp2
  go_ret2
  exact ⟨rfl, O1.out.trans A7.out (fun x hx => .inl hx)⟩
set_option maxRecDepth 100000 in
theorem readduration_130 (w : World) : Calls Tryz.prog 22 #[.string (strOf b130)] w (Gives w (.tuple #[.int .i64 5400000, .int .u16 0])) := by
  have CQ := Lib.hid (fun (R : Nat) (w : World) (H : Rd w R b130 0) => duration_130 R w H)
  have CA := Lib.hid as_nil
  obtain ⟨S, hS⟩ : ∃ S, strOf b130 = S := ⟨_, rfl⟩
  have HRL := Lib.hid (Rd.laid w b130)
  rw [hS] at HRL ⊢
  clear hS
  go_enter Tryz.func22, Tryz.ntmps22
  go_wp2_with fail
  refine (CQ.out _ _ HRL.out).mono ?_
  rintro e w1 ⟨rfl, ho⟩
  have BB := Lib.hid (Below.trans ((Below.refl w.heap.size w).alloc (Nat.le_refl _) _) (ho.below (B := w.heap.size) (by simp) (by simp)))
  clear ho
  go_wp2_with fail
  refine (CA.out _ _).mono ?_
  rintro e w2 ⟨rfl, rfl⟩
  go_wp2
  go_ret2
  exact ⟨rfl, BB.out.alloc BB.out.size _⟩
end Go.Proofs.YthhlhiighgnkmaaGreatDoor
