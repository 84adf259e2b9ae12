/-
  WALKS: the escapes that stand for one byte.
-/
import Derived.Test.YtiolghcjndoigaaGreatDoorRd
namespace Go.Proofs.YtiolghcjndoigaaGreatDoor
set_option linter.unusedVariables false
set_option linter.unusedSimpArgs false
open Go.RowKit Go.PlainAid
/-- digits as a number -/
def dvl (base : Nat) (l : List Nat) : Nat := l.foldl (fun v c => v * base + hexV c) 0
theorem dvl_snoc (base : Nat) (l : List Nat) (c : Nat) : dvl base (l ++ [c]) = dvl base l * base + hexV c := by
  unfold dvl
  rw [List.foldl_append]
  rfl
theorem dvl_acc (base : Nat) (l : List Nat) (h : ∀ c ∈ l, hexV c < base) : ∀ v, l.foldl (fun v c => v * base + hexV c) v < (v + 1) * base ^ l.length := by
  induction l with
  | nil => intro v; simp
  | cons c l ih =>
    intro v
    rw [List.foldl_cons, List.length_cons, Nat.pow_succ]
    have h1 := ih (fun x hx => h x (List.mem_cons_of_mem _ hx)) (v * base + hexV c)
    have h2 := h c (List.mem_cons_self ..)
    refine Nat.lt_of_lt_of_le h1 ?_
    rw [Nat.mul_comm (base ^ l.length) base, ← Nat.mul_assoc]
    exact Nat.mul_le_mul_right _ (by rw [Nat.add_mul, Nat.one_mul]; omega)
theorem dvl_lt (base : Nat) (l : List Nat) (h : ∀ c ∈ l, hexV c < base) : dvl base l < base ^ l.length := by
  have := dvl_acc base l h 0
  simpa [dvl] using this
theorem next_at (R : Nat) (bs : List Nat) (p c : Nat) (hB : IsB bs) (hc : bs[p]? = some c) (hl : bs.length ≤ 200000) (w : World) (H : Rd w R bs p) :
    Calls Tryz.prog 179 #[.pointer (some ⟨R, 0, none⟩)] w fun e w' => e = .returned (.tuple #[.int .u8 ((c : Nat) : Int), .nilIface]) ∧ Only [R] w w' ∧ Rd w' R bs (p + 1) := by
  obtain ⟨hp, rfl⟩ := List.getElem?_eq_some_iff.1 hc
  exact next_ok R bs p hB hp hl w H
theorem at_isB {bs : List Nat} (h : IsB bs) {p c : Nat} (hc : bs[p]? = some c) : c < 256 := h c (List.mem_of_getElem? hc)
set_option maxHeartbeats 1000000 in
theorem digits_ok (R : Nat) (bs : List Nat) (p n base : Nat) (ds : List Nat) (hB : IsB bs) (hl : bs.length ≤ 200000) (hn : n ≤ 8) (hbase : base ≤ 16) (hlen : ds.length = n) (hds : ∀ k c, ds[k]? = some c → bs[p + k]? = some c) (hd : ∀ c ∈ ds, hexV c < base) (w : World) (H : Rd w R bs p) :
    Calls Tryz.prog 198 #[.pointer (some ⟨R, 0, none⟩), .int .i64 (n : Int), .int .u32 (base : Int)] w fun e w' => e = .returned (.tuple #[.int .u32 ((dvl base ds : Nat) : Int), .nilIface]) ∧ Only [R] w w' ∧ Rd w' R bs (p + n) := by
  have HN := Lib.hid (fun (q c : Nat) (hc : bs[q]? = some c) w H => next_at R bs q c hB hc hl w H)
  have HD := Lib.hid hd
  have HB := Lib.hid hB
  have HG := Lib.hid hds
  have HL := Lib.hid hlen
  have H0 := Lib.hid H
  have HS := Lib.hid (fun (k c : Nat) (hc : ds[k]? = some c) => show dvl base (ds.take (k + 1)) = dvl base (ds.take k) * base + hexV c by
    obtain ⟨hk, rfl⟩ := List.getElem?_eq_some_iff.1 hc
    rw [List.take_succ_eq_append_getElem hk, dvl_snoc])
  have HV := Lib.hid (fun (k : Nat) => show dvl base (ds.take k) < 16 ^ 8 by
    have h1 := dvl_lt base (ds.take k) (fun c hc => hd c (List.mem_of_mem_take hc))
    have h2 : (ds.take k).length ≤ 8 := by rw [List.length_take]; omega
    calc _ < base ^ (ds.take k).length := h1
      _ ≤ 16 ^ (ds.take k).length := Nat.pow_le_pow_left hbase _
      _ ≤ 16 ^ 8 := Nat.pow_le_pow_right (by decide) h2)
  have HT := Lib.hid (show ds.take n = ds by rw [← hlen, List.take_length])
  clear hd hB hds hlen H hl
  go_enter Tryz.func198, Tryz.ntmps198
  go_wp2
  go_loopw [8, 12] (fun v i wr => ∃ (k : Nat), k ≤ n ∧ i = .int .i64 k ∧ v = .int .u32 ((dvl base (ds.take k) : Nat) : Int) ∧ Hid (Only [R] w wr) ∧ Hid (Rd wr R bs (p + k))) (fun _ i _ => (n - intOf i).toNat)
  case atStart => exact ⟨0, by omega, rfl, rfl, Lib.hid (Only.refl _ _), H0⟩
  case round =>
    obtain ⟨k, hk, rfl, rfl, HO, HR⟩ := hrel
    by_cases hkn : k < n
    · have da : decide ((k : Int) < (n : Int)) = true := decide_eq_true (by omega)
      have da2 : decide (k < n) = true := decide_eq_true hkn
      obtain ⟨c, hce⟩ : ∃ c, ds[k]? = some c := ⟨_, List.getElem?_eq_getElem (by rw [HL.out]; exact hkn)⟩
      have CN := Lib.hid (HN.out (p + k) c (HG.out k c hce) wr HR.out)
      have hs := HS.out k c hce
      have hv := HV.out (k + 1)
      have hdk := HD.out c (List.mem_of_getElem? hce)
      have hc := at_isB HB.out (HG.out k c hce)
      have CV := Lib.hid (fun w => digitof_any c hc w)
      obtain ⟨h, hh⟩ : ∃ h, hexV c = h := ⟨_, rfl⟩
      rw [hh] at CV hs hdk
      obtain ⟨v, hve⟩ : ∃ v, dvl base (ds.take k) = v := ⟨_, rfl⟩
      have HX := Lib.hid (show dvl base (ds.take (k + 1)) = v * base + h by rw [hs, hve])
      rw [hs, hve] at hv
      rw [hve]
      obtain ⟨m, hm⟩ : ∃ m, v * base = m := ⟨_, rfl⟩
      rw [hm] at hv
      have em : ((v : Int) * (base : Int)) = (m : Int) := by rw [← hm]; simp
      have e1 : IntKind.u32.wrap (m : Int) = (m : Int) := by rw [IntKind.wrap_u32]; omega
      have e2 : IntKind.u32.wrap ((m : Int) + (h : Int)) = ((m + h : Nat) : Int) := by rw [IntKind.wrap_u32]; omega
      have dg : decide ((h : Int) ≥ (base : Int)) = false := decide_eq_false (by omega)
      have dg2 : decide ((base : Int) ≤ (h : Int)) = false := decide_eq_false (by omega)
      have dg3 : decide (base ≤ h) = false := decide_eq_false (by omega)
      have HM := Lib.hid hm
      clear hs hce hh hve hm hdk hc
      go_wp2_with fail
      refine CN.out.mono ?_
      rintro e w1 ⟨rfl, ho, hr⟩
      have O1 := Lib.hid (HO.out.trans ho (by intro x hx; exact .inl hx))
      have R1 := Lib.hid hr
      clear ho hr
      go_wp2_with fail
      refine (CV.out _).mono ?_
      rintro e w2 ⟨rfl, rfl⟩
      go_wp2_with fail
      refine (CV.out _).mono ?_
      rintro e w3 ⟨rfl, rfl⟩
      go_wp2
      go_roundw
      case rel => exact ⟨k + 1, by omega, rfl, by rw [HX.out, HM.out]; rfl, O1, R1⟩
      case measure => simp [intOf]; omega
    · obtain rfl : k = n := by omega
      have da : decide ((k : Int) < (k : Int)) = false := decide_eq_false (by omega)
      have da2 : decide (k < k) = false := decide_eq_false hkn
      rw [HT.out]
      go_wp2
      go_ret2
      exact ⟨rfl, HO.out, HR.out⟩
/-- one byte goes behind a row of the call's own -/
theorem put_one {B : Nat} {w1 w2 : World} {o v2 : Value} {ds : List Nat} {c n : Nat} {ob : Obj} (h : w2.ownsRow B 5 1 v2 (n + 1) (cellsOf ds ++ cellsOf [c])) (hn : ds.length = n) (hO : Own w1 B o ds) (hg : (w1.alloc ob).grownBy w2 o.ownBlock) (hs : B ≤ w1.heap.size) :
    Own w2 B v2 (ds ++ [c]) ∧ Below B w1 w2 :=
  own_grow (ds := ds) (es := [c]) h (by rw [hn]; rfl) (own_block hO) hg ((Below.refl B w1).alloc hs ob) (by simp; omega)
theorem own_with {B : Nat} {w : World} {a : Option Addr} {co n : Nat} {ds : List Nat} (h : Own w B (.slice a n co) ds) (hn : ds.length = n) (o : Obj) : (w.alloc o).ownsRow B 5 1 (.slice a n co) n (cellsOf ds) := by
  have k := h.below ((Below.refl w.heap.size w).alloc (Nat.le_refl _) o)
  unfold Own at k
  rw [hn] at k
  exact k
set_option maxRecDepth 100000 in
set_option maxHeartbeats 1000000 in
theorem byteof_ok (R B : Nat) (bs : List Nat) (p n base : Nat) (b : Value) (es ds : List Nat) (hB : IsB bs) (hl : bs.length ≤ 200000) (hn : n ≤ 8) (hbase : base ≤ 16) (hlen : ds.length = n) (hds : ∀ k c, ds[k]? = some c → bs[p + k]? = some c) (hd : ∀ c ∈ ds, hexV c < base) (hv : dvl base ds ≤ 255)
    (hes : es.length ≤ 200000) (hRB : R < B) (w : World) (hBw : B ≤ w.heap.size) (H : Rd w R bs p) (HO : Own w B b es) :
    Calls Tryz.prog 192 #[.pointer (some ⟨R, 0, none⟩), b, .int .i64 (n : Int), .int .u32 (base : Int)] w fun e w' => ∃ v, e = .returned (.tuple #[v, .nilIface]) ∧ Own w' B v (es ++ [dvl base ds]) ∧ Kept B R w w' ∧ Rd w' R bs (p + n) := by
  obtain ⟨i0, hi, hz0, hz1, hz2⟩ := info_parts info5
  obtain ⟨ao, co, rfl⟩ := own_shape HO
  have CD := Lib.hid (digits_ok R bs p n base ds hB hl hn hbase hlen hds hd w H)
  obtain ⟨v, hve⟩ : ∃ v, dvl base ds = v := ⟨_, rfl⟩
  rw [hve] at CD hv ⊢
  obtain ⟨m, hm⟩ : ∃ m, es.length = m := ⟨_, rfl⟩
  rw [hm] at HO hes ⊢
  have HM := Lib.hid hm
  have HO := Lib.hid HO
  have HRB := Lib.hid hRB
  have HBW := Lib.hid hBw
  have dg : decide ((v : Int) > 255) = false := decide_eq_false (by omega)
  have dg2 : decide ((255 : Int) < (v : Int)) = false := decide_eq_false (by omega)
  have dg3 : decide (255 < v) = false := decide_eq_false (by omega)
  have e1 : IntKind.u8.wrap (v : Int) = (v : Int) := by rw [IntKind.wrap_u8]; omega
  clear hve hm hRB hBw hB hl hlen hds hd H hn hbase
  go_enter Tryz.func192, Tryz.ntmps192
  go_wp2_with fail
  refine CD.out.mono ?_
  rintro e w1 ⟨rfl, ho, hr⟩
  have O1 := Lib.hid (HO.out.only ho (fun k hk hb => by have h1 := own_block HO.out k hb; have h2 := HRB.out; simp at hk; omega))
  have K1 := Lib.hid (Kept.of_only ho HBW.out)
  have R1 := Lib.hid hr
  have S1 := Lib.hid (Nat.le_trans HBW.out ho.size)
  clear ho hr
  go_wp2_with (at_builtin; refine wpList_append_own _ rfl (.tmp 26) (.tmp 29) 83 rfl B 5 i0 (.int .u8 0) 1 1 Tryz.underlying83 hi hz0 hz1 hz2 rfl (by decide) (.slice ao m co) m (cellsOf es) rfl (own_with O1.out HM.out _) ⟨w1.heap.size, 0, none⟩ 1 1 (cellsOf [v]) rfl rfl (alloc_row _ [v]) (cellsOf_one _) (by unfold maxLen; omega) (by omega) (by have := S1.out; simp; omega) ?_; intro v2 w2 hown2 hgr2 hne2)
  obtain ⟨g1, g2⟩ := put_one hown2 HM.out O1.out hgr2 S1.out
  have G1 := Lib.hid g1
  have G2 := Lib.hid g2
  clear hown2 hgr2 hne2 g1 g2
  go_wp2
  go_ret2
  exact ⟨_, rfl, G1.out, K1.out.trans (Kept.of_below G2.out), R1.out.below G2.out HRB.out⟩
end Go.Proofs.YtiolghcjndoigaaGreatDoor
