/-
  WALKS: Signed of the writer; clone, Bytes, Read.
-/
import Derived.Test.YtimmlnfoabbbjaaWalkB
namespace Go.Proofs.Ytimmlnfoabbbjaa
open Go.RowKit
theorem zz_pos (v : Int) (h0 : 0 ≤ v) : v * 2 = ((Bt.zz v : Nat) : Int) := by
  unfold Bt.zz; rw [if_pos h0]; omega
theorem zz_neg (v : Int) (h1 : -9223372036854775808 ≤ v) (h0 : v < 0) : bits .xor .u64 IntKind.u64.max (IntKind.u64.wrap (IntKind.u64.wrap v * 2)) = ((Bt.zz v : Nat) : Int) := by
  have e : IntKind.u64.wrap (IntKind.u64.wrap v * 2) = ((2 * v + 18446744073709551616).toNat : Int) := by
    rw [IntKind.wrap_u64, IntKind.wrap_u64]; omega
  have hlt : (2 * v + 18446744073709551616).toNat < 18446744073709551616 := by omega
  rw [e]
  generalize hx : (2 * v + 18446744073709551616).toNat = x at *
  have hz : Bt.zz v = 18446744073709551615 - x := by unfold Bt.zz; rw [if_neg (by omega)]; omega
  rw [hz]
  have := u64_xor_nat 18446744073709551615 x (by decide) hlt
  rw [show IntKind.u64.max = ((18446744073709551615 : Nat) : Int) from rfl, this]
  congr 1
  have h2 : (BitVec.allOnes 64 ^^^ BitVec.ofNat 64 x).toNat = 18446744073709551615 ^^^ x := by
    rw [BitVec.toNat_xor, BitVec.toNat_allOnes, BitVec.toNat_ofNat, Nat.mod_eq_of_lt (by simpa using hlt)]
  rw [← h2, BitVec.allOnes_xor, BitVec.toNat_not, BitVec.toNat_ofNat, Nat.mod_eq_of_lt (by simpa using hlt)]
set_option maxHeartbeats 400000 in
theorem wsigned_any (p d : Nat) (B : List Bool) (v : Int) (h1 : -9223372036854775808 ≤ v) (h2 : v ≤ 9223372036854775807) (w : World) (H : Wr w p d B) (hB : B.length + 80 ≤ 1000000000) :
    Calls Try.prog 33 #[.pointer (some ⟨p, 0, none⟩), .int .i64 v] w fun e w' => e = .returned (.tuple #[]) ∧ PutPost w p d (B ++ Bt.vb (Bt.zz v)) w' := by
  have H0 := Lib.hid H
  have hs : IntKind.u64.signed = false := rfl
  clear H
  by_cases h0 : 0 ≤ v
  · have hd : decide (v < 0) = false := by simpa using h0
    go_enter Try.func33, Try.ntmps33
    go_wp2_with fail
    rw [zz_pos v h0]
    refine (wvarint_any p d B (Bt.zz v) (Bt.zz_lt v h1 h2) _ H0.out hB).mono ?_
    rintro e w' ⟨rfl, hp⟩
    have HP := Lib.hid hp
    clear hp
    go_wp2
    go_end0
    exact ⟨rfl, HP.out⟩
  · have hd : decide (v < 0) = true := by simp; omega
    go_enter Try.func33, Try.ntmps33
    go_wp2_with fail
    rw [zz_neg v h1 (by omega)]
    refine (wvarint_any p d B (Bt.zz v) (Bt.zz_lt v h1 h2) _ H0.out hB).mono ?_
    rintro e w' ⟨rfl, hp⟩
    have HP := Lib.hid hp
    clear hp
    go_wp2
    go_end0
    exact ⟨rfl, HP.out⟩
/-- a slice's address leads to these bytes -/
def Bys (w : World) (a : Option Addr) (bs : List Nat) : Prop :=
  bs.length ≤ maxLen ∧ (∀ c ∈ bs, c < 256) ∧ (bs ≠ [] → ∃ b off, a = some ⟨b, off, none⟩ ∧ b < w.heap.size ∧ ∀ i (h : i < bs.length), w.cell? ⟨b, off + i, none⟩ = some (.int .u8 ((bs[i] : Nat) : Int)))
theorem Bys.below {w w' : World} {a : Option Addr} {bs : List Nat} (h : Bys w a bs) (hb : Below w.heap.size w w') : Bys w' a bs := by
  obtain ⟨h1, h2, h3⟩ := h
  refine ⟨h1, h2, fun hn => ?_⟩
  obtain ⟨b, off, ha, hlt, hc⟩ := h3 hn
  exact ⟨b, off, ha, Nat.lt_of_lt_of_le hlt hb.size, fun i hi => (hb.cell (p := ⟨b, off + i, none⟩) hlt).trans (hc i hi)⟩
theorem Bys.at {w : World} {a : Option Addr} {bs : List Nat} (h : Bys w a bs) (k : Nat) (hk : k < bs.length) :
    ∃ b off, a = some ⟨b, off, none⟩ ∧ b < w.heap.size ∧ w.cell? ⟨b, off + k, none⟩ = some (.int .u8 ((bs[k] : Nat) : Int)) := by
  obtain ⟨b, off, e, hb, hc⟩ := h.2.2 (by intro h0; rw [h0] at hk; simp at hk)
  exact ⟨b, off, e, hb, hc k hk⟩
theorem Bys.cells {w : World} {ad : Addr} {bs : List Nat} (h : Bys w (some ad) bs) : ∀ j u, (cellsOf bs)[j]? = some u → w.cell? (ad.add j) = some u := by
  intro j u hu
  have hj : j < bs.length := by
    have := (List.getElem?_eq_some_iff.1 hu).1
    rwa [cellsOf_length] at this
  obtain ⟨b, off, e, _, hc⟩ := h.at j hj
  cases e
  rw [add_at, hc]
  rw [cellsOf_get bs j hj] at hu
  exact hu
theorem Bys.nil (w : World) (a : Option Addr) : Bys w a [] := ⟨by simp, by simp, fun h => absurd rfl h⟩
theorem Row.bys {w : World} {d : Nat} {a : Option Addr} {len cap : Nat} {ds : List Nat} (h : Row w d (.slice a len cap) ds) (h8 : ∀ c ∈ ds, c < 256) : len = ds.length ∧ Bys w a ds := by
  rcases h.value with ⟨hv, rfl⟩ | ⟨cap', cur, hv, hg, hc, hm, hs, ht⟩
  · cases hv; exact ⟨rfl, Bys.nil _ _⟩
  · cases hv
    refine ⟨rfl, h.len, h8, fun _ => ⟨d, 0, rfl, (Array.getElem?_eq_some_iff.1 hg).1, fun i hi => ?_⟩⟩
    obtain ⟨_, _, _, _, hcell, _⟩ := h.cell i hi
    rw [Nat.zero_add]; exact hcell
/-- what a copy comes to: a row of its own -/
def ClonePost (w : World) (bs : List Nat) (e : Ending) (w' : World) : Prop :=
  ∃ a cap g, e = .returned (.slice a bs.length cap) ∧ Row w' g (.slice a bs.length cap) bs ∧ (a = none ∨ w.heap.size ≤ g) ∧ Below w.heap.size w w'
set_option maxHeartbeats 400000 in
theorem clone_any (a : Option Addr) (bs : List Nat) (cap : Nat) (w : World) (H : Bys w a bs) (hc0 : a = none → cap = 0) (hbd : bs.length ≤ 1000000000) :
    Calls Try.prog 38 #[.slice a bs.length cap] w (ClonePost w bs) := by
  obtain ⟨i0, hi, hz0, hz1, hz2⟩ := info_parts info5
  have A1 := Lib.hid H
  clear H
  cases a with
  | none =>
    obtain rfl : cap = 0 := hc0 rfl
    have hbs : bs = [] := by
      refine Decidable.by_contra fun hn => ?_
      obtain ⟨b, off, e, _⟩ := A1.out.2.2 hn
      cases e
    subst hbs
    clear hc0
    go_enter Try.func38, Try.ntmps38
    go_wp2_with (at_builtin; refine wpList_append_own_none rfl (.const (.slice none 0 0)) (.tmp 3) 27 rfl 0 5 i0 1 Try.underlying27 hi (.slice none 0 0) 0 [] rfl (World.ownsRow_nil w 0 5 1) rfl ?_)
    go_ret
    exact ⟨none, 0, 0, rfl, Row.nil _ _, .inl rfl, Below.refl _ _⟩
  | some ad =>
    clear hc0
    go_enter Try.func38, Try.ntmps38
    go_wp2_with (at_builtin; refine wpList_append_place _ rfl (.const (.slice none 0 0)) (.tmp 3) 27 rfl 5 i0 (.int .u8 0) 1 1 Try.underlying27 hi hz0 hz1 hz2 rfl (by decide) (.slice none 0 0) 0 [] rfl (World.ownsRow_nil w 0 5 1) ad bs.length cap (cellsOf bs) rfl (by rw [cellsOf_length]; omega) A1.out.cells (cellsOf_one bs) (by unfold maxLen; omega) (by omega) ?_; intro v2 w2 hown2 hgr2 hpl2; have HO2 := Lib.hid hown2; have HG2 := Lib.hid hgr2; have HP2 := Lib.hid hpl2; clear hown2 hgr2 hpl2)
    go_ret
    have hown := HO2.out
    rw [Nat.zero_add, List.nil_append] at hown
    have hbel : Below w.heap.size w w2 := (Below.refl _ _).grown HG2.out (Nat.le_refl _) (fun k hk => by cases hk)
    have hv : ∃ a2 cap2, v2 = .slice a2 bs.length cap2 := by
      rcases hown.2 with ⟨h, h0⟩ | ⟨g, cap, cur, h, _⟩
      · rw [h, h0]; exact ⟨_, _, rfl⟩
      · exact ⟨_, _, h⟩
    obtain ⟨a2, cap2, rfl⟩ := hv
    rcases HP2.out with h | ⟨g, h, hg⟩
    · have ha : a2 = none := by
        cases a2 with
        | none => rfl
        | some x => cases h
      exact ⟨a2, cap2, 0, rfl, ⟨hown, .inl h⟩, .inl ha, hbel⟩
    · exact ⟨a2, cap2, g, rfl, ⟨hown, .inr h⟩, .inr hg, hbel⟩
/-- a writer's bytes, in a row of their own -/
def BytesPost (w : World) (B : List Bool) (e : Ending) (w' : World) : Prop := ∃ bs k, k < 8 ∧ Bt.Packs k bs B ∧ ClonePost w bs e w'
set_option maxHeartbeats 400000 in
theorem wbytes_any (p d : Nat) (B : List Bool) (w : World) (H : Wr w p d B) (hB : B.length ≤ 1000000000) :
    Calls Try.prog 11 #[.pointer (some ⟨p, 0, none⟩)] w (BytesPost w B) := by
  obtain ⟨v, ds, k, h1, hk, hP, hR, hne, hd⟩ := H
  obtain ⟨c0, _, _, _⟩ := cell2 h1
  have hlen2 : ∃ a' cap', v = .slice a' ds.length cap' ∧ (a' = none → cap' = 0) := by
    rcases hR.value with ⟨h, h'⟩ | ⟨cap, _, h, _⟩
    · rw [h, h']; exact ⟨_, _, rfl, fun _ => rfl⟩
    · exact ⟨_, _, h, fun h => by cases h⟩
  obtain ⟨a', cap', rfl, hc0⟩ := hlen2
  have hbd : ds.length ≤ 1000000000 := by have := hP.length; omega
  have HB := Lib.hid (hR.bys hP.1).2
  have HP := Lib.hid hP
  have HC := Lib.hid hc0
  clear hR hP h1 hne hc0
  go_enter Try.func11, Try.ntmps11
  go_wp2_with fail
  refine (clone_any a' ds cap' _ HB.out HC.out hbd).mono ?_
  rintro e w' ⟨a2, cap2, g, rfl, hp⟩
  have HX := Lib.hid hp
  clear hp
  go_wp2
  go_ret
  exact ⟨ds, k, hk, HP.out, a2, cap2, g, rfl, HX.out⟩
/-- a reader: its struct's block, its bytes' block, its bytes, its place -/
def Rd (w : World) (p g : Nat) (ds : List Nat) (at_ : Nat) : Prop :=
  ∃ v, w.heap[p]? = some (.cells #[v, .int .i64 (at_ : Nat)] 129 (0, 0)) ∧ Row w g v ds ∧ (v.ownBlock = none ∨ g ≠ p) ∧ g < w.heap.size ∧ at_ ≤ 8 * ds.length ∧ (∀ c ∈ ds, c < 256)
theorem Rd.lt {w : World} {p g : Nat} {ds : List Nat} {at_ : Nat} (h : Rd w p g ds at_) : p < w.heap.size ∧ g < w.heap.size := by
  obtain ⟨v, hp, _, _, hd, _⟩ := h
  exact ⟨(Array.getElem?_eq_some_iff.1 hp).1, hd⟩
theorem Rd.only {w w' : World} {p g : Nat} {ds : List Nat} {at_ : Nat} (h : Rd w p g ds at_) {S : List Nat} (ho : Only S w w') (hp : p ∉ S) (hg : g ∉ S) : Rd w' p g ds at_ := by
  obtain ⟨v, h1, h2, h3, h4, h5⟩ := h
  exact ⟨v, (ho.block p (Array.getElem?_eq_some_iff.1 h1).1 hp).trans h1, h2.only ho hg, h3, Nat.lt_of_lt_of_le h4 ho.size, h5⟩
theorem Rd.below {w w' : World} {p g : Nat} {ds : List Nat} {at_ : Nat} (h : Rd w p g ds at_) (ho : Below w.heap.size w w') : Rd w' p g ds at_ := h.only (Only.of_below ho []) (by simp) (by simp)
def ReadPost (w : World) (bs : List Nat) (e : Ending) (w' : World) : Prop :=
  ∃ p g, e = .returned (.pointer (some ⟨p, 0, none⟩)) ∧ w.heap.size ≤ p ∧ w.heap.size ≤ g ∧ Rd w' p g bs 0 ∧ Below w.heap.size w w'
set_option maxHeartbeats 400000 in
theorem read_any (a : Option Addr) (bs : List Nat) (cap : Nat) (w : World) (H : Bys w a bs) (hc0 : a = none → cap = 0) (hbd : bs.length ≤ 1000000000) :
    Calls Try.prog 17 #[.slice a bs.length cap] w (ReadPost w bs) := by
  have A1 := Lib.hid H
  have HC := Lib.hid hc0
  have H8 := Lib.hid H.2.1
  clear H hc0
  go_enter Try.func17, Try.ntmps17
  go_wp2_with fail
  refine (clone_any a bs cap _ A1.out HC.out hbd).mono ?_
  rintro e w1 ⟨a2, cap2, g, rfl, hR, hg, hb⟩
  have HR := Lib.hid hR
  have HG := Lib.hid hg
  have HB := Lib.hid hb
  clear hR hg hb
  go_wp2
  go_ret
  have hR := HR.out
  have hsz := HB.out.size
  have hbel : Below w.heap.size w (w1.alloc (.cells #[.slice a2 bs.length cap2, .int .i64 0] 129)) := HB.out.alloc hsz _
  have hR2 : Row (w1.alloc (.cells #[.slice a2 bs.length cap2, .int .i64 0] 129)) g (.slice a2 bs.length cap2) bs := hR.below ((Below.refl _ _).alloc (Nat.le_refl _) _)
  rcases hR.value with ⟨hv, h0⟩ | ⟨cap3, cur, hv, hg3, _⟩
  · subst h0
    cases hv
    exact ⟨w1.heap.size, w1.heap.size, rfl, hsz, hsz, ⟨_, heap_alloc_new _ _, Row.nil _ _, .inl rfl, by simp, by simp, H8.out⟩, hbel⟩
  · cases hv
    have hlt : g < w1.heap.size := (Array.getElem?_eq_some_iff.1 hg3).1
    refine ⟨w1.heap.size, g, rfl, hsz, ?_, ⟨_, heap_alloc_new _ _, hR2, .inr (by omega), by simp; omega, by simp, H8.out⟩, hbel⟩
    rcases HG.out with h | h
    · cases h
    · exact h
end Go.Proofs.Ytimmlnfoabbbjaa
