/-
  WHAT A SLICE OF BYTES THAT CAME IN READS AS: the walks' own word for it; a region's worlds, one behind the other.
-/
import Derived.Test.YtimmlnfoabbbjaaWalkG
import Derived.OpenShut
import Derived.Deep.RegionHeld3
namespace Go.Proofs.Ytimmlnfoabbbjaa
open Go.RowKit
/-- a slice of integers that came in: nil, or a row of 'cap' cells -/
def IsRow (k : IntKind) (w : World) (a : Option Addr) (len cap : Nat) (zs : List Int) : Prop :=
  (a = none ∧ len = 0 ∧ cap = 0 ∧ zs = []) ∨
  ∃ x, a = some x ∧ len ≤ cap ∧ cap ≤ maxLen ∧ zs.length = cap ∧ (∀ i, i < zs.length → w.cell? (x.add i) = some (.int k (zs.getD i 0))) ∧ ∀ n ∈ zs, (Lit.int k n).wf = true
theorem byte_nat {n : Int} (h : (Lit.int .u8 n).wf = true) : ∃ m : Nat, n = (m : Int) ∧ m < 256 := by
  have hb := bounds_u8 h
  obtain ⟨m, rfl⟩ := Int.eq_ofNat_of_zero_le hb.1
  exact ⟨m, rfl, by omega⟩
theorem bytes_nat : ∀ (zs : List Int), (∀ n ∈ zs, (Lit.int .u8 n).wf = true) → ∃ bs : List Nat, zs = bs.map (fun c => ((c : Nat) : Int)) ∧ ∀ c ∈ bs, c < 256
  | [], _ => ⟨[], rfl, fun _ h => absurd h (by simp)⟩
  | z :: zs, h => by
    obtain ⟨m, rfl, hm⟩ := byte_nat (h z List.mem_cons_self)
    obtain ⟨bs, rfl, hb⟩ := bytes_nat zs (fun n hn => h n (List.mem_cons_of_mem _ hn))
    refine ⟨m :: bs, rfl, fun c hc => ?_⟩
    rcases List.mem_cons.1 hc with rfl | hc
    · exact hm
    · exact hb c hc
theorem bys_of_row {w : World} {a : Option Addr} {len cap : Nat} {zs : List Int} (h : IsRow .u8 w a len cap zs) : ∃ bs : List Nat, bs.length = len ∧ Bys w a bs ∧ (a = none → cap = 0) ∧ len ≤ cap := by
  rcases h with ⟨rfl, rfl, rfl, rfl⟩ | ⟨x, rfl, hl, hm, hz, hcell, hwz⟩
  · exact ⟨[], rfl, Bys.nil _ _, fun _ => rfl, Nat.le_refl _⟩
  · obtain ⟨bs, rfl, h8⟩ := bytes_nat zs hwz
    have hz' : bs.length = cap := by simpa using hz
    refine ⟨bs.take len, by simp; omega, ⟨by simp; omega, fun c hc => h8 c (List.mem_of_mem_take hc), fun hn => ?_⟩, (fun h => by cases h), hl⟩
    have hlen : 0 < len := by
      refine Nat.pos_of_ne_zero fun h0 => hn ?_
      subst h0; simp
    obtain ⟨b, off, spot⟩ := x
    have hc0 := hcell 0 (by simp; omega)
    have hspot : spot = none := by simpa [Addr.add] using World.cell?_spot hc0
    subst hspot
    refine ⟨b, off, rfl, ?_, fun i hi => ?_⟩
    · have := World.block_lt_of_cell? _ _ hc0
      simpa [Addr.add] using this
    · have hi' : i < bs.length := by simp at hi; omega
      have hc := hcell i (by simpa using hi')
      rw [add_at] at hc
      rw [hc]
      simp [hi']
theorem Bys.take {w : World} {a : Option Addr} {bs : List Nat} (h : Bys w a bs) (n : Nat) : Bys w a (bs.take n) := by
  obtain ⟨h1, h2, h3⟩ := h
  refine ⟨by rw [List.length_take]; omega, fun c hc => h2 c (List.mem_of_mem_take hc), fun hn => ?_⟩
  obtain ⟨b, off, ha, hb, hc⟩ := h3 (by rintro rfl; simp at hn)
  refine ⟨b, off, ha, hb, fun i hi => ?_⟩
  rw [List.length_take] at hi
  rw [hc i (by omega), List.getElem_take]
/-- b is behind a: of what was there in a nothing has turned -/
structure Since (a b : World) : Prop where
  out : Below a.heap.size a b
theorem Since.start (a : World) : Since a a.drew := ⟨(Below.refl _ _).drew⟩
theorem Since.next {a b c : World} (h : Since a b) (k : Below b.heap.size b c) : Since a c := ⟨h.out.trans (k.mono h.out.size)⟩
theorem Since.alloc {a b : World} (h : Since a b) (o : Obj) : Since a (b.alloc o) := ⟨h.out.alloc h.out.size o⟩
/-- a writer's bytes, where they are known -/
def TheBytes (w : World) (ds : List Nat) (e : Ending) (w' : World) : Prop := ∃ a cap, e = .returned (.slice a ds.length cap) ∧ Bys w' a ds ∧ Below w.heap.size w w'
theorem wbytes_known (p d k : Nat) (B : List Bool) (ds : List Nat) (w : World) (H : Wr w p d B) (hB : B.length ≤ 1000000000) (hk : k < 8) (hP : Bt.Packs k ds B) :
    Calls Try.prog 11 #[.pointer (some ⟨p, 0, none⟩)] w (TheBytes w ds) := by
  refine (wbytes_any p d B w H hB).mono ?_
  rintro e w' ⟨bs, k2, hk2, hP2, a, cap, g, rfl, hR, _, hb⟩
  obtain rfl := Bt.packs_unique hP hP2 hk hk2
  exact ⟨a, cap, rfl, (hR.bys hP.1).2, hb⟩
theorem same_n (n m : Nat) (a a2 : Option Addr) (bs : List Nat) (cap cap2 : Nat) (w : World) (hn : bs.length = n) (hm : bs.length = m) (H : Bys w a bs) (H2 : Bys w a2 bs) :
    Calls Try.prog 13 #[.slice a n cap, .slice a2 m cap2] w fun e w' => e = .returned (.bool true) ∧ Below w.heap.size w w' := by
  subst hn; subst hm; exact same_any a a2 bs cap cap2 w H H2
theorem unpack_take (ds : List Nat) (n : Nat) : Bt.unpack (ds.take n) = (Bt.unpack ds).take (8 * n) := by
  induction ds generalizing n with
  | nil => simp [Bt.unpack]
  | cons c ds ih =>
    cases n with
    | zero => simp [Bt.unpack]
    | succ n =>
      rw [List.take_succ_cons, Bt.unpack_cons, Bt.unpack_cons, ih, show 8 * (n + 1) = 8 + 8 * n by omega, List.take_add]
      congr 1
end Go.Proofs.Ytimmlnfoabbbjaa
