/-
  WHAT A SLICE OF BYTES THAT CAME IN READS AS: the walks' own word for it.
-/
import Derived.Test.YtniajoocpnhhgaaWalkE
import Derived.OpenShut
namespace Go.Proofs.Ytniajoocpnhhgaa
open Go.RowKit
/-- a slice of integers that came in: nil, or a row of 'cap' cells -/
def IsRow (k : IntKind) (w : World) (a : Option Addr) (len cap : Nat) (zs : List Int) : Prop :=
  (a = none ∧ len = 0 ∧ cap = 0 ∧ zs = []) ∨
  ∃ x, a = some x ∧ len ≤ cap ∧ cap ≤ maxLen ∧ zs.length = cap ∧ (∀ i, i < zs.length → w.cell? (x.add i) = some (.int k (zs.getD i 0))) ∧ ∀ n ∈ zs, (Lit.int k n).wf = true
theorem byte_nat {n : Int} (h : (Lit.int .u8 n).wf = true) : ∃ m : Nat, n = (m : Int) ∧ m < 256 := by
  have hb := bounds_u8 h
  obtain ⟨m, rfl⟩ := Int.eq_ofNat_of_zero_le hb.1
  exact ⟨m, rfl, by omega⟩
theorem bytes_nat : ∀ (zs : List Int), (∀ n ∈ zs, (Lit.int .u8 n).wf = true) → ∃ bs : List Nat, zs = bs.map (fun c => ((c : Nat) : Int)) ∧ ∀ c ∈ bs, c < 256
  | [], _ => ⟨[], rfl, fun _ h => absurd h (by simp)⟩
  | z :: zs, h => by
    obtain ⟨m, rfl, hm⟩ := byte_nat (h z List.mem_cons_self)
    obtain ⟨bs, rfl, hb⟩ := bytes_nat zs (fun n hn => h n (List.mem_cons_of_mem _ hn))
    refine ⟨m :: bs, rfl, fun c hc => ?_⟩
    rcases List.mem_cons.1 hc with rfl | hc
    · exact hm
    · exact hb c hc
theorem bys_of_row {w : World} {a : Option Addr} {len cap : Nat} {zs : List Int} (h : IsRow .u8 w a len cap zs) : ∃ bs : List Nat, bs.length = len ∧ Bys w a bs ∧ (a = none → cap = 0) := by
  rcases h with ⟨rfl, rfl, rfl, rfl⟩ | ⟨x, rfl, hl, hm, hz, hcell, hwz⟩
  · exact ⟨[], rfl, nil_bytes _ _, fun _ => rfl⟩
  · obtain ⟨bs, rfl, h8⟩ := bytes_nat zs hwz
    have hz' : bs.length = cap := by simpa using hz
    refine ⟨bs.take len, by simp; omega, ⟨by simp; omega, fun c hc => h8 c (List.mem_of_mem_take hc), fun hn => ?_⟩, fun h => by cases h⟩
    have hlen : 0 < len := by
      refine Nat.pos_of_ne_zero fun h0 => hn ?_
      subst h0; simp
    obtain ⟨b, off, spot⟩ := x
    have hc0 := hcell 0 (by simp; omega)
    have hspot : spot = none := by simpa [Addr.add] using World.cell?_spot hc0
    subst hspot
    refine ⟨b, off, rfl, ?_, fun i hi => ?_⟩
    · have := World.block_lt_of_cell? _ _ hc0
      simpa [Addr.add] using this
    · have hi' : i < bs.length := by simp at hi; omega
      have hc := hcell i (by simpa using hi')
      rw [show (⟨b, off, none⟩ : Addr).add i = ⟨b, off + i, none⟩ by unfold Addr.add; split <;> simp_all] at hc
      rw [hc]
      simp [hi']
end Go.Proofs.Ytniajoocpnhhgaa
