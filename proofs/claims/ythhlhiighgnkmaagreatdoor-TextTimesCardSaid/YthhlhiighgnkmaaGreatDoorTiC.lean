/-
  WALKS: the unit of a name, the last one; names that tell none; sums that are too great.
-/
import Derived.Test.YthhlhiighgnkmaaGreatDoorTiB
namespace Go.Proofs.YthhlhiighgnkmaaGreatDoor
set_option linter.unusedVariables false
set_option linter.unusedSimpArgs false
open Go.RowKit Go.PlainAid
set_option maxRecDepth 100000 in
set_option maxHeartbeats 2000000 in
theorem addunits_none (R : Nat) (bs : List Nat) (p m : Nat) (ds : List Nat) (g off n cap : Nat) (nm : Nat → ByteArray) (ms : Nat → Int) (sum x : Int) (w : World) (hB : IsB bs) (hl : bs.length ≤ 200000) (hlen : ds.length = m) (hp : p + m ≤ bs.length) (hds : ∀ k c, ds[k]? = some c → bs[p + k]? = some c ∧ (!dig c) = true) (hend : ∀ c, bs[p + m]? = some c → (!dig c) = false)
    (H : Rd w R bs p) (hgR : g ≠ R) (hn : n ≤ 10) (hcap : n ≤ cap) (hg : g < w.heap.size) (hcells : ∀ i, i < n → w.cell? ⟨g, off + i * 2, none⟩ = some (.string (nm i)) ∧ w.cell? ⟨g, off + i * 2 + 1, none⟩ = some (.int .i64 (ms i)))
    (h0 : ∀ i, i < n → ((nm i).toList == (strOf ds).toList) = false) :
    Calls Tryz.prog 102 #[.pointer (some ⟨R, 0, none⟩), .int .i64 sum, .int .i64 x, .slice (some ⟨g, off, none⟩) n cap] w fun e w' =>
      ∃ t v, e = .returned (.tuple #[.int .i64 0, .slice none 0 0, .iface t v]) ∧ Only [R] w w' := by
  have hmf : ∀ (fn : Fn) (first cap : Array Value) (w : World), (Instr.makeFunc fn first cap).run Tryz.prog w = .ok (.func fn first cap) w := fun _ _ _ _ => rfl
  have CR := Lib.hid (run_not R bs p m ds hB hl hlen hp hds hend w H)
  have CI := Lib.hid (fun (N : Nat) (w1 : World) (h2 : g < w1.heap.size) (h3 : N < w1.heap.size) hc ht => index_no g off n cap N nm ms (strOf ds) w1 hn hcap h2 h3 hc ht h0)
  have HC := Lib.hid hcells
  have HG := Lib.hid hg
  have HGR := Lib.hid hgR
  have hc1 := H.c1
  obtain ⟨S, hS⟩ : ∃ S, strOf ds = S := ⟨_, rfl⟩
  rw [hS] at CR CI
  clear hS hB hl hlen hp hds hend H h0 hcells hg hgR
  go_enter Tryz.func102, Tryz.ntmps102
  go_wp2_with fail
  refine CR.out.mono ?_
  rintro e w1 ⟨rfl, ho, hr⟩
  have G1 : g < (w1.alloc (.cells #[.string S] 9)).heap.size := by have := HG.out; have := ho.size; simp; omega
  have KC : ∀ i, i < n → (w1.alloc (.cells #[.string S] 9)).cell? ⟨g, off + i * 2, none⟩ = some (.string (nm i)) ∧ (w1.alloc (.cells #[.string S] 9)).cell? ⟨g, off + i * 2 + 1, none⟩ = some (.int .i64 (ms i)) := fun i hi => by
    have hb := (Below.refl w1.heap.size w1).alloc (Nat.le_refl _) (.cells #[.string S] 9)
    have hg1 : g < w1.heap.size := Nat.lt_of_lt_of_le HG.out ho.size
    have hn : g ∉ [R] := by simpa using HGR.out
    exact ⟨((hb.cell (p := ⟨g, off + i * 2, none⟩) hg1).trans (ho.cell (p := ⟨g, off + i * 2, none⟩) HG.out hn)).trans (HC.out i hi).1, ((hb.cell (p := ⟨g, off + i * 2 + 1, none⟩) hg1).trans (ho.cell (p := ⟨g, off + i * 2 + 1, none⟩) HG.out hn)).trans (HC.out i hi).2⟩
  have CI2 := Lib.hid (CI.out w1.heap.size (w1.alloc (.cells #[.string S] 9)) G1 (by simp) KC (World.cell?_alloc_at _ _ _ _ rfl))
  have HG1 := Lib.hid G1
  have O1 := Lib.hid (ho.alloc (.cells #[.string S] 9))
  have R1 := Lib.hid (hr.stay ((Below.refl w1.heap.size w1).alloc (Nat.le_refl _) (.cells #[.string S] 9)))
  clear ho hr G1 KC
  go_wp2_with fail
  refine CI2.out.mono ?_
  rintro e w2 ⟨rfl, hb⟩
  have O2 := Lib.hid (O1.out.trans (Only.of_below hb [R]) (fun x hx => .inl hx))
  clear hb
  go_wp2
  go_returns
  exact ⟨_, _, rfl, O2.out.alloc _⟩
set_option maxRecDepth 100000 in
set_option maxHeartbeats 2000000 in
theorem addunits_nil (R : Nat) (bs : List Nat) (p m : Nat) (ds : List Nat) (a : Option Addr) (cap : Nat) (sum x : Int) (w : World) (hB : IsB bs) (hl : bs.length ≤ 200000) (hlen : ds.length = m) (hp : p + m ≤ bs.length) (hds : ∀ k c, ds[k]? = some c → bs[p + k]? = some c ∧ (!dig c) = true) (hend : ∀ c, bs[p + m]? = some c → (!dig c) = false)
    (H : Rd w R bs p) :
    Calls Tryz.prog 102 #[.pointer (some ⟨R, 0, none⟩), .int .i64 sum, .int .i64 x, .slice a 0 cap] w fun e w' =>
      ∃ t v, e = .returned (.tuple #[.int .i64 0, .slice none 0 0, .iface t v]) ∧ Only [R] w w' := by
  have hmf : ∀ (fn : Fn) (first cap : Array Value) (w : World), (Instr.makeFunc fn first cap).run Tryz.prog w = .ok (.func fn first cap) w := fun _ _ _ _ => rfl
  have CR := Lib.hid (run_not R bs p m ds hB hl hlen hp hds hend w H)
  have CI := Lib.hid (fun (f : Value) (w1 : World) => index_nil a cap f w1)
  have hc1 := H.c1
  obtain ⟨S, hS⟩ : ∃ S, strOf ds = S := ⟨_, rfl⟩
  rw [hS] at CR
  clear hS hB hl hlen hp hds hend H
  go_enter Tryz.func102, Tryz.ntmps102
  go_wp2_with fail
  refine CR.out.mono ?_
  rintro e w1 ⟨rfl, ho, hr⟩
  have O1 := Lib.hid (ho.alloc (.cells #[.string S] 9))
  have R1 := Lib.hid (hr.stay ((Below.refl w1.heap.size w1).alloc (Nat.le_refl _) (.cells #[.string S] 9)))
  clear ho hr
  go_wp2_with fail
  refine (CI.out _ _).mono ?_
  rintro e w2 ⟨rfl, hb⟩
  have O2 := Lib.hid (O1.out.trans (Only.of_below hb [R]) (fun x hx => .inl hx))
  clear hb
  go_wp2
  go_returns
  exact ⟨_, _, rfl, O2.out.alloc _⟩
end Go.Proofs.YthhlhiighgnkmaaGreatDoor
