/-
  WALKS: the last unit of a row; sums that are too great.
-/
import Derived.Test.YthhlhiighgnkmaaGreatDoorTiB
namespace Go.Proofs.YthhlhiighgnkmaaGreatDoor
set_option linter.unusedVariables false
set_option linter.unusedSimpArgs false
open Go.RowKit Go.PlainAid
set_option maxRecDepth 100000 in
theorem slice_tail (a : Option Addr) (n cap l : Nat) (hl : l ≤ n) : ∃ a' c, ∀ w, (Instr.slice 74 (.slice a n cap) (some (.int .i64 (l : Int))) none none).run Tryz.prog w = .ok (.slice a' (n - l) c) w := by
  refine ⟨if cap = l then a else a.map (·.add (l * 2)), cap - l, fun w => ?_⟩
  rw [run_slice_l w 74 a n cap (show Tryz.prog.underlying 74 = some (.slice (Tryz.prog.elem 74)) by kernel_rfl) .i64 (l : Int) (by omega) (by omega)]
  rw [show (sizeOf (Tryz.prog.elem 74)).run Tryz.prog w = .ok 2 w by kernel_rfl]
  rfl
set_option maxRecDepth 100000 in
set_option maxHeartbeats 2000000 in
theorem addunits_last (R : Nat) (bs : List Nat) (p m : Nat) (ds : List Nat) (g off n cap j : Nat) (nm : Nat → ByteArray) (ms : Nat → Int) (sum x : Int) (w : World) (hB : IsB bs) (hl : bs.length ≤ 200000) (hlen : ds.length = m) (hp : p + m ≤ bs.length) (hds : ∀ k c, ds[k]? = some c → bs[p + k]? = some c ∧ (!dig c) = true) (hend : ∀ c, bs[p + m]? = some c → (!dig c) = false)
    (H : Rd w R bs p) (hgR : g ≠ R) (hn : n ≤ 10) (hcap : n ≤ cap) (hg : g < w.heap.size) (hcells : ∀ i, i < n → w.cell? ⟨g, off + i * 2, none⟩ = some (.string (nm i)) ∧ w.cell? ⟨g, off + i * 2 + 1, none⟩ = some (.int .i64 (ms i)))
    (hj : j < n) (hj2 : j + 1 = n) (h1 : ((nm j).toList == (strOf ds).toList) = true) (h0 : ∀ i, i < j → ((nm i).toList == (strOf ds).toList) = false)
    (hadd : ∀ w, Calls Tryz.prog 151 #[.int .i64 sum, .int .i64 x, .int .i64 (ms j)] w fun e w' => e = .returned (.tuple #[.int .i64 (sum + x * ms j), .nilIface]) ∧ w' = w) :
    Calls Tryz.prog 102 #[.pointer (some ⟨R, 0, none⟩), .int .i64 sum, .int .i64 x, .slice (some ⟨g, off, none⟩) n cap] w fun e w' =>
      ∃ a c, e = .returned (.tuple #[.int .i64 (sum + x * ms j), .slice a 0 c, .nilIface]) ∧ Only [R] w w' ∧ Rd w' R bs (p + m) := by
  have hmf : ∀ (fn : Fn) (first cap : Array Value) (w : World), (Instr.makeFunc fn first cap).run Tryz.prog w = .ok (.func fn first cap) w := fun _ _ _ _ => rfl
  have CR := Lib.hid (run_not R bs p m ds hB hl hlen hp hds hend w H)
  have CI := Lib.hid (fun (N : Nat) (w1 : World) (h2 : g < w1.heap.size) (h3 : N < w1.heap.size) hc ht => index_ok g off n cap j N nm ms (strOf ds) w1 hn hcap h2 h3 hc ht hj h1 h0)
  have CA := Lib.hid hadd
  have HC := Lib.hid hcells
  have HG := Lib.hid hg
  have HGR := Lib.hid hgR
  have hc1 := H.c1
  obtain ⟨S, hS⟩ : ∃ S, strOf ds = S := ⟨_, rfl⟩
  rw [hS] at CR CI
  obtain ⟨T, hT⟩ : ∃ T, sum + x * ms j = T := ⟨_, rfl⟩
  rw [hT] at CA ⊢
  have e1 : IntKind.i64.wrap ((j : Int) + 1) = ((j + 1 : Nat) : Int) := by rw [IntKind.wrap_i64]; omega
  rw [hj2] at e1
  clear hj2
  obtain ⟨a2, c2, hsl⟩ := slice_tail (some ⟨g, off, none⟩) n cap n (Nat.le_refl _)
  rw [Nat.sub_self] at hsl
  have dneg : decide ((j : Int) < 0) = false := decide_eq_false (by omega)
  clear hS hT hB hl hlen hp hds hend H hadd h1 h0 hcells hg hgR
  go_enter Tryz.func102, Tryz.ntmps102
  go_wp2_with fail
  refine CR.out.mono ?_
  rintro e w1 ⟨rfl, ho, hr⟩
  have G1 : g < (w1.alloc (.cells #[.string S] 9)).heap.size := by have := HG.out; have := ho.size; simp; omega
  have KC : ∀ i, i < n → (w1.alloc (.cells #[.string S] 9)).cell? ⟨g, off + i * 2, none⟩ = some (.string (nm i)) ∧ (w1.alloc (.cells #[.string S] 9)).cell? ⟨g, off + i * 2 + 1, none⟩ = some (.int .i64 (ms i)) := fun i hi => by
    have hb := (Below.refl w1.heap.size w1).alloc (Nat.le_refl _) (.cells #[.string S] 9)
    have hg1 : g < w1.heap.size := Nat.lt_of_lt_of_le HG.out ho.size
    have hn : g ∉ [R] := by simpa using HGR.out
    exact ⟨((hb.cell (p := ⟨g, off + i * 2, none⟩) hg1).trans (ho.cell (p := ⟨g, off + i * 2, none⟩) HG.out hn)).trans (HC.out i hi).1, ((hb.cell (p := ⟨g, off + i * 2 + 1, none⟩) hg1).trans (ho.cell (p := ⟨g, off + i * 2 + 1, none⟩) HG.out hn)).trans (HC.out i hi).2⟩
  have CI2 := Lib.hid (CI.out w1.heap.size (w1.alloc (.cells #[.string S] 9)) G1 (by simp) KC (World.cell?_alloc_at _ _ _ _ rfl))
  have HKC := Lib.hid (KC j hj).2
  have HG1 := Lib.hid G1
  have O1 := Lib.hid (ho.alloc (.cells #[.string S] 9))
  have R1 := Lib.hid (hr.stay ((Below.refl w1.heap.size w1).alloc (Nat.le_refl _) (.cells #[.string S] 9)))
  clear ho hr G1 KC
  go_wp2_with fail
  refine CI2.out.mono ?_
  rintro e w2 ⟨rfl, hb⟩
  have hms : w2.cell? ⟨g, off + j * 2 + 1, none⟩ = some (.int .i64 (ms j)) := (hb.cell (p := ⟨g, off + j * 2 + 1, none⟩) HG1.out).trans HKC.out
  have O2 := Lib.hid (O1.out.trans (Only.of_below hb [R]) (fun x hx => .inl hx))
  have R2 := Lib.hid (R1.out.stay hb)
  clear hb
  go_wp2_with fail
  refine (CA.out _).mono ?_
  rintro e w3 ⟨rfl, rfl⟩
  go_wp2_with fail
  go_quiet (fail)
  go_wp2
  go_returns
  exact ⟨_, _, rfl, O2.out.drewN _, R2.out⟩
set_option maxRecDepth 100000 in
set_option maxHeartbeats 2000000 in
theorem addunits_over (R : Nat) (bs : List Nat) (p m : Nat) (ds : List Nat) (g off n cap j : Nat) (nm : Nat → ByteArray) (ms : Nat → Int) (sum x : Int) (w : World) (hB : IsB bs) (hl : bs.length ≤ 200000) (hlen : ds.length = m) (hp : p + m ≤ bs.length) (hds : ∀ k c, ds[k]? = some c → bs[p + k]? = some c ∧ (!dig c) = true) (hend : ∀ c, bs[p + m]? = some c → (!dig c) = false)
    (H : Rd w R bs p) (hgR : g ≠ R) (hn : n ≤ 10) (hcap : n ≤ cap) (hg : g < w.heap.size) (hcells : ∀ i, i < n → w.cell? ⟨g, off + i * 2, none⟩ = some (.string (nm i)) ∧ w.cell? ⟨g, off + i * 2 + 1, none⟩ = some (.int .i64 (ms i)))
    (hj : j < n) (h1 : ((nm j).toList == (strOf ds).toList) = true) (h0 : ∀ i, i < j → ((nm i).toList == (strOf ds).toList) = false)
    (hadd : ∀ w, Calls Tryz.prog 151 #[.int .i64 sum, .int .i64 x, .int .i64 (ms j)] w fun e w' => e = .returned (.tuple #[.int .i64 0, .iface 28 (.int .u16 41)]) ∧ w' = w) :
    Calls Tryz.prog 102 #[.pointer (some ⟨R, 0, none⟩), .int .i64 sum, .int .i64 x, .slice (some ⟨g, off, none⟩) n cap] w fun e w' =>
      ∃ s u t v, e = .returned (.tuple #[s, u, .iface t v]) ∧ Only [R] w w' := by
  have hmf : ∀ (fn : Fn) (first cap : Array Value) (w : World), (Instr.makeFunc fn first cap).run Tryz.prog w = .ok (.func fn first cap) w := fun _ _ _ _ => rfl
  have CR := Lib.hid (run_not R bs p m ds hB hl hlen hp hds hend w H)
  have CI := Lib.hid (fun (N : Nat) (w1 : World) (h2 : g < w1.heap.size) (h3 : N < w1.heap.size) hc ht => index_ok g off n cap j N nm ms (strOf ds) w1 hn hcap h2 h3 hc ht hj h1 h0)
  have CA := Lib.hid hadd
  have HC := Lib.hid hcells
  have HG := Lib.hid hg
  have HGR := Lib.hid hgR
  have hc1 := H.c1
  obtain ⟨S, hS⟩ : ∃ S, strOf ds = S := ⟨_, rfl⟩
  rw [hS] at CR CI
  have e1 : IntKind.i64.wrap ((j : Int) + 1) = ((j + 1 : Nat) : Int) := by rw [IntKind.wrap_i64]; omega
  obtain ⟨J1, hJ1⟩ : ∃ J, j + 1 = J := ⟨_, rfl⟩
  rw [hJ1] at e1
  obtain ⟨a2, c2, hsl⟩ := slice_tail (some ⟨g, off, none⟩) n cap J1 (by omega)
  clear hJ1
  have dneg : decide ((j : Int) < 0) = false := decide_eq_false (by omega)
  clear hS hB hl hlen hp hds hend H hadd h1 h0 hcells hg hgR
  go_enter Tryz.func102, Tryz.ntmps102
  go_wp2_with fail
  refine CR.out.mono ?_
  rintro e w1 ⟨rfl, ho, hr⟩
  have G1 : g < (w1.alloc (.cells #[.string S] 9)).heap.size := by have := HG.out; have := ho.size; simp; omega
  have KC : ∀ i, i < n → (w1.alloc (.cells #[.string S] 9)).cell? ⟨g, off + i * 2, none⟩ = some (.string (nm i)) ∧ (w1.alloc (.cells #[.string S] 9)).cell? ⟨g, off + i * 2 + 1, none⟩ = some (.int .i64 (ms i)) := fun i hi => by
    have hb := (Below.refl w1.heap.size w1).alloc (Nat.le_refl _) (.cells #[.string S] 9)
    have hg1 : g < w1.heap.size := Nat.lt_of_lt_of_le HG.out ho.size
    have hn : g ∉ [R] := by simpa using HGR.out
    exact ⟨((hb.cell (p := ⟨g, off + i * 2, none⟩) hg1).trans (ho.cell (p := ⟨g, off + i * 2, none⟩) HG.out hn)).trans (HC.out i hi).1, ((hb.cell (p := ⟨g, off + i * 2 + 1, none⟩) hg1).trans (ho.cell (p := ⟨g, off + i * 2 + 1, none⟩) HG.out hn)).trans (HC.out i hi).2⟩
  have CI2 := Lib.hid (CI.out w1.heap.size (w1.alloc (.cells #[.string S] 9)) G1 (by simp) KC (World.cell?_alloc_at _ _ _ _ rfl))
  have HKC := Lib.hid (KC j hj).2
  have HG1 := Lib.hid G1
  have O1 := Lib.hid (ho.alloc (.cells #[.string S] 9))
  have R1 := Lib.hid (hr.stay ((Below.refl w1.heap.size w1).alloc (Nat.le_refl _) (.cells #[.string S] 9)))
  clear ho hr G1 KC
  go_wp2_with fail
  refine CI2.out.mono ?_
  rintro e w2 ⟨rfl, hb⟩
  have hms : w2.cell? ⟨g, off + j * 2 + 1, none⟩ = some (.int .i64 (ms j)) := (hb.cell (p := ⟨g, off + j * 2 + 1, none⟩) HG1.out).trans HKC.out
  have O2 := Lib.hid (O1.out.trans (Only.of_below hb [R]) (fun x hx => .inl hx))
  have R2 := Lib.hid (R1.out.stay hb)
  clear hb
  go_wp2_with fail
  refine (CA.out _).mono ?_
  rintro e w3 ⟨rfl, rfl⟩
  go_wp2_with fail
  go_quiet (fail)
  go_wp2
  go_returns
  exact ⟨_, _, _, _, rfl, O2.out.drewN _⟩
end Go.Proofs.YthhlhiighgnkmaaGreatDoor
