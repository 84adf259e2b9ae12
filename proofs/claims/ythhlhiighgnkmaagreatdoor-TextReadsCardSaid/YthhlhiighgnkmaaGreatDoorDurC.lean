/-
  WALKS: the unit of a name; a duration that is well formed.
-/
import Derived.Test.YthhlhiighgnkmaaGreatDoorDurB
import Derived.Handy
namespace Go.Proofs.YthhlhiighgnkmaaGreatDoor
set_option linter.unusedVariables false
set_option linter.unusedSimpArgs false
open Go.RowKit Go.PlainAid
set_option maxRecDepth 100000 in
theorem index_ok (g off n cap j N : Nat) (nm : Nat → ByteArray) (ms : Nat → Int) (t : ByteArray) (w : World) (hn : n ≤ 10) (hcap : n ≤ cap) (hg : g < w.heap.size) (hN : N < w.heap.size)
    (hc : ∀ i, i < n → w.cell? ⟨g, off + i * 2, none⟩ = some (.string (nm i)) ∧ w.cell? ⟨g, off + i * 2 + 1, none⟩ = some (.int .i64 (ms i))) (ht : w.cell? ⟨N, 0, none⟩ = some (.string t)) (hj : j < n) (h1 : ((nm j).toList == t.toList) = true) (h0 : ∀ i, i < j → ((nm i).toList == t.toList) = false) :
    Calls Tryz.prog 149 #[.slice (some ⟨g, off, none⟩) n cap, .func (.func 150) #[] #[.pointer (some ⟨N, 0, none⟩)]] w (Gives w (.int .i64 (j : Int))) := by
  have CU := Lib.hid (fun (a : ByteArray) (m : Int) (w1 : World) (hb : Below w.heap.size w w1) => unitname_any a t m N w1 (Nat.lt_of_lt_of_le hN hb.size) ((hb.cell hN).trans ht))
  have HC := Lib.hid (fun (i : Nat) (hi : i < n) (w1 : World) (hb : Below w.heap.size w w1) => And.intro ((hb.cell (p := ⟨g, off + i * 2, none⟩) hg).trans (hc i hi).1) ((hb.cell (p := ⟨g, off + i * 2 + 1, none⟩) hg).trans (hc i hi).2))
  have H1 := Lib.hid h1
  have H0 := Lib.hid h0
  clear hc ht h1 h0 hg hN
  go_enter Tryz.func149, Tryz.ntmps149
  go_wp2
  go_loopw [8] (fun i wr => ∃ (k : Nat), k ≤ j ∧ i = .int .i64 k ∧ Hid (Below w.heap.size w wr)) (fun i _ => (n - intOf i).toNat)
  case atStart => exact ⟨0, by omega, rfl, Lib.hid (Below.refl _ _)⟩
  case round =>
    obtain ⟨k, hk, rfl, HB⟩ := hrel
    obtain ⟨c0, c1⟩ := HC.out k (by omega) wr HB.out
    have da : decide ((k : Int) < (n : Int)) = true := decide_eq_true (by omega)
    have da2 : decide (k < n) = true := decide_eq_true (by omega)
    have hkn : k < n := by omega
    have CX := Lib.hid (CU.out (nm k) (ms k) wr HB.out)
    by_cases hkj : k = j
    · subst hkj
      rw [H1.out] at CX
      go_wp2_with fail
      refine CX.out.mono ?_
      rintro e w1 ⟨rfl, hb⟩
      have B2 := Lib.hid (HB.out.trans (hb.mono HB.out.size))
      clear hb
      go_wp2
      go_ret
      exact ⟨rfl, B2.out⟩
    · rw [H0.out k (by omega)] at CX
      go_wp2_with fail
      refine CX.out.mono ?_
      rintro e w1 ⟨rfl, hb⟩
      have B2 := Lib.hid (HB.out.trans (hb.mono HB.out.size))
      clear hb
      go_wp2
      go_roundw
      case rel => exact ⟨k + 1, by omega, rfl, B2⟩
      case measure => simp [intOf]; omega
set_option maxRecDepth 100000 in
set_option maxHeartbeats 2000000 in
theorem addunits_ok (R : Nat) (bs : List Nat) (p m : Nat) (ds : List Nat) (g off n cap j : Nat) (nm : Nat → ByteArray) (ms : Nat → Int) (sum x : Int) (w : World) (hB : IsB bs) (hl : bs.length ≤ 200000) (hlen : ds.length = m) (hp : p + m ≤ bs.length) (hds : ∀ k c, ds[k]? = some c → bs[p + k]? = some c ∧ (!dig c) = true) (hend : ∀ c, bs[p + m]? = some c → (!dig c) = false)
    (H : Rd w R bs p) (hgR : g ≠ R) (hn : n ≤ 10) (hcap : n ≤ cap) (hg : g < w.heap.size) (hcells : ∀ i, i < n → w.cell? ⟨g, off + i * 2, none⟩ = some (.string (nm i)) ∧ w.cell? ⟨g, off + i * 2 + 1, none⟩ = some (.int .i64 (ms i)))
    (hj : j < n) (hj2 : j + 1 < n) (h1 : ((nm j).toList == (strOf ds).toList) = true) (h0 : ∀ i, i < j → ((nm i).toList == (strOf ds).toList) = false)
    (hadd : ∀ w, Calls Tryz.prog 151 #[.int .i64 sum, .int .i64 x, .int .i64 (ms j)] w fun e w' => e = .returned (.tuple #[.int .i64 (sum + x * ms j), .nilIface]) ∧ w' = w) :
    Calls Tryz.prog 102 #[.pointer (some ⟨R, 0, none⟩), .int .i64 sum, .int .i64 x, .slice (some ⟨g, off, none⟩) n cap] w fun e w' =>
      e = .returned (.tuple #[.int .i64 (sum + x * ms j), .slice (some ⟨g, off + (j + 1) * 2, none⟩) (n - (j + 1)) (cap - (j + 1)), .nilIface]) ∧ Only [R] w w' ∧ Rd w' R bs (p + m) := by
  have hmf : ∀ (fn : Fn) (first cap : Array Value) (w : World), (Instr.makeFunc fn first cap).run Tryz.prog w = .ok (.func fn first cap) w := fun _ _ _ _ => rfl
  have CR := Lib.hid (run_not R bs p m ds hB hl hlen hp hds hend w H)
  have CI := Lib.hid (fun (N : Nat) (w1 : World) (h2 : g < w1.heap.size) (h3 : N < w1.heap.size) hc ht => index_ok g off n cap j N nm ms (strOf ds) w1 hn hcap h2 h3 hc ht hj h1 h0)
  have CA := Lib.hid hadd
  have HC := Lib.hid hcells
  have HG := Lib.hid hg
  have HGR := Lib.hid hgR
  have hc1 := H.c1
  obtain ⟨S, hS⟩ : ∃ S, strOf ds = S := ⟨_, rfl⟩
  rw [hS] at CR CI
  obtain ⟨T, hT⟩ : ∃ T, sum + x * ms j = T := ⟨_, rfl⟩
  rw [hT] at CA ⊢
  have e1 : IntKind.i64.wrap ((j : Int) + 1) = ((j + 1 : Nat) : Int) := by rw [IntKind.wrap_i64]; omega
  have dneg : decide ((j : Int) < 0) = false := decide_eq_false (by omega)
  clear hS hT hB hl hlen hp hds hend H hadd h1 h0 hcells hg hgR
  go_enter Tryz.func102, Tryz.ntmps102
  go_wp2_with fail
  refine CR.out.mono ?_
  rintro e w1 ⟨rfl, ho, hr⟩
  have G1 : g < (w1.alloc (.cells #[.string S] 9)).heap.size := by have := HG.out; have := ho.size; simp; omega
  have KC : ∀ i, i < n → (w1.alloc (.cells #[.string S] 9)).cell? ⟨g, off + i * 2, none⟩ = some (.string (nm i)) ∧ (w1.alloc (.cells #[.string S] 9)).cell? ⟨g, off + i * 2 + 1, none⟩ = some (.int .i64 (ms i)) := fun i hi => by
    have hb := (Below.refl w1.heap.size w1).alloc (Nat.le_refl _) (.cells #[.string S] 9)
    have hg1 : g < w1.heap.size := Nat.lt_of_lt_of_le HG.out ho.size
    have hn : g ∉ [R] := by simpa using HGR.out
    exact ⟨((hb.cell (p := ⟨g, off + i * 2, none⟩) hg1).trans (ho.cell (p := ⟨g, off + i * 2, none⟩) HG.out hn)).trans (HC.out i hi).1, ((hb.cell (p := ⟨g, off + i * 2 + 1, none⟩) hg1).trans (ho.cell (p := ⟨g, off + i * 2 + 1, none⟩) HG.out hn)).trans (HC.out i hi).2⟩
  have CI2 := Lib.hid (CI.out w1.heap.size (w1.alloc (.cells #[.string S] 9)) G1 (by simp) KC (World.cell?_alloc_at _ _ _ _ rfl))
  have HKC := Lib.hid (KC j hj).2
  have HG1 := Lib.hid G1
  have O1 := Lib.hid (ho.alloc (.cells #[.string S] 9))
  have R1 := Lib.hid (hr.stay ((Below.refl w1.heap.size w1).alloc (Nat.le_refl _) (.cells #[.string S] 9)))
  clear ho hr G1 KC
  go_wp2_with fail
  refine CI2.out.mono ?_
  rintro e w2 ⟨rfl, hb⟩
  have hms : w2.cell? ⟨g, off + j * 2 + 1, none⟩ = some (.int .i64 (ms j)) := (hb.cell (p := ⟨g, off + j * 2 + 1, none⟩) HG1.out).trans HKC.out
  have O2 := Lib.hid (O1.out.trans (Only.of_below hb [R]) (fun x hx => .inl hx))
  have R2 := Lib.hid (R1.out.stay hb)
  clear hb
  go_wp2_with fail
  refine (CA.out _).mono ?_
  rintro e w3 ⟨rfl, rfl⟩
  go_wp2_with fail
  go_quiet (fail)
  go_wp2
  go_returns
  exact ⟨rfl, O2.out.drewN _, R2.out⟩
end Go.Proofs.YthhlhiighgnkmaaGreatDoor
