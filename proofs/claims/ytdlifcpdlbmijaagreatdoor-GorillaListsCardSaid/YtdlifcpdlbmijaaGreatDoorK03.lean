/-
  PACKED: GoB, B2Open, B2BookA, GoD, GwD, GwE, GwF, GwG, GwH, GwI, GwK, GoE
-/
import Derived.Test.YtdlifcpdlbmijaaGreatDoorK02
import Derived.Shelf.Abstract
import Derived.Laws.StructEq
import Derived.OpenShut
import Derived.Deep.RegionHeld3
import Derived.Maps.AppendAt
import Derived.Deep.AppendLies
import Derived.BigRegion
import Derived.BigQuiet
import Derived.Laws.BytesArg
set_option linter.unusedVariables false
set_option linter.unusedSimpArgs false
namespace Go.Proofs.YtdlifcpdlbmijaaGreatDoor
set_option linter.unusedVariables false
set_option linter.unusedSimpArgs false
open Go.RowKit Go.PlainAid Go.Shelf
open B2 (Only Bys Row cellsOf)
open Gm (St Smp)
/-- samples in memory -/
def Sms (w : World) (a : Option Addr) (xs : List Smp) : Prop := xs ≠ [] → ∃ b off, a = some ⟨b, off, none⟩ ∧ b < w.heap.size ∧ ∀ k (h : k < xs.length), w.cell? ⟨b, off + k * 2, none⟩ = some (.int .i64 xs[k].t) ∧ w.cell? ⟨b, off + k * 2 + 1, none⟩ = some (.int .u64 ((xs[k].v : Nat) : Int))
theorem Sms.below {w w' : World} {a : Option Addr} {xs : List Smp} (H : Sms w a xs) (hb : Below w.heap.size w w') : Sms w' a xs := fun hn => by
  obtain ⟨b, off, h1, h2, h3⟩ := H hn
  exact ⟨b, off, h1, Nat.lt_of_lt_of_le h2 hb.size, fun k hk => ⟨cell_below (h3 k hk).1 hb, cell_below (h3 k hk).2 hb⟩⟩
theorem neq70 (x y : Smp) (W : World) : (binOp .neq 79 (.agg #[.int .i64 x.t, .int .u64 ((x.v : Nat) : Int)]) (.agg #[.int .i64 y.t, .int .u64 ((y.v : Nat) : Int)])).run Tryz.prog W = .ok (.bool (!decide (x = y))) W := by
  have u2 := Tryz.underlying2
  have u68 := Tryz.underlying77
  have hS : Tryz.prog.underlying 79 = some (.struct (Tryz.prog.fieldsOf 79)) := by kernel_rfl
  have hp : Tryz.prog.stoodInHeld 79 = false := by kernel_rfl
  rw [run_neq_struct, show (10000 : Nat) = 9999 + 1 from rfl, run_equalIn_agg W 9999 79 _ _ hS hp]
  simp only [Program.fieldsOf, Tryz.underlying79]
  go_simp
  obtain ⟨xt, xv⟩ := x
  obtain ⟨yt, yv⟩ := y
  by_cases h1 : xt = yt <;> by_cases h2 : xv = yv <;> simp [h1, h2] <;> omega
theorem guard70 (x y : Operand) (p q : Smp) (W : World) : (eqGuard .neq 79 x y (.agg #[.int .i64 p.t, .int .u64 ((p.v : Nat) : Int)]) (.agg #[.int .i64 q.t, .int .u64 ((q.v : Nat) : Int)])).run Tryz.prog W = .ok () W := run_eqGuard_agg _ _ _ _ _ _ _ (by kernel_rfl)
set_option maxHeartbeats 4000000 in
set_option maxRecDepth 100000 in
theorem samebyt_any (a1 a2 : Option Addr) (c1 c2 n k : Nat) (l m : List Nat) (hn : l.length = n) (hk : m.length = k) (w : World) (H1 : Bys w a1 l) (H2 : Bys w a2 m) (hz : n ≤ 1000000000) (hz2 : k ≤ 1000000000) : Calls Tryz.prog 40 #[.slice a1 n c1, .slice a2 k c2] w fun e w' => e = .returned (.bool (decide (l = m))) ∧ Below w.heap.size w w' := by
  by_cases hlen : n = k
  · subst hlen
    have HL := Lib.hid H1
    have HM := Lib.hid H2
    have HN := Lib.hid hn
    have HK := Lib.hid hk
    clear H1 H2 hn hk
    go_enter Tryz.func40, Tryz.ntmps40
    go_wp2
    go_loopw [5] (fun i wr => ∃ k : Nat, k ≤ n ∧ i = .int .i64 k ∧ Hid (Below w.heap.size w wr) ∧ Hid (l.take k = m.take k)) (fun i _ => (n - (intOf i).toNat))
    case atStart => exact ⟨0, Nat.zero_le _, rfl, Lib.hid (Below.refl _ _), Lib.hid rfl⟩
    case round =>
      obtain ⟨k, hk1, rfl, HB, HT⟩ := hrel
      by_cases hkn : k < n
      · have da : decide ((k : Int) < (n : Int)) = true := decide_eq_true (by omega)
        have da2 : decide (k < n) = true := decide_eq_true hkn
        have hkl : k < l.length := by rw [HN.out]; exact hkn
        have hkm : k < m.length := by rw [HK.out]; exact hkn
        obtain ⟨b1, o1, rfl, hb1, hc1⟩ := (HL.out.below HB.out).2.2 (by intro e; rw [e] at hkl; simp at hkl)
        obtain ⟨b2, o2, rfl, hb2, hc2⟩ := (HM.out.below HB.out).2.2 (by intro e; rw [e] at hkm; simp at hkm)
        have p1 := hc1 k hkl
        have q1 := hc2 k hkm
        obtain ⟨x, hx⟩ : ∃ x, l[k] = x := ⟨_, rfl⟩
        obtain ⟨y, hy⟩ : ∃ y, m[k] = y := ⟨_, rfl⟩
        have HX := Lib.hid (And.intro ((List.getElem?_eq_getElem hkl).trans (congrArg some hx)) ((List.getElem?_eq_getElem hkm).trans (congrArg some hy)))
        rw [hx] at p1
        rw [hy] at q1
        skip
        clear hx hy hc1 hc2
        by_cases hxy : x = y
        · have hd : ((x : Int) != (y : Int)) = false := by rw [hxy]; simp
          have T2 := Lib.hid (show l.take (k + 1) = m.take (k + 1) by
            obtain ⟨h1, h2⟩ := HX.out
            rw [List.take_add_one, List.take_add_one, h1, h2, HT.out, hxy])
          subst hxy
          clear hd
          go_wp2_with (go_quiet (fail))
          go_roundw
          case rel => exact ⟨k + 1, by omega, by simp, Lib.hid (by have := HB.out; exact ⟨this.os, this.tape, this.output, this.size, this.block⟩), T2⟩
          case measure => simp [intOf]; omega
        · have hd : ((x : Int) != (y : Int)) = true := by simp; omega
          have hd2 : ¬ (x : Int) = (y : Int) := by omega
          have E := Lib.hid (show decide (l = m) = false by
            obtain ⟨h1, h2⟩ := HX.out
            refine decide_eq_false (fun e => hxy ?_)
            rw [e, h2] at h1
            exact (Option.some.inj h1).symm)
          clear hxy
          go_wp2_with (go_quiet (fail))
          go_ret
          exact ⟨congrArg (fun x => Ending.returned (.bool x)) E.out.symm, (by have := HB.out; exact ⟨this.os, this.tape, this.output, this.size, this.block⟩)⟩
      · have hk : k = n := by omega
        subst hk
        have da : decide ((k : Int) < (k : Int)) = false := decide_eq_false (by omega)
        have da2 : decide (k < k) = false := decide_eq_false (by omega)
        have E := Lib.hid (show decide (l = m) = true by
          refine decide_eq_true ?_
          have h := HT.out
          rw [← HN.out, List.take_length, HN.out, ← HK.out, List.take_length] at h
          exact h)
        go_wp2
        go_ret
        exact ⟨congrArg (fun x => Ending.returned (.bool x)) E.out.symm, HB.out⟩
  · have E := Lib.hid (show decide (l = m) = false from decide_eq_false (fun e => hlen (by rw [← hn, ← hk, e])))
    have h2 : ¬ ((n : Int) = (k : Int)) := by omega
    clear H1 H2 hz hn hk
    go_enter Tryz.func40, Tryz.ntmps40
    go_wp2
    go_ret
    exact ⟨congrArg (fun x => Ending.returned (.bool x)) E.out.symm, Below.refl _ _⟩
set_option maxHeartbeats 4000000 in
set_option maxRecDepth 100000 in
theorem samesmp_any (a1 a2 : Option Addr) (c1 c2 n k : Nat) (l m : List Smp) (hn : l.length = n) (hk : m.length = k) (w : World) (H1 : Sms w a1 l) (H2 : Sms w a2 m) (hz : n ≤ 1000000000) (hz2 : k ≤ 1000000000) : Calls Tryz.prog 18 #[.slice a1 n c1, .slice a2 k c2] w fun e w' => e = .returned (.bool (decide (l = m))) ∧ Below w.heap.size w w' := by
  by_cases hlen : n = k
  · subst hlen
    have HL := Lib.hid H1
    have HM := Lib.hid H2
    have HN := Lib.hid hn
    have HK := Lib.hid hk
    clear H1 H2 hn hk
    go_enter Tryz.func18, Tryz.ntmps18
    go_wp2
    go_loopw [5] (fun i wr => ∃ k : Nat, k ≤ n ∧ i = .int .i64 k ∧ Hid (Below w.heap.size w wr) ∧ Hid (l.take k = m.take k)) (fun i _ => (n - (intOf i).toNat))
    case atStart => exact ⟨0, Nat.zero_le _, rfl, Lib.hid (Below.refl _ _), Lib.hid rfl⟩
    case round =>
      obtain ⟨k, hk1, rfl, HB, HT⟩ := hrel
      by_cases hkn : k < n
      · have da : decide ((k : Int) < (n : Int)) = true := decide_eq_true (by omega)
        have da2 : decide (k < n) = true := decide_eq_true hkn
        have hkl : k < l.length := by rw [HN.out]; exact hkn
        have hkm : k < m.length := by rw [HK.out]; exact hkn
        obtain ⟨b1, o1, rfl, hb1, hc1⟩ := (HL.out.below HB.out) (by intro e; rw [e] at hkl; simp at hkl)
        obtain ⟨b2, o2, rfl, hb2, hc2⟩ := (HM.out.below HB.out) (by intro e; rw [e] at hkm; simp at hkm)
        obtain ⟨p1, p2⟩ := hc1 k hkl
        obtain ⟨q1, q2⟩ := hc2 k hkm
        obtain ⟨x, hx⟩ : ∃ x, l[k] = x := ⟨_, rfl⟩
        obtain ⟨y, hy⟩ : ∃ y, m[k] = y := ⟨_, rfl⟩
        have HX := Lib.hid (And.intro ((List.getElem?_eq_getElem hkl).trans (congrArg some hx)) ((List.getElem?_eq_getElem hkm).trans (congrArg some hy)))
        rw [hx] at p1 p2
        rw [hy] at q1 q2
        have hne := fun W => neq70 x y W
        clear hx hy hc1 hc2
        by_cases hxy : x = y
        · have hd : (!decide (x = y)) = false := by rw [decide_eq_true hxy]; rfl
          rw [hd] at hne
          have T2 := Lib.hid (show l.take (k + 1) = m.take (k + 1) by
            obtain ⟨h1, h2⟩ := HX.out
            rw [List.take_add_one, List.take_add_one, h1, h2, HT.out, hxy])
          clear hd hxy
          go_wp2_with (go_quiet (fail))
          go_roundw
          case rel => exact ⟨k + 1, by omega, by simp, Lib.hid (by have := HB.out; exact ⟨this.os, this.tape, this.output, this.size, this.block⟩), T2⟩
          case measure => simp [intOf]; omega
        · have hd : (!decide (x = y)) = true := by rw [decide_eq_false hxy]; rfl
          rw [hd] at hne
          have E := Lib.hid (show decide (l = m) = false by
            obtain ⟨h1, h2⟩ := HX.out
            refine decide_eq_false (fun e => hxy ?_)
            rw [e, h2] at h1
            exact (Option.some.inj h1).symm)
          clear hd hxy
          go_wp2_with (go_quiet (fail))
          go_ret
          exact ⟨congrArg (fun x => Ending.returned (.bool x)) E.out.symm, (by have := HB.out; exact ⟨this.os, this.tape, this.output, this.size, this.block⟩)⟩
      · have hk : k = n := by omega
        subst hk
        have da : decide ((k : Int) < (k : Int)) = false := decide_eq_false (by omega)
        have da2 : decide (k < k) = false := decide_eq_false (by omega)
        have E := Lib.hid (show decide (l = m) = true by
          refine decide_eq_true ?_
          have h := HT.out
          rw [← HN.out, List.take_length, HN.out, ← HK.out, List.take_length] at h
          exact h)
        go_wp2
        go_ret
        exact ⟨congrArg (fun x => Ending.returned (.bool x)) E.out.symm, HB.out⟩
  · have E := Lib.hid (show decide (l = m) = false from decide_eq_false (fun e => hlen (by rw [← hn, ← hk, e])))
    have h2 : ¬ ((n : Int) = (k : Int)) := by omega
    clear H1 H2 hz hn hk
    go_enter Tryz.func18, Tryz.ntmps18
    go_wp2
    go_ret
    exact ⟨congrArg (fun x => Ending.returned (.bool x)) E.out.symm, Below.refl _ _⟩
end Go.Proofs.YtdlifcpdlbmijaaGreatDoor
namespace Go.Proofs.YtdlifcpdlbmijaaGreatDoor.B2
open Go.RowKit
/-- a slice of integers that came in: nil, or a row of 'cap' cells -/
def IsRow (k : IntKind) (w : World) (a : Option Addr) (len cap : Nat) (zs : List Int) : Prop :=
  (a = none ∧ len = 0 ∧ cap = 0 ∧ zs = []) ∨
  ∃ x, a = some x ∧ len ≤ cap ∧ cap ≤ maxLen ∧ zs.length = cap ∧ (∀ i, i < zs.length → w.cell? (x.add i) = some (.int k (zs.getD i 0))) ∧ ∀ n ∈ zs, (Lit.int k n).wf = true
theorem byte_nat {n : Int} (h : (Lit.int .u8 n).wf = true) : ∃ m : Nat, n = (m : Int) ∧ m < 256 := by
  have hb := bounds_u8 h
  obtain ⟨m, rfl⟩ := Int.eq_ofNat_of_zero_le hb.1
  exact ⟨m, rfl, by omega⟩
theorem bytes_nat : ∀ (zs : List Int), (∀ n ∈ zs, (Lit.int .u8 n).wf = true) → ∃ bs : List Nat, zs = bs.map (fun c => ((c : Nat) : Int)) ∧ ∀ c ∈ bs, c < 256
  | [], _ => ⟨[], rfl, fun _ h => absurd h (by simp)⟩
  | z :: zs, h => by
    obtain ⟨m, rfl, hm⟩ := byte_nat (h z List.mem_cons_self)
    obtain ⟨bs, rfl, hb⟩ := bytes_nat zs (fun n hn => h n (List.mem_cons_of_mem _ hn))
    refine ⟨m :: bs, rfl, fun c hc => ?_⟩
    rcases List.mem_cons.1 hc with rfl | hc
    · exact hm
    · exact hb c hc
theorem bys_of_row {w : World} {a : Option Addr} {len cap : Nat} {zs : List Int} (h : IsRow .u8 w a len cap zs) : ∃ bs : List Nat, bs.length = len ∧ Bys w a bs ∧ (a = none → cap = 0) ∧ len ≤ cap := by
  rcases h with ⟨rfl, rfl, rfl, rfl⟩ | ⟨x, rfl, hl, hm, hz, hcell, hwz⟩
  · exact ⟨[], rfl, Bys.nil _ _, fun _ => rfl, Nat.le_refl _⟩
  · obtain ⟨bs, rfl, h8⟩ := bytes_nat zs hwz
    have hz' : bs.length = cap := by simpa using hz
    refine ⟨bs.take len, by simp; omega, ⟨by simp; omega, fun c hc => h8 c (List.mem_of_mem_take hc), fun hn => ?_⟩, (fun h => by cases h), hl⟩
    have hlen : 0 < len := by
      refine Nat.pos_of_ne_zero fun h0 => hn ?_
      subst h0; simp
    obtain ⟨b, off, spot⟩ := x
    have hc0 := hcell 0 (by simp; omega)
    have hspot : spot = none := by simpa [Addr.add] using World.cell?_spot hc0
    subst hspot
    refine ⟨b, off, rfl, ?_, fun i hi => ?_⟩
    · have := World.block_lt_of_cell? _ _ hc0
      simpa [Addr.add] using this
    · have hi' : i < bs.length := by simp at hi; omega
      have hc := hcell i (by simpa using hi')
      rw [add_at] at hc
      rw [hc]
      simp [hi']
theorem Bys.take {w : World} {a : Option Addr} {bs : List Nat} (h : Bys w a bs) (n : Nat) : Bys w a (bs.take n) := by
  obtain ⟨h1, h2, h3⟩ := h
  refine ⟨by rw [List.length_take]; omega, fun c hc => h2 c (List.mem_of_mem_take hc), fun hn => ?_⟩
  obtain ⟨b, off, ha, hb, hc⟩ := h3 (by rintro rfl; simp at hn)
  refine ⟨b, off, ha, hb, fun i hi => ?_⟩
  rw [List.length_take] at hi
  rw [hc i (by omega), List.getElem_take]
/-- b is behind a: of what was there in a nothing has turned -/
structure Since (a b : World) : Prop where
  out : Below a.heap.size a b
theorem Since.start (a : World) : Since a a.drew := ⟨(Below.refl _ _).drew⟩
theorem Since.next {a b c : World} (h : Since a b) (k : Below b.heap.size b c) : Since a c := ⟨h.out.trans (k.mono h.out.size)⟩
theorem Since.alloc {a b : World} (h : Since a b) (o : Obj) : Since a (b.alloc o) := ⟨h.out.alloc h.out.size o⟩
/-- a writer's bytes, where they are known -/
def TheBytes (w : World) (ds : List Nat) (e : Ending) (w' : World) : Prop := ∃ a cap, e = .returned (.slice a ds.length cap) ∧ Bys w' a ds ∧ Below w.heap.size w w'
theorem wbytes_known (p d k : Nat) (B : List Bool) (ds : List Nat) (w : World) (H : Wr w p d B) (hB : B.length ≤ 1000000000) (hk : k < 8) (hP : Bt.Packs k ds B) :
    Calls Tryz.prog 81 #[.pointer (some ⟨p, 0, none⟩)] w (TheBytes w ds) := by
  refine (wbytes_any p d B w H hB).mono ?_
  rintro e w' ⟨bs, k2, hk2, hP2, a, cap, g, rfl, hR, _, hb⟩
  obtain rfl := Bt.packs_unique hP hP2 hk hk2
  exact ⟨a, cap, rfl, (hR.bys hP.1).2, hb⟩
theorem same_n (n m : Nat) (a a2 : Option Addr) (bs : List Nat) (cap cap2 : Nat) (w : World) (hn : bs.length = n) (hm : bs.length = m) (H : Bys w a bs) (H2 : Bys w a2 bs) :
    Calls Tryz.prog 40 #[.slice a n cap, .slice a2 m cap2] w fun e w' => e = .returned (.bool true) ∧ Below w.heap.size w w' := by
  subst hn; subst hm; exact same_any a a2 bs cap cap2 w H H2
theorem unpack_take (ds : List Nat) (n : Nat) : Bt.unpack (ds.take n) = (Bt.unpack ds).take (8 * n) := by
  induction ds generalizing n with
  | nil => simp [Bt.unpack]
  | cons c ds ih =>
    cases n with
    | zero => simp [Bt.unpack]
    | succ n =>
      rw [List.take_succ_cons, Bt.unpack_cons, Bt.unpack_cons, ih, show 8 * (n + 1) = 8 + 8 * n by omega, List.take_add]
      congr 1
end Go.Proofs.YtdlifcpdlbmijaaGreatDoor.B2
namespace Go.Proofs.YtdlifcpdlbmijaaGreatDoor.B2
open Go.RowKit
section
variable {P : Program}
/-- where an append of at least one element goes: in place, with the same room; or to new memory, and then nothing that was there has turned -/
def Goes (w w' : World) (v v' : Value) (n m : Nat) : Prop :=
  (∃ g cap, v = .slice (some ⟨g, 0, none⟩) n cap ∧ v' = .slice (some ⟨g, 0, none⟩) (n + m) cap ∧ w.grownBy w' (some g)) ∨
  (∃ g cap, v' = .slice (some ⟨g, 0, none⟩) (n + m) cap ∧ w.heap.size ≤ g ∧ w.grownBy w' none)
theorem run_append_goes (w : World) (t ty e : TypeId) (i : TypeInfo) (z : Value) (size bytes : Nat) (ht : P.underlying t = some (.slice e)) (hi : P.info? e = some i) (hz : i.zero = some z)
    (hsize : i.size = size) (hby : i.bytes = bytes) (hzs : z.cells.size = size) (hsz : 0 < size)
    (v : Value) (n : Nat) (xs : List Value) (hown : w.ownsRow 0 e size v n xs)
    (a : Addr) (m c : Nat) (news : List Value) (hl : news.length = m * size) (hnews : ∀ j u, news[j]? = some u → w.cell? (a.add j) = some u) (h1 : ∀ u ∈ news, u.oneCell' = true)
    (h63 : n + m ≤ maxLen) (hbytes : (n + m) * bytes ≤ 140737488355328) (hm : 0 < m) :
    ∃ v' w', (Builtin.append_ #[t, t] ty #[v, .slice (some a) m c]).run P w = .ok v' w' ∧ w'.ownsRow 0 e size v' (n + m) (xs ++ news) ∧ Goes w w' v v' n m := by
  obtain ⟨v', w', hr, h2, h3, h4⟩ := run_append_own (P := P) w 0 t ty e i z size bytes ht hi hz hsize hby hzs hsz v n xs hown a m c news hl hnews h1 h63 hbytes (Nat.zero_le _)
  refine ⟨v', w', hr, h2, ?_⟩
  rcases hown.2 with ⟨rfl, rfl⟩ | ⟨g, cap, cur, rfl, hbg, hg, hnc, hcm, hcs, htake⟩
  · have hx : xs = [] := List.eq_nil_of_length_eq_zero (by simpa using hown.1)
    subst hx
    obtain ⟨v2, w2, hr2, k2, k3, k4⟩ := run_append_own (P := P) w w.heap.size t ty e i z size bytes ht hi hz hsize hby hzs hsz _ 0 [] (World.ownsRow_nil w _ e size) a m c news hl hnews h1 h63 hbytes (Nat.le_refl _)
    rw [hr] at hr2
    cases hr2
    rcases k2.2 with ⟨_, h0⟩ | ⟨g, cap, cur, hv, hg, _⟩
    · omega
    · exact .inr ⟨g, cap, hv, hg, h3⟩
  · by_cases hroom : n + m ≤ cap
    · have hfit : n * i.size + news.length ≤ cur.size := by rw [hl, hcs, hsize, ← Nat.add_mul]; exact Nat.mul_le_mul_right _ hroom
      have hr2 := run_append_room (P := P) w t ty e i ht hi g n cap cur hg a m c news (by rw [hsize]; exact hl) hnews h1 hroom hfit
      rw [hr] at hr2
      cases hr2
      exact .inl ⟨g, cap, rfl, rfl, h3⟩
    · have holds := hown.cells (g := g) rfl
      have hr2 := run_append_grow (P := P) w t ty e i z ht hi hz ⟨g, 0, none⟩ n cap xs (by rw [hsize]; exact hown.1) holds a m c news (by rw [hsize]; exact hl) hnews (by omega) (by simp only [maxLen] at h63; omega) (growslice_fits (by omega) (by rw [hby]; exact hbytes))
      rw [hr] at hr2
      cases hr2
      exact .inr ⟨_, _, rfl, Nat.le_refl _, ⟨rfl, rfl, rfl, by simp, fun k hk _ => Below.heap_alloc w.drew _ k hk⟩⟩
theorem wpList_append_goes (w : World) {ops : Array Oper} {rest : List Oper} {o : Oper} {a : Act} {Q : Exit → Act → World → Prop} (hgd : o.guard = none) (s x : Operand) (t : TypeId)
    (ho : o.op = .call { callee := .builtin .append, args := #[s, x], argTypes := #[t, t] })
    (e : TypeId) (i : TypeInfo) (z : Value) (size bytes : Nat) (ht : P.underlying t = some (.slice e)) (hi : P.info? e = some i) (hz : i.zero = some z)
    (hsize : i.size = size) (hby : i.bytes = bytes) (hzs : z.cells.size = size) (hsz : 0 < size)
    (v : Value) (n : Nat) (xs : List Value) (hs : a.eval s = v) (hown : w.ownsRow 0 e size v n xs)
    (ad : Addr) (m c : Nat) (news : List Value) (hx : a.eval x = .slice (some ad) m c) (hl : news.length = m * size) (hnews : ∀ j u, news[j]? = some u → w.cell? (ad.add j) = some u) (h1 : ∀ u ∈ news, u.oneCell' = true)
    (h63 : n + m ≤ maxLen) (hbytes : (n + m) * bytes ≤ 140737488355328) (hm : 0 < m)
    (h : ∀ v' w', w'.ownsRow 0 e size v' (n + m) (xs ++ news) → Goes w w' v v' n m → wpList P ops Q rest (a.put o.dst v') w') : wpList P ops Q (o :: rest) a w := by
  refine wpList_plain hgd fun K hK => ?_
  obtain ⟨v', w', hr, h2, h3⟩ := run_append_goes (P := P) w t o.type e i z size bytes ht hi hz hsize hby hzs hsz v n xs hown ad m c news hl hnews h1 h63 hbytes hm
  unfold Oper.wp execOp
  simp only [ho, resolve, invoke, builtin, Sem.run_bind, Sem.run_pure, Result.andThen_ok, List.map_toArray, List.map_cons, List.map_nil, hs, hx, hr]
  exact hK _ _ (h v' w' h2 h3)
end
/-- rows of bytes, each in a block of its own or nil -/
structure Lots (w : World) (N : Nat) (X : Nat → Value) (C : Nat → List Nat) : Prop where
  own : ∀ i, w.ownsRow N 5 1 (X i) (C i).length (cellsOf (C i))
  apart : ∀ i j, i ≠ j → (X i).ownBlock = none ∨ (X i).ownBlock ≠ (X j).ownBlock
theorem Lots.shape {w : World} {N : Nat} {X : Nat → Value} {C : Nat → List Nat} (h : Lots w N X C) (i : Nat) : (X i = .slice none 0 0 ∧ C i = []) ∨ ∃ g cap cur, X i = .slice (some ⟨g, 0, none⟩) (C i).length cap ∧ N ≤ g ∧ w.heap[g]? = some (.cells cur 5 (0, 0)) ∧ (C i).length ≤ cap ∧ cap ≤ maxLen ∧ cur.size = cap ∧ cur.toList.take (C i).length = cellsOf (C i) := by
  rcases (h.own i).2 with ⟨hv, hn⟩ | ⟨g, cap, cur, hv, hg, hh, hc, hm, hs, ht⟩
  · exact .inl ⟨hv, List.eq_nil_of_length_eq_zero hn⟩
  · exact .inr ⟨g, cap, cur, hv, hg, hh, hc, hm, by simpa using hs, by simpa using ht⟩
theorem Lots.cell {w : World} {N : Nat} {X : Nat → Value} {C : Nat → List Nat} (h : Lots w N X C) (i k : Nat) (hk : k < (C i).length) :
    ∃ g cap, X i = .slice (some ⟨g, 0, none⟩) (C i).length cap ∧ N ≤ g ∧ g < w.heap.size ∧ w.cell? ⟨g, k, none⟩ = some (.int .u8 (((C i)[k] : Nat) : Int)) ∧ w.frozen? ⟨g, k, none⟩ = false := by
  rcases h.shape i with ⟨_, h0⟩ | ⟨g, cap, cur, hv, hg, hh, hc, hm, hs, ht⟩
  · rw [h0] at hk; simp at hk
  · refine ⟨g, cap, hv, hg, (Array.getElem?_eq_some_iff.1 hh).1, ?_, frozen_of_row _ _ _ _ _ hh⟩
    rw [cell_of_row _ _ _ _ _ _ hh, ← Array.getElem?_toList]
    have := congrArg (fun l => l[k]?) ht
    simp only [List.getElem?_take, if_pos hk, cellsOf_get _ k hk] at this
    exact this
/-- a row that is not written, or not there, stays -/
theorem owns_only {w w' : World} {N e size n : Nat} {v : Value} {xs : List Value} (h : w.ownsRow N e size v n xs) {S : List Nat} (ho : Only S w w') (hn : ∀ g, v.ownBlock = some g → g ∉ S) : w'.ownsRow N e size v n xs := by
  refine ⟨h.1, ?_⟩
  rcases h.2 with h2 | ⟨g, cap, cur, hv, hg, hh, r⟩
  · exact .inl h2
  · exact .inr ⟨g, cap, cur, hv, hg, (ho.block g (Array.getElem?_eq_some_iff.1 hh).1 (hn g (by rw [hv]; rfl))).trans hh, r⟩
theorem Lots.only {w w' : World} {N : Nat} {X : Nat → Value} {C : Nat → List Nat} (h : Lots w N X C) {S : List Nat} (ho : Only S w w') (hn : ∀ i g, (X i).ownBlock = some g → g ∉ S) : Lots w' N X C :=
  ⟨fun i => owns_only (h.own i) ho (hn i), h.apart⟩
/-- one byte of one row is written -/
theorem Lots.set {w : World} {N i k g cap c : Nat} {X : Nat → Value} {C : Nat → List Nat} (h : Lots w N X C) (hX : X i = .slice (some ⟨g, 0, none⟩) (C i).length cap) (hk : k < (C i).length) :
    Lots (w.setCell ⟨g, k, none⟩ (.int .u8 ((c : Nat) : Int))) N X (fun j => if j = i then (C i).set k c else C j) := by
  refine ⟨fun j => ?_, h.apart⟩
  have ho : Only [g] w (w.setCell ⟨g, k, none⟩ (.int .u8 ((c : Nat) : Int))) := (Only.refl _ _).setCell (p := ⟨g, k, none⟩) (.inl (by simp)) _
  by_cases hj : j = i
  · subst hj
    rw [if_pos rfl]
    rcases h.shape j with ⟨hv, _⟩ | ⟨g2, cap2, cur, hv, hg, hh, hc, hm, hs, ht⟩
    · rw [hX] at hv; cases hv
    · rw [hX] at hv
      cases hv
      refine ⟨by simp [cellsOf_length], .inr ⟨g, cap, cur.setIfInBounds k (.int .u8 ((c : Nat) : Int)), by rw [hX]; simp, hg, heap_setCell_same _ _ _ _ _ _ hh, by simpa using hc, hm, by simpa using hs, ?_⟩⟩
      rw [Array.toList_setIfInBounds, List.length_set, Nat.mul_one, List.take_set, ht]
      simp [cellsOf, List.map_set]
  · rw [if_neg hj]
    refine owns_only (h.own j) ho (fun g' hg' => ?_)
    rcases h.apart j i hj with h1 | h1
    · rw [h1] at hg'; cases hg'
    · rw [hg', hX] at h1
      simp only [Value.ownBlock] at h1
      intro hm
      simp only [List.mem_singleton] at hm
      exact h1 (by rw [hm])
/-- the slice of slices itself -/
def Outer (w : World) (a : Option Addr) (h n : Nat) (X : Nat → Value) : Prop := 0 < n → a = some ⟨h, 0, none⟩ ∧ h < w.heap.size ∧ ∀ i, i < n → w.cell? ⟨h, i, none⟩ = some (X i)
theorem Outer.only {w w' : World} {a : Option Addr} {h n : Nat} {X : Nat → Value} (H : Outer w a h n X) {S : List Nat} (ho : Only S w w') (hn : h ∉ S) : Outer w' a h n X := fun h0 => by
  obtain ⟨e, hl, hc⟩ := H h0
  exact ⟨e, Nat.lt_of_lt_of_le hl ho.size, fun i hi => (ho.cell (p := ⟨h, i, none⟩) hl hn).trans (hc i hi)⟩
/-- the marks -/
def mark1 (i k : Nat) : Nat := (i * 97 + k * 13) % 256
def mark2 (i k : Nat) : Nat := ((((-1 : Int) - (i : Int)) * 97 + (k : Int) * 13) % 256).toNat
theorem mark1_spell (i k : Nat) : ((i : Int) * 97 + (k : Int) * 13) % 256 = ((mark1 i k : Nat) : Int) := by unfold mark1; omega
theorem mark2_spell (i k : Nat) : (((-1 : Int) - (i : Int)) * 97 + (k : Int) * 13) % 256 = ((mark2 i k : Nat) : Int) := by unfold mark2; omega
end Go.Proofs.YtdlifcpdlbmijaaGreatDoor.B2
namespace Go.Proofs.YtdlifcpdlbmijaaGreatDoor
set_option linter.unusedVariables false
set_option linter.unusedSimpArgs false
open Go.RowKit Go.PlainAid Go.Shelf
open B2 (Only Bys Row cellsOf)
open Gm (St Smp Chk)
theorem info70' : (Tryz.prog.info? 79).map (fun i => (i.zero, i.size, i.bytes)) = some (some (.agg #[.int .i64 0, .int .u64 0]), 2, 16) := by kernel_rfl
def smC (l : List Smp) : List Value := l.flatMap fun a => [.int .i64 a.t, .int .u64 ((a.v : Nat) : Int)]
theorem smC_snoc (l : List Smp) (a : Smp) : smC (l ++ [a]) = smC l ++ [.int .i64 a.t, .int .u64 ((a.v : Nat) : Int)] := by simp [smC]
theorem smC_get (l : List Smp) (k : Nat) (h : k < l.length) : (smC l)[k * 2]? = some (.int .i64 l[k].t) ∧ (smC l)[k * 2 + 1]? = some (.int .u64 ((l[k].v : Nat) : Int)) := by
  induction l generalizing k with
  | nil => simp at h
  | cons a l ih =>
    cases k with
    | zero => exact ⟨rfl, rfl⟩
    | succ k =>
      have h2 := ih k (by simpa using h)
      have e : smC (a :: l) = .int .i64 a.t :: .int .u64 ((a.v : Nat) : Int) :: smC l := rfl
      rw [e, show (k + 1) * 2 = k * 2 + 1 + 1 by omega]
      simpa using h2
/-- samples of the call's own -/
def OwnS (w : World) (base : Nat) (v : Value) (l : List Smp) : Prop := w.ownsRow base 79 2 v l.length (smC l)
theorem OwnS.shape {w : World} {base : Nat} {v : Value} {l : List Smp} (H : OwnS w base v l) : ∃ a c, v = .slice a l.length c ∧ Sms w a l := by
  rcases H.2 with ⟨hv, h0⟩ | ⟨g, c, cur, hv, _, hh, _⟩
  · exact ⟨none, 0, by rw [hv, h0], fun h => absurd (List.eq_nil_of_length_eq_zero h0) h⟩
  · refine ⟨_, c, hv, fun _ => ⟨g, 0, rfl, (Array.getElem?_eq_some_iff.1 hh).1, fun k hk => ?_⟩⟩
    obtain ⟨h1, h2⟩ := smC_get l k hk
    have k1 := H.cells (g := g) (by rw [hv]; rfl) _ _ h1
    have k2 := H.cells (g := g) (by rw [hv]; rfl) _ _ h2
    rw [B2.add_here] at k1 k2
    rw [Nat.zero_add]
    exact ⟨k1, k2⟩
theorem OwnS.below {w w' : World} {base : Nat} {v : Value} {l : List Smp} (H : OwnS w base v l) (hb : Below w.heap.size w w') : OwnS w' base v l := B2.owns_only H (Only.of_below hb []) (fun _ _ => by simp)
theorem two_cellsN (w : World) (x : Smp) : ∀ j u, ([.int .i64 x.t, .int .u64 ((x.v : Nat) : Int)] : List Value)[j]? = some u → (w.alloc (.cells #[.int .i64 x.t, .int .u64 ((x.v : Nat) : Int)] 79)).cell? ((⟨w.heap.size, 0, none⟩ : Addr).add j) = some u := by
  intro j u hj
  rw [B2.add_here, cell_of_row _ _ _ _ _ _ (heap_alloc_new w _), List.getElem?_toArray]
  exact hj
theorem stp_neg (T : Int) (h : T < 0) : Gm.stp T = (-(T + 1)) % 4398046511104 + 1 := by unfold Gm.stp; rw [if_pos h]
theorem stp_nn (T : Int) (h : ¬ T < 0) : Gm.stp T = T % 4398046511104 + 1 := by unfold Gm.stp; rw [if_neg h]
end Go.Proofs.YtdlifcpdlbmijaaGreatDoor
namespace Go.Proofs.YtdlifcpdlbmijaaGreatDoor
set_option linter.unusedVariables false
set_option linter.unusedSimpArgs false
open Go.RowKit Go.PlainAid Go.Shelf
open B2 (Only Wr PutPost Bys Row cellsOf)
open Gm (St Smp)
/-- an appender behind a call -/
def ApPost (w : World) (a p d : Nat) (s' : St) (w' : World) : Prop := ∃ d', Ap w' a p d' s' ∧ (d' = d ∨ w.heap.size ≤ d') ∧ Only [a, p, d] w w'
/-- where an appender lies -/
structure Lie (w : World) (a p d : Nat) : Prop where
  la : a < w.heap.size
  lp : p < w.heap.size
  ld : d < w.heap.size
  nap : a ≠ p
  nad : a ≠ d
theorem Ap.lie {w : World} {a p d : Nat} {s : St} (h : Ap w a p d s) : Lie w a p d := ⟨h.lt, h.wr.lt.1, h.wr.lt.2, h.pa, h.da⟩
/-- what stays while a sample's number is put; g: a block of the call's own -/
structure Nn (w w' : World) (a p d d1 : Nat) (rc : Array Value) (B : List Bool) (g : Nat) (x0 x1 : Value) : Prop where
  wr : Wr w' p d1 B
  at' : d1 = d ∨ w.heap.size ≤ d1
  only : Only [a, p, d] w w'
  row : w'.heap[a]? = some (.cells rc 146 (0, 0))
  g0 : w'.cell? ⟨g, 0, none⟩ = some x0
  g1 : w'.cell? ⟨g, 1, none⟩ = some x1
  gs : w.heap.size ≤ g ∧ g ≠ d1
theorem Nn.below {w w1 w2 : World} {a p d d1 g : Nat} {rc : Array Value} {B : List Bool} {x0 x1 : Value} (h : Nn w w1 a p d d1 rc B g x0 x1) (hb : Below w1.heap.size w1 w2) : Nn w w2 a p d d1 rc B g x0 x1 :=
  ⟨h.wr.below hb, h.at', h.only.trans (Only.of_below hb [a, p, d]) (fun x hx => .inl hx), (hb.block _ (Array.getElem?_eq_some_iff.1 h.row).1).trans h.row, cell_below h.g0 hb, cell_below h.g1 hb, h.gs⟩
theorem Nn.put {w w1 w2 : World} {a p d d1 g : Nat} {rc : Array Value} {B B' : List Bool} {x0 x1 : Value} (h : Nn w w1 a p d d1 rc B g x0 x1) (hL : Lie w a p d) (hp : PutPost w1 p d1 B' w2) : ∃ d2, Nn w w2 a p d d2 rc B' g x0 x1 := by
  obtain ⟨d2, h1, h2, h3⟩ := hp
  have hgl := World.block_lt_of_cell? _ _ h.g0
  have hs := h.only.size
  have hL1 := hL.la; have hL2 := hL.lp; have hL3 := hL.ld; have hL4 := hL.nap; have hL5 := hL.nad
  have hg := h.gs
  have hat := h.at'
  have hgl' : g < w1.heap.size := hgl
  have hn : a ∉ [p, d1] := by simp only [List.mem_cons, List.not_mem_nil, or_false]; omega
  have hn2 : g ∉ [p, d1] := by simp only [List.mem_cons, List.not_mem_nil, or_false]; omega
  refine ⟨d2, h1, by omega, h.only.trans h3 ?_, (h3.block _ (Array.getElem?_eq_some_iff.1 h.row).1 hn).trans h.row, Only_cell h3 h.g0 hn2, Only_cell h3 h.g1 hn2, hg.1, by omega⟩
  intro x hx
  simp only [List.mem_cons, List.not_mem_nil, or_false] at hx ⊢
  rcases hx with rfl | rfl
  · exact .inl (.inr (.inl rfl))
  · rcases hat with rfl | h'
    · exact .inl (.inr (.inr rfl))
    · exact .inr h'
theorem Nn.drew {w w1 : World} {a p d d1 g : Nat} {rc : Array Value} {B : List Bool} {x0 x1 : Value} (h : Nn w w1 a p d d1 rc B g x0 x1) : Nn w w1.drew a p d d1 rc B g x0 x1 := h.below (drew_below _)
theorem Nn.lay {w w1 w2 : World} {a p d d1 : Nat} {rc : Array Value} {B : List Bool} (hL : Lie w a p d) (hw : Wr w1 p d1 B) (hat : d1 = d ∨ w.heap.size ≤ d1) (ho : Only [a, p, d] w w1) (hr : w1.heap[a]? = some (.cells rc 146 (0, 0))) (x0 x1 : Value) :
    Nn w (w1.alloc (.cells #[x0, x1] 142)) a p d d1 rc B w1.heap.size x0 x1 := by
  have hb := (Below.refl w1.heap.size w1).alloc (Nat.le_refl _) (.cells #[x0, x1] 142)
  have hr2 := heap_alloc_new w1 (.cells #[x0, x1] 142)
  exact ⟨hw.below hb, hat, ho.trans (Only.of_below hb [a, p, d]) (fun x hx => .inl hx), (hb.block _ (Array.getElem?_eq_some_iff.1 hr).1).trans hr, (cell_of_row _ _ 0 _ _ _ hr2).trans rfl, (cell_of_row _ _ 1 _ _ _ hr2).trans rfl, ho.size, by have := hw.lt.2; omega⟩
theorem keep3 {W W' : World} {p q r : Addr} {x y z : Value} (h : W.cell? p = some x ∧ W.cell? q = some y ∧ W.cell? r = some z) (k : Below W.heap.size W W') : W'.cell? p = some x ∧ W'.cell? q = some y ∧ W'.cell? r = some z := ⟨cell_below h.1 k, cell_below h.2.1 k, cell_below h.2.2 k⟩
theorem cells3 {W : World} {a : Nat} {v0 v1 v2 v3 v4 v5 v6 v7 : Value} (h : W.heap[a]? = some (.cells #[v0, v1, v2, v3, v4, v5, v6, v7] 146 (0, 0))) : W.cell? ⟨a, 7, none⟩ = some v7 ∧ W.cell? ⟨a, 4, none⟩ = some v4 ∧ W.cell? ⟨a, 5, none⟩ = some v5 := ⟨(cell_of_row _ _ 7 _ _ _ h).trans rfl, (cell_of_row _ _ 4 _ _ _ h).trans rfl, (cell_of_row _ _ 5 _ _ _ h).trans rfl⟩
theorem num_hold (ws we x : Nat) (h0 : x ≠ 0) (hh : (decide (ws ≤ Gm.wS x) && decide (Gm.wE x ≤ we)) = true) : Gm.numS ws we x = ws ∧ Gm.numE ws we x = we ∧ Gm.numB ws we x = [true] ++ [false] ++ B2.Bt.top (x >>> (64 - we)) (we - ws) := by
  have h : Gm.holdsW ws we x = true := hh
  refine ⟨?_, ?_, ?_⟩
  · unfold Gm.numS; rw [if_neg h0, if_pos h]
  · unfold Gm.numE; rw [if_neg h0, if_pos h]
  · unfold Gm.numB; rw [if_neg h0, if_pos h]; rfl
theorem num_new (ws we x : Nat) (h0 : x ≠ 0) (hh : ¬ (decide (ws ≤ Gm.wS x) && decide (Gm.wE x ≤ we)) = true) : Gm.numS ws we x = Gm.wS x ∧ Gm.numE ws we x = Gm.wE x ∧ Gm.numB ws we x = [true] ++ [true] ++ B2.Bt.top (Gm.wS x) 5 ++ B2.Bt.top (Gm.wE x - Gm.wS x - 1) 6 ++ B2.Bt.top (x >>> (64 - Gm.wE x)) (Gm.wE x - Gm.wS x) := by
  have h : ¬ Gm.holdsW ws we x = true := hh
  refine ⟨?_, ?_, ?_⟩
  · unfold Gm.numS; rw [if_neg h0, if_neg h]
  · unfold Gm.numE; rw [if_neg h0, if_neg h]
  · unfold Gm.numB; rw [if_neg h0, if_neg h]; rfl
theorem Nn.fin {w w' : World} {a p d d1 g : Nat} {s : St} {B : List Bool} {x0 x1 : Value} (h : Nn w w' a p d d1 (apC s p) B g x0 x1) (hL : Lie w a p d) : ApPost w a p d { s with out := B } w' := by
  have hat := h.at'
  have h1 := hL.la
  have h2 := hL.nad
  exact ⟨d1, ⟨h.row, h.wr, hL.nap, by omega⟩, h.at', h.only⟩
theorem Nn.win {w W : World} {a p d d1 g xs xe : Nat} {s : St} {B : List Bool} {x0 x1 : Value} (h : Nn w W a p d d1 (apC s p) B g x0 x1) (hL : Lie w a p d) :
    Nn w ((W.setCell ⟨a, 4, none⟩ (.int .i64 ((xs : Nat) : Int))).setCell ⟨a, 5, none⟩ (.int .i64 ((xe : Nat) : Int))) a p d d1 (apC { s with ws := xs, we := xe } p) B g x0 x1 := by
  have hat := h.at'
  have h1 := hL.la
  have h2 := hL.nad
  have h3 := hL.nap
  have hg := h.gs
  have hO := ((Only.refl [a] W).setCell (p := ⟨a, 4, none⟩) (.inl (by simp)) (.int .i64 ((xs : Nat) : Int))).setCell (p := ⟨a, 5, none⟩) (.inl (by simp)) (.int .i64 ((xe : Nat) : Int))
  refine ⟨h.wr.only hO (by simp; omega) (by simp; omega), hat, h.only.trans hO (by simp), ?_, Only_cell hO h.g0 (by simp; omega), Only_cell hO h.g1 (by simp; omega), hg⟩
  rw [heap_setCell_same _ _ _ _ _ _ (heap_setCell_same _ _ _ _ _ _ h.row)]
  rfl
/-- the state behind a number -/
def numSt (s : St) (v : Nat) : St := { s with ws := Gm.numS s.ws s.we (v ^^^ s.last.v), we := Gm.numE s.ws s.we (v ^^^ s.last.v), out := s.out ++ Gm.numB s.ws s.we (v ^^^ s.last.v) }
set_option maxHeartbeats 8000000 in
set_option maxRecDepth 100000 in
theorem putnum_zero (a p d : Nat) (s : St) (v : Nat) (hv : v < 18446744073709551616) (hI : Gm.Inv s) (hB : s.out.length + 200 ≤ 1000000000) (w : World) (H : Ap w a p d s) (h0 : v ^^^ s.last.v = 0) :
    Calls Tryz.prog 79 #[pt a, .int .u64 (v : Int)] w fun e w' => e = .returned (.tuple #[]) ∧ ApPost w a p d (numSt s v) w' := by
  have hL := Lib.hid H.lie
  have c2 := H.c2
  have c7 := H.c7
  have hx := u64_xor_nat v s.last.v hv hI.last.2.2
  rw [h0] at hx
  have C := Lib.hid (B2.wbit_any p d s.out false w H.wr (by omega))
  have hE : numSt s v = { s with out := s.out ++ [false] } := by unfold numSt Gm.numS Gm.numE Gm.numB; rw [h0]; simp
  have HR := Lib.hid H.row
  have HE := Lib.hid hE
  clear hE H hI hB h0
  unfold pt at *
  go_enter Tryz.func79, Tryz.ntmps79
  go_wp2_with (first | (simp only [hx]) | (go_at_call 104; refine C.out.mono ?_; rintro e w1 ⟨rfl, hp⟩))
  refine bodyPost_ret (results_none rfl _ _ _) rfl ⟨rfl, ?_⟩
  obtain ⟨d2, h1, h2, h3⟩ := hp
  have hl1 := hL.out.la; have hl2 := hL.out.lp; have hl3 := hL.out.ld; have hl4 := hL.out.nap; have hl5 := hL.out.nad
  rw [HE.out]
  refine ⟨d2, ⟨(h3.block _ hl1 (by simp only [List.mem_cons, List.not_mem_nil, or_false]; omega)).trans HR.out, h1, hl4, by omega⟩, h2, h3.mono (by intro x hx; simp only [List.mem_cons, List.not_mem_nil, or_false] at hx ⊢; exact .inr hx)⟩
set_option maxHeartbeats 16000000 in
set_option maxRecDepth 100000 in
theorem putnum_more (a p d : Nat) (s : St) (v : Nat) (hv : v < 18446744073709551616) (hI : Gm.Inv s) (hB : s.out.length + 200 ≤ 1000000000) (w : World) (H : Ap w a p d s) (hT : TabAt w) (hTl : 1 < p ∧ 1 < d ∧ 1 < a) (h0 : v ^^^ s.last.v ≠ 0) :
    Calls Tryz.prog 79 #[pt a, .int .u64 (v : Int)] w fun e w' => e = .returned (.tuple #[]) ∧ ApPost w a p d (numSt s v) w' := by
  have hL := Lib.hid H.lie
  have c2 := H.c2
  have c7 := H.c7
  have hx := u64_xor_nat v s.last.v hv hI.last.2.2
  have hxl := Gm.xor_lt64 hv hI.last.2.2
  obtain ⟨wf1, wf2, wf3, _⟩ := Gm.win_facts _ h0 hxl
  have C := Lib.hid (B2.wbit_any p d s.out true w H.wr (by omega))
  have HX := Lib.hid (show ∃ x, v ^^^ s.last.v = x from ⟨_, rfl⟩)
  obtain ⟨x, hx1⟩ := HX.out
  have HSt : Hid (numSt s v = { s with ws := Gm.numS s.ws s.we x, we := Gm.numE s.ws s.we x, out := s.out ++ Gm.numB s.ws s.we x }) := Lib.hid (by unfold numSt; rw [hx1])
  rw [hx1] at hx h0 hxl wf1 wf2 wf3
  have CW := Lib.hid (fun w hT => window_any x hxl h0 w hT)
  have hxb : ((x : Int) == 0) = false := by simp; omega
  have hxc : (!((x : Int) == 0)) = true := by rw [hxb]; rfl
  have hxd : ¬ (x : Int) = 0 := by omega
  have hbn : ((x : Int) != 0) = true := by simp; omega
  have C := Lib.hid (show Calls Tryz.prog 104 #[.pointer (some ⟨p, 0, none⟩), .bool ((x : Int) != 0)] w fun e w' => e = .returned (.tuple #[]) ∧ PutPost w p d (s.out ++ [true]) w' by rw [hbn]; exact C.out)
  clear hbn
  have HR := Lib.hid H.row
  have HT := Lib.hid hT
  have HTl := Lib.hid hTl
  have HI := Lib.hid hI
  have HX0 := Lib.hid (show x ≠ 0 ∧ x < 18446744073709551616 ∧ Gm.wS x ≤ 31 ∧ Gm.wS x < Gm.wE x ∧ Gm.wE x ≤ 64 from ⟨h0, hxl, wf1, wf2, wf3⟩)
  have HB := Lib.hid hB
  obtain ⟨xs, hxs⟩ : ∃ xs, Gm.wS x = xs := ⟨_, rfl⟩
  obtain ⟨xe, hxe⟩ : ∃ xe, Gm.wE x = xe := ⟨_, rfl⟩
  have HXS := Lib.hid (And.intro hxs hxe)
  rw [hxs, hxe] at CW
  rw [hxs, hxe] at HX0
  clear H hI hB h0 hT hTl hx1 HX hxl wf1 wf2 wf3 hxs hxe
  unfold pt at *
  go_enter Tryz.func79, Tryz.ntmps79
  go_wp2_with (simp only [hx])
  go_at_call 104
  refine C.out.mono ?_
  rintro e w1 ⟨rfl, d1, hw1, hd1, ho1⟩
  have HN1 := Lib.hid (show Wr w1 p d1 (s.out ++ [true]) ∧ (d1 = d ∨ w.heap.size ≤ d1) ∧ Only [a, p, d] w w1 ∧ w1.heap[a]? = some (.cells (apC s p) 146 (0, 0)) ∧ TabAt w1 from
    ⟨hw1, hd1, ho1.mono (by intro x hx; simp only [List.mem_cons, List.not_mem_nil, or_false] at hx ⊢; exact .inr hx), (ho1.block _ hL.out.la (by have h4 := hL.out.nap; have h5 := hL.out.nad; simp only [List.mem_cons, List.not_mem_nil, or_false]; omega)).trans HR.out, HT.out.only ho1 (by intro x hx; have := HTl.out; simp only [List.mem_cons, List.not_mem_nil, or_false] at hx; omega)⟩)
  clear hw1 hd1 ho1 c2 c7 C
  go_wp2_with fail
  go_at_call 105
  refine (CW.out _ HN1.out.2.2.2.2).mono ?_
  rintro e w2 ⟨rfl, hb⟩
  have hN := Nn.lay (w2 := w) (x0 := .int .i64 (xs : Int)) (x1 := .int .i64 (xe : Int)) hL.out (HN1.out.1.below hb) HN1.out.2.1 (HN1.out.2.2.1.trans (Only.of_below hb [a, p, d]) (fun x hx => .inl hx)) ((hb.block _ (Array.getElem?_eq_some_iff.1 HN1.out.2.2.2.1).1).trans HN1.out.2.2.2.1)
  have HN := Lib.hid hN
  have hgg := hN.g0
  have hgg1 := hN.g1
  have q4 : (w2.alloc (.cells #[.int .i64 (xs : Int), .int .i64 (xe : Int)] 142)).cell? ⟨a, 4, none⟩ = some (.int .i64 ((s.ws : Nat) : Int)) := (cell_of_row _ _ 4 _ _ _ hN.row).trans rfl
  have q5 : (w2.alloc (.cells #[.int .i64 (xs : Int), .int .i64 (xe : Int)] 142)).cell? ⟨a, 5, none⟩ = some (.int .i64 ((s.we : Nat) : Int)) := (cell_of_row _ _ 5 _ _ _ hN.row).trans rfl
  clear hN hb CW
  go_upto_region 4 with (fail)
  generalize w2.alloc (.cells #[.int .i64 (xs : Int), .int .i64 (xe : Int)] 142) = W3 at HN hgg hgg1 q4 q5 ⊢
  go_still_tail 6, (by kernel_rfl)
  change wpList _ _ _ _ _ (World.drew _)
  clear q4 q5 hgg hgg1
  have HNd := Lib.hid HN.out.drew
  generalize World.drew _ = wd at HNd ⊢
  have CH := Lib.hid (holds_any s.ws s.we xs xe wd)
  unfold winV at CH
  by_cases hh : (decide (s.ws ≤ xs) && decide (xe ≤ s.we)) = true
  · rw [hh] at CH
    have HHH := Lib.hid hh
    clear hh HN
    go_wp2_with fail
    go_at_call 106
    refine CH.out.mono ?_
    rintro e w4 ⟨rfl, hb⟩
    have HN4 := Lib.hid (HNd.out.below hb)
    have q7 : w4.cell? ⟨a, 7, none⟩ = some (.pointer (some ⟨p, 0, none⟩)) := (cell_of_row _ _ 7 _ _ _ HN4.out.row).trans rfl
    have C5 := Lib.hid (B2.wbit_any p d1 (s.out ++ [true]) false w4 HN4.out.wr (by rw [List.length_append]; have := HB.out; simp; omega))
    clear hb HNd CH
    go_wp2_with fail
    go_at_call 104
    refine C5.out.mono ?_
    rintro e w5 ⟨rfl, hp⟩
    obtain ⟨d5, hN5⟩ := HN4.out.put hL.out hp
    have HN5 := Lib.hid hN5
    have HW := Lib.hid (show s.ws < s.we ∧ s.we ≤ 64 from by
      have h1 := HX0.out
      have h2 := HHH.out
      simp only [Bool.and_eq_true, decide_eq_true_eq] at h2
      have h3 := HI.out.win
      omega)
    have q7 : w5.cell? ⟨a, 7, none⟩ = some (.pointer (some ⟨p, 0, none⟩)) := (cell_of_row _ _ 7 _ _ _ HN5.out.row).trans rfl
    have q4 : w5.cell? ⟨a, 4, none⟩ = some (.int .i64 ((s.ws : Nat) : Int)) := (cell_of_row _ _ 4 _ _ _ HN5.out.row).trans rfl
    have q5 : w5.cell? ⟨a, 5, none⟩ = some (.int .i64 ((s.we : Nat) : Int)) := (cell_of_row _ _ 5 _ _ _ HN5.out.row).trans rfl
    have hNN := HN5.out.drew
    have CT := Lib.hid (fun W => trailing_any s.ws s.we HW.out.2 W)
    have CS := Lib.hid (fun W => size_any s.ws s.we (by have := HW.out.1; omega) HW.out.2 W)
    have CB := Lib.hid (fun W h => B2.wbits_good p d5 (s.out ++ [true] ++ [false]) (x >>> (64 - s.we)) (s.we - s.ws) (by have := HW.out; omega) W h (by simp only [List.length_append, List.length_cons, List.length_nil, B2.Bt.top_length]; have := HB.out; have := HW.out; omega))
    unfold winV at CT CS
    have hsl : (64 : Int) - ((s.we : Nat) : Int) < 64 := by have := HW.out; omega
    obtain ⟨tr, htr⟩ : ∃ tr, 64 - s.we = tr := ⟨_, rfl⟩
    obtain ⟨sz, hsz⟩ : ∃ sz, s.we - s.ws = sz := ⟨_, rfl⟩
    rw [htr] at CT CB
    rw [hsz] at CS CB
    have htl : tr < 64 := by have := HW.out; omega
    have hshr : (x : Int) / 2 ^ tr = ((x >>> tr : Nat) : Int) := by rw [Nat.shiftRight_eq_div_pow]; simp
    have HTS := Lib.hid (And.intro htr hsz)
    clear hN5 hsl htr hsz
    go_wp2_with fail
    go_region_held3 (fun w' => w'.cell? ⟨a, 7, none⟩ = some (.pointer (some ⟨p, 0, none⟩)) ∧ w'.cell? ⟨a, 4, none⟩ = some (.int .i64 ((s.ws : Nat) : Int)) ∧ w'.cell? ⟨a, 5, none⟩ = some (.int .i64 ((s.we : Nat) : Int))) ((first | exact ⟨cell_below q7 (drew_below _), cell_below q4 (drew_below _), cell_below q5 (drew_below _)⟩ | assumption))
      ((first
        | (go_at_call 108; refine (CT.out _).mono ?_; rintro e w' ⟨rfl, hb⟩; have hcs := keep3 (by assumption) hb; have hNN := Nn.below (by assumption) hb)
        | (go_at_call 107; refine (CS.out _).mono ?_; rintro e w' ⟨rfl, hb⟩; have hcs := keep3 (by assumption) hb; have hNN := Nn.below (by assumption) hb)
        | (go_at_call 77; refine (CB.out _ (Nn.wr (by assumption))).mono ?_; rintro e w' ⟨rfl, hp⟩; obtain ⟨d9, hN9⟩ := Nn.put (by assumption) hL.out hp; have hcs := cells3 hN9.row)))
    refine bodyPost_end (results_none rfl _ _ _) rfl ⟨rfl, ?_⟩
    rw [HSt.out]
    have hq := num_hold s.ws s.we x HX0.out.1 (by rw [HXS.out.1, HXS.out.2]; exact HHH.out)
    rw [hq.1, hq.2.1, hq.2.2, HTS.out.1, HTS.out.2, ← List.append_assoc, ← List.append_assoc]
    exact hN9.fin hL.out
  · have hh0 : (decide (s.ws ≤ xs) && decide (xe ≤ s.we)) = false := by simpa using hh
    rw [hh0] at CH
    have HHH := Lib.hid hh
    clear hh hh0 HN
    go_wp2_with fail
    go_at_call 106
    refine CH.out.mono ?_
    rintro e w4 ⟨rfl, hb⟩
    have HN4 := Lib.hid (HNd.out.below hb)
    have q7 : w4.cell? ⟨a, 7, none⟩ = some (.pointer (some ⟨p, 0, none⟩)) := (cell_of_row _ _ 7 _ _ _ HN4.out.row).trans rfl
    have C5 := Lib.hid (B2.wbit_any p d1 (s.out ++ [true]) true w4 HN4.out.wr (by rw [List.length_append]; have := HB.out; simp; omega))
    clear hb HNd CH
    go_wp2_with fail
    go_at_call 104
    refine C5.out.mono ?_
    rintro e w5 ⟨rfl, hp⟩
    obtain ⟨d5, hN5⟩ := HN4.out.put hL.out hp
    have HN5 := Lib.hid hN5
    have HW := Lib.hid (show xs < xe ∧ xe ≤ 64 from by have h1 := HX0.out; omega)
    have q7 : w5.cell? ⟨a, 7, none⟩ = some (.pointer (some ⟨p, 0, none⟩)) := (cell_of_row _ _ 7 _ _ _ HN5.out.row).trans rfl
    have qg0 := HN5.out.g0
    have HN5d := Lib.hid HN5.out.drew
    have hcv : IntKind.u64.wrap (xs : Int) = (xs : Int) := by rw [IntKind.wrap_u64]; have := HX0.out; omega
    clear hN5 hp C5
    go_upto_region 7 with (fail)
    go_still_tail 7, (by kernel_rfl)
    change wpList _ _ _ _ _ (World.drew _)
    clear q7 qg0
    generalize World.drew _ = wd5 at HN5d ⊢
    have C7 := Lib.hid (B2.wbits_good p d5 (s.out ++ [true] ++ [true]) xs 5 (by decide) wd5 HN5d.out.wr (by simp only [List.length_append, List.length_cons, List.length_nil]; have := HB.out; omega))
    go_wp2_with fail
    go_at_call 77
    refine C7.out.mono ?_
    rintro e w6 ⟨rfl, hp⟩
    obtain ⟨d6, hN6⟩ := HN5d.out.put hL.out hp
    have q7 : w6.cell? ⟨a, 7, none⟩ = some (.pointer (some ⟨p, 0, none⟩)) := (cell_of_row _ _ 7 _ _ _ hN6.row).trans rfl
    have qg0 := hN6.g0
    have qg1 := hN6.g1
    have hNN := hN6.drew
    have CS := Lib.hid (fun W => size_any xs xe (by have := HW.out.1; omega) HW.out.2 W)
    unfold winV at CS
    obtain ⟨zx, hzx⟩ : ∃ zx, xe - xs = zx := ⟨_, rfl⟩
    rw [hzx] at CS
    have hz1 : (zx : Int) - 1 = ((zx - 1 : Nat) : Int) := by have := HW.out; omega
    have hz2 : IntKind.u64.wrap ((zx - 1 : Nat) : Int) = ((zx - 1 : Nat) : Int) := by rw [IntKind.wrap_u64]; have := HW.out; omega
    have hz3 : IntKind.u64.wrap ((zx : Int) - 1) = ((zx - 1 : Nat) : Int) := by rw [IntKind.wrap_u64]; have := HW.out; omega
    have hz4 : RowKit.wrap64 ((zx : Int) - 1) = ((zx - 1 : Nat) : Int) := by unfold RowKit.wrap64; have := HW.out; omega
    have hz5 : IntKind.i64.wrap ((zx - 1 : Nat) : Int) = ((zx - 1 : Nat) : Int) := by rw [i64_is]; exact IntWalk.wrap64_in _ ⟨by omega, by have := HW.out; omega⟩
    have hzr : (0 : Int) < (zx : Int) := by have := HW.out; omega
    have hzr2 : (zx : Int) ≤ 64 := by have := HW.out; omega
    have CB := Lib.hid (fun W h => B2.wbits_good p d6 (s.out ++ [true] ++ [true] ++ B2.Bt.top xs 5) (zx - 1) 6 (by decide) W h (by simp only [List.length_append, List.length_cons, List.length_nil, B2.Bt.top_length]; have := HB.out; omega))
    have HZX := Lib.hid hzx
    clear hp C7 HN5d HN5 hzx hN6
    go_wp2_with fail
    go_region_held3 (fun w' => w'.cell? ⟨a, 7, none⟩ = some (.pointer (some ⟨p, 0, none⟩)) ∧ w'.cell? ⟨w2.heap.size, 0, none⟩ = some (.int .i64 (xs : Int)) ∧ w'.cell? ⟨w2.heap.size, 1, none⟩ = some (.int .i64 (xe : Int))) ((first | exact ⟨cell_below q7 (drew_below _), cell_below qg0 (drew_below _), cell_below qg1 (drew_below _)⟩ | assumption))
      ((first
        | (go_at_call 107; refine (CS.out _).mono ?_; rintro e w' ⟨rfl, hb⟩; have hcs := keep3 (by assumption) hb; have hNN := Nn.below (by assumption) hb)
        | (go_at_call 77; refine (CB.out _ (Nn.wr (by assumption))).mono ?_; rintro e w7 ⟨rfl, hp⟩; obtain ⟨d9, hN9⟩ := Nn.put (by assumption) hL.out hp; have hcs := And.intro (cells3 hN9.row).1 (And.intro hN9.g0 hN9.g1))))
    have HN9 := Lib.hid hN9
    have qg0 := hN9.g0
    have qg1 := hN9.g1
    have hrow := hN9.row
    have r4 : w7.cell? ⟨a, 4, none⟩ = some (.int .i64 ((s.ws : Nat) : Int)) := (cell_of_row _ _ 4 _ _ _ hrow).trans rfl
    have f4 : w7.frozen? ⟨a, 4, none⟩ = false := frozen_of_row _ _ _ _ _ hrow
    have hrow2 : (w7.setCell ⟨a, 4, none⟩ (.int .i64 ((xs : Nat) : Int))).heap[a]? = some (.cells (apC { s with ws := xs } p) 146 (0, 0)) := by rw [heap_setCell_same _ _ _ _ _ _ hrow]; rfl
    have r5 : (w7.setCell ⟨a, 4, none⟩ (.int .i64 ((xs : Nat) : Int))).cell? ⟨a, 5, none⟩ = some (.int .i64 ((s.we : Nat) : Int)) := (cell_of_row _ _ 5 _ _ _ hrow2).trans rfl
    have f5 : (w7.setCell ⟨a, 4, none⟩ (.int .i64 ((xs : Nat) : Int))).frozen? ⟨a, 5, none⟩ = false := frozen_of_row _ _ _ _ _ hrow2
    have HN8 := Lib.hid (hN9.win (xs := xs) (xe := xe) hL.out)
    clear hN9 hrow hrow2 CS CB q7 hz1 hz2 hz3 hz4 hz5 hzr hzr2 hcv hNN
    go_upto_region 10 with (fail)
    generalize (w7.setCell ⟨a, 4, none⟩ (.int .i64 ((xs : Nat) : Int))).setCell ⟨a, 5, none⟩ (.int .i64 ((xe : Nat) : Int)) = w8 at HN8 ⊢
    obtain ⟨d8, hd8⟩ : ∃ d8, d9 = d8 := ⟨_, rfl⟩
    rw [hd8] at HN8
    clear r4 f4 r5 f5 qg0 qg1 HN9 hd8
    have hN8 := HN8.out
    have q7 : w8.cell? ⟨a, 7, none⟩ = some (.pointer (some ⟨p, 0, none⟩)) := (cell_of_row _ _ 7 _ _ _ HN8.out.row).trans rfl
    have q4 : w8.cell? ⟨a, 4, none⟩ = some (.int .i64 ((xs : Nat) : Int)) := (cell_of_row _ _ 4 _ _ _ HN8.out.row).trans rfl
    have q5 : w8.cell? ⟨a, 5, none⟩ = some (.int .i64 ((xe : Nat) : Int)) := (cell_of_row _ _ 5 _ _ _ HN8.out.row).trans rfl
    have hNN := HN8.out.drew
    have CT := Lib.hid (fun W => trailing_any xs xe HW.out.2 W)
    have CS := Lib.hid (fun W => size_any xs xe (by have := HW.out.1; omega) HW.out.2 W)
    have CB := Lib.hid (fun W h => B2.wbits_good p d8 (s.out ++ [true] ++ [true] ++ B2.Bt.top xs 5 ++ B2.Bt.top (zx - 1) 6) (x >>> (64 - xe)) (xe - xs) (by have := HW.out; omega) W h (by simp only [List.length_append, List.length_cons, List.length_nil, B2.Bt.top_length]; have := HB.out; have := HW.out; omega))
    unfold winV at CT CS
    have hsl : (64 : Int) - ((xe : Nat) : Int) < 64 := by have := HW.out; omega
    obtain ⟨tr, htr⟩ : ∃ tr, 64 - xe = tr := ⟨_, rfl⟩
    obtain ⟨sz, hsz⟩ : ∃ sz, xe - xs = sz := ⟨_, rfl⟩
    rw [htr] at CT CB
    rw [hsz] at CS CB
    have htl : tr < 64 := by have := HW.out; omega
    have hshr : (x : Int) / 2 ^ tr = ((x >>> tr : Nat) : Int) := by rw [Nat.shiftRight_eq_div_pow]; simp
    have HTS := Lib.hid (And.intro htr hsz)
    clear hN8 hsl htr hsz
    go_wp2_with fail
    go_region_held3 (fun w' => w'.cell? ⟨a, 7, none⟩ = some (.pointer (some ⟨p, 0, none⟩)) ∧ w'.cell? ⟨a, 4, none⟩ = some (.int .i64 ((xs : Nat) : Int)) ∧ w'.cell? ⟨a, 5, none⟩ = some (.int .i64 ((xe : Nat) : Int))) ((first | exact ⟨cell_below q7 (drew_below _), cell_below q4 (drew_below _), cell_below q5 (drew_below _)⟩ | assumption))
      ((first
        | (go_at_call 108; refine (CT.out _).mono ?_; rintro e w' ⟨rfl, hb⟩; have hcs := keep3 (by assumption) hb; have hNN := Nn.below (by assumption) hb)
        | (go_at_call 107; refine (CS.out _).mono ?_; rintro e w' ⟨rfl, hb⟩; have hcs := keep3 (by assumption) hb; have hNN := Nn.below (by assumption) hb)
        | (go_at_call 77; refine (CB.out _ (Nn.wr (by assumption))).mono ?_; rintro e w' ⟨rfl, hp⟩; obtain ⟨d9, hN9⟩ := Nn.put (by assumption) hL.out hp; have hcs := cells3 hN9.row)))
    refine bodyPost_end (results_none rfl _ _ _) rfl ⟨rfl, ?_⟩
    rw [HSt.out]
    have hq := num_new s.ws s.we x HX0.out.1 (by rw [HXS.out.1, HXS.out.2]; exact HHH.out)
    have hzs : zx = sz := HZX.out.symm.trans HTS.out.2
    rw [hzs] at hN9
    rw [hq.1, hq.2.1, hq.2.2, HXS.out.1, HXS.out.2, HTS.out.1, HTS.out.2, ← List.append_assoc, ← List.append_assoc, ← List.append_assoc, ← List.append_assoc]
    exact hN9.fin hL.out
end Go.Proofs.YtdlifcpdlbmijaaGreatDoor
namespace Go.Proofs.YtdlifcpdlbmijaaGreatDoor
set_option linter.unusedVariables false
set_option linter.unusedSimpArgs false
open Go.RowKit Go.PlainAid Go.Shelf
open B2 (Only Wr PutPost Bys Row cellsOf)
open Gm (St Smp)
/-- a sample -/
def smV (a : Smp) : Value := .agg #[.int .i64 a.t, .int .u64 ((a.v : Nat) : Int)]
def rowP (n : Nat) (t : Int) (v g : Nat) (x4 x5 x6 x7 : Value) : Array Value := #[.int .i64 ((n : Nat) : Int), .int .i64 t, .int .u64 ((v : Nat) : Int), .int .u64 ((g : Nat) : Int), x4, x5, x6, x7]
set_option maxHeartbeats 8000000 in
set_option maxRecDepth 100000 in
theorem push_any (a n v g v2 : Nat) (t t2 : Int) (ht : -9223372036854775808 ≤ t ∧ t ≤ 9223372036854775807) (ht2 : -9223372036854775808 ≤ t2 ∧ t2 ≤ 9223372036854775807) (hn : n ≤ 9223372036854775806) (ty : TypeId) (x4 x5 x6 x7 : Value) (w : World) (H : w.heap[a]? = some (.cells (rowP n t v g x4 x5 x6 x7) ty (0, 0))) :
    Calls Tryz.prog 80 #[pt a, .agg #[.int .i64 t2, .int .u64 ((v2 : Nat) : Int)]] w fun e w' => e = .returned (.tuple #[]) ∧ w'.heap[a]? = some (.cells (rowP (n + 1) t2 v2 (Gm.gapOf t2 t) x4 x5 x6 x7) ty (0, 0)) ∧ Only [a] w w' := by
  have hal := (Array.getElem?_eq_some_iff.1 H).1
  have hg := gap_word t2 t ht2 ht
  have hA := (Below.refl w.heap.size w).alloc (Nat.le_refl _) (.cells #[.int .i64 t2, .int .u64 ((v2 : Nat) : Int)] 79)
  have hr0 : (w.alloc (.cells #[.int .i64 t2, .int .u64 ((v2 : Nat) : Int)] 79)).heap[a]? = some (.cells (rowP n t v g x4 x5 x6 x7) ty (0, 0)) := (hA.block _ hal).trans H
  have c1 : (w.alloc (.cells #[.int .i64 t2, .int .u64 ((v2 : Nat) : Int)] 79)).cell? ⟨a, 1, none⟩ = some (.int .i64 t) := (cell_of_row _ _ 1 _ _ _ hr0).trans rfl
  have c3 : (w.alloc (.cells #[.int .i64 t2, .int .u64 ((v2 : Nat) : Int)] 79)).cell? ⟨a, 3, none⟩ = some (.int .u64 ((g : Nat) : Int)) := (cell_of_row _ _ 3 _ _ _ hr0).trans rfl
  have f3 : (w.alloc (.cells #[.int .i64 t2, .int .u64 ((v2 : Nat) : Int)] 79)).frozen? ⟨a, 3, none⟩ = false := frozen_of_row _ _ _ _ _ hr0
  have hbx := heap_alloc_new w (.cells #[.int .i64 t2, .int .u64 ((v2 : Nat) : Int)] 79)
  have b0 : (w.alloc (.cells #[.int .i64 t2, .int .u64 ((v2 : Nat) : Int)] 79)).cell? ⟨w.heap.size, 0, none⟩ = some (.int .i64 t2) := (cell_of_row _ _ 0 _ _ _ hbx).trans rfl
  have b1 : (w.alloc (.cells #[.int .i64 t2, .int .u64 ((v2 : Nat) : Int)] 79)).cell? ⟨w.heap.size, 1, none⟩ = some (.int .u64 ((v2 : Nat) : Int)) := (cell_of_row _ _ 1 _ _ _ hbx).trans rfl
  have HS := Lib.hid (show a < w.heap.size ∧ w.heap.size < (w.alloc (.cells #[.int .i64 t2, .int .u64 ((v2 : Nat) : Int)] 79)).heap.size from ⟨hal, by simp⟩)
  obtain ⟨G, hG⟩ : ∃ G, Gm.gapOf t2 t = G := ⟨_, rfl⟩
  rw [hG] at hg ⊢
  have hg2 : IntKind.u64.wrap (IntKind.i64.wrap (t2 - t)) = (G : Int) := by rw [i64_is]; exact hg
  have HR := Lib.hid hr0
  have HA := Lib.hid hA
  clear H hA hr0 hG ht ht2
  unfold pt
  go_enter Tryz.func80, Tryz.ntmps80
  go_upto_region 1 with (fail)
  generalize (w.alloc (.cells #[.int .i64 t2, .int .u64 ((v2 : Nat) : Int)] 79)) = W1 at c1 c3 f3 HR HA b0 b1 HS ⊢
  go_still_tail 12, (by kernel_rfl)
  change wpList _ _ _ _ _ (World.drew _)
  have R0 := Lib.hid (show W1.drew.heap[a]? = some (.cells (rowP n t v g x4 x5 x6 x7) ty (0, 0)) from HR.out)
  have c3 : W1.drew.cell? ⟨a, 3, none⟩ = some (.int .u64 ((g : Nat) : Int)) := c3
  have f3 : W1.drew.frozen? ⟨a, 3, none⟩ = false := f3
  have d0 : W1.drew.cell? ⟨w.heap.size, 0, none⟩ = some (.int .i64 t2) := b0
  have d1 : W1.drew.cell? ⟨w.heap.size, 1, none⟩ = some (.int .u64 ((v2 : Nat) : Int)) := b1
  have HB := Lib.hid (show Below w.heap.size w W1.drew from HA.out.trans ((drew_below W1).mono HA.out.size))
  clear c1 b0 b1 HR HA
  generalize W1.drew = W2 at c3 f3 R0 d0 d1 HB ⊢
  have R1 := Lib.hid (show (W2.setCell ⟨a, 3, none⟩ (.int .u64 ((G : Nat) : Int))).heap[a]? = some (.cells (rowP n t v G x4 x5 x6 x7) ty (0, 0)) by rw [heap_setCell_same _ _ _ _ _ _ R0.out]; rfl)
  have e0 : (W2.setCell ⟨a, 3, none⟩ (.int .u64 ((G : Nat) : Int))).cell? ⟨w.heap.size, 0, none⟩ = some (.int .i64 t2) := Only_cell ((Only.refl [a] W2).setCell (p := ⟨a, 3, none⟩) (.inl (by simp)) _) d0 (by have := HS.out; simp; omega)
  have e1 : (W2.setCell ⟨a, 3, none⟩ (.int .u64 ((G : Nat) : Int))).cell? ⟨w.heap.size, 1, none⟩ = some (.int .u64 ((v2 : Nat) : Int)) := Only_cell ((Only.refl [a] W2).setCell (p := ⟨a, 3, none⟩) (.inl (by simp)) _) d1 (by have := HS.out; simp; omega)
  have k1 : (W2.setCell ⟨a, 3, none⟩ (.int .u64 ((G : Nat) : Int))).cell? ⟨a, 1, none⟩ = some (.int .i64 t) := (cell_of_row _ _ 1 _ _ _ R1.out).trans rfl
  have k1f : (W2.setCell ⟨a, 3, none⟩ (.int .u64 ((G : Nat) : Int))).frozen? ⟨a, 1, none⟩ = false := frozen_of_row _ _ _ _ _ R1.out
  have HO := Lib.hid (show Only [a] w (W2.setCell ⟨a, 3, none⟩ (.int .u64 ((G : Nat) : Int))) from (Only.of_below HB.out [a]).setCell (p := ⟨a, 3, none⟩) (.inl (by simp)) _)
  clear d0 d1 R0 HB
  go_upto_region 2 with (fail)
  generalize W2.setCell ⟨a, 3, none⟩ (.int .u64 ((G : Nat) : Int)) = W3 at R1 e0 e1 k1 k1f HO ⊢
  have R2 := Lib.hid (show (W3.setCell ⟨a, 1, none⟩ (.int .i64 t2)).heap[a]? = some (.cells (rowP n t2 v G x4 x5 x6 x7) ty (0, 0)) by rw [heap_setCell_same _ _ _ _ _ _ R1.out]; rfl)
  have k2 : (W3.setCell ⟨a, 1, none⟩ (.int .i64 t2)).cell? ⟨a, 2, none⟩ = some (.int .u64 ((v : Nat) : Int)) := (cell_of_row _ _ 2 _ _ _ R2.out).trans rfl
  have k2f : (W3.setCell ⟨a, 1, none⟩ (.int .i64 t2)).frozen? ⟨a, 2, none⟩ = false := frozen_of_row _ _ _ _ _ R2.out
  have R3 := Lib.hid (show ((W3.setCell ⟨a, 1, none⟩ (.int .i64 t2)).setCell ⟨a, 2, none⟩ (.int .u64 ((v2 : Nat) : Int))).heap[a]? = some (.cells (rowP n t2 v2 G x4 x5 x6 x7) ty (0, 0)) by rw [heap_setCell_same _ _ _ _ _ _ R2.out]; rfl)
  have HO3 := Lib.hid ((HO.out.setCell (p := ⟨a, 1, none⟩) (.inl (by simp)) (.int .i64 t2)).setCell (p := ⟨a, 2, none⟩) (.inl (by simp)) (.int .u64 ((v2 : Nat) : Int)))
  have k0 : ((W3.setCell ⟨a, 1, none⟩ (.int .i64 t2)).setCell ⟨a, 2, none⟩ (.int .u64 ((v2 : Nat) : Int))).cell? ⟨a, 0, none⟩ = some (.int .i64 ((n : Nat) : Int)) := (cell_of_row _ _ 0 _ _ _ R3.out).trans rfl
  have k0f : ((W3.setCell ⟨a, 1, none⟩ (.int .i64 t2)).setCell ⟨a, 2, none⟩ (.int .u64 ((v2 : Nat) : Int))).frozen? ⟨a, 0, none⟩ = false := frozen_of_row _ _ _ _ _ R3.out
  go_upto_region 3 with (fail)
  generalize (W3.setCell ⟨a, 1, none⟩ (.int .i64 t2)).setCell ⟨a, 2, none⟩ (.int .u64 ((v2 : Nat) : Int)) = W4 at R3 HO3 k0 k0f ⊢
  have hn1 : (n : Int) + 1 = ((n + 1 : Nat) : Int) := by omega
  have R4 := Lib.hid (show (W4.setCell ⟨a, 0, none⟩ (.int .i64 ((n : Int) + 1))).heap[a]? = some (.cells (rowP (n + 1) t2 v2 G x4 x5 x6 x7) ty (0, 0)) by rw [hn1, heap_setCell_same _ _ _ _ _ _ R3.out]; rfl)
  have HO4 := Lib.hid (HO3.out.setCell (p := ⟨a, 0, none⟩) (.inl (by simp)) (.int .i64 ((n : Int) + 1)))
  clear hn1 R3 HO3 k1 k1f k2 k2f R2 R1 e0 e1 HO
  go_wp2_with fail
  exact bodyPost_end (results_none rfl _ _ _) rfl ⟨rfl, R4.out, HO4.out⟩
end Go.Proofs.YtdlifcpdlbmijaaGreatDoor
namespace Go.Proofs.YtdlifcpdlbmijaaGreatDoor
set_option linter.unusedVariables false
set_option linter.unusedSimpArgs false
open Go.RowKit Go.PlainAid Go.Shelf
open B2 (Only Wr PutPost Bys Row cellsOf)
open Gm (St Smp)
theorem stepB_len (d : Nat) : (Gm.stepB d).length ≤ 70 := by
  unfold Gm.stepB
  rw [List.length_append, B2.Bt.top_length, B2.Bt.top_length]
  have h := Gm.rowOf_le d
  generalize Gm.rowOf d = k at *
  have h5 : k = 0 ∨ k = 1 ∨ k = 2 ∨ k = 3 ∨ k = 4 := by omega
  rcases h5 with rfl | rfl | rfl | rfl | rfl <;> decide
theorem vb_len (v : Nat) (h : v < 18446744073709551616) : (B2.Bt.vb v).length ≤ 80 := by
  rw [B2.Bt.vb_length]; have := B2.Bt.vg_ten v h; omega
theorem timeB_len (s : St) (t : Int) : (Gm.timeB s t).length ≤ 80 := by
  unfold Gm.timeB
  split
  · exact vb_len _ (Gm.gapOf_lt _ _)
  · have := stepB_len (Gm.subW (Gm.gapOf t s.last.t) s.gap); omega
theorem numB_len (ws we x : Nat) (hx : x < 18446744073709551616) (hw : (ws = 0 ∧ we = 0) ∨ (ws < we ∧ we ≤ 64 ∧ ws ≤ 31)) : (Gm.numB ws we x).length ≤ 80 := by
  unfold Gm.numB
  split
  · simp
  · split
    · simp only [List.length_append, List.length_cons, List.length_nil, B2.Bt.top_length]; omega
    · rename_i h _
      obtain ⟨h1, h2, h3, _⟩ := Gm.win_facts x h hx
      simp only [List.length_append, List.length_cons, List.length_nil, B2.Bt.top_length]; omega
theorem ApPost.trans {w w1 w2 : World} {a p d d1 : Nat} {s : St} (hO : Only [a, p, d] w w1) (hd : d1 = d ∨ w.heap.size ≤ d1) (h : ApPost w1 a p d1 s w2) : ApPost w a p d s w2 := by
  obtain ⟨d2, h1, h2, h3⟩ := h
  have hs := hO.size
  refine ⟨d2, h1, by omega, hO.trans h3 ?_⟩
  intro x hx
  simp only [List.mem_cons, List.not_mem_nil, or_false] at hx ⊢
  rcases hx with rfl | rfl | rfl
  · exact .inl (.inl rfl)
  · exact .inl (.inr (.inl rfl))
  · rcases hd with rfl | h'
    · exact .inl (.inr (.inr rfl))
    · exact .inr h'
theorem ApPost.of_put {w w1 : World} {a p d : Nat} {s : St} {B : List Bool} (H : Ap w a p d s) (h : PutPost w p d B w1) : ApPost w a p d { s with out := B } w1 := by
  obtain ⟨d1, h1, h2, h3⟩ := h
  have hl := H.lie
  have a1 := hl.la; have a2 := hl.nap; have a3 := hl.nad
  exact ⟨d1, ⟨(h3.block _ hl.la (by simp only [List.mem_cons, List.not_mem_nil, or_false]; omega)).trans H.row, h1, hl.nap, by omega⟩, h2, h3.mono (by intro x hx; simp only [List.mem_cons, List.not_mem_nil, or_false] at hx ⊢; exact .inr hx)⟩
theorem Ap.below {w w1 : World} {a p d : Nat} {s : St} (H : Ap w a p d s) (hb : Below w.heap.size w w1) : Ap w1 a p d s :=
  ⟨(hb.block _ H.lt).trans H.row, H.wr.below hb, H.pa, H.da⟩
/-- behind a push -/
theorem Ap.push {w w1 : World} {a p d : Nat} {s : St} (H : Ap w a p d s) (a2 : Smp) (hr : w1.heap[a]? = some (.cells (rowP (s.n + 1) a2.t a2.v (Gm.gapOf a2.t s.last.t) (.int .i64 ((s.ws : Nat) : Int)) (.int .i64 ((s.we : Nat) : Int)) (.int .i64 s.frm) (pt p)) 146 (0, 0))) (ho : Only [a] w w1) :
    Ap w1 a p d { s with n := s.n + 1, last := a2, gap := Gm.gapOf a2.t s.last.t } := by
  have hl := H.lie
  have a1 := hl.la; have a2 := hl.nap; have a3 := hl.nad
  exact ⟨hr, H.wr.only ho (by simp; omega) (by simp; omega), H.pa, H.da⟩
set_option maxHeartbeats 8000000 in
set_option maxRecDepth 100000 in
theorem put_more (a p d : Nat) (s : St) (x : Smp) (hx : Gm.OkS x) (hI : Gm.Inv s) (hn : s.n ≤ 1000) (h0 : s.n ≠ 0) (hB : s.out.length + 1000 ≤ 1000000000) (w : World) (H : Ap w a p d s) (hT : TabAt w) (hTl : 1 < p ∧ 1 < d ∧ 1 < a) :
    Calls Tryz.prog 26 #[pt a, smV x] w fun e w' => e = .returned (.tuple #[]) ∧ ApPost w a p d (Gm.put s x) w' := by
  have hA := (Below.refl w.heap.size w).alloc (Nat.le_refl _) (.cells #[.int .i64 x.t, .int .u64 ((x.v : Nat) : Int)] 79)
  have hbx := heap_alloc_new w (.cells #[.int .i64 x.t, .int .u64 ((x.v : Nat) : Int)] 79)
  have H1 := H.below hA
  have hT1 := hT.below hA hT.lt
  have c0 := H1.c0
  have b0 : (w.alloc (.cells #[.int .i64 x.t, .int .u64 ((x.v : Nat) : Int)] 79)).cell? ⟨w.heap.size, 0, none⟩ = some (.int .i64 x.t) := (cell_of_row _ _ 0 _ _ _ hbx).trans rfl
  have b1 : (w.alloc (.cells #[.int .i64 x.t, .int .u64 ((x.v : Nat) : Int)] 79)).cell? ⟨w.heap.size, 1, none⟩ = some (.int .u64 ((x.v : Nat) : Int)) := (cell_of_row _ _ 1 _ _ _ hbx).trans rfl
  have hn1 : ((s.n : Int) == 0) = false := by simp; omega
  have hn2 : ¬ (s.n : Int) = 0 := by omega
  have CT := Lib.hid (puttime_any a p d s x.t ⟨hx.1, hx.2.1⟩ hI hn (by omega) _ H1)
  have HE : Hid (Gm.put s x = { numSt { s with out := s.out ++ Gm.timeB s x.t } x.v with n := s.n + 1, last := x, gap := Gm.gapOf x.t s.last.t }) := Lib.hid (by
    unfold Gm.put numSt Gm.bitsOf
    simp only [h0, if_false, List.append_assoc])
  have HO := Lib.hid (Only.of_below hA [a, p, d])
  have HL := Lib.hid H.lie
  have HB1 := Lib.hid (show w.heap.size < (w.alloc (.cells #[.int .i64 x.t, .int .u64 ((x.v : Nat) : Int)] 79)).heap.size by simp)
  have H1h := Lib.hid H1
  have HT := Lib.hid hT1
  have HX := Lib.hid hx
  have HI := Lib.hid hI
  have HTl := Lib.hid hTl
  have HB := Lib.hid hB
  have HN := Lib.hid hn
  unfold smV pt at *
  clear hA hbx H1 hT1 H hT hI hx hB hn h0 hTl
  go_enter Tryz.func26, Tryz.ntmps26
  go_upto_region 5 with (fail)
  generalize w.alloc (.cells #[.int .i64 x.t, .int .u64 ((x.v : Nat) : Int)] 79) = W1 at CT HO HB1 H1h HT b0 b1 c0 ⊢
  go_wp2_with fail
  go_at_call 78
  refine CT.out.mono ?_
  rintro e w2 ⟨rfl, hp⟩
  have hP := ApPost.of_put H1h.out hp
  obtain ⟨d2, h2, hd2, ho2⟩ := hP
  have HS2 := Lib.hid (show w.heap.size ∉ [a, p, d] ∧ w.heap.size ∉ [a, p, d2] by
    have h1 := HL.out.la; have h3 := HL.out.lp; have h4 := HL.out.ld
    have h5 := HB1.out
    simp only [List.mem_cons, List.not_mem_nil, or_false]; omega)
  have q0 := Only_cell ho2 b0 HS2.out.1
  have q1 := Only_cell ho2 b1 HS2.out.1
  have HT2 := Lib.hid (HT.out.only ho2 (by intro x hx; have := HTl.out; simp only [List.mem_cons, List.not_mem_nil, or_false] at hx; omega))
  have HO2 := Lib.hid (HO.out.trans ho2 (fun x hx => .inl hx))
  have CN := Lib.hid (fun h => putnum_more a p d2 { s with out := s.out ++ Gm.timeB s x.t } x.v HX.out.2.2 ⟨HI.out.last, HI.out.gap, HI.out.win⟩ (by simp only [List.length_append]; have := timeB_len s x.t; have := HB.out; omega) w2 h2 HT2.out (by have := HTl.out; have h5 := HB1.out; have h6 := HT.out.lt; omega) h)
  have CN0 := Lib.hid (fun h => putnum_zero a p d2 { s with out := s.out ++ Gm.timeB s x.t } x.v HX.out.2.2 ⟨HI.out.last, HI.out.gap, HI.out.win⟩ (by simp only [List.length_append]; have := timeB_len s x.t; have := HB.out; omega) w2 h2 h)
  have CNN : Hid (Calls Tryz.prog 79 #[.pointer (some ⟨a, 0, none⟩), .int .u64 ((x.v : Nat) : Int)] w2 fun e w' => e = .returned (.tuple #[]) ∧ ApPost w2 a p d2 (numSt { s with out := s.out ++ Gm.timeB s x.t } x.v) w') := Lib.hid (by
    by_cases h : x.v ^^^ s.last.v = 0
    · exact CN0.out h
    · exact CN.out h)
  have H2 := Lib.hid h2
  have HD2 := Lib.hid (show d2 = d ∨ w.heap.size ≤ d2 by have := HB1.out; omega)
  clear b0 b1 c0 hp ho2 hd2 h2 CN CN0 CT
  go_wp2_with fail
  go_at_call 79
  refine CNN.out.mono ?_
  rintro e w3 ⟨rfl, d3, h3, hd3, ho3⟩
  have HS3 := Lib.hid HS2.out.2
  have r0 := Only_cell ho3 q0 HS3.out
  have r1 := Only_cell ho3 q1 HS3.out
  have HA3 := Lib.hid (ApPost.trans (s := numSt { s with out := s.out ++ Gm.timeB s x.t } x.v) HO2.out HD2.out ⟨d3, h3, hd3, ho3⟩)
  have H3 := Lib.hid h3
  have HD3 := Lib.hid hd3
  have HO3 := Lib.hid ho3
  have HS4 := Lib.hid HO2.out.size
  clear q0 q1 h3 hd3 ho3 CNN
  go_upto_region 7 with (fail)
  go_still_tail 4, (by kernel_rfl)
  change wpList _ _ _ _ _ (World.drew _)
  have CP := Lib.hid (push_any a s.n s.last.v s.gap x.v s.last.t x.t ⟨HI.out.last.1, HI.out.last.2.1⟩ ⟨HX.out.1, HX.out.2.1⟩ (by have := HN.out; omega) 146 _ _ _ _ w3.drew (show w3.drew.heap[a]? = some (.cells (rowP s.n s.last.t s.last.v s.gap (.int .i64 (((numSt { s with out := s.out ++ Gm.timeB s x.t } x.v).ws : Nat) : Int)) (.int .i64 (((numSt { s with out := s.out ++ Gm.timeB s x.t } x.v).we : Nat) : Int)) (.int .i64 s.frm) (pt p)) 146 (0, 0)) from H3.out.row))
  go_wp2_with (go_at_call 80; refine CP.out.mono ?_; rintro e w4 ⟨rfl, hr, ho⟩)
  refine bodyPost_end (results_none rfl _ _ _) rfl ⟨rfl, ?_⟩
  rw [HE.out]
  have hf := (H3.out.below (drew_below _)).push x hr ho
  refine ApPost.trans HO2.out HD2.out ⟨d3, hf, HD3.out, ?_⟩
  exact (HO3.out.drew).trans ho (by intro x hx; simp only [List.mem_cons, List.not_mem_nil, or_false] at hx ⊢; exact .inl (.inl hx))
end Go.Proofs.YtdlifcpdlbmijaaGreatDoor
namespace Go.Proofs.YtdlifcpdlbmijaaGreatDoor
set_option linter.unusedVariables false
set_option linter.unusedSimpArgs false
open Go.RowKit Go.PlainAid Go.Shelf
open B2 (Only Wr PutPost Bys Row cellsOf)
open Gm (St Smp)
theorem Ap.from' {w : World} {a p d : Nat} {s : St} (H : Ap w a p d s) (t : Int) : Ap (w.setCell ⟨a, 6, none⟩ (.int .i64 t)) a p d { s with frm := t } := by
  have hl := H.lie
  have a1 := hl.la; have a2 := hl.nap; have a3 := hl.nad
  refine ⟨?_, H.wr.only ((Only.refl [a] w).setCell (p := ⟨a, 6, none⟩) (.inl (by simp)) _) (by simp; omega) (by simp; omega), H.pa, H.da⟩
  rw [heap_setCell_same _ _ _ _ _ _ H.row]
  rfl
set_option maxHeartbeats 8000000 in
set_option maxRecDepth 100000 in
theorem put_first (a p d : Nat) (s : St) (x : Smp) (hx : Gm.OkS x) (hI : Gm.Inv s) (h0 : s.n = 0) (hB : s.out.length + 1000 ≤ 1000000000) (w : World) (H : Ap w a p d s) :
    Calls Tryz.prog 26 #[pt a, smV x] w fun e w' => e = .returned (.tuple #[]) ∧ ApPost w a p d (Gm.put s x) w' := by
  have hA := (Below.refl w.heap.size w).alloc (Nat.le_refl _) (.cells #[.int .i64 x.t, .int .u64 ((x.v : Nat) : Int)] 79)
  have hbx := heap_alloc_new w (.cells #[.int .i64 x.t, .int .u64 ((x.v : Nat) : Int)] 79)
  have H1 := H.below hA
  have c0 := H1.c0
  rw [h0] at c0
  have c6 := H1.c6
  have f6 : (w.alloc (.cells #[.int .i64 x.t, .int .u64 ((x.v : Nat) : Int)] 79)).frozen? ⟨a, 6, none⟩ = false := frozen_of_row _ _ _ _ _ H1.row
  have b0 : (w.alloc (.cells #[.int .i64 x.t, .int .u64 ((x.v : Nat) : Int)] 79)).cell? ⟨w.heap.size, 0, none⟩ = some (.int .i64 x.t) := (cell_of_row _ _ 0 _ _ _ hbx).trans rfl
  have b1 : (w.alloc (.cells #[.int .i64 x.t, .int .u64 ((x.v : Nat) : Int)] 79)).cell? ⟨w.heap.size, 1, none⟩ = some (.int .u64 ((x.v : Nat) : Int)) := (cell_of_row _ _ 1 _ _ _ hbx).trans rfl
  have HE : Hid (Gm.put s x = { s with frm := x.t, out := s.out ++ B2.Bt.vb (B2.Bt.zz x.t) ++ B2.Bt.top x.v 64, n := s.n + 1, last := x, gap := Gm.gapOf x.t s.last.t }) := Lib.hid (by
    unfold Gm.put Gm.bitsOf
    simp only [h0, if_true, List.append_assoc])
  have HO := Lib.hid (Only.of_below hA [a, p, d])
  have HL := Lib.hid H.lie
  have HB1 := Lib.hid (show w.heap.size < (w.alloc (.cells #[.int .i64 x.t, .int .u64 ((x.v : Nat) : Int)] 79)).heap.size by simp)
  have H1h := Lib.hid H1
  have HX := Lib.hid hx
  have HI := Lib.hid hI
  have HB := Lib.hid hB
  have HN := Lib.hid h0
  unfold smV pt at *
  clear hA hbx H1 H hI hx hB h0
  go_enter Tryz.func26, Tryz.ntmps26
  go_upto_region 2 with (fail)
  generalize w.alloc (.cells #[.int .i64 x.t, .int .u64 ((x.v : Nat) : Int)] 79) = W1 at HO HB1 H1h b0 b1 c0 c6 f6 ⊢
  have H2 := Lib.hid (H1h.out.from' x.t)
  have HO2 := Lib.hid (HO.out.setCell (p := ⟨a, 6, none⟩) (.inl (by simp)) (.int .i64 x.t))
  have HB2 := Lib.hid (show w.heap.size < (W1.setCell ⟨a, 6, none⟩ (.int .i64 x.t)).heap.size from Nat.lt_of_lt_of_le HB1.out ((Only.refl [a] W1).setCell (p := ⟨a, 6, none⟩) (.inl (by simp)) (.int .i64 x.t)).size)
  have HS1 := Lib.hid (show w.heap.size ∉ [a] ∧ w.heap.size ∉ [p, d] ∧ a ∉ [p, d] by
    have h1 := HL.out.la; have h3 := HL.out.lp; have h4 := HL.out.ld; have h5 := HL.out.nap; have h6 := HL.out.nad
    simp only [List.mem_cons, List.not_mem_nil, or_false]; omega)
  have d0 : (W1.setCell ⟨a, 6, none⟩ (.int .i64 x.t)).cell? ⟨w.heap.size, 0, none⟩ = some (.int .i64 x.t) := Only_cell ((Only.refl [a] W1).setCell (p := ⟨a, 6, none⟩) (.inl (by simp)) _) b0 HS1.out.1
  have d1 : (W1.setCell ⟨a, 6, none⟩ (.int .i64 x.t)).cell? ⟨w.heap.size, 1, none⟩ = some (.int .u64 ((x.v : Nat) : Int)) := Only_cell ((Only.refl [a] W1).setCell (p := ⟨a, 6, none⟩) (.inl (by simp)) _) b1 HS1.out.1
  have c7 := H2.out.c7
  go_upto_region 3 with (fail)
  generalize W1.setCell ⟨a, 6, none⟩ (.int .i64 x.t) = W2 at H2 HO2 HB2 d0 d1 c7 ⊢
  clear b0 b1 c0 c6 f6 H1h
  go_still_tail 6, (by kernel_rfl)
  change wpList _ _ _ _ _ (World.drew _)
  have CS := Lib.hid (B2.wsigned_any p d s.out x.t HX.out.1 HX.out.2.1 W2.drew (H2.out.below (drew_below _)).wr (by have := HB.out; omega))
  go_wp2_with fail
  go_at_call 76
  refine CS.out.mono ?_
  rintro e w3 ⟨rfl, hp⟩
  have hO3 := (show Only [p, d] W2 W2.drew from (Only.refl [p, d] W2).drew).trans hp.choose_spec.2.2 (fun x hx => .inl hx)
  have e0 := Only_cell hO3 d0 HS1.out.2.1
  have e1 := Only_cell hO3 d1 HS1.out.2.1
  have e7 := Only_cell hO3 c7 HS1.out.2.2
  obtain ⟨d3, h3, hd3, ho3⟩ := ApPost.of_put (H2.out.below (drew_below _)) hp
  have H3 := Lib.hid h3
  have HD3 := Lib.hid (show d3 = d ∨ w.heap.size ≤ d3 from hd3.imp id (fun h => Nat.le_trans HO2.out.size h))
  have HS3 := Lib.hid (show w.heap.size ∉ [p, d3] by
    have h1 := HL.out.la; have h3 := HL.out.lp; have h4 := HL.out.ld
    have h5 : d3 = d ∨ W2.heap.size ≤ d3 := hd3
    have h6 := HB2.out
    simp only [List.mem_cons, List.not_mem_nil, or_false]; omega)
  have HO3 := Lib.hid ((HO2.out.drew).trans ho3 (fun x hx => .inl hx))
  clear hO3 hp d0 d1 c7 CS h3 hd3 ho3
  go_upto_region 4 with (fail)
  go_still_tail 6, (by kernel_rfl)
  change wpList _ _ _ _ _ (World.drew _)
  have CB := Lib.hid (B2.wbits_good p d3 _ x.v 64 (by decide) w3.drew (H3.out.below (drew_below _)).wr (by simp only [List.length_append]; have := vb_len (B2.Bt.zz x.t) (B2.Bt.zz_lt _ HX.out.1 HX.out.2.1); have := HB.out; omega))
  go_wp2_with fail
  go_at_call 77
  refine CB.out.mono ?_
  rintro e w4 ⟨rfl, hp⟩
  have hO4 := (show Only [p, d3] w3 w3.drew from (Only.refl [p, d3] w3).drew).trans hp.choose_spec.2.2 (fun x hx => .inl hx)
  have g0 := Only_cell hO4 e0 HS3.out
  have g1 := Only_cell hO4 e1 HS3.out
  obtain ⟨d4, h4, hd4, ho4⟩ := ApPost.of_put (H3.out.below (drew_below _)) hp
  have H4 := Lib.hid h4
  have HP4 := Lib.hid (ApPost.trans (HO3.out.drew) HD3.out ⟨d4, h4, hd4, ho4⟩)
  have HD4 := Lib.hid hd4
  have HO4 := Lib.hid ho4
  clear hO4 hp e0 e1 e7 CB h4 hd4 ho4
  go_upto_region 7 with (fail)
  go_still_tail 4, (by kernel_rfl)
  change wpList _ _ _ _ _ (World.drew _)
  have CP := Lib.hid (push_any a s.n s.last.v s.gap x.v s.last.t x.t ⟨HI.out.last.1, HI.out.last.2.1⟩ ⟨HX.out.1, HX.out.2.1⟩ (by have := HN.out; omega) 146 _ _ _ _ w4.drew (show w4.drew.heap[a]? = some (.cells (rowP s.n s.last.t s.last.v s.gap (.int .i64 ((s.ws : Nat) : Int)) (.int .i64 ((s.we : Nat) : Int)) (.int .i64 x.t) (pt p)) 146 (0, 0)) from H4.out.row))
  go_wp2_with (go_at_call 80; refine CP.out.mono ?_; rintro e w5 ⟨rfl, hr, ho⟩)
  refine bodyPost_end (results_none rfl _ _ _) rfl ⟨rfl, ?_⟩
  rw [HE.out]
  have hf := (H4.out.below (drew_below _)).push x hr ho
  refine ApPost.trans (HO3.out.drew) HD3.out ⟨d4, hf, HD4.out, ?_⟩
  exact (HO4.out.drew).trans ho (by intro x hx; simp only [List.mem_cons, List.not_mem_nil, or_false] at hx ⊢; exact .inl (.inl hx))
/-- which error Append tells -/
def apErr (s : St) (x : Smp) : Nat := if ¬ (-9007199254740992 ≤ x.t ∧ x.t ≤ 9007199254740992) then 2 else if 0 < s.n ∧ x.t ≤ s.last.t then 100 else if s.n = 120 then 102 else 0
set_option maxHeartbeats 4000000 in
theorem inrange_any (t : Int) (w : World) : Calls Tryz.prog 23 #[.int .i64 t] w fun e w' => e = .returned (.bool (decide (-9007199254740992 ≤ t ∧ t ≤ 9007199254740992))) ∧ w' = w := by
  by_cases h1 : -9007199254740992 ≤ t
  · have d1 : decide (-9007199254740992 ≤ t) = true := decide_eq_true h1
    by_cases h2 : t ≤ 9007199254740992
    · have d2 : decide (t ≤ 9007199254740992) = true := decide_eq_true h2
      rw [decide_eq_true (And.intro h1 h2)]
      go_enter Tryz.func23, Tryz.ntmps23
      go_wp2
      go_ret
      exact ⟨rfl, rfl⟩
    · have d2 : decide (t ≤ 9007199254740992) = false := decide_eq_false h2
      rw [decide_eq_false (fun h => h2 h.2)]
      go_enter Tryz.func23, Tryz.ntmps23
      go_wp2
      go_ret
      exact ⟨rfl, rfl⟩
  · have d1 : decide (-9007199254740992 ≤ t) = false := decide_eq_false h1
    rw [decide_eq_false (fun h => h1 h.1)]
    go_enter Tryz.func23, Tryz.ntmps23
    go_wp2
    go_ret
    exact ⟨rfl, rfl⟩
set_option maxHeartbeats 4000000 in
theorem new_any (w : World) : Calls Tryz.prog 25 #[] w fun e w' => e = .returned (pt (w.heap.size + 1)) ∧ Ap w' (w.heap.size + 1) w.heap.size w.heap.size Gm.st0 ∧ Below w.heap.size w w' := by
  have C := Lib.hid (B2.new_any w)
  unfold pt
  go_enter Tryz.func25, Tryz.ntmps25
  go_wp2_with fail
  go_at_call 75
  refine C.out.mono ?_
  rintro e w1 ⟨rfl, hw, hb, hs⟩
  have HA := Lib.hid (fun o => (Below.refl w1.heap.size w1).alloc (Nat.le_refl _) o)
  have HR := Lib.hid (fun o => heap_alloc_new w1 o)
  have HS := Lib.hid hs
  have HB := Lib.hid hb
  have HW := Lib.hid hw
  clear hb hw hs C
  go_wp2
  go_ret
  refine ⟨by rw [HS.out]; rfl, ⟨?_, HW.out.below (HA.out _), by omega, by omega⟩, HB.out.trans ((HA.out _).mono HB.out.size)⟩
  have := HR.out (.cells (apC Gm.st0 w.heap.size) 146)
  rw [HS.out] at this
  exact this
end Go.Proofs.YtdlifcpdlbmijaaGreatDoor
namespace Go.Proofs.YtdlifcpdlbmijaaGreatDoor
set_option linter.unusedVariables false
set_option linter.unusedSimpArgs false
open Go.RowKit Go.PlainAid Go.Shelf
open B2 (Only Wr PutPost Bys Row cellsOf)
open Gm (St Smp)
theorem put_any (a p d : Nat) (s : St) (x : Smp) (hx : Gm.OkS x) (hI : Gm.Inv s) (hn : s.n ≤ 1000) (hB : s.out.length + 1000 ≤ 1000000000) (w : World) (H : Ap w a p d s) (hT : TabAt w) (hTl : 1 < p ∧ 1 < d ∧ 1 < a) :
    Calls Tryz.prog 26 #[pt a, smV x] w fun e w' => e = .returned (.tuple #[]) ∧ ApPost w a p d (Gm.put s x) w' := by
  by_cases h0 : s.n = 0
  · exact put_first a p d s x hx hI h0 hB w H
  · exact put_more a p d s x hx hI hn h0 hB w H hT hTl
theorem drewn_below (w : World) (n : Nat) : Below w.heap.size w (w.drewN n) := ⟨rfl, rfl, rfl, Nat.le_refl _, fun _ _ => rfl⟩
set_option maxHeartbeats 8000000 in
set_option maxRecDepth 100000 in
theorem append_any (a p d : Nat) (s : St) (x : Smp) (hx : Gm.OkS x) (hI : Gm.Inv s) (hn : s.n ≤ 1000) (hB : s.out.length + 1000 ≤ 1000000000) (w : World) (H : Ap w a p d s) (hT : TabAt w) (hTl : 1 < p ∧ 1 < d ∧ 1 < a) :
    Calls Tryz.prog 39 #[pt a, smV x] w fun e w' => e = .returned (.int .u16 ((apErr s x : Nat) : Int)) ∧ (apErr s x = 0 → ApPost w a p d (Gm.put s x) w') ∧ (apErr s x ≠ 0 → Below w.heap.size w w') := by
  have hA := (Below.refl w.heap.size w).alloc (Nat.le_refl _) (.cells #[.int .i64 x.t, .int .u64 ((x.v : Nat) : Int)] 79)
  have hbx := heap_alloc_new w (.cells #[.int .i64 x.t, .int .u64 ((x.v : Nat) : Int)] 79)
  have H1 := H.below hA
  have c0 := H1.c0
  have c1 := H1.c1
  have b0 : (w.alloc (.cells #[.int .i64 x.t, .int .u64 ((x.v : Nat) : Int)] 79)).cell? ⟨w.heap.size, 0, none⟩ = some (.int .i64 x.t) := (cell_of_row _ _ 0 _ _ _ hbx).trans rfl
  have b1 : (w.alloc (.cells #[.int .i64 x.t, .int .u64 ((x.v : Nat) : Int)] 79)).cell? ⟨w.heap.size, 1, none⟩ = some (.int .u64 ((x.v : Nat) : Int)) := (cell_of_row _ _ 1 _ _ _ hbx).trans rfl
  have CR := Lib.hid (fun w => inrange_any x.t w)
  have HA := Lib.hid hA
  have hT1 := hT.below hA hT.lt
  have CP := Lib.hid (fun W (h : Ap W a p d s) hT => put_any a p d s x hx hI hn hB W h hT hTl)
  have H1h := Lib.hid H1
  have HT := Lib.hid hT1
  have HO := Lib.hid (Only.of_below hA [a, p, d])
  unfold smV pt at *
  clear hbx H1 H hT hT1 hA
  by_cases h1 : -9007199254740992 ≤ x.t ∧ x.t ≤ 9007199254740992
  · rw [decide_eq_true h1] at CR
    by_cases h2 : 0 < s.n ∧ x.t ≤ s.last.t
    · have e : apErr s x = 100 := by unfold apErr; rw [if_neg (fun h => h h1), if_pos h2]
      rw [e]
      have g2 : decide ((0 : Int) < (s.n : Int)) = true := decide_eq_true (by omega)
      have g4 : decide (0 < s.n) = true := decide_eq_true h2.1
      have g3 : decide (x.t ≤ s.last.t) = true := decide_eq_true h2.2
      clear h1 h2 e hx hI hn hB hTl CP
      go_enter Tryz.func39, Tryz.ntmps39
      go_upto_region 1 with (fail)
      generalize w.alloc (.cells #[.int .i64 x.t, .int .u64 ((x.v : Nat) : Int)] 79) = W1 at *
      go_wp2_with fail
      go_at_call 23
      refine (CR.out _).mono ?_
      rintro e w' ⟨rfl, rfl⟩
      go_wp2_with fail
      go_quiet (fail)
      go_wp2
      go_ret
      exact ⟨rfl, fun h => absurd h (by decide), fun _ => HA.out.trans ((drewn_below _ _).mono HA.out.size)⟩
    · have e : apErr s x = if s.n = 120 then 102 else 0 := by unfold apErr; rw [if_neg (fun h => h h1), if_neg h2]
      rw [e]
      by_cases h3 : s.n = 120
      · rw [if_pos h3]
        have g2 : decide ((0 : Int) < (s.n : Int)) = true := decide_eq_true (by omega)
        have g4 : decide (0 < s.n) = true := decide_eq_true (by omega)
        have g3 : decide (x.t ≤ s.last.t) = false := decide_eq_false (fun h => h2 ⟨by omega, h⟩)
        have g5 : ((s.n : Int) == 120) = true := by simp; omega
        have g6 : (s.n : Int) = 120 := by omega
        clear h1 h2 e hx hI hn hB hTl CP h3
        go_enter Tryz.func39, Tryz.ntmps39
        go_upto_region 1 with (fail)
        generalize w.alloc (.cells #[.int .i64 x.t, .int .u64 ((x.v : Nat) : Int)] 79) = W1 at *
        go_wp2_with fail
        go_at_call 23
        refine (CR.out _).mono ?_
        rintro e w' ⟨rfl, rfl⟩
        go_wp2_with fail
        go_quiet (fail)
        go_wp2
        go_ret
        exact ⟨rfl, fun h => absurd h (by decide), fun _ => HA.out.trans ((drewn_below _ _).mono HA.out.size)⟩
      · rw [if_neg h3]
        have g5 : ((s.n : Int) == 120) = false := by simp; omega
        have g6 : ¬ (s.n : Int) = 120 := by omega
        by_cases h4 : 0 < s.n
        · have g2 : decide ((0 : Int) < (s.n : Int)) = true := decide_eq_true (by omega)
          have g4 : decide (0 < s.n) = true := decide_eq_true h4
          have g3 : decide (x.t ≤ s.last.t) = false := decide_eq_false (fun h => h2 ⟨h4, h⟩)
          clear h1 h2 e hx hI hn hB hTl h3 h4
          go_enter Tryz.func39, Tryz.ntmps39
          go_upto_region 1 with (fail)
          generalize w.alloc (.cells #[.int .i64 x.t, .int .u64 ((x.v : Nat) : Int)] 79) = W1 at *
          go_wp2_with fail
          go_at_call 23
          refine (CR.out _).mono ?_
          rintro e w' ⟨rfl, rfl⟩
          go_wp2_with fail
          go_quiet (fail)
          go_wp2_with fail
          go_at_call 26
          refine (CP.out _ (H1h.out.below (drewn_below _ _)) (HT.out.below (drewn_below _ _) HT.out.lt)).mono ?_
          rintro e w2 ⟨rfl, hP⟩
          have HP := Lib.hid hP
          clear hP CP
          go_wp2
          go_ret
          exact ⟨rfl, fun _ => ApPost.trans (HO.out.trans (Only.of_below (drewn_below _ _) [a, p, d]) (fun x hx => .inl hx)) (.inl rfl) HP.out, fun h => absurd rfl h⟩
        · have g2 : decide ((0 : Int) < (s.n : Int)) = false := decide_eq_false (by omega)
          have g4 : decide (0 < s.n) = false := decide_eq_false h4
          clear h1 h2 e hx hI hn hB hTl h3 h4
          go_enter Tryz.func39, Tryz.ntmps39
          go_upto_region 1 with (fail)
          generalize w.alloc (.cells #[.int .i64 x.t, .int .u64 ((x.v : Nat) : Int)] 79) = W1 at *
          go_wp2_with fail
          go_at_call 23
          refine (CR.out _).mono ?_
          rintro e w' ⟨rfl, rfl⟩
          go_wp2_with fail
          go_quiet (fail)
          go_wp2_with fail
          go_at_call 26
          refine (CP.out _ (H1h.out.below (drewn_below _ _)) (HT.out.below (drewn_below _ _) HT.out.lt)).mono ?_
          rintro e w2 ⟨rfl, hP⟩
          have HP := Lib.hid hP
          clear hP CP
          go_wp2
          go_ret
          exact ⟨rfl, fun _ => ApPost.trans (HO.out.trans (Only.of_below (drewn_below _ _) [a, p, d]) (fun x hx => .inl hx)) (.inl rfl) HP.out, fun h => absurd rfl h⟩
  · rw [decide_eq_false h1] at CR
    have e : apErr s x = 2 := by unfold apErr; rw [if_pos h1]
    rw [e]
    clear h1 e hx hI hn hB hTl CP
    go_enter Tryz.func39, Tryz.ntmps39
    go_upto_region 1 with (fail)
    generalize w.alloc (.cells #[.int .i64 x.t, .int .u64 ((x.v : Nat) : Int)] 79) = W1 at *
    go_wp2_with fail
    go_at_call 23
    refine (CR.out _).mono ?_
    rintro e w' ⟨rfl, rfl⟩
    go_wp2
    go_ret
    exact ⟨rfl, fun h => absurd h (by decide), fun _ => HA.out⟩
end Go.Proofs.YtdlifcpdlbmijaaGreatDoor
namespace Go.Proofs.YtdlifcpdlbmijaaGreatDoor
set_option linter.unusedVariables false
set_option linter.unusedSimpArgs false
open Go.RowKit Go.PlainAid Go.Shelf
open B2 (Only Wr PutPost Bys Row cellsOf)
open Gm (St Smp)
/-- a chunk -/
def chV (f t : Int) (n : Nat) (d : Value) : Array Value := #[.int .i64 f, .int .i64 t, .int .i64 ((n : Nat) : Int), d]
/-- what Chunk gives -/
def ChPost (w : World) (f t : Int) (n : Nat) (B : List Bool) (e : Ending) (w' : World) : Prop := ∃ bs k a cap g, k < 8 ∧ B2.Bt.Packs k bs B ∧ e = .returned (.agg (chV f t n (.slice a bs.length cap))) ∧ Row w' g (.slice a bs.length cap) bs ∧ (a = none ∨ w.heap.size ≤ g) ∧ Below w.heap.size w w'
theorem four {W : World} {a p d : Nat} {s : St} (h : Ap W a p d s) : W.cell? ⟨a, 6, none⟩ = some (.int .i64 s.frm) ∧ W.cell? ⟨a, 1, none⟩ = some (.int .i64 s.last.t) ∧ W.cell? ⟨a, 0, none⟩ = some (.int .i64 ((s.n : Nat) : Int)) ∧ W.cell? ⟨a, 7, none⟩ = some (.pointer (some ⟨p, 0, none⟩)) := ⟨h.c6, h.c1, h.c0, h.c7⟩
theorem keepF {W W' : World} {p q r t : Addr} {x y z u : Value} (h : W.cell? p = some x ∧ W.cell? q = some y ∧ W.cell? r = some z ∧ W.cell? t = some u) (k : Below W.heap.size W W') : W'.cell? p = some x ∧ W'.cell? q = some y ∧ W'.cell? r = some z ∧ W'.cell? t = some u := ⟨cell_below h.1 k, cell_below h.2.1 k, cell_below h.2.2.1 k, cell_below h.2.2.2 k⟩
theorem keep4 {W : World} {a N : Nat} {x y z u v0 v1 v2 v3 : Value} (hne : a ≠ N) (h : W.cell? ⟨a, 6, none⟩ = some x ∧ W.cell? ⟨a, 1, none⟩ = some y ∧ W.cell? ⟨a, 0, none⟩ = some z ∧ W.cell? ⟨a, 7, none⟩ = some u) :
    (((((W.setCell ⟨N, 0, none⟩ v0).setCell ⟨N, 1, none⟩ v1).setCell ⟨N, 2, none⟩ v2).setCell ⟨N, 3, none⟩ v3).cell? ⟨a, 6, none⟩ = some x) ∧ (((((W.setCell ⟨N, 0, none⟩ v0).setCell ⟨N, 1, none⟩ v1).setCell ⟨N, 2, none⟩ v2).setCell ⟨N, 3, none⟩ v3).cell? ⟨a, 1, none⟩ = some y) ∧ (((((W.setCell ⟨N, 0, none⟩ v0).setCell ⟨N, 1, none⟩ v1).setCell ⟨N, 2, none⟩ v2).setCell ⟨N, 3, none⟩ v3).cell? ⟨a, 0, none⟩ = some z) ∧ (((((W.setCell ⟨N, 0, none⟩ v0).setCell ⟨N, 1, none⟩ v1).setCell ⟨N, 2, none⟩ v2).setCell ⟨N, 3, none⟩ v3).cell? ⟨a, 7, none⟩ = some u) := by
  have hO := ((((Only.refl [N] W).setCell (p := ⟨N, 0, none⟩) (.inl (by simp)) v0).setCell (p := ⟨N, 1, none⟩) (.inl (by simp)) v1).setCell (p := ⟨N, 2, none⟩) (.inl (by simp)) v2).setCell (p := ⟨N, 3, none⟩) (.inl (by simp)) v3
  exact ⟨Only_cell hO h.1 (by simpa using hne), Only_cell hO h.2.1 (by simpa using hne), Only_cell hO h.2.2.1 (by simpa using hne), Only_cell hO h.2.2.2 (by simpa using hne)⟩
theorem stF {W : World} {N : Nat} {t : TypeId} {b0 b1 b2 b3 v0 v1 v2 : Value} (h : W.heap[N]? = some (.cells #[b0, b1, b2, b3] t (0, 0))) :
    W.cell? ⟨N, 0, none⟩ = some b0 ∧ W.frozen? ⟨N, 0, none⟩ = false ∧ (W.setCell ⟨N, 0, none⟩ v0).cell? ⟨N, 1, none⟩ = some b1 ∧ (W.setCell ⟨N, 0, none⟩ v0).frozen? ⟨N, 1, none⟩ = false ∧
    ((W.setCell ⟨N, 0, none⟩ v0).setCell ⟨N, 1, none⟩ v1).cell? ⟨N, 2, none⟩ = some b2 ∧ ((W.setCell ⟨N, 0, none⟩ v0).setCell ⟨N, 1, none⟩ v1).frozen? ⟨N, 2, none⟩ = false ∧
    (((W.setCell ⟨N, 0, none⟩ v0).setCell ⟨N, 1, none⟩ v1).setCell ⟨N, 2, none⟩ v2).cell? ⟨N, 3, none⟩ = some b3 ∧ (((W.setCell ⟨N, 0, none⟩ v0).setCell ⟨N, 1, none⟩ v1).setCell ⟨N, 2, none⟩ v2).frozen? ⟨N, 3, none⟩ = false := by
  have e1 : (W.setCell ⟨N, 0, none⟩ v0).heap[N]? = some (.cells #[v0, b1, b2, b3] t (0, 0)) := by rw [heap_setCell_same _ _ _ _ _ _ h]; rfl
  have e2 : ((W.setCell ⟨N, 0, none⟩ v0).setCell ⟨N, 1, none⟩ v1).heap[N]? = some (.cells #[v0, v1, b2, b3] t (0, 0)) := by rw [heap_setCell_same _ _ _ _ _ _ e1]; rfl
  have e3 : (((W.setCell ⟨N, 0, none⟩ v0).setCell ⟨N, 1, none⟩ v1).setCell ⟨N, 2, none⟩ v2).heap[N]? = some (.cells #[v0, v1, v2, b3] t (0, 0)) := by rw [heap_setCell_same _ _ _ _ _ _ e2]; rfl
  exact ⟨(cell_of_row _ _ 0 _ _ _ h).trans rfl, frozen_of_row _ _ _ _ _ h, (cell_of_row _ _ 1 _ _ _ e1).trans rfl, frozen_of_row _ _ _ _ _ e1, (cell_of_row _ _ 2 _ _ _ e2).trans rfl, frozen_of_row _ _ _ _ _ e2, (cell_of_row _ _ 3 _ _ _ e3).trans rfl, frozen_of_row _ _ _ _ _ e3⟩
theorem stE {W : World} {N : Nat} {t : TypeId} {b0 b1 b2 b3 : Value} (h : W.heap[N]? = some (.cells #[b0, b1, b2, b3] t (0, 0))) (v0 v1 v2 v3 : Value) :
    ((((W.setCell ⟨N, 0, none⟩ v0).setCell ⟨N, 1, none⟩ v1).setCell ⟨N, 2, none⟩ v2).setCell ⟨N, 3, none⟩ v3).heap[N]? = some (.cells #[v0, v1, v2, v3] t (0, 0)) ∧ Only [N] W ((((W.setCell ⟨N, 0, none⟩ v0).setCell ⟨N, 1, none⟩ v1).setCell ⟨N, 2, none⟩ v2).setCell ⟨N, 3, none⟩ v3) := by
  have e1 : (W.setCell ⟨N, 0, none⟩ v0).heap[N]? = some (.cells #[v0, b1, b2, b3] t (0, 0)) := by rw [heap_setCell_same _ _ _ _ _ _ h]; rfl
  have e2 : ((W.setCell ⟨N, 0, none⟩ v0).setCell ⟨N, 1, none⟩ v1).heap[N]? = some (.cells #[v0, v1, b2, b3] t (0, 0)) := by rw [heap_setCell_same _ _ _ _ _ _ e1]; rfl
  have e3 : (((W.setCell ⟨N, 0, none⟩ v0).setCell ⟨N, 1, none⟩ v1).setCell ⟨N, 2, none⟩ v2).heap[N]? = some (.cells #[v0, v1, v2, b3] t (0, 0)) := by rw [heap_setCell_same _ _ _ _ _ _ e2]; rfl
  exact ⟨by rw [heap_setCell_same _ _ _ _ _ _ e3]; rfl, ((((Only.refl [N] W).setCell (p := ⟨N, 0, none⟩) (.inl (by simp)) v0).setCell (p := ⟨N, 1, none⟩) (.inl (by simp)) v1).setCell (p := ⟨N, 2, none⟩) (.inl (by simp)) v2).setCell (p := ⟨N, 3, none⟩) (.inl (by simp)) v3⟩
set_option maxHeartbeats 8000000 in
set_option maxRecDepth 100000 in
theorem chunk_any (a p d : Nat) (s : St) (hB : s.out.length ≤ 1000000000) (w : World) (H : Ap w a p d s) :
    Calls Tryz.prog 27 #[pt a] w (ChPost w s.frm s.last.t s.n s.out) := by
  have hA := (Below.refl w.heap.size w).alloc (Nat.le_refl _) (.cells #[.int .i64 0, .int .i64 0, .int .i64 0, .slice none 0 0] 26)
  have hr := heap_alloc_new w (.cells #[.int .i64 0, .int .i64 0, .int .i64 0, .slice none 0 0] 26)
  have H1 := H.below hA
  have c0 := H1.c0
  have c1 := H1.c1
  have c6 := H1.c6
  have c7 := H1.c7
  have CB := Lib.hid (fun W (h : Ap W a p d s) => B2.wbytes_any p d s.out W h.wr hB)
  have H1h := Lib.hid H1
  have HA := Lib.hid hA
  have HR := Lib.hid hr
  have HNE0 := Lib.hid (show a ≠ w.heap.size ∧ w.heap.size < (w.alloc (.cells #[.int .i64 0, .int .i64 0, .int .i64 0, .slice none 0 0] 26)).heap.size from ⟨by have := H.lt; omega, by simp⟩)
  clear H H1 hA hr hB
  unfold pt at *
  go_enter Tryz.func27, Tryz.ntmps27
  go_upto_region 1 with (fail)
  generalize w.alloc (.cells #[.int .i64 0, .int .i64 0, .int .i64 0, .slice none 0 0] 26) = W1 at *
  have HNE := Lib.hid (show a ≠ w.heap.size ∧ w.heap.size < W1.heap.size from HNE0.out)
  have hd := H1h.out.below (drew_below W1)
  have hrd : W1.drew.heap[w.heap.size]? = some (.cells #[.int .i64 0, .int .i64 0, .int .i64 0, .slice none 0 0] 26 (0, 0)) := HR.out
  have HR := Lib.hid hrd
  have HB0 := Lib.hid (show Below w.heap.size w W1.drew from HA.out.trans ((drew_below W1).mono HA.out.size))
  have HH := Lib.hid hd
  have q := four hd
  clear hd hrd c0 c1 c6 c7 H1h
  go_wp2_with fail
  go_region_held3 (fun w' => w'.cell? ⟨a, 6, none⟩ = some (.int .i64 s.frm) ∧ w'.cell? ⟨a, 1, none⟩ = some (.int .i64 s.last.t) ∧ w'.cell? ⟨a, 0, none⟩ = some (.int .i64 ((s.n : Nat) : Int)) ∧ w'.cell? ⟨a, 7, none⟩ = some (.pointer (some ⟨p, 0, none⟩))) ((first | exact q | assumption | (refine keep4 HNE.out.1 ?_; assumption)))
    ((go_at_call 81; refine (CB.out _ HH.out).mono ?_; rintro e w9 ⟨bs, k, hk, hP, b, cap, g, rfl, hrow, hg, hb⟩; have hcs := keepF (by assumption) hb; have HR9 := Lib.hid ((hb.block _ (Array.getElem?_eq_some_iff.1 HR.out).1).trans HR.out); obtain ⟨r0, f0, r1, f1, r2, f2, r3, f3⟩ := stF (v0 := .int .i64 s.frm) (v1 := .int .i64 s.last.t) (v2 := .int .i64 ((s.n : Nat) : Int)) HR9.out))
  obtain ⟨hE, hO⟩ := stE HR9.out (.int .i64 s.frm) (.int .i64 s.last.t) (.int .i64 ((s.n : Nat) : Int)) (.slice b bs.length cap)
  have HE := Lib.hid hE
  have HO := Lib.hid hO
  have HX := Lib.hid (show k < 8 ∧ B2.Bt.Packs k bs s.out from ⟨hk, hP⟩)
  have HG := Lib.hid (And.intro hrow hg)
  have HB9 := Lib.hid hb
  clear hE hO hk hP hrow hg hb r0 f0 r1 f1 r2 f2 r3 f3
  go_wp2_with fail
  refine bodyPost_ret (v := .agg (chV s.frm s.last.t s.n (.slice b bs.length cap))) ?_ ?_ ?_
  · exact results_cell_row (fn := Tryz.f27) (p := 2) (ty := 26) rfl _ _ w.heap.size 26 _ (0, 0) _ rfl HE.out Tryz.underlying26 rfl (by kernel_rfl)
  · rfl
  · have hlt : w.heap.size < W1.drew.heap.size := HNE.out.2
    refine ⟨bs, k, b, cap, g, HX.out.1, HX.out.2, rfl, ?_, ?_, ?_⟩
    · rcases HG.out.2 with h | h
      · subst h
        rcases HG.out.1.value with ⟨h1, h2⟩ | ⟨cap', cur, h1, _⟩
        · rw [h1, h2]; exact Row.nil _ _
        · cases h1
      · exact HG.out.1.only HO.out (by simp; omega)
    · rcases HG.out.2 with h | h
      · exact .inl h
      · exact .inr (by omega)
    · exact (HB0.out.trans (HB9.out.mono HB0.out.size)).trans (HO.out.below (by have := HB0.out.size; have := HB9.out.size; omega) (by simp) |>.mono (Nat.le_refl _))
end Go.Proofs.YtdlifcpdlbmijaaGreatDoor
namespace Go.Proofs.YtdlifcpdlbmijaaGreatDoor
set_option linter.unusedVariables false
set_option linter.unusedSimpArgs false
set_option maxRecDepth 100000
open Go.RowKit Go.PlainAid Go.Shelf
open B2 (Only Wr PutPost Bys Row cellsOf)
open Gm (St Smp)
def x0 : Smp := ⟨0, 4607182418800017408⟩
def x1 : Smp := ⟨10, 4607182418800017408⟩
def x2 : Smp := ⟨20, 4607182418800017408⟩
def x3 : Smp := ⟨20, 4611686018427387904⟩
def k1 : St := Gm.put Gm.st0 x0
def k2 : St := Gm.put k1 x1
def k3 : St := Gm.put k2 x2
theorem e0 : apErr Gm.st0 x0 = 0 := by kernel_rfl
theorem e1 : apErr k1 x1 = 0 := by kernel_rfl
theorem e2 : apErr k2 x2 = 0 := by kernel_rfl
theorem e3 : apErr k3 x3 = 100 := by kernel_rfl
theorem kp : B2.Bt.Packs 5 [0, 63, 240, 0, 0, 0, 0, 0, 0, 10, 0] k3.out := ⟨by decide, by kernel_rfl⟩
theorem ok0 : Gm.OkS x0 := by unfold Gm.OkS x0; decide
theorem ok1 : Gm.OkS x1 := by unfold Gm.OkS x1; decide
theorem ok2 : Gm.OkS x2 := by unfold Gm.OkS x2; decide
theorem ok3 : Gm.OkS x3 := by unfold Gm.OkS x3; decide
theorem inv1 : Gm.Inv k1 := Gm.inv0.put ok0
theorem inv2 : Gm.Inv k2 := inv1.put ok1
theorem inv3 : Gm.Inv k3 := inv2.put ok2
theorem l1 : k1.out.length = 72 ∧ k1.n = 1 := ⟨by kernel_rfl, rfl⟩
theorem l2 : k2.out.length = 81 ∧ k2.n = 2 := ⟨by kernel_rfl, rfl⟩
theorem l3 : k3.out.length = 83 ∧ k3.n = 3 := ⟨by kernel_rfl, rfl⟩
/-- an appender of the call's own -/
structure Own1 (w0 w : World) (s : St) (a : Nat) : Prop where
  ap : ∃ p d, Ap w a p d s ∧ w0.heap.size ≤ p ∧ w0.heap.size ≤ d
  la : w0.heap.size ≤ a
  tab : TabAt w
  lt : 1 < w0.heap.size
  b : Below w0.heap.size w0 w
theorem Own1.below {w0 w w' : World} {s : St} {a : Nat} (h : Own1 w0 w s a) (hb : Below w.heap.size w w') : Own1 w0 w' s a := by
  obtain ⟨p, d, h1, h2, h3⟩ := h.ap
  exact ⟨⟨p, d, h1.below hb, h2, h3⟩, h.la, h.tab.below hb h.tab.lt, h.lt, h.b.trans (hb.mono h.b.size)⟩
theorem Own1.put {w0 w w' : World} {s s' : St} {a p d : Nat} (h : Own1 w0 w s a) (hp : w0.heap.size ≤ p) (hd : w0.heap.size ≤ d) (k : ApPost w a p d s' w') : Own1 w0 w' s' a := by
  obtain ⟨d', h1, h2, h3⟩ := k
  have hs := h.b.size
  have hl := h.lt
  have hla := h.la
  refine ⟨⟨p, d', h1, hp, by omega⟩, h.la, h.tab.only h3 ?_, h.lt, h.b.trans (h3.below hs ?_)⟩
  · intro x hx; simp only [List.mem_cons, List.not_mem_nil, or_false] at hx; omega
  · intro x hx; simp only [List.mem_cons, List.not_mem_nil, or_false] at hx; omega
theorem own_append (w0 : World) (s : St) (a : Nat) (x : Smp) (hx : Gm.OkS x) (hI : Gm.Inv s) (hn : s.n ≤ 1000) (hB : s.out.length + 1000 ≤ 1000000000) (w : World) (H : Own1 w0 w s a) :
    Calls Tryz.prog 39 #[pt a, smV x] w fun e w' => e = .returned (.int .u16 ((apErr s x : Nat) : Int)) ∧ Own1 w0 w' (if apErr s x = 0 then Gm.put s x else s) a := by
  obtain ⟨p, d, h1, h2, h3⟩ := H.ap
  have hl := H.lt
  have hla := H.la
  refine (append_any a p d s x hx hI hn hB w h1 H.tab (by omega)).mono ?_
  rintro e w' ⟨rfl, h4, h5⟩
  refine ⟨rfl, ?_⟩
  by_cases h : apErr s x = 0
  · rw [if_pos h]; exact H.put h2 h3 (h4 h)
  · rw [if_neg h]; exact H.below (h5 h)
theorem own_new (w : World) (hT : TabAt w) : Calls Tryz.prog 25 #[] w fun e w' => ∃ a, e = .returned (pt a) ∧ Own1 w w' Gm.st0 a :=
  (new_any w).mono fun e w' h => ⟨_, h.1, ⟨⟨w.heap.size, w.heap.size, h.2.1, Nat.le_refl _, Nat.le_refl _⟩, by omega, hT.below h.2.2 hT.lt, hT.lt, h.2.2⟩⟩
/-- what Chunk gives of an appender of the call's own -/
theorem own_chunk (w0 : World) (s : St) (a : Nat) (hB : s.out.length ≤ 1000000000) (w : World) (H : Own1 w0 w s a) :
    Calls Tryz.prog 27 #[pt a] w (ChPost w s.frm s.last.t s.n s.out) := by
  obtain ⟨p, d, h1, h2, h3⟩ := H.ap
  exact chunk_any a p d s hB w h1
theorem conv_known (W : World) (g cap : Nat) (h : Row W g (.slice (some ⟨g, 0, none⟩) 11 cap) [0, 63, 240, 0, 0, 0, 0, 0, 0, 10, 0]) : (convert 24 9 (.slice (some ⟨g, 0, none⟩) 11 cap)).run Tryz.prog W = .ok (.string ⟨#[0, 63, 240, 0, 0, 0, 0, 0, 0, 10, 0]⟩) W := by
  have := run_convert_bytes_arg (P := Tryz.prog) W 24 5 Tryz.underlying24 Tryz.underlying5 g 0 11 cap [0, 63, 240, 0, 0, 0, 0, 0, 0, 10, 0] rfl (fun i hi => by
    obtain ⟨cap', hv, hc, hd, hcell, _⟩ := h.cell i hi
    rw [Nat.zero_add, hcell]
    have h11 : i = 0 ∨ i = 1 ∨ i = 2 ∨ i = 3 ∨ i = 4 ∨ i = 5 ∨ i = 6 ∨ i = 7 ∨ i = 8 ∨ i = 9 ∨ i = 10 := by have : i < 11 := hi; omega
    rcases h11 with rfl | rfl | rfl | rfl | rfl | rfl | rfl | rfl | rfl | rfl | rfl <;> rfl) 9 Tryz.underlying9
  rw [this]
  rfl
theorem step0 (w0 w : World) (a : Nat) (H : Own1 w0 w Gm.st0 a) : Calls Tryz.prog 39 #[pt a, .agg #[.int .i64 0, .int .u64 4607182418800017408]] w fun e w' => e = .returned (.int .u16 0) ∧ Own1 w0 w' k1 a := by
  refine (own_append w0 Gm.st0 a x0 ok0 Gm.inv0 (by decide) (by decide) w H).mono ?_
  rintro e w' ⟨rfl, h⟩
  rw [e0] at h ⊢
  exact ⟨rfl, h⟩
theorem step1 (w0 w : World) (a : Nat) (H : Own1 w0 w k1 a) : Calls Tryz.prog 39 #[pt a, .agg #[.int .i64 10, .int .u64 4607182418800017408]] w fun e w' => e = .returned (.int .u16 0) ∧ Own1 w0 w' k2 a := by
  refine (own_append w0 k1 a x1 ok1 inv1 (by rw [l1.2]; decide) (by rw [l1.1]; decide) w H).mono ?_
  rintro e w' ⟨rfl, h⟩
  rw [e1] at h ⊢
  exact ⟨rfl, h⟩
theorem step2 (w0 w : World) (a : Nat) (H : Own1 w0 w k2 a) : Calls Tryz.prog 39 #[pt a, .agg #[.int .i64 20, .int .u64 4607182418800017408]] w fun e w' => e = .returned (.int .u16 0) ∧ Own1 w0 w' k3 a := by
  refine (own_append w0 k2 a x2 ok2 inv2 (by rw [l2.2]; decide) (by rw [l2.1]; decide) w H).mono ?_
  rintro e w' ⟨rfl, h⟩
  rw [e2] at h ⊢
  exact ⟨rfl, h⟩
theorem step3 (w0 w : World) (a : Nat) (H : Own1 w0 w k3 a) : Calls Tryz.prog 39 #[pt a, .agg #[.int .i64 20, .int .u64 4611686018427387904]] w fun e w' => e = .returned (.int .u16 100) ∧ Own1 w0 w' k3 a := by
  refine (own_append w0 k3 a x3 ok3 inv3 (by rw [l3.2]; decide) (by rw [l3.1]; decide) w H).mono ?_
  rintro e w' ⟨rfl, h⟩
  rw [e3] at h ⊢
  exact ⟨rfl, h⟩
set_option maxHeartbeats 8000000 in
theorem known_any (w : World) (hT : TabAt w) : Calls Tryz.prog 16 #[] w (Gives w (.bool true)) := by
  have CN := Lib.hid (own_new w hT)
  have C0 := Lib.hid (fun W a H => step0 w W a H)
  have C1 := Lib.hid (fun W a H => step1 w W a H)
  have C2 := Lib.hid (fun W a H => step2 w W a H)
  have C3 := Lib.hid (fun W a H => step3 w W a H)
  have CC := Lib.hid (fun a W H => own_chunk w k3 a (by rw [l3.1]; decide) W H)
  clear hT
  unfold pt at *
  go_enter Tryz.func16, Tryz.ntmps16
  go_wp2_with fail
  go_at_call 25
  refine CN.out.mono ?_
  rintro e w1 ⟨a, rfl, h⟩
  have H1 := Lib.hid h
  clear h CN
  go_wp2_with fail
  go_at_call 39
  refine (C0.out w1 a H1.out).mono ?_
  rintro e w2 ⟨rfl, h⟩
  have H2 := Lib.hid h
  clear h C0
  go_wp2_with fail
  go_at_call 39
  refine (C1.out w2 a H2.out).mono ?_
  rintro e w3 ⟨rfl, h⟩
  have H3 := Lib.hid h
  clear h C1
  go_wp2_with fail
  go_at_call 39
  refine (C2.out w3 a H3.out).mono ?_
  rintro e w4 ⟨rfl, h⟩
  have H4 := Lib.hid h
  clear h C2
  go_wp2_with fail
  go_at_call 39
  refine (C3.out w4 a H4.out).mono ?_
  rintro e w5 ⟨rfl, h⟩
  have H5 := Lib.hid h
  clear h C3
  go_wp2_with fail
  go_at_call 27
  refine (CC.out a w5 H5.out).mono ?_
  rintro e w6 ⟨bs, k, b, cap, g, hk, hP, rfl, hR, hg, hb⟩
  obtain rfl := B2.Bt.packs_unique hP kp hk (by decide)
  have hlen : ([0, 63, 240, 0, 0, 0, 0, 0, 0, 10, 0] : List Nat).length = 11 := rfl
  rw [hlen] at hR ⊢
  obtain ⟨cap', hv, hc, hd, _, _⟩ := hR.cell 0 (by decide)
  rw [hlen] at hv
  have hbb : b = some ⟨g, 0, none⟩ := by injection hv
  subst hbb
  have hA := fun o => (Below.refl w6.heap.size w6).alloc (Nat.le_refl _) o
  have HV := Lib.hid (fun o => conv_known (w6.alloc o) g cap (hR.below (hA o)))
  have hcv := HV.out (.cells #[.int .i64 0, .int .i64 20, .int .i64 3, .slice (some ⟨g, 0, none⟩) 11 cap] 26)
  have HB := Lib.hid ((H5.out.b.trans (hb.mono H5.out.b.size)))
  have HA := Lib.hid hA
  have hf1 : k3.frm = 0 := rfl
  have hf2 : k3.last.t = 20 := rfl
  have hf3 : k3.n = 3 := l3.2
  unfold chV
  rw [hf1, hf2, hf3]
  clear hP hk hR hg hb hv hc hd hA HV hlen CC hf1 hf2 hf3
  go_wp2_with fail
  go_ret
  exact ⟨rfl, HB.out.trans ((HA.out _).mono HB.out.size)⟩
end Go.Proofs.YtdlifcpdlbmijaaGreatDoor
namespace Go.Proofs.YtdlifcpdlbmijaaGreatDoor
set_option linter.unusedVariables false
set_option linter.unusedSimpArgs false
open Go.RowKit Go.PlainAid Go.Shelf
open B2 (Only Bys Row cellsOf)
open Gm (St Smp Chk)
set_option maxRecDepth 100000 in
theorem out_no (t : Int) (v : Nat) (h : -9007199254740992 ≤ t ∧ t ≤ 9007199254740992) (w : World) : Calls Tryz.prog 22 #[.agg #[.int .i64 t, .int .u64 ((v : Nat) : Int)]] w fun e w' => e = .returned (.bool false) ∧ Below w.heap.size w w' := by
  have hb := heap_alloc_new w (.cells #[.int .i64 t, .int .u64 ((v : Nat) : Int)] 79)
  have b0 : (w.alloc (.cells #[.int .i64 t, .int .u64 ((v : Nat) : Int)] 79)).cell? ⟨w.heap.size, 0, none⟩ = some (.int .i64 t) := (cell_of_row _ _ 0 _ _ _ hb).trans rfl
  have HA := Lib.hid ((Below.refl w.heap.size w).alloc (Nat.le_refl _) (.cells #[.int .i64 t, .int .u64 ((v : Nat) : Int)] 79))
  have CI := Lib.hid (fun W => inrange_any t W)
  rw [decide_eq_true h] at CI
  clear hb h
  go_enter Tryz.func22, Tryz.ntmps22
  go_wp2_with (go_at_call 23; refine (CI.out _).mono ?_; rintro e w1 ⟨rfl, hw⟩; subst hw)
  go_ret
  exact ⟨rfl, HA.out⟩
set_option maxRecDepth 100000 in
set_option maxHeartbeats 2000000 in
theorem index_none (a : Option Addr) (n c : Nat) (l : List Smp) (hn : l.length = n) (hz : n ≤ 1000000000) (hR : ∀ x ∈ l, -9007199254740992 ≤ x.t ∧ x.t ≤ 9007199254740992) (w : World) (H : Sms w a l) :
    Calls Tryz.prog 73 #[.slice a n c, .func (.func 22) #[] #[]] w fun e w' => e = .returned (.int .i64 (-1)) ∧ Below w.heap.size w w' := by
  have HL := Lib.hid (And.intro H (And.intro hn hR))
  clear H hn hR
  go_enter Tryz.func73, Tryz.ntmps73
  go_wp2_with fail
  go_loopw [5, 8] (fun j i wr => ∃ k : Nat, k ≤ n ∧ i = .int .i64 k ∧ Hid (Below w.heap.size w wr)) (fun _ i _ => n - (intOf i).toNat)
  case atStart => exact ⟨0, Nat.zero_le _, rfl, Lib.hid (Below.refl _ _)⟩
  case round =>
    obtain ⟨k, hk, rfl, HB⟩ := hrel
    by_cases hkn : k < n
    · have da : decide ((k : Int) < (n : Int)) = true := decide_eq_true (by omega)
      have da2 : decide (k < n) = true := decide_eq_true hkn
      have hkl : k < l.length := by rw [HL.out.2.1]; exact hkn
      obtain ⟨b1, o1, rfl, hl1, hc1⟩ := (HL.out.1.below HB.out) (by intro e; rw [e] at hkl; simp at hkl)
      obtain ⟨p1, p2⟩ := hc1 k hkl
      have hx := HL.out.2.2 _ (List.getElem_mem hkl)
      generalize l[k] = x at *
      have CO := Lib.hid (out_no x.t x.v hx wr)
      clear hc1 hx
      go_wp2_with fail
      go_at_call 22
      refine CO.out.mono ?_
      rintro e w1 ⟨rfl, hb⟩
      have HB2 := Lib.hid (HB.out.trans (hb.mono HB.out.size))
      clear hb CO
      go_wp2_with fail
      go_roundw
      case rel => exact ⟨k + 1, by omega, by go_num, HB2⟩
      case measure => simp [intOf]; omega
    · obtain rfl : k = n := by omega
      have da : decide ((k : Int) < (k : Int)) = false := by simp
      have da2 : decide (k < k) = false := by simp
      go_wp2_with fail
      go_ret
      exact ⟨rfl, HB.out⟩
set_option maxRecDepth 100000 in
theorem contains_none (a : Option Addr) (n c : Nat) (l : List Smp) (hn : l.length = n) (hz : n ≤ 1000000000) (hR : ∀ x ∈ l, -9007199254740992 ≤ x.t ∧ x.t ≤ 9007199254740992) (w : World) (H : Sms w a l) :
    Calls Tryz.prog 21 #[.slice a n c, .func (.func 22) #[] #[]] w fun e w' => e = .returned (.bool false) ∧ Below w.heap.size w w' := by
  have C := Lib.hid (index_none a n c l hn hz hR w H)
  clear hn hz hR H
  go_enter Tryz.func21, Tryz.ntmps21
  go_wp2_with (go_at_call 73; refine C.out.mono ?_; rintro e w1 ⟨rfl, hb⟩; have HB := Lib.hid hb; clear hb)
  go_ret
  exact ⟨rfl, HB.out⟩
/-- put, of an appender of the call's own -/
theorem own_put (w0 : World) (s : St) (a : Nat) (x : Smp) (hx : Gm.OkS x) (hI : Gm.Inv s) (hn : s.n ≤ 1000) (hB : s.out.length + 1000 ≤ 1000000000) (w : World) (H : Own1 w0 w s a) :
    Calls Tryz.prog 26 #[pt a, smV x] w fun e w' => e = .returned (.tuple #[]) ∧ Own1 w0 w' (Gm.put s x) a := by
  obtain ⟨p, d, h1, h2, h3⟩ := H.ap
  have hl := H.lt
  have hla := H.la
  by_cases h0 : s.n = 0
  · refine (put_first a p d s x hx hI h0 hB w h1).mono ?_
    rintro e w' ⟨rfl, h⟩
    exact ⟨rfl, H.put h2 h3 h⟩
  · refine (put_more a p d s x hx hI hn h0 hB w h1 H.tab (by omega)).mono ?_
    rintro e w' ⟨rfl, h⟩
    exact ⟨rfl, H.put h2 h3 h⟩
end Go.Proofs.YtdlifcpdlbmijaaGreatDoor
