/-
  PACKED: RxG, WaA, WaB, WaC, ShA
-/
import Derived.Test.YtgjdeilclimpdaaDoorK01
import Derived.Test.YtgjdeilclimpdaaDoorProg
import Derived.Laws.Bits64b
import Derived.BigRegion
import Derived.Laws.CopyOwn
import Derived.Lib.TrailingZeros
import Derived.Laws.Bits128
import Derived.Shelf.Small.Strs
import Derived.Shelf.Strings.Search1
import Derived.Shelf.Strings.Prefix
namespace Go.Proofs.YtgjdeilclimpdaaDoor
namespace Rx
set_option linter.unusedVariables false
set_option linter.unusedSimpArgs false
def Set4.set (x : Set4) (i v : Nat) : Set4 := if i = 0 then { x with a := v } else if i = 1 then { x with b := v } else if i = 2 then { x with c := v } else { x with d := v }
def Set4.put (x : Set4) (c : Nat) : Set4 := x.set (c / 64) (x.word (c / 64) ||| 2 ^ (c % 64))
/-- the bytes from one to another -/
def spanFrom (x : Set4) (c : Nat) : Nat → Set4
  | 0 => x
  | n + 1 => spanFrom (x.put c) (c + 1) n
def Set4.span (f t : Nat) : Set4 := spanFrom Set4.none f (t + 1 - f)
def Set4.only (c : Nat) : Set4 := Set4.span c c
def Set4.join (x y : Set4) : Set4 := ⟨x.a ||| y.a, x.b ||| y.b, x.c ||| y.c, x.d ||| y.d⟩
def inv64 (w : Nat) : Nat := 18446744073709551615 - w
def Set4.others (x : Set4) : Set4 := ⟨inv64 x.a, inv64 x.b, inv64 x.c, inv64 x.d⟩
def Set4.isNone (x : Set4) : Bool := x.a == 0 && x.b == 0 && x.c == 0 && x.d == 0
def Set4.Ok (x : Set4) : Prop := x.a < 2 ^ 64 ∧ x.b < 2 ^ 64 ∧ x.c < 2 ^ 64 ∧ x.d < 2 ^ 64
theorem only_eq (c : Nat) : Set4.only c = Set4.none.put c := by
  unfold Set4.only Set4.span
  rw [show c + 1 - c = 1 by omega]
  rfl
theorem only_has (c k : Nat) (hc : c < 256) (hk : k < 256) : (Set4.only c).has k = decide (k = c) := by
  rw [only_eq]
  unfold Set4.put Set4.set Set4.has Set4.word Set4.none
  have e : ∀ m n, (2 ^ m : Nat).testBit n = decide (m = n) := fun m n => Nat.testBit_two_pow
  have hq : c / 64 = 0 ∨ c / 64 = 1 ∨ c / 64 = 2 ∨ c / 64 = 3 := by omega
  have hr : k / 64 = 0 ∨ k / 64 = 1 ∨ k / 64 = 2 ∨ k / 64 = 3 := by omega
  rcases hq with h | h | h | h <;> rcases hr with g | g | g | g <;> simp [h, g, e] <;> omega
/-- letters; digits -/
def setD : Set4 := Set4.span 48 57
def setL : Set4 := (Set4.span 97 122).join (Set4.span 65 90)
def setLD : Set4 := setL.join setD
def meanLow (c : Nat) : Option Set4 :=
  if c = 110 then some (Set4.only 10) else if c = 116 then some (Set4.only 9) else if c = 114 then some (Set4.only 13)
  else if c = 100 then some setD else if c = 119 then some (setLD.join (Set4.only 95))
  else if c = 115 then some (((Set4.only 32).join (Set4.span 9 10)).join (Set4.span 12 13))
  else none
/-- what a byte stands for behind a backslash -/
def meaning (c : Nat) : Set4 :=
  match meanLow c with
  | some x => x
  | none => if c = 68 ∨ c = 87 ∨ c = 83 then ((meanLow (c + 32)).getD Set4.none).others
    else if c < 33 ∨ 126 < c ∨ setLD.has c then Set4.none else Set4.only c
structure RS where
  at' : Nat
  groups : Nat
  nested : Nat
  deepest : Nat
def RS.to (st : RS) (p : Nat) : RS := { st with at' := p }
/-- one of these comes next -/
def isNext (bs : List Nat) (p : Nat) (l : List Nat) : Bool := match bs[p]? with
  | none => false
  | some c => l.contains c
def isAt (bs : List Nat) (p c : Nat) : Bool := decide (bs[p]? = some c)
def digs (bs : List Nat) : Nat → Nat → Nat → Nat × Nat
  | 0, p, n => (p, n)
  | k + 1, p, n => match bs[p]? with
    | none => (p, n)
    | some c => if 48 ≤ c ∧ c ≤ 57 then digs bs k (p + 1) (10 * n + (c - 48)) else (p, n)
/-- a bound: its number, whether it is one, where it stays -/
def number (bs : List Nat) (p : Nat) : Nat × Bool × Nat := ((digs bs 4 p 0).2, decide (p < (digs bs 4 p 0).1) && decide ((digs bs 4 p 0).2 ≤ 1000), (digs bs 4 p 0).1)
def boundsEnd (bs : List Nat) (l : Nat) (m : Option Nat) (p : Nat) : Option (Nat × Option Nat) × Nat := if isAt bs p 125 then (some (l, m), p + 1) else (none, p)
def bounds2 (bs : List Nat) (l p : Nat) : Option (Nat × Option Nat) × Nat :=
  if isNext bs p [125] then boundsEnd bs l none p
  else if (number bs p).2.1 && decide (l ≤ (number bs p).1) then boundsEnd bs l (some (number bs p).1) (number bs p).2.2 else (none, (number bs p).2.2)
def bounds (bs : List Nat) (p : Nat) : Option (Nat × Option Nat) × Nat :=
  if (number bs p).2.1 then
    (if isAt bs (number bs p).2.2 44 then bounds2 bs (number bs p).1 ((number bs p).2.2 + 1) else boundsEnd bs (number bs p).1 (some (number bs p).1) (number bs p).2.2)
  else (none, (number bs p).2.2)
/-- a byte that matches itself, or a backslash and what stands behind it -/
def peEnd (bs : List Nat) (e : Bool) (p : Nat) : Option Set4 × Nat := match bs[p]? with
  | none => (none, p)
  | some c => if (if e then meaning c else Set4.only c).isNone then (none, p) else (some (if e then meaning c else Set4.only c), p + 1)
def plainOrEscape (bs : List Nat) (p : Nat) : Option Set4 × Nat := if isAt bs p 92 then peEnd bs true (p + 1) else peEnd bs false p
def item (bs : List Nat) (p : Nat) : Option Set4 × Nat := if isNext bs p [93] then (none, p) else plainOrEscape bs p
def dashBetween (bs : List Nat) (p : Nat) : Bool := isNext bs p [45] && !(isAt bs p 45 && isAt bs (p + 1) 93)
def stray (bs : List Nat) (p : Nat) : Nat := if bs.length = p + 1 ∧ isAt bs p 45 then p + 1 else p
/-- an item of a class, or a range; by the byte of a set of one -/
def range2 (sg : Set4 → Option Nat) (bs : List Nat) (f p : Nat) : Option Set4 × Nat := match item bs p with
  | (none, q) => (none, q)
  | (some y, q) => match sg y with
    | none => (none, p)
    | some t => if t < f then (none, p) else (some (Set4.span f t), q)
def items (sg : Set4 → Option Nat) (bs : List Nat) (first p : Nat) : Option Set4 × Nat :=
  if first < p ∧ dashBetween bs p then (none, stray bs p) else
  match item bs p with
  | (none, q) => (none, q)
  | (some x, q) => match sg x with
    | none => (some x, q)
    | some f => if dashBetween bs q then range2 sg bs f (q + 1) else (some x, q)
def classLoop (sg : Set4 → Option Nat) (bs : List Nat) (first : Nat) : Nat → Set4 → Nat → Option Set4 × Nat
  | 0, _, p => (none, p)
  | n + 1, x, p => if p ≠ first ∧ isAt bs p 93 then (some x, p + 1) else match items sg bs first p with
    | (none, q) => (none, q)
    | (some y, q) => classLoop sg bs first n (x.join y) q
def classSet (sg : Set4 → Option Nat) (bs : List Nat) (p : Nat) : Option Set4 × Nat :=
  if isAt bs (p + 1) 94 then ((classLoop sg bs (p + 2) (bs.length + 1) Set4.none (p + 2)).1.map Set4.others, (classLoop sg bs (p + 2) (bs.length + 1) Set4.none (p + 2)).2)
  else classLoop sg bs (p + 1) (bs.length + 1) Set4.none (p + 1)
abbrev PatF := RS → Option Node × RS
def parenEnd (bs : List Nat) (number : Nat) (r : Option Node × RS) : Option Node × RS := match r with
  | (none, st) => (none, st)
  | (some t, st) => if isAt bs st.at' 41 then (some (if 0 < number then .group number t else t), { st.to (st.at' + 1) with nested := st.nested - 1 }) else (none, st)
def deeper (st : RS) : RS := { st with nested := st.nested + 1, deepest := max st.deepest (st.nested + 1) }
def paren (f : PatF) (bs : List Nat) (st : RS) : Option Node × RS :=
  if isAt bs (st.at' + 1) 63 then
    (if isAt bs (st.at' + 2) 58 then parenEnd bs 0 (f (deeper (st.to (st.at' + 3)))) else (none, st.to (st.at' + 2)))
  else parenEnd bs (st.groups + 1) (f (deeper { st.to (st.at' + 1) with groups := st.groups + 1 }))
def ofSet (st : RS) (r : Option Set4 × Nat) : Option Node × RS := (r.1.map .byte, st.to r.2)
def atom (sg : Set4 → Option Nat) (f : PatF) (bs : List Nat) (st : RS) : Option Node × RS :=
  if isNext bs st.at' [42, 43, 63, 123, 125, 93] then (none, st)
  else if isNext bs st.at' [40] then paren f bs st
  else if isNext bs st.at' [91] then ofSet st (classSet sg bs st.at')
  else if isAt bs st.at' 94 then (some (.edge 1), st.to (st.at' + 1))
  else if isAt bs st.at' 36 then (some (.edge 2), st.to (st.at' + 1))
  else if isAt bs st.at' 46 then (some (.byte Set4.none.others), st.to (st.at' + 1))
  else ofSet st (plainOrEscape bs st.at')
def lazyEnd (bs : List Nat) (st : RS) (l : Nat) (m : Option Nat) (p : Bool) (t : Node) : Option Node × RS :=
  if isAt bs st.at' 63 then (some (.count l m p true t), st.to (st.at' + 1)) else (some (.count l m p false t), st)
def countOf (bs : List Nat) (t : Node) (st : RS) : Option Node × RS :=
  if isAt bs st.at' 42 then lazyEnd bs (st.to (st.at' + 1)) 0 none false t
  else if isAt bs st.at' 43 then lazyEnd bs (st.to (st.at' + 1)) 1 none true t
  else if isAt bs st.at' 63 then lazyEnd bs (st.to (st.at' + 1)) 0 (some 1) false t
  else if isAt bs st.at' 123 then (match bounds bs (st.at' + 1) with
    | (none, q) => (none, st.to q)
    | (some (l, m), q) => lazyEnd bs (st.to q) l m false t)
  else (some t, st)
/-- a branch goes on -/
def goesOn (bs : List Nat) (p : Nat) : Bool := match bs[p]? with
  | none => false
  | some c => !([124, 41].contains c)
def piece (sg : Set4 → Option Nat) (f : PatF) (bs : List Nat) (st : RS) : Option Node × RS := match atom sg f bs st with
  | (none, st1) => (none, st1)
  | (some t, st1) => countOf bs t st1
def branchLoop (sg : Set4 → Option Nat) (f : PatF) (bs : List Nat) : Nat → List Node → RS → Option (List Node) × RS
  | 0, _, st => (none, st)
  | n + 1, ks, st => if goesOn bs st.at' then (match piece sg f bs st with
      | (none, st1) => (none, st1)
      | (some t, st1) => branchLoop sg f bs n (ks ++ [t]) st1)
    else (some ks, st)
def branch (sg : Set4 → Option Nat) (f : PatF) (bs : List Nat) (st : RS) : Option Node × RS := match branchLoop sg f bs (bs.length + 1) [] st with
  | (none, st1) => (none, st1)
  | (some ks, st1) => (some (.seq ks), st1)
def patLoop (sg : Set4 → Option Nat) (f : PatF) (bs : List Nat) : Nat → List Node → RS → Option Node × RS
  | 0, _, st => (none, st)
  | n + 1, ks, st => match branch sg f bs st with
    | (none, st1) => (none, st1)
    | (some t, st1) => if isAt bs st1.at' 124 then patLoop sg f bs n (ks ++ [t]) (st1.to (st1.at' + 1)) else (some (.alt (ks ++ [t])), st1)
def pat (sg : Set4 → Option Nat) (bs : List Nat) : Nat → PatF
  | 0, st => (none, st)
  | n + 1, st => patLoop sg (pat sg bs n) bs (bs.length + 1) [] st
def st0 : RS := ⟨0, 0, 0, 0⟩
def parse (sg : Set4 → Option Nat) (bs : List Nat) : Option Node × RS := pat sg bs (bs.length + 1) st0
/-- what Compile says: the tree, the groups; or an error's number and the place -/
def compile (sg : Set4 → Option Nat) (bs : List Nat) : Except (Nat × Nat) (Node × Nat) :=
  if 500 < bs.length then .error (81, 0) else
  match parse sg bs with
  | (none, st) => .error (80, st.at')
  | (some t, st) => if st.at' ≠ bs.length then .error (80, st.at') else if 100 < st.deepest ∨ 999 < states t then .error (81, 0) else .ok (t, st.groups)
/-- the parts of a text that the groups have -/
def setSlot (f : Nat → Option Nat) (s v : Nat) : Nat → Option Nat := fun k => if k = s then (match f s with | none => some v | some u => some u) else f k
end Rx
end Go.Proofs.YtgjdeilclimpdaaDoor
namespace Go.Proofs.YtgjdeilclimpdaaDoor
set_option linter.unusedVariables false
set_option linter.unusedSimpArgs false
open Go.RowKit Go.PlainAid
open Rx (Set4)
theorem below_drew {B : Nat} {a b : World} (h : Below B a b) : Below B a b.drew := ⟨h.os, h.tape, h.output, h.size, h.block⟩
theorem below_drewN {B : Nat} {a b : World} (h : Below B a b) (n : Nat) : Below B a (b.drewN n) := ⟨h.os, h.tape, h.output, h.size, h.block⟩
def u64V (n : Nat) : Value := .int .u64 ((n : Nat) : Int)
def setC (x : Set4) : Array Value := #[.int .u64 ((x.a : Nat) : Int), .int .u64 ((x.b : Nat) : Int), .int .u64 ((x.c : Nat) : Int), .int .u64 ((x.d : Nat) : Int)]
def setV (x : Set4) : Value := .agg (setC x)
theorem word_get (x : Set4) (q : Nat) (hq : q < 4) : [Value.int .u64 ((x.a : Nat) : Int), .int .u64 ((x.b : Nat) : Int), .int .u64 ((x.c : Nat) : Int), .int .u64 ((x.d : Nat) : Int)][q]? = some (.int .u64 ((x.word q : Nat) : Int)) := by
  rcases (by omega : q = 0 ∨ q = 1 ∨ q = 2 ∨ q = 3) with rfl | rfl | rfl | rfl <;> rfl
theorem word_lt (x : Set4) (hx : x.Ok) (q : Nat) : x.word q < 2 ^ 64 := by
  obtain ⟨a, b, c, d⟩ := hx
  unfold Set4.word
  split
  · exact a
  split
  · exact b
  split
  · exact c
  · exact d
theorem bit_test (W s : Nat) (hW : W < 2 ^ 64) : (bits BinOp.and IntKind.u64 ((W : Int) / 2 ^ s) 1 == 1) = W.testBit s := by
  have e : (W : Int) / 2 ^ s = ((W / 2 ^ s : Nat) : Int) := by rw [Int.natCast_ediv]; norm_cast
  have hl : W / 2 ^ s ≤ W := Nat.div_le_self _ _
  have h := u64_and_nat (W / 2 ^ s) 1 (by omega) (by decide)
  rw [e, show (1 : Int) = ((1 : Nat) : Int) from rfl, h, Nat.testBit, Nat.shiftRight_eq_div_pow, Nat.and_comm]
  rw [Nat.one_and_eq_mod_two]
  rcases Nat.mod_two_eq_zero_or_one (W / 2 ^ s) with h | h <;> rw [h] <;> rfl
set_option maxHeartbeats 1000000 in
theorem has_any (x : Set4) (hx : x.Ok) (c : Nat) (hc : c < 256) (w : World) : Calls Tryd.prog 26 #[setV x, .int .u8 (c : Int)] w fun e w' => e = .returned (.bool (x.has c)) ∧ Below w.heap.size w w' := by
  have hget := word_get x (c / 64) (by omega)
  have hW := word_lt x hx (c / 64)
  unfold Set4.has
  obtain ⟨W, hWd⟩ : ∃ W, x.word (c / 64) = W := ⟨_, rfl⟩
  rw [hWd] at hget hW ⊢
  clear hWd
  unfold setV setC
  go_enter Tryd.func26, Tryd.ntmps26
  go_wp2
  go_ret
  refine ⟨?_, (Below.refl _ _).alloc (Nat.le_refl _) _⟩
  show Ending.returned (.bool (bits BinOp.and IntKind.u64 ((W : Int) / 2 ^ (c % 64)) 1 == 1)) = _
  rw [bit_test W (c % 64) hW]
theorem xor_max (a : Nat) (h : a < 2 ^ 64) : bits BinOp.xor IntKind.u64 IntKind.u64.max ((a : Nat) : Int) = ((Rx.inv64 a : Nat) : Int) := by
  have e : IntKind.u64.max = ((18446744073709551615 : Nat) : Int) := rfl
  rw [e, u64_xor_nat _ _ (by decide) (by omega)]
  unfold Rx.inv64
  congr 1
  have h1 : (BitVec.ofNat 64 a).toNat = a := by rw [BitVec.toNat_ofNat]; exact Nat.mod_eq_of_lt h
  have h2 := BitVec.toNat_not (x := BitVec.ofNat 64 a)
  rw [h1] at h2
  have h3 : (BitVec.allOnes 64 ^^^ BitVec.ofNat 64 a) = ~~~ (BitVec.ofNat 64 a) := by
    rw [BitVec.allOnes_xor]
  have h4 := congrArg BitVec.toNat h3
  rw [BitVec.toNat_xor, h1, h2] at h4
  simpa using h4
set_option maxHeartbeats 2000000 in
theorem others_any (x : Set4) (hx : x.Ok) (w : World) : Calls Tryd.prog 51 #[setV x] w fun e w' => e = .returned (setV x.others) ∧ Below w.heap.size w w' := by
  have ha := xor_max x.a hx.1
  have hb := xor_max x.b hx.2.1
  have hc := xor_max x.c hx.2.2.1
  have hd := xor_max x.d hx.2.2.2
  unfold setV setC
  have hz : (Array.size #[Value.int .u64 ((Rx.inv64 x.a : Nat) : Int), .int .u64 ((Rx.inv64 x.b : Nat) : Int), .int .u64 ((Rx.inv64 x.c : Nat) : Int), .int .u64 ((Rx.inv64 x.d : Nat) : Int)]) = 4 := rfl
  go_enter Tryd.func51, Tryd.ntmps51
  go_wp2
  refine wp_loop_rounds 5 ?_
  rw [rounds_succ]
  go_wp2
  rw [rounds_succ]
  go_wp2
  rw [rounds_succ]
  go_wp2
  rw [rounds_succ]
  go_wp2
  rw [rounds_succ]
  go_wp2
  exact bodyPost_ret (v := setV x.others) (by simp [results, Tryd.results51, go_sem, setV, setC, Set4.others]) rfl ⟨rfl, ((Below.refl _ _).alloc (Nat.le_refl _) _).alloc (by simp) _⟩
set_option maxHeartbeats 2000000 in
set_option maxRecDepth 100000 in
theorem join_any (x y : Set4) (hx : x.Ok) (hy : y.Ok) (w : World) : Calls Tryd.prog 59 #[setV x, setV y] w fun e w' => e = .returned (setV (x.join y)) ∧ Below w.heap.size w w' := by
  have ha := u64_or_nat x.a y.a hx.1 hy.1
  have hb := u64_or_nat x.b y.b hx.2.1 hy.2.1
  have hc := u64_or_nat x.c y.c hx.2.2.1 hy.2.2.1
  have hd := u64_or_nat x.d y.d hx.2.2.2 hy.2.2.2
  unfold setV setC
  go_enter Tryd.func59, Tryd.ntmps59
  go_wp2
  refine wp_loop_rounds 5 ?_
  rw [rounds_succ]
  go_wp2
  go_region
  go_wp2
  rw [rounds_succ]
  go_wp2
  go_region
  go_wp2
  rw [rounds_succ]
  go_wp2
  go_region
  go_wp2
  rw [rounds_succ]
  go_wp2
  go_region
  go_wp2
  rw [rounds_succ]
  go_wp2
  exact bodyPost_ret (v := setV (x.join y)) (by simp [results, Tryd.results59, go_sem, setV, setC, Set4.join]) rfl ⟨rfl, below_drew (below_drew (below_drew (below_drew ((((Below.refl _ _).alloc (Nat.le_refl _) _).alloc (by simp) _).alloc (by simp; omega) _))))⟩

theorem or_pow (W s : Nat) (hW : W < 2 ^ 64) (hs : s < 64) : bits BinOp.or IntKind.u64 (W : Int) (IntKind.u64.wrap (2 ^ s)) = ((W ||| 2 ^ s : Nat) : Int) := by
  have hl : (2 : Nat) ^ s < 2 ^ 64 := Nat.pow_lt_pow_right (by decide) hs
  have e : ((2 : Int) ^ s) = ((2 ^ s : Nat) : Int) := by norm_cast
  have e2 : IntKind.u64.wrap ((2 ^ s : Nat) : Int) = ((2 ^ s : Nat) : Int) := by
    rw [IntKind.wrap_u64]
    generalize (2 ^ s : Nat) = q at hl
    omega
  rw [e, e2, u64_or_nat _ _ (by omega) (by omega)]
theorem set_put_ok (x : Set4) (c : Nat) (hx : x.Ok) : (x.put c).Ok := by
  have hl : (2 : Nat) ^ (c % 64) < 2 ^ 64 := Nat.pow_lt_pow_right (by decide) (by omega)
  have h : x.word (c / 64) ||| 2 ^ (c % 64) < 2 ^ 64 := Nat.or_lt_two_pow (word_lt x hx _) hl
  obtain ⟨a, b, d, e⟩ := hx
  unfold Set4.put Set4.set
  split
  · exact ⟨h, b, d, e⟩
  split
  · exact ⟨a, h, d, e⟩
  split
  · exact ⟨a, b, h, e⟩
  · exact ⟨a, b, d, h⟩
theorem spanFrom_ok : ∀ n x c, Set4.Ok x → (Rx.spanFrom x c n).Ok
  | 0, x, c, h => h
  | n + 1, x, c, h => spanFrom_ok n (x.put c) (c + 1) (set_put_ok x c h)
theorem none_ok : Set4.none.Ok := by unfold Set4.none; exact ⟨by decide, by decide, by decide, by decide⟩
theorem span_ok (f t : Nat) : (Set4.span f t).Ok := spanFrom_ok _ _ _ none_ok
theorem only_ok (c : Nat) : (Set4.only c).Ok := span_ok c c
theorem join_ok {x y : Set4} (hx : x.Ok) (hy : y.Ok) : (x.join y).Ok := ⟨Nat.or_lt_two_pow hx.1 hy.1, Nat.or_lt_two_pow hx.2.1 hy.2.1, Nat.or_lt_two_pow hx.2.2.1 hy.2.2.1, Nat.or_lt_two_pow hx.2.2.2 hy.2.2.2⟩
theorem others_ok (x : Set4) : x.others.Ok := by unfold Set4.others Rx.inv64; exact ⟨by simp; omega, by simp; omega, by simp; omega, by simp; omega⟩
theorem spanFrom_snoc : ∀ n x c, Rx.spanFrom x c (n + 1) = (Rx.spanFrom x c n).put (c + n)
  | 0, x, c => rfl
  | n + 1, x, c => by
    show Rx.spanFrom (x.put c) (c + 1) (n + 1) = _
    rw [spanFrom_snoc n (x.put c) (c + 1), show c + 1 + n = c + (n + 1) by omega]
    rfl
theorem setC_get (x : Set4) (q : Nat) (hq : q < 4) : (setC x)[q]? = some (.int .u64 ((x.word q : Nat) : Int)) := by
  rcases (by omega : q = 0 ∨ q = 1 ∨ q = 2 ∨ q = 3) with rfl | rfl | rfl | rfl <;> rfl
theorem setC_one (x : Set4) : (setC x).all (·.oneCell') = true := by simp [setC, Value.oneCell']
theorem setC_set (x : Set4) (q v : Nat) (hq : q < 4) : (setC x).setIfInBounds q (.int .u64 ((v : Nat) : Int)) = setC (x.set q v) := by
  rcases (by omega : q = 0 ∨ q = 1 ∨ q = 2 ∨ q = 3) with rfl | rfl | rfl | rfl <;> rfl
/-- the set lies there -/
def SetAt (w : World) (b : Nat) (x : Set4) : Prop := w.heap[b]? = some (.cells (setC x) 50 (0, 0))
structure SpanAt (w wr : World) (x : Set4) : Prop where
  new : SetAt wr (w.heap.size + 1) x
  old : SetAt wr w.heap.size Set4.none
  below : Below w.heap.size w wr
theorem SpanAt.put {w wr : World} {x : Set4} (h : SpanAt w wr x) (c : Nat) (hc : c < 256) : SpanAt w (wr.setCell ⟨w.heap.size + 1, c / 64, none⟩ (.int .u64 ((x.word (c / 64) ||| 2 ^ (c % 64) : Nat) : Int))) (x.put c) := by
  refine ⟨?_, ?_, h.below.setCell (by simp) _⟩
  · unfold SetAt; rw [heap_setCell_same _ _ _ _ _ _ h.new, setC_set _ _ _ (by omega)]; rfl
  · unfold SetAt; rw [heap_setCell_other _ _ _ _ (by simp)]; exact h.old
theorem SpanAt.drew {w wr : World} {x : Set4} (h : SpanAt w wr x) : SpanAt w wr.drew x := ⟨h.new, h.old, below_drew h.below⟩
set_option maxHeartbeats 2000000 in
set_option maxRecDepth 100000 in
theorem span_any (f t : Nat) (hf : f < 256) (ht : t < 256) (w : World) : Calls Tryd.prog 69 #[.int .u8 ((f : Nat) : Int), .int .u8 ((t : Nat) : Int)] w fun e w' => e = .returned (setV (Set4.span f t)) ∧ Below w.heap.size w w' := by
  have h0 := Lib.hid (show SpanAt w ((w.alloc (.cells (setC Set4.none) 50)).alloc (.cells (setC Set4.none) 50)) Set4.none from ⟨heap_alloc2_new _ _ _, heap_alloc2_old _ _ _, ((Below.refl _ _).alloc (Nat.le_refl _) _).alloc (by simp) _⟩)
  rw [show setC Set4.none = #[Value.int .u64 0, .int .u64 0, .int .u64 0, .int .u64 0] from rfl] at h0
  go_enter Tryd.func69, Tryd.ntmps69
  go_wp2
  go_loopw [6] (fun i wr => ∃ k : Nat, k ≤ t + 1 - f ∧ i = .int .i64 ((f + k : Nat) : Int) ∧ Hid (SpanAt w wr (Rx.spanFrom Set4.none f k))) (fun i _ => 257 - (intOf i).toNat)
  case atStart => exact ⟨0, Nat.zero_le _, rfl, h0⟩
  case round =>
    obtain ⟨k, hk, rfl, HT⟩ := hrel
    by_cases hlt : f + k ≤ t
    · obtain ⟨c, hc⟩ : ∃ c, f + k = c := ⟨_, rfl⟩
      rw [hc] at hlt ⊢
      have hd : decide (c ≤ t) = true := by simp; omega
      have hcell : wr.cell? ⟨w.heap.size + 1, c / 64, none⟩ = some (.int .u64 (((Rx.spanFrom Set4.none f k).word (c / 64) : Nat) : Int)) := by
        rw [cell_of_row wr _ _ _ _ _ HT.out.new, setC_get _ _ (by omega)]
      have hfr : wr.frozen? ⟨w.heap.size + 1, c / 64, none⟩ = false := frozen_of_row wr _ _ _ _ HT.out.new
      obtain ⟨W, hW⟩ : ∃ W, (Rx.spanFrom Set4.none f k).word (c / 64) = W := ⟨_, rfl⟩
      have hWl : W < 2 ^ 64 := by rw [← hW]; exact word_lt _ (spanFrom_ok _ _ _ none_ok) _
      rw [hW] at hcell
      have hcb : c < 256 := by omega
      have hk1 : k + 1 ≤ t + 1 - f := by omega
      have HB := Lib.hid (or_pow W (c % 64) hWl (by omega))
      have HI := Lib.hid (show (c : Int) + 1 = ((f + (k + 1) : Nat) : Int) by omega)
      have HN := Lib.hid (show SpanAt w (wr.setCell ⟨w.heap.size + 1, c / 64, none⟩ (.int .u64 ((W ||| 2 ^ (c % 64) : Nat) : Int))) (Rx.spanFrom Set4.none f (k + 1)) by
        rw [spanFrom_snoc, hc, ← hW]; exact HT.out.put c hcb)
      have HW := Lib.hid hW
      have HC := Lib.hid hc
      clear hW hc
      go_wp2
      go_region
      go_wp2
      go_roundw
      case rel => exact ⟨k + 1, hk1, by rw [HI.out], Lib.hid (by rw [HB.out]; exact HN.out.drew)⟩
      case measure => simp [intOf]; omega
    · obtain rfl : k = t + 1 - f := by omega
      obtain ⟨c, hc⟩ : ∃ c, f + (t + 1 - f) = c := ⟨_, rfl⟩
      rw [hc] at hlt ⊢
      have hd : decide (c ≤ t) = false := by simp; omega
      obtain ⟨X, hX⟩ : ∃ X, Rx.spanFrom Set4.none f (t + 1 - f) = X := ⟨_, rfl⟩
      rw [hX] at HT
      obtain ⟨h1, h2, h3⟩ := HT.out
      have HE := Lib.hid (show setV (Set4.span f t) = .agg (setC X) by rw [← hX]; rfl)
      clear HT hlt hk hX hc
      have hn := setRow_heap wr w.heap.size (setC Set4.none) (setC X) 50 (0, 0) h2
      have HZ := Lib.hid (show (setC Set4.none).size = (setC X).size from rfl)
      have HO := Lib.hid (setC_one X)
      have h1' : wr.heap[w.heap.size + 1]? = some (.cells (setC X) 50 (0, 0)) := h1
      have h2' : wr.heap[w.heap.size]? = some (.cells (setC Set4.none) 50 (0, 0)) := h2
      clear h1 h2
      go_wp2_with (first | (refine wpList_load_row rfl 50 (.tmp 5) rfl (w.heap.size + 1) rfl 50 (setC X) (0, 0) _ h1' Tryd.underlying50 rfl (by kernel_rfl) ?_) | (refine wpList_store_row rfl 50 (.tmp 4) (.tmp 24) rfl w.heap.size (setC X) rfl rfl 50 (setC Set4.none) h2' (by kernel_rfl) HZ.out HO.out ?_))
      refine bodyPost_ret (v := .agg (setC X)) ?_ ?_ ?_
      · exact results_cell_row rfl _ _ w.heap.size 50 (setC X) (0, 0) _ rfl hn Tryd.underlying50 rfl (by kernel_rfl)
      · rfl
      · exact ⟨by rw [HE.out], below_setRow h3 (Nat.le_refl _) _⟩
theorem none_lit : setC Set4.none = #[Value.int .u64 0, .int .u64 0, .int .u64 0, .int .u64 0] := rfl
/-- a result of a set, in its cell of the heap -/
theorem laid_none (w : World) : (w.alloc (.cells #[Value.int .u64 0, .int .u64 0, .int .u64 0, .int .u64 0] 50)).heap[w.heap.size]? = some (.cells (setC Set4.none) 50 (0, 0)) := heap_alloc_new w _
set_option maxHeartbeats 2000000 in
theorem only_any (c : Nat) (hc : c < 256) (w : World) : Calls Tryd.prog 60 #[.int .u8 ((c : Nat) : Int)] w fun e w' => e = .returned (setV (Set4.only c)) ∧ Below w.heap.size w w' := by
  have CS := Lib.hid (fun w1 => span_any c c hc hc w1)
  have HL := Lib.hid (laid_none w)
  have HE := Lib.hid (show setV (Set4.only c) = .agg (setC (Set4.span c c)) from rfl)
  have HZ := Lib.hid (fun X => show (setC Set4.none).size = (setC X).size from rfl)
  have HO := Lib.hid setC_one
  obtain ⟨X, hX⟩ : ∃ X, Set4.span c c = X := ⟨_, rfl⟩
  rw [hX] at CS HE
  clear hX
  go_enter Tryd.func60, Tryd.ntmps60
  go_wp2_with fail
  refine (CS.out _).mono ?_
  rintro e w1 ⟨rfl, hb⟩
  have h2 := (hb.block _ (by simp)).trans HL.out
  have hn := setRow_heap w1 w.heap.size (setC Set4.none) (setC X) 50 (0, 0) h2
  have HB := Lib.hid (below_setRow (((Below.refl _ w).alloc (Nat.le_refl _) _).trans (hb.mono (by simp))) (Nat.le_refl _) (setC X))
  clear hb
  unfold setV
  go_wp2_with (refine wpList_store_row rfl 50 (.tmp 2) (.tmp 5) rfl w.heap.size (setC X) rfl rfl 50 (setC Set4.none) h2 (by kernel_rfl) (HZ.out X) (HO.out X) ?_)
  refine bodyPost_ret (v := .agg (setC X)) ?_ ?_ ?_
  · exact results_cell_row rfl _ _ w.heap.size 50 (setC X) (0, 0) _ rfl hn Tryd.underlying50 rfl (by kernel_rfl)
  · rfl
  · exact ⟨by rw [HE.out], HB.out⟩
end Go.Proofs.YtgjdeilclimpdaaDoor
namespace Go.Proofs.YtgjdeilclimpdaaDoor
set_option linter.unusedVariables false
set_option linter.unusedSimpArgs false
open Go.RowKit Go.PlainAid
open Rx (Set4)
def pA (x : Int) : Int := IntKind.u64.wrap (bits .and .u64 (x / 2) 6148914691236517205 + bits .and .u64 x 6148914691236517205)
def pB (y : Int) : Int := IntKind.u64.wrap (bits .and .u64 (y / 4) 3689348814741910323 + bits .and .u64 y 3689348814741910323)
def pC (y : Int) : Int := bits .and .u64 (IntKind.u64.wrap (y / 16 + y)) 1085102592571150095
def pD (y : Int) : Int := IntKind.u64.wrap (y + y / 256)
def pE (y : Int) : Int := IntKind.u64.wrap (y + y / 65536)
def pF (y : Int) : Int := IntKind.u64.wrap (y + y / 4294967296)
def popN (x : Nat) : Nat := (pF (pE (pD (pC (pB (pA (x : Int)))))) % 128).toNat
theorem popN_lt (x : Nat) : popN x < 128 := by unfold popN; omega
set_option maxHeartbeats 1000000 in
theorem pop_any (x : Nat) (hx : x < 2 ^ 64) (w : World) : Calls Tryd.prog 72 #[.int .u64 ((x : Nat) : Int)] w fun e w' => e = .returned (.int .i64 ((popN x : Nat) : Int)) ∧ w = w' := by
  have HR := Lib.hid (show ((popN x : Nat) : Int) = pF (pE (pD (pC (pB (pA (x : Int)))))) % 128 by
    unfold popN
    generalize pF (pE (pD (pC (pB (pA (x : Int)))))) = q
    omega)
  obtain ⟨y1, h1⟩ : ∃ y, pA (x : Int) = y := ⟨_, rfl⟩
  obtain ⟨y2, h2⟩ : ∃ y, pB y1 = y := ⟨_, rfl⟩
  obtain ⟨y3, h3⟩ : ∃ y, pC y2 = y := ⟨_, rfl⟩
  obtain ⟨y4, h4⟩ : ∃ y, pD y3 = y := ⟨_, rfl⟩
  obtain ⟨y5, h5⟩ : ∃ y, pE y4 = y := ⟨_, rfl⟩
  obtain ⟨y6, h6⟩ : ∃ y, pF y5 = y := ⟨_, rfl⟩
  rw [h1, h2, h3, h4, h5, h6] at HR
  unfold pA at h1
  unfold pB at h2
  unfold pC at h3
  unfold pD at h4
  unfold pE at h5
  unfold pF at h6
  have hP := i64_and127
  go_enter Tryd.func72, Tryd.ntmps72
  go_wp2
  go_ret
  refine ⟨?_, rfl⟩
  show Ending.returned (.int .i64 (wrap64 y6 % 128)) = _
  rw [HR.out]
  congr 2
  unfold wrap64
  omega
/-- the table of the library -/
def TabAt (w : World) : Prop := ∀ j, j < Lib.deBruijn64tab.length → w.cell? ⟨1, j, none⟩ = some (.int .u8 (Lib.deBruijn64tab.getD j 0))
theorem tz_key (x a : Nat) (hx : x < 18446744073709551616) (hlow : x &&& (18446744073709551616 - x) = a) (hx0 : x ≠ 0) :
    IntKind.u64.wrap (bits BinOp.and IntKind.u64 (x : Int) (IntKind.u64.wrap (-(x : Int))) * 285870213051353865) / 288230376151711744 = ((a * 285870213051353865 % 18446744073709551616 / 288230376151711744 : Nat) : Int) := by
  have e1 : IntKind.u64.wrap (-(x : Int)) = ((18446744073709551616 - x : Nat) : Int) := by rw [IntKind.wrap_u64]; omega
  rw [e1, bits_and_u64_nat x _ hx (by omega), hlow, IntKind.wrap_u64]
  omega
set_option maxHeartbeats 1000000 in
theorem tz_core (x k idx : Nat) (w : World) (hx0 : ((x : Int) == 0) = false)
    (key : IntKind.u64.wrap (bits BinOp.and IntKind.u64 (x : Int) (IntKind.u64.wrap (-(x : Int))) * 285870213051353865) / 288230376151711744 = (idx : Int))
    (hi : idx < 64) (hk : k < 64) (hcell : w.cell? ⟨1, idx, none⟩ = some (.int .u8 k)) :
    Calls Tryd.prog 73 #[.int .u64 x] w fun e w' => e = .returned (.int .i64 k) ∧ w = w' := by
  go_enter Tryd.func73, Tryd.ntmps73
  go_wp2_with (simp only [key])
  go_ret
  exact ⟨rfl, rfl⟩
theorem tz_any (x : Nat) (hx : x < 18446744073709551616) (hx0 : x ≠ 0) (w : World) (hT : TabAt w) :
    Calls Tryd.prog 73 #[.int .u64 x] w fun e w' => e = .returned (.int .i64 ((Lib.ctz 64 x : Nat) : Int)) ∧ w = w' := by
  obtain ⟨hlow, hk⟩ := Lib.lowest_bit 64 x hx0 hx
  obtain ⟨hi, htab⟩ := Lib.deBruijn64_at _ hk
  have hcell := hT _ hi
  rw [htab] at hcell
  exact tz_core x _ _ w (by simp; omega) (tz_key x _ hx hlow hx0) hi hk hcell
theorem idx_agg (x : Set4) (k : Nat) (hk : k < 4) (w : World) : (Instr.index 50 (.agg #[.int .u64 ((x.a : Nat) : Int), .int .u64 ((x.b : Nat) : Int), .int .u64 ((x.c : Nat) : Int), .int .u64 ((x.d : Nat) : Int)]) (.int .i64 ((k : Nat) : Int))).run Tryd.prog w = .ok (.int .u64 ((x.word k : Nat) : Int)) w := by
  rcases (by omega : k = 0 ∨ k = 1 ∨ k = 2 ∨ k = 3) with rfl | rfl | rfl | rfl <;> kernel_rfl
def cnt4 (x : Set4) : Nat → Nat
  | 0 => 0
  | k + 1 => cnt4 x k + popN (x.word k)
def last4 (x : Set4) : Nat → Nat
  | 0 => 0
  | k + 1 => if x.word k = 0 then last4 x k else (64 * k + Lib.ctz 64 (x.word k)) % 256
theorem cnt4_lt (x : Set4) : ∀ k, cnt4 x k ≤ 128 * k
  | 0 => Nat.le_refl _
  | k + 1 => by unfold cnt4; have := cnt4_lt x k; have := popN_lt (x.word k); omega
/-- the byte of a set of one -/
def sg (x : Set4) : Option Nat := if cnt4 x 4 = 1 then some (last4 x 4) else none
def sgV (x : Set4) : Value := match sg x with
  | none => .tuple #[.int .u8 0, .bool false]
  | some c => .tuple #[.int .u8 ((c : Nat) : Int), .bool true]
theorem TabAt.below {w w' : World} (h : TabAt w) {B : Nat} (hb : Below B w w') (h1 : 1 < B) : TabAt w' := fun j hj => (hb.cell (p := ⟨1, j, none⟩) h1).trans (h j hj)
theorem TabAt.lt {w : World} (h : TabAt w) : 1 < w.heap.size := by
  rcases Nat.lt_or_ge 1 w.heap.size with k | k
  · exact k
  · have := h 0 (by decide)
    simp [World.cell?, Array.getElem?_eq_none k] at this
set_option maxHeartbeats 4000000 in
set_option maxRecDepth 100000 in
theorem single_any (x : Set4) (hx : x.Ok) (w : World) (hT : TabAt w) : Calls Tryd.prog 68 #[setV x] w fun e w' => e = .returned (sgV x) ∧ Below w.heap.size w w' := by
  have CP := Lib.hid (fun q hq w1 => pop_any q hq w1)
  have CT := Lib.hid (fun q hq hq0 w1 h => tz_any q hq hq0 w1 h)
  have HT := Lib.hid (fun o => (hT.below (((Below.refl _ w).alloc (Nat.le_refl _) o)) hT.lt))
  have HB := Lib.hid (fun o => ((Below.refl w.heap.size w).alloc (Nat.le_refl _) o))
  have HW := Lib.hid (fun q hq w1 => idx_agg x q hq w1)
  have HL := Lib.hid (fun q => word_lt x hx q)
  have hV : setV x = .agg #[.int .u64 ((x.a : Nat) : Int), .int .u64 ((x.b : Nat) : Int), .int .u64 ((x.c : Nat) : Int), .int .u64 ((x.d : Nat) : Int)] := rfl
  rw [hV]
  clear hV hT
  go_enter Tryd.func68, Tryd.ntmps68
  go_wp2
  go_loop [2, 4, 5, 6, 8] (fun c n i wd j => ∃ k : Nat, k ≤ 4 ∧ j = .int .i64 ((k : Nat) : Int) ∧ n = .int .i64 ((cnt4 x k : Nat) : Int) ∧ c = .int .u8 ((last4 x k : Nat) : Int)) (fun _ _ _ _ j => 4 - (intOf j).toNat)
  case atStart => exact ⟨0, Nat.zero_le _, rfl, rfl, rfl⟩
  case round =>
    obtain ⟨k, hk, rfl, rfl, rfl⟩ := hrel
    by_cases hlt : k < 4
    · have hd : decide ((k : Int) < 4) = true := by simp; omega
      have hget := HW.out k hlt
      have hWl := HL.out k
      have hc := cnt4_lt x k
      have hp := popN_lt (x.word k)
      have HC1 := Lib.hid (show cnt4 x (k + 1) = cnt4 x k + popN (x.word k) from rfl)
      have HC2 := Lib.hid (show last4 x (k + 1) = if x.word k = 0 then last4 x k else (64 * k + Lib.ctz 64 (x.word k)) % 256 from rfl)
      obtain ⟨W, hW⟩ : ∃ W, x.word k = W := ⟨_, rfl⟩
      rw [hW] at hget hWl hp HC1 HC2
      have HP := Lib.hid (fun w1 => CP.out W hWl w1)
      obtain ⟨n, hn⟩ : ∃ n, popN W = n := ⟨_, rfl⟩
      obtain ⟨m, hm⟩ : ∃ n, cnt4 x k = n := ⟨_, rfl⟩
      rw [hn] at HP hp HC1
      rw [hm] at hc HC1 ⊢
      have HCT := Lib.hid (fun h0 w1 h => CT.out W hWl h0 w1 h)
      clear hn hm hW
      by_cases h0 : W = 0
      · have HC3 := Lib.hid (HC2.out.trans (if_pos h0))
        clear HC2
        subst h0
        have hz : (((0 : Nat) : Int) != 0) = false := rfl
        go_wp2_with fail
        refine (HP.out _).mono ?_
        rintro e w1 ⟨rfl, rfl⟩
        go_wp2_with fail
        go_round
        case rel => exact ⟨k + 1, by omega, by go_num, by rw [HC1.out]; go_num, by rw [HC3.out]⟩
        case measure => simp [intOf]; omega
      · have hz : ((W : Int) != 0) = true := by simp; omega
        have hk1 : Lib.ctz 64 W < 64 := (Lib.lowest_bit 64 W h0 hWl).2
        obtain ⟨t, ht⟩ : ∃ t, Lib.ctz 64 W = t := ⟨_, rfl⟩
        rw [ht] at HCT hk1 HC2
        have HC3 := Lib.hid (HC2.out.trans ((if_neg h0).trans (Nat.mod_eq_of_lt (show 64 * k + t < 256 by omega))))
        clear ht HC2
        go_wp2_with fail
        refine (HP.out _).mono ?_
        rintro e w1 ⟨rfl, rfl⟩
        go_wp2_with fail
        refine (HCT.out h0 _ (HT.out _)).mono ?_
        rintro e w1 ⟨rfl, rfl⟩
        go_wp2_with fail
        go_round
        case rel => exact ⟨k + 1, by omega, by go_num, by rw [HC1.out]; go_num, by rw [HC3.out]; go_num⟩
        case measure => simp [intOf]; omega
    · obtain rfl : k = 4 := by omega
      have hd : decide (((4 : Nat) : Int) < 4) = false := rfl
      have hr : sgV x = if cnt4 x 4 = 1 then .tuple #[.int .u8 ((last4 x 4 : Nat) : Int), .bool true] else .tuple #[.int .u8 0, .bool false] := by
        unfold sgV sg
        by_cases h : cnt4 x 4 = 1
        · rw [if_pos h, if_pos h]
        · rw [if_neg h, if_neg h]
      have HRR := Lib.hid hr
      clear hr
      obtain ⟨m, hm⟩ : ∃ n, cnt4 x 4 = n := ⟨_, rfl⟩
      rw [hm] at HRR ⊢
      clear hm
      by_cases h1 : m = 1
      · subst h1
        go_wp2
        go_ret2
        exact ⟨by rw [HRR.out]; rfl, HB.out _⟩
      · have hz : ((m : Int) != 1) = true := by simp; omega
        go_wp2
        go_ret2
        exact ⟨by rw [HRR.out, if_neg h1]; rfl, HB.out _⟩
end Go.Proofs.YtgjdeilclimpdaaDoor
namespace Go.Proofs.YtgjdeilclimpdaaDoor
set_option linter.unusedVariables false
set_option linter.unusedSimpArgs false
open Go.RowKit Go.PlainAid
open Rx (Set4)
theorem setV_eq (x : Set4) : setV x = .agg #[.int .u64 ((x.a : Nat) : Int), .int .u64 ((x.b : Nat) : Int), .int .u64 ((x.c : Nat) : Int), .int .u64 ((x.d : Nat) : Int)] := rfl
theorem lay_set (w : World) (x : Set4) : (w.alloc (.cells #[.int .u64 ((x.a : Nat) : Int), .int .u64 ((x.b : Nat) : Int), .int .u64 ((x.c : Nat) : Int), .int .u64 ((x.d : Nat) : Int)] 50)).heap[w.heap.size]? = some (.cells (setC x) 50 (0, 0)) := heap_alloc_new w _
set_option maxHeartbeats 4000000 in
set_option maxRecDepth 100000 in
theorem meaning_110 (w : World) : Calls Tryd.prog 61 #[.int .u8 110] w fun e w' => e = .returned (setV (Rx.meaning 110)) ∧ Below w.heap.size w w' := by
  have CS := Lib.hid (fun f t hf ht w1 => span_any f t hf ht w1)
  have CJ := Lib.hid (fun x y hx hy w1 => join_any x y hx hy w1)
  have CO := Lib.hid (fun c hc w1 => only_any c hc w1)
  have CH := Lib.hid (fun x hx c hc w1 => has_any x hx c hc w1)
  have HL := Lib.hid (laid_none w)
  have HY := Lib.hid (fun w x => lay_set w x)
  have HZ := Lib.hid (fun X => show (setC Set4.none).size = (setC X).size from rfl)
  have HO := Lib.hid setC_one
  go_enter Tryd.func61, Tryd.ntmps61
  go_wp2_with fail
  refine (CS.out 48 57 (by decide) (by decide) _).mono ?_
  rintro e w1 ⟨rfl, hb1⟩
  rw [setV_eq]
  have h1 := (hb1.block _ (by simp)).trans HL.out
  have B1 := Lib.hid (((Below.refl _ w).alloc (Nat.le_refl _) _).trans (hb1.mono (by simp)))
  have z1 : w.heap.size < w1.heap.size := by have := hb1.size; simp at this; omega
  clear hb1
  go_wp2_with fail
  refine (CS.out 97 122 (by decide) (by decide) _).mono ?_
  rintro e w2 ⟨rfl, hb2⟩
  have h2 := (hb2.block w.heap.size (by simp; omega)).trans ((Below.heap_alloc _ _ _ z1).trans h1)
  have d2 := (hb2.block w1.heap.size (by simp)).trans (HY.out w1 Rx.setD)
  have B2 := Lib.hid (B1.out.trans ((((Below.refl _ w1).alloc (Nat.le_refl _) _).trans (hb2.mono (by simp))).mono (Nat.le_of_lt z1)))
  have z2 : w1.heap.size < w2.heap.size := by have := hb2.size; simp at this; omega
  clear hb2
  clear h1 B1
  go_wp2_with fail
  refine (CS.out 65 90 (by decide) (by decide) _).mono ?_
  rintro e w3 ⟨rfl, hb3⟩
  go_wp2_with fail
  refine (CJ.out _ _ (span_ok _ _) (span_ok _ _) _).mono ?_
  rintro e w4 ⟨rfl, hb4⟩
  have hb := hb3.trans (hb4.mono hb3.size)
  rw [setV_eq]
  have h4 := (hb.block w.heap.size (by omega)).trans h2
  have d4 := (hb.block w1.heap.size (by omega)).trans d2
  have z4 : w2.heap.size ≤ w4.heap.size := hb.size
  have B4 := Lib.hid (B2.out.trans (hb.mono (by omega)))
  clear hb hb3 hb4 h2 d2 B2
  have HD : (Set4.span 97 122).join (Set4.span 65 90) = Rx.setL := rfl
  rw [HD]
  clear HD
  have hw5 : ∀ o, Below w4.heap.size w4 (w4.alloc o) := fun o => (Below.refl _ w4).alloc (Nat.le_refl _) o
  have HY4 := Lib.hid (HY.out w4 Rx.setL)
  have h5 := Lib.hid (fun o => ((hw5 o).block w.heap.size (by omega)).trans h4)
  have d5 := Lib.hid (fun o => ((hw5 o).block w1.heap.size (by omega)).trans d4)
  have B5 := Lib.hid (fun o => B4.out.trans ((hw5 o).mono (by omega)))
  clear hw5 h4 d4 B4
  go_wp2_with fail
  refine (CO.out 10 (by decide) _).mono ?_
  rintro e w6 ⟨rfl, hb6⟩
  have h6 := (hb6.block w.heap.size (by simp; omega)).trans (h5.out _)
  have B6 := Lib.hid ((B5.out _).trans (hb6.mono (by simp; omega)))
  clear hb6
  obtain ⟨X, hX⟩ : ∃ X, Set4.only 10 = X := ⟨_, rfl⟩
  have HE := Lib.hid (show setV (Rx.meaning 110) = .agg (setC X) by rw [← hX]; rfl)
  rw [hX]
  clear hX
  unfold setV
  have hn := setRow_heap w6 w.heap.size (setC Set4.none) (setC X) 50 (0, 0) h6
  have h2' := h6
  go_wp2_with (refine wpList_store_row rfl 50 (.tmp 2) (.tmp 12) rfl w.heap.size (setC X) rfl rfl 50 (setC Set4.none) h2' (by kernel_rfl) (HZ.out X) (HO.out X) ?_)
  refine bodyPost_ret (v := .agg (setC X)) ?_ ?_ ?_
  · exact results_cell_row rfl _ _ w.heap.size 50 (setC X) (0, 0) _ rfl hn Tryd.underlying50 rfl (by kernel_rfl)
  · rfl
  · exact ⟨by rw [HE.out], below_setRow (B6.out) (Nat.le_refl _) (setC X)⟩
set_option maxHeartbeats 4000000 in
set_option maxRecDepth 100000 in
theorem meaning_116 (w : World) : Calls Tryd.prog 61 #[.int .u8 116] w fun e w' => e = .returned (setV (Rx.meaning 116)) ∧ Below w.heap.size w w' := by
  have CS := Lib.hid (fun f t hf ht w1 => span_any f t hf ht w1)
  have CJ := Lib.hid (fun x y hx hy w1 => join_any x y hx hy w1)
  have CO := Lib.hid (fun c hc w1 => only_any c hc w1)
  have CH := Lib.hid (fun x hx c hc w1 => has_any x hx c hc w1)
  have HL := Lib.hid (laid_none w)
  have HY := Lib.hid (fun w x => lay_set w x)
  have HZ := Lib.hid (fun X => show (setC Set4.none).size = (setC X).size from rfl)
  have HO := Lib.hid setC_one
  go_enter Tryd.func61, Tryd.ntmps61
  go_wp2_with fail
  refine (CS.out 48 57 (by decide) (by decide) _).mono ?_
  rintro e w1 ⟨rfl, hb1⟩
  rw [setV_eq]
  have h1 := (hb1.block _ (by simp)).trans HL.out
  have B1 := Lib.hid (((Below.refl _ w).alloc (Nat.le_refl _) _).trans (hb1.mono (by simp)))
  have z1 : w.heap.size < w1.heap.size := by have := hb1.size; simp at this; omega
  clear hb1
  go_wp2_with fail
  refine (CS.out 97 122 (by decide) (by decide) _).mono ?_
  rintro e w2 ⟨rfl, hb2⟩
  have h2 := (hb2.block w.heap.size (by simp; omega)).trans ((Below.heap_alloc _ _ _ z1).trans h1)
  have d2 := (hb2.block w1.heap.size (by simp)).trans (HY.out w1 Rx.setD)
  have B2 := Lib.hid (B1.out.trans ((((Below.refl _ w1).alloc (Nat.le_refl _) _).trans (hb2.mono (by simp))).mono (Nat.le_of_lt z1)))
  have z2 : w1.heap.size < w2.heap.size := by have := hb2.size; simp at this; omega
  clear hb2
  clear h1 B1
  go_wp2_with fail
  refine (CS.out 65 90 (by decide) (by decide) _).mono ?_
  rintro e w3 ⟨rfl, hb3⟩
  go_wp2_with fail
  refine (CJ.out _ _ (span_ok _ _) (span_ok _ _) _).mono ?_
  rintro e w4 ⟨rfl, hb4⟩
  have hb := hb3.trans (hb4.mono hb3.size)
  rw [setV_eq]
  have h4 := (hb.block w.heap.size (by omega)).trans h2
  have d4 := (hb.block w1.heap.size (by omega)).trans d2
  have z4 : w2.heap.size ≤ w4.heap.size := hb.size
  have B4 := Lib.hid (B2.out.trans (hb.mono (by omega)))
  clear hb hb3 hb4 h2 d2 B2
  have HD : (Set4.span 97 122).join (Set4.span 65 90) = Rx.setL := rfl
  rw [HD]
  clear HD
  have hw5 : ∀ o, Below w4.heap.size w4 (w4.alloc o) := fun o => (Below.refl _ w4).alloc (Nat.le_refl _) o
  have HY4 := Lib.hid (HY.out w4 Rx.setL)
  have h5 := Lib.hid (fun o => ((hw5 o).block w.heap.size (by omega)).trans h4)
  have d5 := Lib.hid (fun o => ((hw5 o).block w1.heap.size (by omega)).trans d4)
  have B5 := Lib.hid (fun o => B4.out.trans ((hw5 o).mono (by omega)))
  clear hw5 h4 d4 B4
  go_wp2_with fail
  refine (CO.out 9 (by decide) _).mono ?_
  rintro e w6 ⟨rfl, hb6⟩
  have h6 := (hb6.block w.heap.size (by simp; omega)).trans (h5.out _)
  have B6 := Lib.hid ((B5.out _).trans (hb6.mono (by simp; omega)))
  clear hb6
  obtain ⟨X, hX⟩ : ∃ X, Set4.only 9 = X := ⟨_, rfl⟩
  have HE := Lib.hid (show setV (Rx.meaning 116) = .agg (setC X) by rw [← hX]; rfl)
  rw [hX]
  clear hX
  unfold setV
  have hn := setRow_heap w6 w.heap.size (setC Set4.none) (setC X) 50 (0, 0) h6
  have h2' := h6
  go_wp2_with (refine wpList_store_row rfl 50 (.tmp 2) (.tmp 15) rfl w.heap.size (setC X) rfl rfl 50 (setC Set4.none) h2' (by kernel_rfl) (HZ.out X) (HO.out X) ?_)
  refine bodyPost_ret (v := .agg (setC X)) ?_ ?_ ?_
  · exact results_cell_row rfl _ _ w.heap.size 50 (setC X) (0, 0) _ rfl hn Tryd.underlying50 rfl (by kernel_rfl)
  · rfl
  · exact ⟨by rw [HE.out], below_setRow (B6.out) (Nat.le_refl _) (setC X)⟩
set_option maxHeartbeats 4000000 in
set_option maxRecDepth 100000 in
theorem meaning_114 (w : World) : Calls Tryd.prog 61 #[.int .u8 114] w fun e w' => e = .returned (setV (Rx.meaning 114)) ∧ Below w.heap.size w w' := by
  have CS := Lib.hid (fun f t hf ht w1 => span_any f t hf ht w1)
  have CJ := Lib.hid (fun x y hx hy w1 => join_any x y hx hy w1)
  have CO := Lib.hid (fun c hc w1 => only_any c hc w1)
  have CH := Lib.hid (fun x hx c hc w1 => has_any x hx c hc w1)
  have HL := Lib.hid (laid_none w)
  have HY := Lib.hid (fun w x => lay_set w x)
  have HZ := Lib.hid (fun X => show (setC Set4.none).size = (setC X).size from rfl)
  have HO := Lib.hid setC_one
  go_enter Tryd.func61, Tryd.ntmps61
  go_wp2_with fail
  refine (CS.out 48 57 (by decide) (by decide) _).mono ?_
  rintro e w1 ⟨rfl, hb1⟩
  rw [setV_eq]
  have h1 := (hb1.block _ (by simp)).trans HL.out
  have B1 := Lib.hid (((Below.refl _ w).alloc (Nat.le_refl _) _).trans (hb1.mono (by simp)))
  have z1 : w.heap.size < w1.heap.size := by have := hb1.size; simp at this; omega
  clear hb1
  go_wp2_with fail
  refine (CS.out 97 122 (by decide) (by decide) _).mono ?_
  rintro e w2 ⟨rfl, hb2⟩
  have h2 := (hb2.block w.heap.size (by simp; omega)).trans ((Below.heap_alloc _ _ _ z1).trans h1)
  have d2 := (hb2.block w1.heap.size (by simp)).trans (HY.out w1 Rx.setD)
  have B2 := Lib.hid (B1.out.trans ((((Below.refl _ w1).alloc (Nat.le_refl _) _).trans (hb2.mono (by simp))).mono (Nat.le_of_lt z1)))
  have z2 : w1.heap.size < w2.heap.size := by have := hb2.size; simp at this; omega
  clear hb2
  clear h1 B1
  go_wp2_with fail
  refine (CS.out 65 90 (by decide) (by decide) _).mono ?_
  rintro e w3 ⟨rfl, hb3⟩
  go_wp2_with fail
  refine (CJ.out _ _ (span_ok _ _) (span_ok _ _) _).mono ?_
  rintro e w4 ⟨rfl, hb4⟩
  have hb := hb3.trans (hb4.mono hb3.size)
  rw [setV_eq]
  have h4 := (hb.block w.heap.size (by omega)).trans h2
  have d4 := (hb.block w1.heap.size (by omega)).trans d2
  have z4 : w2.heap.size ≤ w4.heap.size := hb.size
  have B4 := Lib.hid (B2.out.trans (hb.mono (by omega)))
  clear hb hb3 hb4 h2 d2 B2
  have HD : (Set4.span 97 122).join (Set4.span 65 90) = Rx.setL := rfl
  rw [HD]
  clear HD
  have hw5 : ∀ o, Below w4.heap.size w4 (w4.alloc o) := fun o => (Below.refl _ w4).alloc (Nat.le_refl _) o
  have HY4 := Lib.hid (HY.out w4 Rx.setL)
  have h5 := Lib.hid (fun o => ((hw5 o).block w.heap.size (by omega)).trans h4)
  have d5 := Lib.hid (fun o => ((hw5 o).block w1.heap.size (by omega)).trans d4)
  have B5 := Lib.hid (fun o => B4.out.trans ((hw5 o).mono (by omega)))
  clear hw5 h4 d4 B4
  go_wp2_with fail
  refine (CO.out 13 (by decide) _).mono ?_
  rintro e w6 ⟨rfl, hb6⟩
  have h6 := (hb6.block w.heap.size (by simp; omega)).trans (h5.out _)
  have B6 := Lib.hid ((B5.out _).trans (hb6.mono (by simp; omega)))
  clear hb6
  obtain ⟨X, hX⟩ : ∃ X, Set4.only 13 = X := ⟨_, rfl⟩
  have HE := Lib.hid (show setV (Rx.meaning 114) = .agg (setC X) by rw [← hX]; rfl)
  rw [hX]
  clear hX
  unfold setV
  have hn := setRow_heap w6 w.heap.size (setC Set4.none) (setC X) 50 (0, 0) h6
  have h2' := h6
  go_wp2_with (refine wpList_store_row rfl 50 (.tmp 2) (.tmp 18) rfl w.heap.size (setC X) rfl rfl 50 (setC Set4.none) h2' (by kernel_rfl) (HZ.out X) (HO.out X) ?_)
  refine bodyPost_ret (v := .agg (setC X)) ?_ ?_ ?_
  · exact results_cell_row rfl _ _ w.heap.size 50 (setC X) (0, 0) _ rfl hn Tryd.underlying50 rfl (by kernel_rfl)
  · rfl
  · exact ⟨by rw [HE.out], below_setRow (B6.out) (Nat.le_refl _) (setC X)⟩
set_option maxHeartbeats 4000000 in
set_option maxRecDepth 100000 in
theorem meaning_100 (w : World) : Calls Tryd.prog 61 #[.int .u8 100] w fun e w' => e = .returned (setV (Rx.meaning 100)) ∧ Below w.heap.size w w' := by
  have CS := Lib.hid (fun f t hf ht w1 => span_any f t hf ht w1)
  have CJ := Lib.hid (fun x y hx hy w1 => join_any x y hx hy w1)
  have CO := Lib.hid (fun c hc w1 => only_any c hc w1)
  have CH := Lib.hid (fun x hx c hc w1 => has_any x hx c hc w1)
  have HL := Lib.hid (laid_none w)
  have HY := Lib.hid (fun w x => lay_set w x)
  have HZ := Lib.hid (fun X => show (setC Set4.none).size = (setC X).size from rfl)
  have HO := Lib.hid setC_one
  go_enter Tryd.func61, Tryd.ntmps61
  go_wp2_with fail
  refine (CS.out 48 57 (by decide) (by decide) _).mono ?_
  rintro e w1 ⟨rfl, hb1⟩
  rw [setV_eq]
  have h1 := (hb1.block _ (by simp)).trans HL.out
  have B1 := Lib.hid (((Below.refl _ w).alloc (Nat.le_refl _) _).trans (hb1.mono (by simp)))
  have z1 : w.heap.size < w1.heap.size := by have := hb1.size; simp at this; omega
  clear hb1
  go_wp2_with fail
  refine (CS.out 97 122 (by decide) (by decide) _).mono ?_
  rintro e w2 ⟨rfl, hb2⟩
  have h2 := (hb2.block w.heap.size (by simp; omega)).trans ((Below.heap_alloc _ _ _ z1).trans h1)
  have d2 := (hb2.block w1.heap.size (by simp)).trans (HY.out w1 Rx.setD)
  have B2 := Lib.hid (B1.out.trans ((((Below.refl _ w1).alloc (Nat.le_refl _) _).trans (hb2.mono (by simp))).mono (Nat.le_of_lt z1)))
  have z2 : w1.heap.size < w2.heap.size := by have := hb2.size; simp at this; omega
  clear hb2
  clear h1 B1
  go_wp2_with fail
  refine (CS.out 65 90 (by decide) (by decide) _).mono ?_
  rintro e w3 ⟨rfl, hb3⟩
  go_wp2_with fail
  refine (CJ.out _ _ (span_ok _ _) (span_ok _ _) _).mono ?_
  rintro e w4 ⟨rfl, hb4⟩
  have hb := hb3.trans (hb4.mono hb3.size)
  rw [setV_eq]
  have h4 := (hb.block w.heap.size (by omega)).trans h2
  have d4 := (hb.block w1.heap.size (by omega)).trans d2
  have z4 : w2.heap.size ≤ w4.heap.size := hb.size
  have B4 := Lib.hid (B2.out.trans (hb.mono (by omega)))
  clear hb hb3 hb4 h2 d2 B2
  have HD : (Set4.span 97 122).join (Set4.span 65 90) = Rx.setL := rfl
  rw [HD]
  clear HD
  have hw5 : ∀ o, Below w4.heap.size w4 (w4.alloc o) := fun o => (Below.refl _ w4).alloc (Nat.le_refl _) o
  have HY4 := Lib.hid (HY.out w4 Rx.setL)
  have h5 := Lib.hid (fun o => ((hw5 o).block w.heap.size (by omega)).trans h4)
  have d5 := Lib.hid (fun o => ((hw5 o).block w1.heap.size (by omega)).trans d4)
  have B5 := Lib.hid (fun o => B4.out.trans ((hw5 o).mono (by omega)))
  clear hw5 h4 d4 B4
  have h6 := h5.out (.cells #[Value.int .u64 ((Rx.setL.a : Nat) : Int), .int .u64 ((Rx.setL.b : Nat) : Int), .int .u64 ((Rx.setL.c : Nat) : Int), .int .u64 ((Rx.setL.d : Nat) : Int)] 50)
  have d6 := d5.out (.cells #[Value.int .u64 ((Rx.setL.a : Nat) : Int), .int .u64 ((Rx.setL.b : Nat) : Int), .int .u64 ((Rx.setL.c : Nat) : Int), .int .u64 ((Rx.setL.d : Nat) : Int)] 50)
  have B6 := Lib.hid (B5.out (.cells #[Value.int .u64 ((Rx.setL.a : Nat) : Int), .int .u64 ((Rx.setL.b : Nat) : Int), .int .u64 ((Rx.setL.c : Nat) : Int), .int .u64 ((Rx.setL.d : Nat) : Int)] 50))
  have hn := setRow_heap (w4.alloc (.cells #[Value.int .u64 ((Rx.setL.a : Nat) : Int), .int .u64 ((Rx.setL.b : Nat) : Int), .int .u64 ((Rx.setL.c : Nat) : Int), .int .u64 ((Rx.setL.d : Nat) : Int)] 50)) w.heap.size (setC Set4.none) (setC Rx.setD) 50 (0, 0) h6
  go_wp2_with (first | (refine wpList_load_row rfl 50 (.tmp 3) rfl (w1.heap.size) rfl 50 (setC Rx.setD) (0, 0) _ d6 Tryd.underlying50 rfl (by kernel_rfl) ?_) | (refine wpList_store_row rfl 50 (.tmp 2) (.tmp 21) rfl w.heap.size (setC Rx.setD) rfl rfl 50 (setC Set4.none) h6 (by kernel_rfl) (HZ.out Rx.setD) (HO.out Rx.setD) ?_))
  refine bodyPost_ret (v := .agg (setC Rx.setD)) ?_ ?_ ?_
  · exact results_cell_row rfl _ _ w.heap.size 50 (setC Rx.setD) (0, 0) _ rfl hn Tryd.underlying50 rfl (by kernel_rfl)
  · rfl
  · exact ⟨rfl, below_setRow (B6.out) (Nat.le_refl _) (setC Rx.setD)⟩
set_option maxHeartbeats 4000000 in
set_option maxRecDepth 100000 in
theorem meaning_119 (w : World) : Calls Tryd.prog 61 #[.int .u8 119] w fun e w' => e = .returned (setV (Rx.meaning 119)) ∧ Below w.heap.size w w' := by
  have CS := Lib.hid (fun f t hf ht w1 => span_any f t hf ht w1)
  have CJ := Lib.hid (fun x y hx hy w1 => join_any x y hx hy w1)
  have CO := Lib.hid (fun c hc w1 => only_any c hc w1)
  have CH := Lib.hid (fun x hx c hc w1 => has_any x hx c hc w1)
  have HL := Lib.hid (laid_none w)
  have HY := Lib.hid (fun w x => lay_set w x)
  have HZ := Lib.hid (fun X => show (setC Set4.none).size = (setC X).size from rfl)
  have HO := Lib.hid setC_one
  go_enter Tryd.func61, Tryd.ntmps61
  go_wp2_with fail
  refine (CS.out 48 57 (by decide) (by decide) _).mono ?_
  rintro e w1 ⟨rfl, hb1⟩
  rw [setV_eq]
  have h1 := (hb1.block _ (by simp)).trans HL.out
  have B1 := Lib.hid (((Below.refl _ w).alloc (Nat.le_refl _) _).trans (hb1.mono (by simp)))
  have z1 : w.heap.size < w1.heap.size := by have := hb1.size; simp at this; omega
  clear hb1
  go_wp2_with fail
  refine (CS.out 97 122 (by decide) (by decide) _).mono ?_
  rintro e w2 ⟨rfl, hb2⟩
  have h2 := (hb2.block w.heap.size (by simp; omega)).trans ((Below.heap_alloc _ _ _ z1).trans h1)
  have d2 := (hb2.block w1.heap.size (by simp)).trans (HY.out w1 Rx.setD)
  have B2 := Lib.hid (B1.out.trans ((((Below.refl _ w1).alloc (Nat.le_refl _) _).trans (hb2.mono (by simp))).mono (Nat.le_of_lt z1)))
  have z2 : w1.heap.size < w2.heap.size := by have := hb2.size; simp at this; omega
  clear hb2
  clear h1 B1
  go_wp2_with fail
  refine (CS.out 65 90 (by decide) (by decide) _).mono ?_
  rintro e w3 ⟨rfl, hb3⟩
  go_wp2_with fail
  refine (CJ.out _ _ (span_ok _ _) (span_ok _ _) _).mono ?_
  rintro e w4 ⟨rfl, hb4⟩
  have hb := hb3.trans (hb4.mono hb3.size)
  rw [setV_eq]
  have h4 := (hb.block w.heap.size (by omega)).trans h2
  have d4 := (hb.block w1.heap.size (by omega)).trans d2
  have z4 : w2.heap.size ≤ w4.heap.size := hb.size
  have B4 := Lib.hid (B2.out.trans (hb.mono (by omega)))
  clear hb hb3 hb4 h2 d2 B2
  have HD : (Set4.span 97 122).join (Set4.span 65 90) = Rx.setL := rfl
  rw [HD]
  clear HD
  have hw5 : ∀ o, Below w4.heap.size w4 (w4.alloc o) := fun o => (Below.refl _ w4).alloc (Nat.le_refl _) o
  have HY4 := Lib.hid (HY.out w4 Rx.setL)
  have h5 := Lib.hid (fun o => ((hw5 o).block w.heap.size (by omega)).trans h4)
  have d5 := Lib.hid (fun o => ((hw5 o).block w1.heap.size (by omega)).trans d4)
  have B5 := Lib.hid (fun o => B4.out.trans ((hw5 o).mono (by omega)))
  clear hw5 h4 d4 B4
  have h6 := h5.out (.cells #[Value.int .u64 ((Rx.setL.a : Nat) : Int), .int .u64 ((Rx.setL.b : Nat) : Int), .int .u64 ((Rx.setL.c : Nat) : Int), .int .u64 ((Rx.setL.d : Nat) : Int)] 50)
  have d6 := d5.out (.cells #[Value.int .u64 ((Rx.setL.a : Nat) : Int), .int .u64 ((Rx.setL.b : Nat) : Int), .int .u64 ((Rx.setL.c : Nat) : Int), .int .u64 ((Rx.setL.d : Nat) : Int)] 50)
  have l6 := HY4.out
  have B6 := Lib.hid (B5.out (.cells #[Value.int .u64 ((Rx.setL.a : Nat) : Int), .int .u64 ((Rx.setL.b : Nat) : Int), .int .u64 ((Rx.setL.c : Nat) : Int), .int .u64 ((Rx.setL.d : Nat) : Int)] 50))
  go_wp2_with (first | (refine wpList_load_row rfl 50 (.tmp 4) rfl (w4.heap.size) rfl 50 (setC Rx.setL) (0, 0) _ l6 Tryd.underlying50 rfl (by kernel_rfl) ?_) | (refine wpList_load_row rfl 50 (.tmp 3) rfl (w1.heap.size) rfl 50 (setC Rx.setD) (0, 0) _ d6 Tryd.underlying50 rfl (by kernel_rfl) ?_))
  refine (CJ.out Rx.setL Rx.setD (join_ok (span_ok _ _) (span_ok _ _)) (span_ok _ _) _).mono ?_
  rintro e w6 ⟨rfl, hb6⟩
  go_wp2_with fail
  refine (CO.out 95 (by decide) _).mono ?_
  rintro e w7 ⟨rfl, hb7⟩
  go_wp2_with fail
  refine (CJ.out (Rx.setL.join Rx.setD) (Set4.only 95) (join_ok (join_ok (span_ok _ _) (span_ok _ _)) (span_ok _ _)) (only_ok _) _).mono ?_
  rintro e w8 ⟨rfl, hb8⟩
  have hb := (hb6.trans (hb7.mono hb6.size)).trans (hb8.mono (Nat.le_trans hb6.size hb7.size))
  have h8 := (hb.block w.heap.size (by simp; omega)).trans h6
  have B8 := Lib.hid (B6.out.trans (hb.mono (by simp; omega)))
  clear hb hb6 hb7 hb8
  obtain ⟨X, hX⟩ : ∃ X, (Rx.setL.join Rx.setD).join (Set4.only 95) = X := ⟨_, rfl⟩
  have HE := Lib.hid (show setV (Rx.meaning 119) = .agg (setC X) by rw [← hX]; rfl)
  rw [hX]
  clear hX
  unfold setV
  have hn := setRow_heap w8 w.heap.size (setC Set4.none) (setC X) 50 (0, 0) h8
  have h2' := h8
  go_wp2_with (refine wpList_store_row rfl 50 (.tmp 2) (.tmp 28) rfl w.heap.size (setC X) rfl rfl 50 (setC Set4.none) h2' (by kernel_rfl) (HZ.out X) (HO.out X) ?_)
  refine bodyPost_ret (v := .agg (setC X)) ?_ ?_ ?_
  · exact results_cell_row rfl _ _ w.heap.size 50 (setC X) (0, 0) _ rfl hn Tryd.underlying50 rfl (by kernel_rfl)
  · rfl
  · exact ⟨by rw [HE.out], below_setRow (B8.out) (Nat.le_refl _) (setC X)⟩
set_option maxHeartbeats 4000000 in
set_option maxRecDepth 100000 in
theorem meaning_115 (w : World) : Calls Tryd.prog 61 #[.int .u8 115] w fun e w' => e = .returned (setV (Rx.meaning 115)) ∧ Below w.heap.size w w' := by
  have CS := Lib.hid (fun f t hf ht w1 => span_any f t hf ht w1)
  have CJ := Lib.hid (fun x y hx hy w1 => join_any x y hx hy w1)
  have CO := Lib.hid (fun c hc w1 => only_any c hc w1)
  have CH := Lib.hid (fun x hx c hc w1 => has_any x hx c hc w1)
  have HL := Lib.hid (laid_none w)
  have HY := Lib.hid (fun w x => lay_set w x)
  have HZ := Lib.hid (fun X => show (setC Set4.none).size = (setC X).size from rfl)
  have HO := Lib.hid setC_one
  go_enter Tryd.func61, Tryd.ntmps61
  go_wp2_with fail
  refine (CS.out 48 57 (by decide) (by decide) _).mono ?_
  rintro e w1 ⟨rfl, hb1⟩
  rw [setV_eq]
  have h1 := (hb1.block _ (by simp)).trans HL.out
  have B1 := Lib.hid (((Below.refl _ w).alloc (Nat.le_refl _) _).trans (hb1.mono (by simp)))
  have z1 : w.heap.size < w1.heap.size := by have := hb1.size; simp at this; omega
  clear hb1
  go_wp2_with fail
  refine (CS.out 97 122 (by decide) (by decide) _).mono ?_
  rintro e w2 ⟨rfl, hb2⟩
  have h2 := (hb2.block w.heap.size (by simp; omega)).trans ((Below.heap_alloc _ _ _ z1).trans h1)
  have d2 := (hb2.block w1.heap.size (by simp)).trans (HY.out w1 Rx.setD)
  have B2 := Lib.hid (B1.out.trans ((((Below.refl _ w1).alloc (Nat.le_refl _) _).trans (hb2.mono (by simp))).mono (Nat.le_of_lt z1)))
  have z2 : w1.heap.size < w2.heap.size := by have := hb2.size; simp at this; omega
  clear hb2
  clear h1 B1
  go_wp2_with fail
  refine (CS.out 65 90 (by decide) (by decide) _).mono ?_
  rintro e w3 ⟨rfl, hb3⟩
  go_wp2_with fail
  refine (CJ.out _ _ (span_ok _ _) (span_ok _ _) _).mono ?_
  rintro e w4 ⟨rfl, hb4⟩
  have hb := hb3.trans (hb4.mono hb3.size)
  rw [setV_eq]
  have h4 := (hb.block w.heap.size (by omega)).trans h2
  have d4 := (hb.block w1.heap.size (by omega)).trans d2
  have z4 : w2.heap.size ≤ w4.heap.size := hb.size
  have B4 := Lib.hid (B2.out.trans (hb.mono (by omega)))
  clear hb hb3 hb4 h2 d2 B2
  have HD : (Set4.span 97 122).join (Set4.span 65 90) = Rx.setL := rfl
  rw [HD]
  clear HD
  have hw5 : ∀ o, Below w4.heap.size w4 (w4.alloc o) := fun o => (Below.refl _ w4).alloc (Nat.le_refl _) o
  have HY4 := Lib.hid (HY.out w4 Rx.setL)
  have h5 := Lib.hid (fun o => ((hw5 o).block w.heap.size (by omega)).trans h4)
  have d5 := Lib.hid (fun o => ((hw5 o).block w1.heap.size (by omega)).trans d4)
  have B5 := Lib.hid (fun o => B4.out.trans ((hw5 o).mono (by omega)))
  clear hw5 h4 d4 B4
  go_wp2_with fail
  refine (CO.out 32 (by decide) _).mono ?_
  rintro e w6 ⟨rfl, hb6⟩
  have h6 := (hb6.block w.heap.size (by simp; omega)).trans (h5.out _)
  have B6 := Lib.hid ((B5.out _).trans (hb6.mono (by simp; omega)))
  have z6 : w4.heap.size < w6.heap.size := by have := hb6.size; simp at this; omega
  clear hb6
  go_wp2_with fail
  refine (CS.out 9 10 (by decide) (by decide) _).mono ?_
  rintro e w7 ⟨rfl, hb7⟩
  go_wp2_with fail
  refine (CJ.out _ _ (only_ok _) (span_ok _ _) _).mono ?_
  rintro e w8 ⟨rfl, hb8⟩
  go_wp2_with fail
  refine (CS.out 12 13 (by decide) (by decide) _).mono ?_
  rintro e w9 ⟨rfl, hb9⟩
  go_wp2_with fail
  refine (CJ.out _ _ (join_ok (only_ok _) (span_ok _ _)) (span_ok _ _) _).mono ?_
  rintro e wa ⟨rfl, hba⟩
  have hb := ((hb7.trans (hb8.mono hb7.size)).trans (hb9.mono (Nat.le_trans hb7.size hb8.size))).trans (hba.mono (Nat.le_trans (Nat.le_trans hb7.size hb8.size) hb9.size))
  have ha := (hb.block w.heap.size (by omega)).trans h6
  have BA := Lib.hid (B6.out.trans (hb.mono (by omega)))
  clear hb hb7 hb8 hb9 hba
  obtain ⟨X, hX⟩ : ∃ X, ((Set4.only 32).join (Set4.span 9 10)).join (Set4.span 12 13) = X := ⟨_, rfl⟩
  have HE := Lib.hid (show setV (Rx.meaning 115) = .agg (setC X) by rw [← hX]; rfl)
  rw [hX]
  clear hX
  unfold setV
  have hn := setRow_heap wa w.heap.size (setC Set4.none) (setC X) 50 (0, 0) ha
  have h2' := ha
  go_wp2_with (refine wpList_store_row rfl 50 (.tmp 2) (.tmp 35) rfl w.heap.size (setC X) rfl rfl 50 (setC Set4.none) h2' (by kernel_rfl) (HZ.out X) (HO.out X) ?_)
  refine bodyPost_ret (v := .agg (setC X)) ?_ ?_ ?_
  · exact results_cell_row rfl _ _ w.heap.size 50 (setC X) (0, 0) _ rfl hn Tryd.underlying50 rfl (by kernel_rfl)
  · rfl
  · exact ⟨by rw [HE.out], below_setRow (BA.out) (Nat.le_refl _) (setC X)⟩
set_option maxHeartbeats 4000000 in
set_option maxRecDepth 100000 in
theorem meaning_68 (w : World) : Calls Tryd.prog 61 #[.int .u8 68] w fun e w' => e = .returned (setV (Rx.meaning 68)) ∧ Below w.heap.size w w' := by
  have CS := Lib.hid (fun f t hf ht w1 => span_any f t hf ht w1)
  have CJ := Lib.hid (fun x y hx hy w1 => join_any x y hx hy w1)
  have CO := Lib.hid (fun c hc w1 => only_any c hc w1)
  have CH := Lib.hid (fun x hx c hc w1 => has_any x hx c hc w1)
  have HL := Lib.hid (laid_none w)
  have HY := Lib.hid (fun w x => lay_set w x)
  have HZ := Lib.hid (fun X => show (setC Set4.none).size = (setC X).size from rfl)
  have HO := Lib.hid setC_one
  have CR := Lib.hid (fun w1 => meaning_100 w1)
  have CX := Lib.hid (fun x hx w1 => others_any x hx w1)
  have HOK := Lib.hid (show (Rx.meaning 100).Ok from span_ok _ _)
  go_enter Tryd.func61, Tryd.ntmps61
  go_wp2_with fail
  refine (CS.out 48 57 (by decide) (by decide) _).mono ?_
  rintro e w1 ⟨rfl, hb1⟩
  rw [setV_eq]
  have h1 := (hb1.block _ (by simp)).trans HL.out
  have B1 := Lib.hid (((Below.refl _ w).alloc (Nat.le_refl _) _).trans (hb1.mono (by simp)))
  have z1 : w.heap.size < w1.heap.size := by have := hb1.size; simp at this; omega
  clear hb1
  go_wp2_with fail
  refine (CS.out 97 122 (by decide) (by decide) _).mono ?_
  rintro e w2 ⟨rfl, hb2⟩
  have h2 := (hb2.block w.heap.size (by simp; omega)).trans ((Below.heap_alloc _ _ _ z1).trans h1)
  have d2 := (hb2.block w1.heap.size (by simp)).trans (HY.out w1 Rx.setD)
  have B2 := Lib.hid (B1.out.trans ((((Below.refl _ w1).alloc (Nat.le_refl _) _).trans (hb2.mono (by simp))).mono (Nat.le_of_lt z1)))
  have z2 : w1.heap.size < w2.heap.size := by have := hb2.size; simp at this; omega
  clear hb2
  clear h1 B1
  go_wp2_with fail
  refine (CS.out 65 90 (by decide) (by decide) _).mono ?_
  rintro e w3 ⟨rfl, hb3⟩
  go_wp2_with fail
  refine (CJ.out _ _ (span_ok _ _) (span_ok _ _) _).mono ?_
  rintro e w4 ⟨rfl, hb4⟩
  have hb := hb3.trans (hb4.mono hb3.size)
  rw [setV_eq]
  have h4 := (hb.block w.heap.size (by omega)).trans h2
  have d4 := (hb.block w1.heap.size (by omega)).trans d2
  have z4 : w2.heap.size ≤ w4.heap.size := hb.size
  have B4 := Lib.hid (B2.out.trans (hb.mono (by omega)))
  clear hb hb3 hb4 h2 d2 B2
  have HD : (Set4.span 97 122).join (Set4.span 65 90) = Rx.setL := rfl
  rw [HD]
  clear HD
  have hw5 : ∀ o, Below w4.heap.size w4 (w4.alloc o) := fun o => (Below.refl _ w4).alloc (Nat.le_refl _) o
  have HY4 := Lib.hid (HY.out w4 Rx.setL)
  have h5 := Lib.hid (fun o => ((hw5 o).block w.heap.size (by omega)).trans h4)
  have d5 := Lib.hid (fun o => ((hw5 o).block w1.heap.size (by omega)).trans d4)
  have B5 := Lib.hid (fun o => B4.out.trans ((hw5 o).mono (by omega)))
  clear hw5 h4 d4 B4
  go_wp2_with fail
  refine (CR.out _).mono ?_
  rintro e w6 ⟨rfl, hb6⟩
  have h6 := (hb6.block w.heap.size (by simp; omega)).trans (h5.out _)
  have B6 := Lib.hid ((B5.out _).trans (hb6.mono (by simp; omega)))
  have z6 : w4.heap.size < w6.heap.size := by have := hb6.size; simp at this; omega
  clear hb6
  go_wp2_with fail
  refine (CX.out _ HOK.out _).mono ?_
  rintro e w7 ⟨rfl, hb7⟩
  have h7 := (hb7.block w.heap.size (by omega)).trans h6
  have B7 := Lib.hid (B6.out.trans (hb7.mono (by omega)))
  clear hb7
  obtain ⟨X, hX⟩ : ∃ X, (Rx.meaning 100).others = X := ⟨_, rfl⟩
  have HE := Lib.hid (show setV (Rx.meaning 68) = .agg (setC X) by rw [← hX]; rfl)
  rw [hX]
  clear hX
  unfold setV
  have hn := setRow_heap w7 w.heap.size (setC Set4.none) (setC X) 50 (0, 0) h7
  have h2' := h7
  go_wp2_with (refine wpList_store_row rfl 50 (.tmp 2) (.tmp 44) rfl w.heap.size (setC X) rfl rfl 50 (setC Set4.none) h2' (by kernel_rfl) (HZ.out X) (HO.out X) ?_)
  refine bodyPost_ret (v := .agg (setC X)) ?_ ?_ ?_
  · exact results_cell_row rfl _ _ w.heap.size 50 (setC X) (0, 0) _ rfl hn Tryd.underlying50 rfl (by kernel_rfl)
  · rfl
  · exact ⟨by rw [HE.out], below_setRow (B7.out) (Nat.le_refl _) (setC X)⟩
set_option maxHeartbeats 4000000 in
set_option maxRecDepth 100000 in
theorem meaning_87 (w : World) : Calls Tryd.prog 61 #[.int .u8 87] w fun e w' => e = .returned (setV (Rx.meaning 87)) ∧ Below w.heap.size w w' := by
  have CS := Lib.hid (fun f t hf ht w1 => span_any f t hf ht w1)
  have CJ := Lib.hid (fun x y hx hy w1 => join_any x y hx hy w1)
  have CO := Lib.hid (fun c hc w1 => only_any c hc w1)
  have CH := Lib.hid (fun x hx c hc w1 => has_any x hx c hc w1)
  have HL := Lib.hid (laid_none w)
  have HY := Lib.hid (fun w x => lay_set w x)
  have HZ := Lib.hid (fun X => show (setC Set4.none).size = (setC X).size from rfl)
  have HO := Lib.hid setC_one
  have CR := Lib.hid (fun w1 => meaning_119 w1)
  have CX := Lib.hid (fun x hx w1 => others_any x hx w1)
  have HOK := Lib.hid (show (Rx.meaning 119).Ok from join_ok (join_ok (join_ok (span_ok _ _) (span_ok _ _)) (span_ok _ _)) (only_ok _))
  go_enter Tryd.func61, Tryd.ntmps61
  go_wp2_with fail
  refine (CS.out 48 57 (by decide) (by decide) _).mono ?_
  rintro e w1 ⟨rfl, hb1⟩
  rw [setV_eq]
  have h1 := (hb1.block _ (by simp)).trans HL.out
  have B1 := Lib.hid (((Below.refl _ w).alloc (Nat.le_refl _) _).trans (hb1.mono (by simp)))
  have z1 : w.heap.size < w1.heap.size := by have := hb1.size; simp at this; omega
  clear hb1
  go_wp2_with fail
  refine (CS.out 97 122 (by decide) (by decide) _).mono ?_
  rintro e w2 ⟨rfl, hb2⟩
  have h2 := (hb2.block w.heap.size (by simp; omega)).trans ((Below.heap_alloc _ _ _ z1).trans h1)
  have d2 := (hb2.block w1.heap.size (by simp)).trans (HY.out w1 Rx.setD)
  have B2 := Lib.hid (B1.out.trans ((((Below.refl _ w1).alloc (Nat.le_refl _) _).trans (hb2.mono (by simp))).mono (Nat.le_of_lt z1)))
  have z2 : w1.heap.size < w2.heap.size := by have := hb2.size; simp at this; omega
  clear hb2
  clear h1 B1
  go_wp2_with fail
  refine (CS.out 65 90 (by decide) (by decide) _).mono ?_
  rintro e w3 ⟨rfl, hb3⟩
  go_wp2_with fail
  refine (CJ.out _ _ (span_ok _ _) (span_ok _ _) _).mono ?_
  rintro e w4 ⟨rfl, hb4⟩
  have hb := hb3.trans (hb4.mono hb3.size)
  rw [setV_eq]
  have h4 := (hb.block w.heap.size (by omega)).trans h2
  have d4 := (hb.block w1.heap.size (by omega)).trans d2
  have z4 : w2.heap.size ≤ w4.heap.size := hb.size
  have B4 := Lib.hid (B2.out.trans (hb.mono (by omega)))
  clear hb hb3 hb4 h2 d2 B2
  have HD : (Set4.span 97 122).join (Set4.span 65 90) = Rx.setL := rfl
  rw [HD]
  clear HD
  have hw5 : ∀ o, Below w4.heap.size w4 (w4.alloc o) := fun o => (Below.refl _ w4).alloc (Nat.le_refl _) o
  have HY4 := Lib.hid (HY.out w4 Rx.setL)
  have h5 := Lib.hid (fun o => ((hw5 o).block w.heap.size (by omega)).trans h4)
  have d5 := Lib.hid (fun o => ((hw5 o).block w1.heap.size (by omega)).trans d4)
  have B5 := Lib.hid (fun o => B4.out.trans ((hw5 o).mono (by omega)))
  clear hw5 h4 d4 B4
  go_wp2_with fail
  refine (CR.out _).mono ?_
  rintro e w6 ⟨rfl, hb6⟩
  have h6 := (hb6.block w.heap.size (by simp; omega)).trans (h5.out _)
  have B6 := Lib.hid ((B5.out _).trans (hb6.mono (by simp; omega)))
  have z6 : w4.heap.size < w6.heap.size := by have := hb6.size; simp at this; omega
  clear hb6
  go_wp2_with fail
  refine (CX.out _ HOK.out _).mono ?_
  rintro e w7 ⟨rfl, hb7⟩
  have h7 := (hb7.block w.heap.size (by omega)).trans h6
  have B7 := Lib.hid (B6.out.trans (hb7.mono (by omega)))
  clear hb7
  obtain ⟨X, hX⟩ : ∃ X, (Rx.meaning 119).others = X := ⟨_, rfl⟩
  have HE := Lib.hid (show setV (Rx.meaning 87) = .agg (setC X) by rw [← hX]; rfl)
  rw [hX]
  clear hX
  unfold setV
  have hn := setRow_heap w7 w.heap.size (setC Set4.none) (setC X) 50 (0, 0) h7
  have h2' := h7
  go_wp2_with (refine wpList_store_row rfl 50 (.tmp 2) (.tmp 44) rfl w.heap.size (setC X) rfl rfl 50 (setC Set4.none) h2' (by kernel_rfl) (HZ.out X) (HO.out X) ?_)
  refine bodyPost_ret (v := .agg (setC X)) ?_ ?_ ?_
  · exact results_cell_row rfl _ _ w.heap.size 50 (setC X) (0, 0) _ rfl hn Tryd.underlying50 rfl (by kernel_rfl)
  · rfl
  · exact ⟨by rw [HE.out], below_setRow (B7.out) (Nat.le_refl _) (setC X)⟩
set_option maxHeartbeats 4000000 in
set_option maxRecDepth 100000 in
theorem meaning_83 (w : World) : Calls Tryd.prog 61 #[.int .u8 83] w fun e w' => e = .returned (setV (Rx.meaning 83)) ∧ Below w.heap.size w w' := by
  have CS := Lib.hid (fun f t hf ht w1 => span_any f t hf ht w1)
  have CJ := Lib.hid (fun x y hx hy w1 => join_any x y hx hy w1)
  have CO := Lib.hid (fun c hc w1 => only_any c hc w1)
  have CH := Lib.hid (fun x hx c hc w1 => has_any x hx c hc w1)
  have HL := Lib.hid (laid_none w)
  have HY := Lib.hid (fun w x => lay_set w x)
  have HZ := Lib.hid (fun X => show (setC Set4.none).size = (setC X).size from rfl)
  have HO := Lib.hid setC_one
  have CR := Lib.hid (fun w1 => meaning_115 w1)
  have CX := Lib.hid (fun x hx w1 => others_any x hx w1)
  have HOK := Lib.hid (show (Rx.meaning 115).Ok from join_ok (join_ok (only_ok _) (span_ok _ _)) (span_ok _ _))
  go_enter Tryd.func61, Tryd.ntmps61
  go_wp2_with fail
  refine (CS.out 48 57 (by decide) (by decide) _).mono ?_
  rintro e w1 ⟨rfl, hb1⟩
  rw [setV_eq]
  have h1 := (hb1.block _ (by simp)).trans HL.out
  have B1 := Lib.hid (((Below.refl _ w).alloc (Nat.le_refl _) _).trans (hb1.mono (by simp)))
  have z1 : w.heap.size < w1.heap.size := by have := hb1.size; simp at this; omega
  clear hb1
  go_wp2_with fail
  refine (CS.out 97 122 (by decide) (by decide) _).mono ?_
  rintro e w2 ⟨rfl, hb2⟩
  have h2 := (hb2.block w.heap.size (by simp; omega)).trans ((Below.heap_alloc _ _ _ z1).trans h1)
  have d2 := (hb2.block w1.heap.size (by simp)).trans (HY.out w1 Rx.setD)
  have B2 := Lib.hid (B1.out.trans ((((Below.refl _ w1).alloc (Nat.le_refl _) _).trans (hb2.mono (by simp))).mono (Nat.le_of_lt z1)))
  have z2 : w1.heap.size < w2.heap.size := by have := hb2.size; simp at this; omega
  clear hb2
  clear h1 B1
  go_wp2_with fail
  refine (CS.out 65 90 (by decide) (by decide) _).mono ?_
  rintro e w3 ⟨rfl, hb3⟩
  go_wp2_with fail
  refine (CJ.out _ _ (span_ok _ _) (span_ok _ _) _).mono ?_
  rintro e w4 ⟨rfl, hb4⟩
  have hb := hb3.trans (hb4.mono hb3.size)
  rw [setV_eq]
  have h4 := (hb.block w.heap.size (by omega)).trans h2
  have d4 := (hb.block w1.heap.size (by omega)).trans d2
  have z4 : w2.heap.size ≤ w4.heap.size := hb.size
  have B4 := Lib.hid (B2.out.trans (hb.mono (by omega)))
  clear hb hb3 hb4 h2 d2 B2
  have HD : (Set4.span 97 122).join (Set4.span 65 90) = Rx.setL := rfl
  rw [HD]
  clear HD
  have hw5 : ∀ o, Below w4.heap.size w4 (w4.alloc o) := fun o => (Below.refl _ w4).alloc (Nat.le_refl _) o
  have HY4 := Lib.hid (HY.out w4 Rx.setL)
  have h5 := Lib.hid (fun o => ((hw5 o).block w.heap.size (by omega)).trans h4)
  have d5 := Lib.hid (fun o => ((hw5 o).block w1.heap.size (by omega)).trans d4)
  have B5 := Lib.hid (fun o => B4.out.trans ((hw5 o).mono (by omega)))
  clear hw5 h4 d4 B4
  go_wp2_with fail
  refine (CR.out _).mono ?_
  rintro e w6 ⟨rfl, hb6⟩
  have h6 := (hb6.block w.heap.size (by simp; omega)).trans (h5.out _)
  have B6 := Lib.hid ((B5.out _).trans (hb6.mono (by simp; omega)))
  have z6 : w4.heap.size < w6.heap.size := by have := hb6.size; simp at this; omega
  clear hb6
  go_wp2_with fail
  refine (CX.out _ HOK.out _).mono ?_
  rintro e w7 ⟨rfl, hb7⟩
  have h7 := (hb7.block w.heap.size (by omega)).trans h6
  have B7 := Lib.hid (B6.out.trans (hb7.mono (by omega)))
  clear hb7
  obtain ⟨X, hX⟩ : ∃ X, (Rx.meaning 115).others = X := ⟨_, rfl⟩
  have HE := Lib.hid (show setV (Rx.meaning 83) = .agg (setC X) by rw [← hX]; rfl)
  rw [hX]
  clear hX
  unfold setV
  have hn := setRow_heap w7 w.heap.size (setC Set4.none) (setC X) 50 (0, 0) h7
  have h2' := h7
  go_wp2_with (refine wpList_store_row rfl 50 (.tmp 2) (.tmp 44) rfl w.heap.size (setC X) rfl rfl 50 (setC Set4.none) h2' (by kernel_rfl) (HZ.out X) (HO.out X) ?_)
  refine bodyPost_ret (v := .agg (setC X)) ?_ ?_ ?_
  · exact results_cell_row rfl _ _ w.heap.size 50 (setC X) (0, 0) _ rfl hn Tryd.underlying50 rfl (by kernel_rfl)
  · rfl
  · exact ⟨by rw [HE.out], below_setRow (B7.out) (Nat.le_refl _) (setC X)⟩
def Rare (c : Nat) : Prop := c ≠ 110 ∧ c ≠ 116 ∧ c ≠ 114 ∧ c ≠ 100 ∧ c ≠ 119 ∧ c ≠ 115 ∧ c ≠ 68 ∧ c ≠ 87 ∧ c ≠ 83
theorem mean_rare (c : Nat) (h : Rare c) : Rx.meaning c = if c < 33 ∨ 126 < c ∨ Rx.setLD.has c then Set4.none else Set4.only c := by
  obtain ⟨h1, h2, h3, h4, h5, h6, h7, h8, h9⟩ := h
  unfold Rx.meaning Rx.meanLow
  simp only [h1, h2, h3, h4, h5, h6, h7, h8, h9, if_false, or_self]
set_option maxHeartbeats 4000000 in
set_option maxRecDepth 100000 in
theorem meaning_low (c : Nat) (hc : c < 256) (hR : Rare c) (h1 : c < 33) (w : World) : Calls Tryd.prog 61 #[.int .u8 (c : Int)] w fun e w' => e = .returned (setV (Rx.meaning c)) ∧ Below w.heap.size w w' := by
  have CS := Lib.hid (fun f t hf ht w1 => span_any f t hf ht w1)
  have CJ := Lib.hid (fun x y hx hy w1 => join_any x y hx hy w1)
  have CO := Lib.hid (fun c hc w1 => only_any c hc w1)
  have CH := Lib.hid (fun x hx c hc w1 => has_any x hx c hc w1)
  have HL := Lib.hid (laid_none w)
  have HY := Lib.hid (fun w x => lay_set w x)
  have HZ := Lib.hid (fun X => show (setC Set4.none).size = (setC X).size from rfl)
  have HO := Lib.hid setC_one
  obtain ⟨r1, r2, r3, r4, r5, r6, r7, r8, r9⟩ := hR
  have n110 : ((c : Int) == 110) = false := by simp; omega
  have n116 : ((c : Int) == 116) = false := by simp; omega
  have n114 : ((c : Int) == 114) = false := by simp; omega
  have n100 : ((c : Int) == 100) = false := by simp; omega
  have n119 : ((c : Int) == 119) = false := by simp; omega
  have n115 : ((c : Int) == 115) = false := by simp; omega
  have n68 : ((c : Int) == 68) = false := by simp; omega
  have n87 : ((c : Int) == 87) = false := by simp; omega
  have n83 : ((c : Int) == 83) = false := by simp; omega
  have HE := Lib.hid (show Rx.meaning c = Set4.none by rw [mean_rare c ⟨r1, r2, r3, r4, r5, r6, r7, r8, r9⟩, if_pos (.inl h1)])
  have d1 : decide ((c : Int) < 33) = true := by simp; omega
  clear r1 r2 r3 r4 r5 r6 r7 r8 r9
  go_enter Tryd.func61, Tryd.ntmps61
  go_wp2_with fail
  refine (CS.out 48 57 (by decide) (by decide) _).mono ?_
  rintro e w1 ⟨rfl, hb1⟩
  rw [setV_eq]
  have h1 := (hb1.block _ (by simp)).trans HL.out
  have B1 := Lib.hid (((Below.refl _ w).alloc (Nat.le_refl _) _).trans (hb1.mono (by simp)))
  have z1 : w.heap.size < w1.heap.size := by have := hb1.size; simp at this; omega
  clear hb1
  go_wp2_with fail
  refine (CS.out 97 122 (by decide) (by decide) _).mono ?_
  rintro e w2 ⟨rfl, hb2⟩
  have h2 := (hb2.block w.heap.size (by simp; omega)).trans ((Below.heap_alloc _ _ _ z1).trans h1)
  have d2 := (hb2.block w1.heap.size (by simp)).trans (HY.out w1 Rx.setD)
  have B2 := Lib.hid (B1.out.trans ((((Below.refl _ w1).alloc (Nat.le_refl _) _).trans (hb2.mono (by simp))).mono (Nat.le_of_lt z1)))
  have z2 : w1.heap.size < w2.heap.size := by have := hb2.size; simp at this; omega
  clear hb2
  clear h1 B1
  go_wp2_with fail
  refine (CS.out 65 90 (by decide) (by decide) _).mono ?_
  rintro e w3 ⟨rfl, hb3⟩
  go_wp2_with fail
  refine (CJ.out _ _ (span_ok _ _) (span_ok _ _) _).mono ?_
  rintro e w4 ⟨rfl, hb4⟩
  have hb := hb3.trans (hb4.mono hb3.size)
  rw [setV_eq]
  have h4 := (hb.block w.heap.size (by omega)).trans h2
  have d4 := (hb.block w1.heap.size (by omega)).trans d2
  have z4 : w2.heap.size ≤ w4.heap.size := hb.size
  have B4 := Lib.hid (B2.out.trans (hb.mono (by omega)))
  clear hb hb3 hb4 h2 d2 B2
  have HD : (Set4.span 97 122).join (Set4.span 65 90) = Rx.setL := rfl
  rw [HD]
  clear HD
  have hw5 : ∀ o, Below w4.heap.size w4 (w4.alloc o) := fun o => (Below.refl _ w4).alloc (Nat.le_refl _) o
  have HY4 := Lib.hid (HY.out w4 Rx.setL)
  have h5 := Lib.hid (fun o => ((hw5 o).block w.heap.size (by omega)).trans h4)
  have d5 := Lib.hid (fun o => ((hw5 o).block w1.heap.size (by omega)).trans d4)
  have B5 := Lib.hid (fun o => B4.out.trans ((hw5 o).mono (by omega)))
  clear hw5 h4 d4 B4
  have h6 := h5.out (.cells #[Value.int .u64 ((Rx.setL.a : Nat) : Int), .int .u64 ((Rx.setL.b : Nat) : Int), .int .u64 ((Rx.setL.c : Nat) : Int), .int .u64 ((Rx.setL.d : Nat) : Int)] 50)
  have B6 := Lib.hid (B5.out (.cells #[Value.int .u64 ((Rx.setL.a : Nat) : Int), .int .u64 ((Rx.setL.b : Nat) : Int), .int .u64 ((Rx.setL.c : Nat) : Int), .int .u64 ((Rx.setL.d : Nat) : Int)] 50))
  have hn := setRow_heap (w4.alloc (.cells #[Value.int .u64 ((Rx.setL.a : Nat) : Int), .int .u64 ((Rx.setL.b : Nat) : Int), .int .u64 ((Rx.setL.c : Nat) : Int), .int .u64 ((Rx.setL.d : Nat) : Int)] 50)) w.heap.size (setC Set4.none) (setC Set4.none) 50 (0, 0) h6
  go_wp2_with (refine wpList_store_row rfl 50 (.tmp 2) (.tmp 58) rfl w.heap.size (setC Set4.none) rfl rfl 50 (setC Set4.none) h6 (by kernel_rfl) (HZ.out Set4.none) (HO.out Set4.none) ?_)
  refine bodyPost_ret (v := .agg (setC Set4.none)) ?_ ?_ ?_
  · exact results_cell_row rfl _ _ w.heap.size 50 (setC Set4.none) (0, 0) _ rfl hn Tryd.underlying50 rfl (by kernel_rfl)
  · rfl
  · exact ⟨by rw [HE.out]; rfl, below_setRow (B6.out) (Nat.le_refl _) (setC Set4.none)⟩
set_option maxHeartbeats 4000000 in
set_option maxRecDepth 100000 in
theorem meaning_high (c : Nat) (hc : c < 256) (hR : Rare c) (h1 : 126 < c) (w : World) : Calls Tryd.prog 61 #[.int .u8 (c : Int)] w fun e w' => e = .returned (setV (Rx.meaning c)) ∧ Below w.heap.size w w' := by
  have CS := Lib.hid (fun f t hf ht w1 => span_any f t hf ht w1)
  have CJ := Lib.hid (fun x y hx hy w1 => join_any x y hx hy w1)
  have CO := Lib.hid (fun c hc w1 => only_any c hc w1)
  have CH := Lib.hid (fun x hx c hc w1 => has_any x hx c hc w1)
  have HL := Lib.hid (laid_none w)
  have HY := Lib.hid (fun w x => lay_set w x)
  have HZ := Lib.hid (fun X => show (setC Set4.none).size = (setC X).size from rfl)
  have HO := Lib.hid setC_one
  obtain ⟨r1, r2, r3, r4, r5, r6, r7, r8, r9⟩ := hR
  have n110 : ((c : Int) == 110) = false := by simp; omega
  have n116 : ((c : Int) == 116) = false := by simp; omega
  have n114 : ((c : Int) == 114) = false := by simp; omega
  have n100 : ((c : Int) == 100) = false := by simp; omega
  have n119 : ((c : Int) == 119) = false := by simp; omega
  have n115 : ((c : Int) == 115) = false := by simp; omega
  have n68 : ((c : Int) == 68) = false := by simp; omega
  have n87 : ((c : Int) == 87) = false := by simp; omega
  have n83 : ((c : Int) == 83) = false := by simp; omega
  have HE := Lib.hid (show Rx.meaning c = Set4.none by rw [mean_rare c ⟨r1, r2, r3, r4, r5, r6, r7, r8, r9⟩, if_pos (.inr (.inl h1))])
  have d1 : decide ((c : Int) < 33) = false := by simp; omega
  have d2 : decide ((126 : Int) < (c : Int)) = true := by simp; omega
  clear r1 r2 r3 r4 r5 r6 r7 r8 r9
  go_enter Tryd.func61, Tryd.ntmps61
  go_wp2_with fail
  refine (CS.out 48 57 (by decide) (by decide) _).mono ?_
  rintro e w1 ⟨rfl, hb1⟩
  rw [setV_eq]
  have h1 := (hb1.block _ (by simp)).trans HL.out
  have B1 := Lib.hid (((Below.refl _ w).alloc (Nat.le_refl _) _).trans (hb1.mono (by simp)))
  have z1 : w.heap.size < w1.heap.size := by have := hb1.size; simp at this; omega
  clear hb1
  go_wp2_with fail
  refine (CS.out 97 122 (by decide) (by decide) _).mono ?_
  rintro e w2 ⟨rfl, hb2⟩
  have h2 := (hb2.block w.heap.size (by simp; omega)).trans ((Below.heap_alloc _ _ _ z1).trans h1)
  have d2 := (hb2.block w1.heap.size (by simp)).trans (HY.out w1 Rx.setD)
  have B2 := Lib.hid (B1.out.trans ((((Below.refl _ w1).alloc (Nat.le_refl _) _).trans (hb2.mono (by simp))).mono (Nat.le_of_lt z1)))
  have z2 : w1.heap.size < w2.heap.size := by have := hb2.size; simp at this; omega
  clear hb2
  clear h1 B1
  go_wp2_with fail
  refine (CS.out 65 90 (by decide) (by decide) _).mono ?_
  rintro e w3 ⟨rfl, hb3⟩
  go_wp2_with fail
  refine (CJ.out _ _ (span_ok _ _) (span_ok _ _) _).mono ?_
  rintro e w4 ⟨rfl, hb4⟩
  have hb := hb3.trans (hb4.mono hb3.size)
  rw [setV_eq]
  have h4 := (hb.block w.heap.size (by omega)).trans h2
  have d4 := (hb.block w1.heap.size (by omega)).trans d2
  have z4 : w2.heap.size ≤ w4.heap.size := hb.size
  have B4 := Lib.hid (B2.out.trans (hb.mono (by omega)))
  clear hb hb3 hb4 h2 d2 B2
  have HD : (Set4.span 97 122).join (Set4.span 65 90) = Rx.setL := rfl
  rw [HD]
  clear HD
  have hw5 : ∀ o, Below w4.heap.size w4 (w4.alloc o) := fun o => (Below.refl _ w4).alloc (Nat.le_refl _) o
  have HY4 := Lib.hid (HY.out w4 Rx.setL)
  have h5 := Lib.hid (fun o => ((hw5 o).block w.heap.size (by omega)).trans h4)
  have d5 := Lib.hid (fun o => ((hw5 o).block w1.heap.size (by omega)).trans d4)
  have B5 := Lib.hid (fun o => B4.out.trans ((hw5 o).mono (by omega)))
  clear hw5 h4 d4 B4
  have h6 := h5.out (.cells #[Value.int .u64 ((Rx.setL.a : Nat) : Int), .int .u64 ((Rx.setL.b : Nat) : Int), .int .u64 ((Rx.setL.c : Nat) : Int), .int .u64 ((Rx.setL.d : Nat) : Int)] 50)
  have B6 := Lib.hid (B5.out (.cells #[Value.int .u64 ((Rx.setL.a : Nat) : Int), .int .u64 ((Rx.setL.b : Nat) : Int), .int .u64 ((Rx.setL.c : Nat) : Int), .int .u64 ((Rx.setL.d : Nat) : Int)] 50))
  have hn := setRow_heap (w4.alloc (.cells #[Value.int .u64 ((Rx.setL.a : Nat) : Int), .int .u64 ((Rx.setL.b : Nat) : Int), .int .u64 ((Rx.setL.c : Nat) : Int), .int .u64 ((Rx.setL.d : Nat) : Int)] 50)) w.heap.size (setC Set4.none) (setC Set4.none) 50 (0, 0) h6
  go_wp2_with (refine wpList_store_row rfl 50 (.tmp 2) (.tmp 58) rfl w.heap.size (setC Set4.none) rfl rfl 50 (setC Set4.none) h6 (by kernel_rfl) (HZ.out Set4.none) (HO.out Set4.none) ?_)
  refine bodyPost_ret (v := .agg (setC Set4.none)) ?_ ?_ ?_
  · exact results_cell_row rfl _ _ w.heap.size 50 (setC Set4.none) (0, 0) _ rfl hn Tryd.underlying50 rfl (by kernel_rfl)
  · rfl
  · exact ⟨by rw [HE.out]; rfl, below_setRow (B6.out) (Nat.le_refl _) (setC Set4.none)⟩
set_option maxHeartbeats 4000000 in
set_option maxRecDepth 100000 in
theorem meaning_letter (c : Nat) (hc : c < 256) (hR : Rare c) (h1 : ¬ c < 33) (h2 : ¬ 126 < c) (h3 : (Rx.setL.join Rx.setD).has c = true) (w : World) : Calls Tryd.prog 61 #[.int .u8 (c : Int)] w fun e w' => e = .returned (setV (Rx.meaning c)) ∧ Below w.heap.size w w' := by
  have CS := Lib.hid (fun f t hf ht w1 => span_any f t hf ht w1)
  have CJ := Lib.hid (fun x y hx hy w1 => join_any x y hx hy w1)
  have CO := Lib.hid (fun c hc w1 => only_any c hc w1)
  have CH := Lib.hid (fun x hx c hc w1 => has_any x hx c hc w1)
  have HL := Lib.hid (laid_none w)
  have HY := Lib.hid (fun w x => lay_set w x)
  have HZ := Lib.hid (fun X => show (setC Set4.none).size = (setC X).size from rfl)
  have HO := Lib.hid setC_one
  obtain ⟨r1, r2, r3, r4, r5, r6, r7, r8, r9⟩ := hR
  have n110 : ((c : Int) == 110) = false := by simp; omega
  have n116 : ((c : Int) == 116) = false := by simp; omega
  have n114 : ((c : Int) == 114) = false := by simp; omega
  have n100 : ((c : Int) == 100) = false := by simp; omega
  have n119 : ((c : Int) == 119) = false := by simp; omega
  have n115 : ((c : Int) == 115) = false := by simp; omega
  have n68 : ((c : Int) == 68) = false := by simp; omega
  have n87 : ((c : Int) == 87) = false := by simp; omega
  have n83 : ((c : Int) == 83) = false := by simp; omega
  have HE := Lib.hid (show Rx.meaning c = Set4.none by rw [mean_rare c ⟨r1, r2, r3, r4, r5, r6, r7, r8, r9⟩, if_pos (.inr (.inr h3))])
  have d1 : decide ((c : Int) < 33) = false := by simp; omega
  have d2 : decide ((126 : Int) < (c : Int)) = false := by simp; omega
  have HH := Lib.hid h3
  clear r1 r2 r3 r4 r5 r6 r7 r8 r9 h3
  go_enter Tryd.func61, Tryd.ntmps61
  go_wp2_with fail
  refine (CS.out 48 57 (by decide) (by decide) _).mono ?_
  rintro e w1 ⟨rfl, hb1⟩
  rw [setV_eq]
  have h1 := (hb1.block _ (by simp)).trans HL.out
  have B1 := Lib.hid (((Below.refl _ w).alloc (Nat.le_refl _) _).trans (hb1.mono (by simp)))
  have z1 : w.heap.size < w1.heap.size := by have := hb1.size; simp at this; omega
  clear hb1
  go_wp2_with fail
  refine (CS.out 97 122 (by decide) (by decide) _).mono ?_
  rintro e w2 ⟨rfl, hb2⟩
  have h2 := (hb2.block w.heap.size (by simp; omega)).trans ((Below.heap_alloc _ _ _ z1).trans h1)
  have d2 := (hb2.block w1.heap.size (by simp)).trans (HY.out w1 Rx.setD)
  have B2 := Lib.hid (B1.out.trans ((((Below.refl _ w1).alloc (Nat.le_refl _) _).trans (hb2.mono (by simp))).mono (Nat.le_of_lt z1)))
  have z2 : w1.heap.size < w2.heap.size := by have := hb2.size; simp at this; omega
  clear hb2
  clear h1 B1
  go_wp2_with fail
  refine (CS.out 65 90 (by decide) (by decide) _).mono ?_
  rintro e w3 ⟨rfl, hb3⟩
  go_wp2_with fail
  refine (CJ.out _ _ (span_ok _ _) (span_ok _ _) _).mono ?_
  rintro e w4 ⟨rfl, hb4⟩
  have hb := hb3.trans (hb4.mono hb3.size)
  rw [setV_eq]
  have h4 := (hb.block w.heap.size (by omega)).trans h2
  have d4 := (hb.block w1.heap.size (by omega)).trans d2
  have z4 : w2.heap.size ≤ w4.heap.size := hb.size
  have B4 := Lib.hid (B2.out.trans (hb.mono (by omega)))
  clear hb hb3 hb4 h2 d2 B2
  have HD : (Set4.span 97 122).join (Set4.span 65 90) = Rx.setL := rfl
  rw [HD]
  clear HD
  have hw5 : ∀ o, Below w4.heap.size w4 (w4.alloc o) := fun o => (Below.refl _ w4).alloc (Nat.le_refl _) o
  have HY4 := Lib.hid (HY.out w4 Rx.setL)
  have h5 := Lib.hid (fun o => ((hw5 o).block w.heap.size (by omega)).trans h4)
  have d5 := Lib.hid (fun o => ((hw5 o).block w1.heap.size (by omega)).trans d4)
  have B5 := Lib.hid (fun o => B4.out.trans ((hw5 o).mono (by omega)))
  clear hw5 h4 d4 B4
  have h6 := h5.out (.cells #[Value.int .u64 ((Rx.setL.a : Nat) : Int), .int .u64 ((Rx.setL.b : Nat) : Int), .int .u64 ((Rx.setL.c : Nat) : Int), .int .u64 ((Rx.setL.d : Nat) : Int)] 50)
  have d6 := d5.out (.cells #[Value.int .u64 ((Rx.setL.a : Nat) : Int), .int .u64 ((Rx.setL.b : Nat) : Int), .int .u64 ((Rx.setL.c : Nat) : Int), .int .u64 ((Rx.setL.d : Nat) : Int)] 50)
  have l6 := HY4.out
  have B6 := Lib.hid (B5.out (.cells #[Value.int .u64 ((Rx.setL.a : Nat) : Int), .int .u64 ((Rx.setL.b : Nat) : Int), .int .u64 ((Rx.setL.c : Nat) : Int), .int .u64 ((Rx.setL.d : Nat) : Int)] 50))
  have q0 := (cell_of_row _ _ 0 _ _ _ d6).trans (setC_get Rx.setD 0 (by decide))
  have q1 := (cell_of_row _ _ 1 _ _ _ d6).trans (setC_get Rx.setD 1 (by decide))
  have q2 := (cell_of_row _ _ 2 _ _ _ d6).trans (setC_get Rx.setD 2 (by decide))
  have q3 := (cell_of_row _ _ 3 _ _ _ d6).trans (setC_get Rx.setD 3 (by decide))
  have HS1 : setV Rx.setL = .agg #[.int .u64 ((Rx.setL.a : Nat) : Int), .int .u64 ((Rx.setL.b : Nat) : Int), .int .u64 ((Rx.setL.c : Nat) : Int), .int .u64 ((Rx.setL.d : Nat) : Int)] := rfl
  have HS2 : setV Rx.setD = .agg #[.int .u64 ((Rx.setD.word 0 : Nat) : Int), .int .u64 ((Rx.setD.word 1 : Nat) : Int), .int .u64 ((Rx.setD.word 2 : Nat) : Int), .int .u64 ((Rx.setD.word 3 : Nat) : Int)] := rfl
  have CJ2 := Lib.hid (fun w1 => by have := CJ.out Rx.setL Rx.setD (join_ok (span_ok _ _) (span_ok _ _)) (span_ok _ _) w1; rw [HS1, HS2] at this; exact this)
  clear HS1 HS2
  have HK : (Rx.setL.join Rx.setD).Ok := join_ok (join_ok (span_ok _ _) (span_ok _ _)) (span_ok _ _)
  have HH' := HH.out
  obtain ⟨Y, hY⟩ : ∃ Y, Rx.setL.join Rx.setD = Y := ⟨_, rfl⟩
  rw [hY] at CJ2 HH' HK
  have CH2 := Lib.hid (fun w1 => CH.out Y HK c hc w1)
  rw [HH'] at CH2
  clear hY HH HH' CH HK
  go_wp2_with fail
  refine (CJ2.out _).mono ?_
  rintro e w6 ⟨rfl, hb6⟩
  clear q0 q1 q2 q3
  go_wp2_with fail
  refine (CH2.out _).mono ?_
  rintro e w7 ⟨rfl, hb7⟩
  have hb := hb6.trans (hb7.mono hb6.size)
  have h7 := (hb.block w.heap.size (by simp; omega)).trans h6
  have B7 := Lib.hid (B6.out.trans (hb.mono (by simp; omega)))
  have z7 : w4.heap.size < w7.heap.size := by have := hb.size; simp at this; omega
  clear hb hb6 hb7 h6 d6 l6
  have hn := setRow_heap w7 w.heap.size (setC Set4.none) (setC Set4.none) 50 (0, 0) h7
  go_wp2_with (refine wpList_store_row rfl 50 (.tmp 2) (.tmp 58) rfl w.heap.size (setC Set4.none) rfl rfl 50 (setC Set4.none) h7 (by kernel_rfl) (HZ.out Set4.none) (HO.out Set4.none) ?_)
  refine bodyPost_ret (v := .agg (setC Set4.none)) ?_ ?_ ?_
  · exact results_cell_row rfl _ _ w.heap.size 50 (setC Set4.none) (0, 0) _ rfl hn Tryd.underlying50 rfl (by kernel_rfl)
  · rfl
  · exact ⟨by rw [HE.out]; rfl, below_setRow (B7.out) (Nat.le_refl _) (setC Set4.none)⟩
set_option maxHeartbeats 4000000 in
set_option maxRecDepth 100000 in
theorem meaning_sign (c : Nat) (hc : c < 256) (hR : Rare c) (h1 : ¬ c < 33) (h2 : ¬ 126 < c) (h3 : (Rx.setL.join Rx.setD).has c = false) (w : World) : Calls Tryd.prog 61 #[.int .u8 (c : Int)] w fun e w' => e = .returned (setV (Rx.meaning c)) ∧ Below w.heap.size w w' := by
  have CS := Lib.hid (fun f t hf ht w1 => span_any f t hf ht w1)
  have CJ := Lib.hid (fun x y hx hy w1 => join_any x y hx hy w1)
  have CO := Lib.hid (fun c hc w1 => only_any c hc w1)
  have CH := Lib.hid (fun x hx c hc w1 => has_any x hx c hc w1)
  have HL := Lib.hid (laid_none w)
  have HY := Lib.hid (fun w x => lay_set w x)
  have HZ := Lib.hid (fun X => show (setC Set4.none).size = (setC X).size from rfl)
  have HO := Lib.hid setC_one
  obtain ⟨r1, r2, r3, r4, r5, r6, r7, r8, r9⟩ := hR
  have n110 : ((c : Int) == 110) = false := by simp; omega
  have n116 : ((c : Int) == 116) = false := by simp; omega
  have n114 : ((c : Int) == 114) = false := by simp; omega
  have n100 : ((c : Int) == 100) = false := by simp; omega
  have n119 : ((c : Int) == 119) = false := by simp; omega
  have n115 : ((c : Int) == 115) = false := by simp; omega
  have n68 : ((c : Int) == 68) = false := by simp; omega
  have n87 : ((c : Int) == 87) = false := by simp; omega
  have n83 : ((c : Int) == 83) = false := by simp; omega
  have HE := Lib.hid (show Rx.meaning c = Set4.only c by rw [mean_rare c ⟨r1, r2, r3, r4, r5, r6, r7, r8, r9⟩, if_neg (by rintro (h | h | h); exact h1 h; exact h2 h; (rw [show Rx.setLD.has c = false from h3] at h; cases h))])
  have d1 : decide ((c : Int) < 33) = false := by simp; omega
  have d2 : decide ((126 : Int) < (c : Int)) = false := by simp; omega
  have HH := Lib.hid h3
  clear r1 r2 r3 r4 r5 r6 r7 r8 r9 h3
  go_enter Tryd.func61, Tryd.ntmps61
  go_wp2_with fail
  refine (CS.out 48 57 (by decide) (by decide) _).mono ?_
  rintro e w1 ⟨rfl, hb1⟩
  rw [setV_eq]
  have h1 := (hb1.block _ (by simp)).trans HL.out
  have B1 := Lib.hid (((Below.refl _ w).alloc (Nat.le_refl _) _).trans (hb1.mono (by simp)))
  have z1 : w.heap.size < w1.heap.size := by have := hb1.size; simp at this; omega
  clear hb1
  go_wp2_with fail
  refine (CS.out 97 122 (by decide) (by decide) _).mono ?_
  rintro e w2 ⟨rfl, hb2⟩
  have h2 := (hb2.block w.heap.size (by simp; omega)).trans ((Below.heap_alloc _ _ _ z1).trans h1)
  have d2 := (hb2.block w1.heap.size (by simp)).trans (HY.out w1 Rx.setD)
  have B2 := Lib.hid (B1.out.trans ((((Below.refl _ w1).alloc (Nat.le_refl _) _).trans (hb2.mono (by simp))).mono (Nat.le_of_lt z1)))
  have z2 : w1.heap.size < w2.heap.size := by have := hb2.size; simp at this; omega
  clear hb2
  clear h1 B1
  go_wp2_with fail
  refine (CS.out 65 90 (by decide) (by decide) _).mono ?_
  rintro e w3 ⟨rfl, hb3⟩
  go_wp2_with fail
  refine (CJ.out _ _ (span_ok _ _) (span_ok _ _) _).mono ?_
  rintro e w4 ⟨rfl, hb4⟩
  have hb := hb3.trans (hb4.mono hb3.size)
  rw [setV_eq]
  have h4 := (hb.block w.heap.size (by omega)).trans h2
  have d4 := (hb.block w1.heap.size (by omega)).trans d2
  have z4 : w2.heap.size ≤ w4.heap.size := hb.size
  have B4 := Lib.hid (B2.out.trans (hb.mono (by omega)))
  clear hb hb3 hb4 h2 d2 B2
  have HD : (Set4.span 97 122).join (Set4.span 65 90) = Rx.setL := rfl
  rw [HD]
  clear HD
  have hw5 : ∀ o, Below w4.heap.size w4 (w4.alloc o) := fun o => (Below.refl _ w4).alloc (Nat.le_refl _) o
  have HY4 := Lib.hid (HY.out w4 Rx.setL)
  have h5 := Lib.hid (fun o => ((hw5 o).block w.heap.size (by omega)).trans h4)
  have d5 := Lib.hid (fun o => ((hw5 o).block w1.heap.size (by omega)).trans d4)
  have B5 := Lib.hid (fun o => B4.out.trans ((hw5 o).mono (by omega)))
  clear hw5 h4 d4 B4
  have h6 := h5.out (.cells #[Value.int .u64 ((Rx.setL.a : Nat) : Int), .int .u64 ((Rx.setL.b : Nat) : Int), .int .u64 ((Rx.setL.c : Nat) : Int), .int .u64 ((Rx.setL.d : Nat) : Int)] 50)
  have d6 := d5.out (.cells #[Value.int .u64 ((Rx.setL.a : Nat) : Int), .int .u64 ((Rx.setL.b : Nat) : Int), .int .u64 ((Rx.setL.c : Nat) : Int), .int .u64 ((Rx.setL.d : Nat) : Int)] 50)
  have l6 := HY4.out
  have B6 := Lib.hid (B5.out (.cells #[Value.int .u64 ((Rx.setL.a : Nat) : Int), .int .u64 ((Rx.setL.b : Nat) : Int), .int .u64 ((Rx.setL.c : Nat) : Int), .int .u64 ((Rx.setL.d : Nat) : Int)] 50))
  have q0 := (cell_of_row _ _ 0 _ _ _ d6).trans (setC_get Rx.setD 0 (by decide))
  have q1 := (cell_of_row _ _ 1 _ _ _ d6).trans (setC_get Rx.setD 1 (by decide))
  have q2 := (cell_of_row _ _ 2 _ _ _ d6).trans (setC_get Rx.setD 2 (by decide))
  have q3 := (cell_of_row _ _ 3 _ _ _ d6).trans (setC_get Rx.setD 3 (by decide))
  have HS1 : setV Rx.setL = .agg #[.int .u64 ((Rx.setL.a : Nat) : Int), .int .u64 ((Rx.setL.b : Nat) : Int), .int .u64 ((Rx.setL.c : Nat) : Int), .int .u64 ((Rx.setL.d : Nat) : Int)] := rfl
  have HS2 : setV Rx.setD = .agg #[.int .u64 ((Rx.setD.word 0 : Nat) : Int), .int .u64 ((Rx.setD.word 1 : Nat) : Int), .int .u64 ((Rx.setD.word 2 : Nat) : Int), .int .u64 ((Rx.setD.word 3 : Nat) : Int)] := rfl
  have CJ2 := Lib.hid (fun w1 => by have := CJ.out Rx.setL Rx.setD (join_ok (span_ok _ _) (span_ok _ _)) (span_ok _ _) w1; rw [HS1, HS2] at this; exact this)
  clear HS1 HS2
  have HK : (Rx.setL.join Rx.setD).Ok := join_ok (join_ok (span_ok _ _) (span_ok _ _)) (span_ok _ _)
  have HH' := HH.out
  obtain ⟨Y, hY⟩ : ∃ Y, Rx.setL.join Rx.setD = Y := ⟨_, rfl⟩
  rw [hY] at CJ2 HH' HK
  have CH2 := Lib.hid (fun w1 => CH.out Y HK c hc w1)
  rw [HH'] at CH2
  clear hY HH HH' CH HK
  go_wp2_with fail
  refine (CJ2.out _).mono ?_
  rintro e w6 ⟨rfl, hb6⟩
  clear q0 q1 q2 q3
  go_wp2_with fail
  refine (CH2.out _).mono ?_
  rintro e w7 ⟨rfl, hb7⟩
  have hb := hb6.trans (hb7.mono hb6.size)
  have h7 := (hb.block w.heap.size (by simp; omega)).trans h6
  have B7 := Lib.hid (B6.out.trans (hb.mono (by simp; omega)))
  have z7 : w4.heap.size < w7.heap.size := by have := hb.size; simp at this; omega
  clear hb hb6 hb7 h6 d6 l6
  go_wp2_with fail
  refine (CO.out c hc _).mono ?_
  rintro e w8 ⟨rfl, hb8⟩
  have h8 := (hb8.block w.heap.size (by omega)).trans h7
  have B8 := Lib.hid (B7.out.trans (hb8.mono (by omega)))
  clear hb8
  obtain ⟨X, hX⟩ : ∃ X, Set4.only c = X := ⟨_, rfl⟩
  have HE2 := Lib.hid (show setV (Rx.meaning c) = .agg (setC X) by rw [HE.out, hX]; rfl)
  rw [hX]
  clear hX
  unfold setV
  have hn := setRow_heap w8 w.heap.size (setC Set4.none) (setC X) 50 (0, 0) h8
  have h2' := h8
  go_wp2_with (refine wpList_store_row rfl 50 (.tmp 2) (.tmp 60) rfl w.heap.size (setC X) rfl rfl 50 (setC Set4.none) h2' (by kernel_rfl) (HZ.out X) (HO.out X) ?_)
  refine bodyPost_ret (v := .agg (setC X)) ?_ ?_ ?_
  · exact results_cell_row rfl _ _ w.heap.size 50 (setC X) (0, 0) _ rfl hn Tryd.underlying50 rfl (by kernel_rfl)
  · rfl
  · exact ⟨by rw [HE2.out], below_setRow (B8.out) (Nat.le_refl _) (setC X)⟩
theorem meaning_any (c : Nat) (hc : c < 256) (w : World) : Calls Tryd.prog 61 #[.int .u8 (c : Int)] w fun e w' => e = .returned (setV (Rx.meaning c)) ∧ Below w.heap.size w w' := by
  by_cases e110 : c = 110
  · subst e110; exact meaning_110 w
  by_cases e116 : c = 116
  · subst e116; exact meaning_116 w
  by_cases e114 : c = 114
  · subst e114; exact meaning_114 w
  by_cases e100 : c = 100
  · subst e100; exact meaning_100 w
  by_cases e119 : c = 119
  · subst e119; exact meaning_119 w
  by_cases e115 : c = 115
  · subst e115; exact meaning_115 w
  by_cases e68 : c = 68
  · subst e68; exact meaning_68 w
  by_cases e87 : c = 87
  · subst e87; exact meaning_87 w
  by_cases e83 : c = 83
  · subst e83; exact meaning_83 w
  have hR : Rare c := ⟨e110, e116, e114, e100, e119, e115, e68, e87, e83⟩
  by_cases h1 : c < 33
  · exact meaning_low c hc hR h1 w
  by_cases h2 : 126 < c
  · exact meaning_high c hc hR h2 w
  cases h3 : (Rx.setL.join Rx.setD).has c with
  | true => exact meaning_letter c hc hR h1 h2 h3 w
  | false => exact meaning_sign c hc hR h1 h2 h3 w
theorem meaning_ok (c : Nat) : (Rx.meaning c).Ok := by
  unfold Rx.meaning
  split
  · rename_i x h
    unfold Rx.meanLow at h
    split at h
    · cases h; exact only_ok _
    split at h
    · cases h; exact only_ok _
    split at h
    · cases h; exact only_ok _
    split at h
    · cases h; exact span_ok _ _
    split at h
    · cases h; exact join_ok (join_ok (join_ok (span_ok _ _) (span_ok _ _)) (span_ok _ _)) (only_ok _)
    split at h
    · cases h; exact join_ok (join_ok (only_ok _) (span_ok _ _)) (span_ok _ _)
    · cases h
  · split
    · exact others_ok _
    · split
      · exact none_ok
      · exact only_ok _
end Go.Proofs.YtgjdeilclimpdaaDoor
namespace Go.Proofs
open Go.Shelf
def Tryd.lays137_ren : Go.Shelf.Ren := ⟨fun | 137 => 47 | 217 => 57 | 266 => 64 | n => n, fun | 9 => 9 | 5 => 5 | 3 => 3 | n => n, fun | n => n⟩
theorem Tryd.lays137 : Go.Proofs.Lays.n137 Tryd.prog Tryd.lays137_ren := {
  mixed := by kernel_rfl
  f137 := Tryd.func47.trans (congrArg some (by kernel_rfl))
  f217 := Tryd.func57.trans (congrArg some (by kernel_rfl))
  f266 := Tryd.func64.trans (congrArg some (by kernel_rfl))
  t3 := Tryd.underlying3
  a3 := Tryd.isAgg3
  z3 := Tryd.sizeOf3
  v3 := Tryd.zeroValue3
  t5 := Tryd.underlying5
  a5 := Tryd.isAgg5
  z5 := Tryd.sizeOf5
  v5 := Tryd.zeroValue5
  t9 := Tryd.underlying9
  a9 := Tryd.isAgg9
  z9 := Tryd.sizeOf9
  v9 := Tryd.zeroValue9 }
open Go.RowKit in
/-- strings.IndexByte: "IndexByte returns the index of the first instance of c in s, or -1 if c is not present in s.": IT RETURNS 'Lib.indexByte s c'; the world is as it was. (LAID: no walk: one application.) -/
theorem Tryd.strings_IndexByte (s : ByteArray) (c : Int) (w : World) :
    Calls Tryd.prog 47 #[.string s, .int .u8 c] w fun e w' => e = .returned (.int .i64 (Lib.indexByte s.data.toList c.toNat.toUInt8)) ∧ w' = w := Any.strings_IndexByte Tryd.lays137 s c w
def Tryd.lays217_ren : Go.Shelf.Ren := ⟨fun | 217 => 57 | 266 => 64 | n => n, fun | 9 => 9 | 5 => 5 | 3 => 3 | n => n, fun | n => n⟩
theorem Tryd.lays217 : Go.Proofs.Lays.n217 Tryd.prog Tryd.lays217_ren := {
  mixed := by kernel_rfl
  f217 := Tryd.func57.trans (congrArg some (by kernel_rfl))
  f266 := Tryd.func64.trans (congrArg some (by kernel_rfl))
  t3 := Tryd.underlying3
  a3 := Tryd.isAgg3
  z3 := Tryd.sizeOf3
  v3 := Tryd.zeroValue3
  t5 := Tryd.underlying5
  a5 := Tryd.isAgg5
  z5 := Tryd.sizeOf5
  v5 := Tryd.zeroValue5
  t9 := Tryd.underlying9
  a9 := Tryd.isAgg9
  z9 := Tryd.sizeOf9
  v9 := Tryd.zeroValue9 }
open Go.RowKit Go.Lib in
/-- internal/stringslite.IndexByte (what strings.IndexByte calls): IT RETURNS 'Lib.indexByte s c'; the world is as it was. (LAID: no walk: one application.) -/
theorem Tryd.stringslite_IndexByte (s : ByteArray) (c : Int) (w : World) :
    Calls Tryd.prog 57 #[.string s, .int .u8 c] w fun e w' => e = .returned (.int .i64 (Lib.indexByte s.data.toList c.toNat.toUInt8)) ∧ w' = w := Any.stringslite_IndexByte Tryd.lays217 s c w
def Tryd.lays206_ren : Go.Shelf.Ren := ⟨fun | 206 => 55 | n => n, fun | 9 => 9 | 4 => 4 | 3 => 3 | n => n, fun | n => n⟩
theorem Tryd.lays206 : Go.Proofs.Lays.n206 Tryd.prog Tryd.lays206_ren := {
  mixed := by kernel_rfl
  f206 := Tryd.func55.trans (congrArg some (by kernel_rfl))
  t3 := Tryd.underlying3
  a3 := Tryd.isAgg3
  z3 := Tryd.sizeOf3
  v3 := Tryd.zeroValue3
  t4 := Tryd.underlying4
  a4 := Tryd.isAgg4
  z4 := Tryd.sizeOf4
  v4 := Tryd.zeroValue4
  t9 := Tryd.underlying9
  a9 := Tryd.isAgg9
  z9 := Tryd.sizeOf9
  v9 := Tryd.zeroValue9 }
open Go.RowKit Go.Lib in
/-- internal/stringslite.HasPrefix (what strings.HasPrefix calls). (LAID: no walk: one application.) -/
theorem Tryd.stringslite_HasPrefix (s p : ByteArray) (w : World) :
    Calls Tryd.prog 55 #[.string s, .string p] w fun e w' => e = .returned (.bool (Lib.hasPrefix s.data.toList p.data.toList)) ∧ w' = w := Any.stringslite_HasPrefix Tryd.lays206 s p w
def Tryd.lays99_ren : Go.Shelf.Ren := ⟨fun | 99 => 43 | 206 => 55 | n => n, fun | 9 => 9 | 4 => 4 | 3 => 3 | n => n, fun | n => n⟩
theorem Tryd.lays99 : Go.Proofs.Lays.n99 Tryd.prog Tryd.lays99_ren := {
  mixed := by kernel_rfl
  f99 := Tryd.func43.trans (congrArg some (by kernel_rfl))
  f206 := Tryd.func55.trans (congrArg some (by kernel_rfl))
  t3 := Tryd.underlying3
  a3 := Tryd.isAgg3
  z3 := Tryd.sizeOf3
  v3 := Tryd.zeroValue3
  t4 := Tryd.underlying4
  a4 := Tryd.isAgg4
  z4 := Tryd.sizeOf4
  v4 := Tryd.zeroValue4
  t9 := Tryd.underlying9
  a9 := Tryd.isAgg9
  z9 := Tryd.sizeOf9
  v9 := Tryd.zeroValue9 }
open Go.RowKit Go.Lib in
/-- strings.HasPrefix: "HasPrefix reports whether the string s begins with prefix.": IT RETURNS 'Lib.hasPrefix s prefix'; the world is as it was. (LAID: no walk: one application.) -/
theorem Tryd.strings_HasPrefix (s p : ByteArray) (w : World) :
    Calls Tryd.prog 43 #[.string s, .string p] w fun e w' => e = .returned (.bool (Lib.hasPrefix s.data.toList p.data.toList)) ∧ w' = w := Any.strings_HasPrefix Tryd.lays99 s p w
end Go.Proofs
