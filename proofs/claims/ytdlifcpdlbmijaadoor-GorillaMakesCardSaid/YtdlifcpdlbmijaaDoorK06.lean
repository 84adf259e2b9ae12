/-
  PACKED: B2BookD, B2NoneA, B2NoneB, B2BookE, LaM, Door, Start, Laid
-/
import Derived.Test.YtdlifcpdlbmijaaDoorK05
import Derived.Test.YtdlifcpdlbmijaaDoorK01
import Derived.Test.YtdlifcpdlbmijaaDoorRows
import Derived.Test.YtdlifcpdlbmijaaDoorK04
import Derived.WalkKit
import Derived.ProofKit
import Derived.LaidMore
import Derived.LaidHandle
import Derived.Lay
import Derived.Lib.LaidIn
import Derived.Stop.Joined
import Derived.LaidLaws
import Derived.LaidSub
import Derived.MakeChecks
import Derived.Lib.LaidTab
import Derived.OpenShut
import Derived.Shelf.Vars
namespace Go.Proofs.YtdlifcpdlbmijaaDoor.B2
open Go.RowKit
theorem info191 : (Tryd.prog.info? 222).map (fun i => (i.zero, i.size, i.bytes)) = some (some (.slice none 0 0), 1, 24) := by kernel_rfl
set_option maxRecDepth 100000 in
set_option maxHeartbeats 1000000 in
theorem own68 (w : World) : Calls Tryd.prog 60 #[.slice none 0 0] w fun e w' => e = .returned (.bool true) ∧ Below w.heap.size w w' := by
  obtain ⟨i0, hi, hz0, hz1, hz2⟩ := info_parts info191
  go_enter Tryd.func60, Tryd.ntmps60
  go_wp2_with (at_make; refine wpList_make_own _ rfl _ _ 59 rfl w.heap.size 222 i0 (.slice none 0 0) 1 Tryd.underlying59 hi hz0 hz1 .i64 .i64 _ 0 rfl rfl (by rfl) (by omega) (by unfold maxLen; omega) (Nat.le_refl _) ?_; intro w1 hown1 hgr1)
  have HB := Lib.hid ((Below.refl _ w).grown hgr1 (Nat.le_refl _) (fun k hk => by cases hk))
  clear hown1 hgr1
  go_loop [4] (fun i => i = .int .i64 0) (fun _ => 0)
  case atStart => rfl
  case round =>
    obtain rfl := hrel
    go_wp2
    go_ret
    exact ⟨rfl, HB.out⟩
/-- the book's cells: the rows of bytes, and nothing else -/
def bk (v : Value) : Array Value := (v :: List.replicate 31 (.slice none 0 0)).toArray
theorem bk_first (v : Value) : (bk v)[0]? = some v := rfl
theorem bk_rest (v : Value) (k : Nat) (h : k < 31) : (bk v)[k + 1]? = some (.slice none 0 0) := by
  unfold bk
  rw [List.getElem?_toArray, List.getElem?_cons_succ, List.getElem?_replicate, if_pos h]
/-- the book at pb has these rows; h is where they lie -/
def BookAt (w : World) (pb h n : Nat) (X : Nat → Value) : Prop :=
  ∃ v, w.heap[pb]? = some (.cells (bk v) 63 (0, 0)) ∧ w.ownsRow 0 71 1 v n ((List.range n).map X) ∧ h = v.ownBlock.getD pb ∧ v.ownBlock ≠ some pb
theorem BookAt.lt {w : World} {pb h n : Nat} {X : Nat → Value} (H : BookAt w pb h n X) : pb < w.heap.size ∧ h < w.heap.size := by
  obtain ⟨v, h1, h2, rfl, _⟩ := H
  have hp := (Array.getElem?_eq_some_iff.1 h1).1
  refine ⟨hp, ?_⟩
  cases e : v.ownBlock with
  | none => exact hp
  | some g => exact (h2.lt g e).2
theorem BookAt.only {w w' : World} {pb h n : Nat} {X : Nat → Value} (H : BookAt w pb h n X) {S : List Nat} (ho : Only S w w') (hp : pb ∉ S) (hh : h ∉ S) : BookAt w' pb h n X := by
  obtain ⟨v, h1, h2, rfl, h4⟩ := H
  refine ⟨v, (ho.block pb (Array.getElem?_eq_some_iff.1 h1).1 hp).trans h1, owns_only h2 ho (fun g hg => ?_), rfl, h4⟩
  rw [hg] at hh
  exact hh
theorem BookAt.below {w w' : World} {pb h n : Nat} {X : Nat → Value} (H : BookAt w pb h n X) (hb : Below w.heap.size w w') : BookAt w' pb h n X := H.only (Only.of_below hb []) (by simp) (by simp)
/-- behind a row more -/
def BookPost (w : World) (pb h n : Nat) (X : Nat → Value) (w' : World) : Prop := ∃ h', BookAt w' pb h' n X ∧ (h' = h ∨ w.heap.size ≤ h') ∧ Only [pb, h] w w'
theorem BookAt.congr {w : World} {pb h n : Nat} {X Y : Nat → Value} (H : BookAt w pb h n X) (he : ∀ j, j < n → Y j = X j) : BookAt w pb h n Y := by
  obtain ⟨v, h1, h2, h3, h4⟩ := H
  refine ⟨v, h1, ?_, h3, h4⟩
  have : (List.range n).map Y = (List.range n).map X := List.map_congr_left fun j hj => he j (List.mem_range.1 hj)
  rw [this]; exact h2
set_option maxRecDepth 100000 in
set_option maxHeartbeats 1000000 in
theorem bookbytes_any (pb h n m cap : Nat) (a : Option Addr) (X : Nat → Value) (hX : X n = .slice a m cap) (w : World) (H : BookAt w pb h n X) (hn : n ≤ 1000) :
    Calls Tryd.prog 12 #[.pointer (some ⟨pb, 0, none⟩), .slice a m cap] w fun e w' => e = .returned (.tuple #[]) ∧ BookPost w pb h (n + 1) X w' := by
  obtain ⟨i0, hi, hz0, hz1, hz2⟩ := info_parts info27
  obtain ⟨v, h1, h2, rfl, h4⟩ := H
  have hvs : ∃ av cv, v = .slice av n cv := by
    rcases h2.2 with ⟨hv, h0⟩ | ⟨g, c2, _, hv, _⟩
    · exact ⟨none, 0, by rw [hv, h0]⟩
    · exact ⟨_, _, hv⟩
  obtain ⟨av, cv, rfl⟩ := hvs
  have c0 : w.cell? ⟨pb, 0, none⟩ = some (.slice av n cv) := by rw [cell_of_row _ _ _ _ _ _ h1]; rfl
  have f0 : w.frozen? ⟨pb, 0, none⟩ = false := frozen_of_row _ _ _ _ _ h1
  have hpl := (Array.getElem?_eq_some_iff.1 h1).1
  have H1 := Lib.hid h1
  have H2 := Lib.hid h2
  have H4 := Lib.hid h4
  have HX := Lib.hid hX
  clear h1 h2 h4 hX
  go_enter Tryd.func12, Tryd.ntmps12
  go_wp2_with (at_builtin; refine wpList_append_place _ rfl (.tmp 8) (.tmp 10) 30 rfl 71 i0 (.slice none 0 0) 1 24 Tryd.underlying30 hi hz0 hz1 hz2 rfl (by decide) (.slice av n cv) n ((List.range n).map X) rfl (H2.out.alloc _) ⟨w.heap.size, 0, none⟩ 1 1 [Value.slice a m cap] rfl rfl (one_any w _ 71) (by simp [Value.oneCell']) (by unfold maxLen; omega) (by omega) ?_)
  intro v2 w2 hown2 hgr2 hpl2
  have hvs2 : ∃ a2 c3, v2 = .slice a2 (n + 1) c3 := by
    rcases hown2.2 with ⟨_, h0⟩ | ⟨g, c4, _, hv, _⟩
    · omega
    · exact ⟨_, _, hv⟩
  obtain ⟨a2, c3, rfl⟩ := hvs2
  have hne : some pb ≠ (Value.slice av n cv).ownBlock := fun e => H4.out e.symm
  have hb2 : w2.heap[pb]? = some (.cells (bk (.slice av n cv)) 63 (0, 0)) := (hgr2.block pb (by simp; omega) hne).trans ((Below.heap_alloc w _ pb hpl).trans H1.out)
  have c2 : w2.cell? ⟨pb, 0, none⟩ = some (.slice av n cv) := by rw [cell_of_row _ _ _ _ _ _ hb2]; rfl
  have f2 : w2.frozen? ⟨pb, 0, none⟩ = false := frozen_of_row _ _ _ _ _ hb2
  have hnb : (Value.slice a2 (n + 1) c3).ownBlock ≠ some pb := by
    rcases hpl2 with e | ⟨g, e, hg⟩
    · rw [e]; exact H4.out
    · rw [e]; simp at hg ⊢; omega
  have hsome : ∃ g, (Value.slice a2 (n + 1) c3).ownBlock = some g ∧ (g = (Value.slice av n cv).ownBlock.getD pb ∨ w.heap.size ≤ g) := by
    rcases hown2.2 with ⟨_, h0⟩ | ⟨g, _, _, hv, _⟩
    · omega
    · refine ⟨g, by rw [hv]; rfl, ?_⟩
      rcases hpl2 with e | ⟨g', e, hg⟩
      · left; rw [← e, hv]; rfl
      · right; rw [hv] at e; simp [Value.ownBlock] at e; omega
  have ho2 : Only [pb, (Value.slice av n cv).ownBlock.getD pb] w w2 := ((Only.refl _ w).alloc _).grown hgr2 (fun k hk => .inl (by simp [hk]))
  have HN := Lib.hid (show BookPost w pb ((Value.slice av n cv).ownBlock.getD pb) (n + 1) X (w2.setCell ⟨pb, 0, none⟩ (.slice a2 (n + 1) c3)) from by
    obtain ⟨g, hg1, hg2⟩ := hsome
    refine ⟨g, ⟨_, ?_, ?_, by rw [hg1]; rfl, hnb⟩, hg2, ho2.setCell (p := ⟨pb, 0, none⟩) (.inl (by simp)) _⟩
    · rw [heap_setCell_same _ _ _ _ _ _ hb2]; rfl
    · have e : (List.range (n + 1)).map X = (List.range n).map X ++ [Value.slice a m cap] := by rw [List.range_succ, List.map_append, List.map_singleton, HX.out]
      rw [e]
      exact owns_only hown2 ((Only.refl [pb] _).setCell (p := ⟨pb, 0, none⟩) (.inl (by simp)) _) (fun g' hg' hm => by
        simp at hm; subst hm; exact hnb hg'))
  clear hown2 hgr2 hpl2 hb2 hsome ho2
  go_wp2
  go_end0
  exact ⟨rfl, HN.out⟩
end Go.Proofs.YtdlifcpdlbmijaaDoor.B2
namespace Go.Proofs.YtdlifcpdlbmijaaDoor.B2
open Go.RowKit
set_option maxRecDepth 100000
theorem own40 (w : World) : Calls Tryd.prog 32 #[.slice none 0 0] w fun e w' => e = .returned (.bool true) ∧ w = w' := by
  go_enter Tryd.func32, Tryd.ntmps32
  go_wp2
  go_loop [3] (fun i => i = .int .i64 0) (fun _ => 0)
  case atStart => rfl
  case round =>
    obtain rfl := hrel
    go_wp2
    go_loop [6] (fun i => i = .int .i64 0) (fun _ => 0)
    case atStart => rfl
    case round =>
      obtain rfl := hrel
      go_wp2
      go_loop [9] (fun i => i = .int .i64 0) (fun _ => 0)
      case atStart => rfl
      case round =>
        obtain rfl := hrel
        go_wp2
        go_ret
        exact ⟨rfl, rfl⟩
theorem own41 (w : World) : Calls Tryd.prog 33 #[.slice none 0 0] w fun e w' => e = .returned (.bool true) ∧ w = w' := by
  go_enter Tryd.func33, Tryd.ntmps33
  go_wp2
  go_loop [3] (fun i => i = .int .i64 0) (fun _ => 0)
  case atStart => rfl
  case round =>
    obtain rfl := hrel
    go_wp2
    go_loop [6] (fun i => i = .int .i64 0) (fun _ => 0)
    case atStart => rfl
    case round =>
      obtain rfl := hrel
      go_wp2
      go_loop [9] (fun i => i = .int .i64 0) (fun _ => 0)
      case atStart => rfl
      case round =>
        obtain rfl := hrel
        go_wp2
        go_ret
        exact ⟨rfl, rfl⟩
theorem own42 (w : World) : Calls Tryd.prog 34 #[.slice none 0 0] w fun e w' => e = .returned (.bool true) ∧ w = w' := by
  go_enter Tryd.func34, Tryd.ntmps34
  go_wp2
  go_loop [3] (fun i => i = .int .i64 0) (fun _ => 0)
  case atStart => rfl
  case round =>
    obtain rfl := hrel
    go_wp2
    go_loop [6] (fun i => i = .int .i64 0) (fun _ => 0)
    case atStart => rfl
    case round =>
      obtain rfl := hrel
      go_wp2
      go_loop [9] (fun i => i = .int .i64 0) (fun _ => 0)
      case atStart => rfl
      case round =>
        obtain rfl := hrel
        go_wp2
        go_ret
        exact ⟨rfl, rfl⟩
theorem own43 (w : World) : Calls Tryd.prog 35 #[.slice none 0 0] w fun e w' => e = .returned (.bool true) ∧ w = w' := by
  go_enter Tryd.func35, Tryd.ntmps35
  go_wp2
  go_loop [3] (fun i => i = .int .i64 0) (fun _ => 0)
  case atStart => rfl
  case round =>
    obtain rfl := hrel
    go_wp2
    go_loop [6] (fun i => i = .int .i64 0) (fun _ => 0)
    case atStart => rfl
    case round =>
      obtain rfl := hrel
      go_wp2
      go_loop [9] (fun i => i = .int .i64 0) (fun _ => 0)
      case atStart => rfl
      case round =>
        obtain rfl := hrel
        go_wp2
        go_ret
        exact ⟨rfl, rfl⟩
theorem own44 (w : World) : Calls Tryd.prog 36 #[.slice none 0 0] w fun e w' => e = .returned (.bool true) ∧ w = w' := by
  go_enter Tryd.func36, Tryd.ntmps36
  go_wp2
  go_loop [3] (fun i => i = .int .i64 0) (fun _ => 0)
  case atStart => rfl
  case round =>
    obtain rfl := hrel
    go_wp2
    go_loop [6] (fun i => i = .int .i64 0) (fun _ => 0)
    case atStart => rfl
    case round =>
      obtain rfl := hrel
      go_wp2
      go_loop [9] (fun i => i = .int .i64 0) (fun _ => 0)
      case atStart => rfl
      case round =>
        obtain rfl := hrel
        go_wp2
        go_ret
        exact ⟨rfl, rfl⟩
theorem own45 (w : World) : Calls Tryd.prog 37 #[.slice none 0 0] w fun e w' => e = .returned (.bool true) ∧ w = w' := by
  go_enter Tryd.func37, Tryd.ntmps37
  go_wp2
  go_loop [3] (fun i => i = .int .i64 0) (fun _ => 0)
  case atStart => rfl
  case round =>
    obtain rfl := hrel
    go_wp2
    go_loop [6] (fun i => i = .int .i64 0) (fun _ => 0)
    case atStart => rfl
    case round =>
      obtain rfl := hrel
      go_wp2
      go_loop [9] (fun i => i = .int .i64 0) (fun _ => 0)
      case atStart => rfl
      case round =>
        obtain rfl := hrel
        go_wp2
        go_ret
        exact ⟨rfl, rfl⟩
theorem own46 (w : World) : Calls Tryd.prog 38 #[.slice none 0 0] w fun e w' => e = .returned (.bool true) ∧ w = w' := by
  go_enter Tryd.func38, Tryd.ntmps38
  go_wp2
  go_loop [3] (fun i => i = .int .i64 0) (fun _ => 0)
  case atStart => rfl
  case round =>
    obtain rfl := hrel
    go_wp2
    go_loop [6] (fun i => i = .int .i64 0) (fun _ => 0)
    case atStart => rfl
    case round =>
      obtain rfl := hrel
      go_wp2
      go_loop [9] (fun i => i = .int .i64 0) (fun _ => 0)
      case atStart => rfl
      case round =>
        obtain rfl := hrel
        go_wp2
        go_ret
        exact ⟨rfl, rfl⟩
theorem own47 (w : World) : Calls Tryd.prog 39 #[.slice none 0 0] w fun e w' => e = .returned (.bool true) ∧ w = w' := by
  go_enter Tryd.func39, Tryd.ntmps39
  go_wp2
  go_loop [3] (fun i => i = .int .i64 0) (fun _ => 0)
  case atStart => rfl
  case round =>
    obtain rfl := hrel
    go_wp2
    go_loop [6] (fun i => i = .int .i64 0) (fun _ => 0)
    case atStart => rfl
    case round =>
      obtain rfl := hrel
      go_wp2
      go_loop [9] (fun i => i = .int .i64 0) (fun _ => 0)
      case atStart => rfl
      case round =>
        obtain rfl := hrel
        go_wp2
        go_ret
        exact ⟨rfl, rfl⟩
theorem own48 (w : World) : Calls Tryd.prog 40 #[.slice none 0 0] w fun e w' => e = .returned (.bool true) ∧ w = w' := by
  go_enter Tryd.func40, Tryd.ntmps40
  go_wp2
  go_loop [3] (fun i => i = .int .i64 0) (fun _ => 0)
  case atStart => rfl
  case round =>
    obtain rfl := hrel
    go_wp2
    go_loop [6] (fun i => i = .int .i64 0) (fun _ => 0)
    case atStart => rfl
    case round =>
      obtain rfl := hrel
      go_wp2
      go_loop [9] (fun i => i = .int .i64 0) (fun _ => 0)
      case atStart => rfl
      case round =>
        obtain rfl := hrel
        go_wp2
        go_ret
        exact ⟨rfl, rfl⟩
theorem own49 (w : World) : Calls Tryd.prog 41 #[.slice none 0 0] w fun e w' => e = .returned (.bool true) ∧ w = w' := by
  go_enter Tryd.func41, Tryd.ntmps41
  go_wp2
  go_loop [3] (fun i => i = .int .i64 0) (fun _ => 0)
  case atStart => rfl
  case round =>
    obtain rfl := hrel
    go_wp2
    go_loop [6] (fun i => i = .int .i64 0) (fun _ => 0)
    case atStart => rfl
    case round =>
      obtain rfl := hrel
      go_wp2
      go_loop [9] (fun i => i = .int .i64 0) (fun _ => 0)
      case atStart => rfl
      case round =>
        obtain rfl := hrel
        go_wp2
        go_ret
        exact ⟨rfl, rfl⟩
theorem own50 (w : World) : Calls Tryd.prog 42 #[.slice none 0 0] w fun e w' => e = .returned (.bool true) ∧ w = w' := by
  go_enter Tryd.func42, Tryd.ntmps42
  go_wp2
  go_loop [3] (fun i => i = .int .i64 0) (fun _ => 0)
  case atStart => rfl
  case round =>
    obtain rfl := hrel
    go_wp2
    go_loop [6] (fun i => i = .int .i64 0) (fun _ => 0)
    case atStart => rfl
    case round =>
      obtain rfl := hrel
      go_wp2
      go_loop [9] (fun i => i = .int .i64 0) (fun _ => 0)
      case atStart => rfl
      case round =>
        obtain rfl := hrel
        go_wp2
        go_ret
        exact ⟨rfl, rfl⟩
theorem own51 (w : World) : Calls Tryd.prog 43 #[.slice none 0 0] w fun e w' => e = .returned (.bool true) ∧ w = w' := by
  go_enter Tryd.func43, Tryd.ntmps43
  go_wp2
  go_loop [3] (fun i => i = .int .i64 0) (fun _ => 0)
  case atStart => rfl
  case round =>
    obtain rfl := hrel
    go_wp2
    go_loop [6] (fun i => i = .int .i64 0) (fun _ => 0)
    case atStart => rfl
    case round =>
      obtain rfl := hrel
      go_wp2
      go_loop [9] (fun i => i = .int .i64 0) (fun _ => 0)
      case atStart => rfl
      case round =>
        obtain rfl := hrel
        go_wp2
        go_ret
        exact ⟨rfl, rfl⟩
theorem own52 (w : World) : Calls Tryd.prog 44 #[.slice none 0 0] w fun e w' => e = .returned (.bool true) ∧ w = w' := by
  go_enter Tryd.func44, Tryd.ntmps44
  go_wp2
  go_loop [3] (fun i => i = .int .i64 0) (fun _ => 0)
  case atStart => rfl
  case round =>
    obtain rfl := hrel
    go_wp2
    go_loop [6] (fun i => i = .int .i64 0) (fun _ => 0)
    case atStart => rfl
    case round =>
      obtain rfl := hrel
      go_wp2
      go_loop [9] (fun i => i = .int .i64 0) (fun _ => 0)
      case atStart => rfl
      case round =>
        obtain rfl := hrel
        go_wp2
        go_ret
        exact ⟨rfl, rfl⟩
theorem own53 (w : World) : Calls Tryd.prog 45 #[.slice none 0 0] w fun e w' => e = .returned (.bool true) ∧ w = w' := by
  go_enter Tryd.func45, Tryd.ntmps45
  go_wp2
  go_loop [3] (fun i => i = .int .i64 0) (fun _ => 0)
  case atStart => rfl
  case round =>
    obtain rfl := hrel
    go_wp2
    go_loop [6] (fun i => i = .int .i64 0) (fun _ => 0)
    case atStart => rfl
    case round =>
      obtain rfl := hrel
      go_wp2
      go_loop [9] (fun i => i = .int .i64 0) (fun _ => 0)
      case atStart => rfl
      case round =>
        obtain rfl := hrel
        go_wp2
        go_ret
        exact ⟨rfl, rfl⟩
theorem own54 (w : World) : Calls Tryd.prog 46 #[.slice none 0 0] w fun e w' => e = .returned (.bool true) ∧ w = w' := by
  go_enter Tryd.func46, Tryd.ntmps46
  go_wp2
  go_loop [3] (fun i => i = .int .i64 0) (fun _ => 0)
  case atStart => rfl
  case round =>
    obtain rfl := hrel
    go_wp2
    go_loop [6] (fun i => i = .int .i64 0) (fun _ => 0)
    case atStart => rfl
    case round =>
      obtain rfl := hrel
      go_wp2
      go_loop [9] (fun i => i = .int .i64 0) (fun _ => 0)
      case atStart => rfl
      case round =>
        obtain rfl := hrel
        go_wp2
        go_ret
        exact ⟨rfl, rfl⟩
end Go.Proofs.YtdlifcpdlbmijaaDoor.B2
namespace Go.Proofs.YtdlifcpdlbmijaaDoor.B2
open Go.RowKit
set_option maxRecDepth 100000
theorem own55 (w : World) : Calls Tryd.prog 47 #[.slice none 0 0] w fun e w' => e = .returned (.bool true) ∧ w = w' := by
  go_enter Tryd.func47, Tryd.ntmps47
  go_wp2
  go_loop [3] (fun i => i = .int .i64 0) (fun _ => 0)
  case atStart => rfl
  case round =>
    obtain rfl := hrel
    go_wp2
    go_loop [6] (fun i => i = .int .i64 0) (fun _ => 0)
    case atStart => rfl
    case round =>
      obtain rfl := hrel
      go_wp2
      go_loop [9] (fun i => i = .int .i64 0) (fun _ => 0)
      case atStart => rfl
      case round =>
        obtain rfl := hrel
        go_wp2
        go_ret
        exact ⟨rfl, rfl⟩
theorem own56 (w : World) : Calls Tryd.prog 48 #[.slice none 0 0] w fun e w' => e = .returned (.bool true) ∧ w = w' := by
  go_enter Tryd.func48, Tryd.ntmps48
  go_wp2
  go_loop [3] (fun i => i = .int .i64 0) (fun _ => 0)
  case atStart => rfl
  case round =>
    obtain rfl := hrel
    go_wp2
    go_loop [6] (fun i => i = .int .i64 0) (fun _ => 0)
    case atStart => rfl
    case round =>
      obtain rfl := hrel
      go_wp2
      go_loop [9] (fun i => i = .int .i64 0) (fun _ => 0)
      case atStart => rfl
      case round =>
        obtain rfl := hrel
        go_wp2
        go_ret
        exact ⟨rfl, rfl⟩
theorem own57 (w : World) : Calls Tryd.prog 49 #[.slice none 0 0] w fun e w' => e = .returned (.bool true) ∧ w = w' := by
  go_enter Tryd.func49, Tryd.ntmps49
  go_wp2
  go_loop [3] (fun i => i = .int .i64 0) (fun _ => 0)
  case atStart => rfl
  case round =>
    obtain rfl := hrel
    go_wp2
    go_loop [6] (fun i => i = .int .i64 0) (fun _ => 0)
    case atStart => rfl
    case round =>
      obtain rfl := hrel
      go_wp2
      go_loop [9] (fun i => i = .int .i64 0) (fun _ => 0)
      case atStart => rfl
      case round =>
        obtain rfl := hrel
        go_wp2
        go_ret
        exact ⟨rfl, rfl⟩
theorem own58 (w : World) : Calls Tryd.prog 50 #[.slice none 0 0] w fun e w' => e = .returned (.bool true) ∧ w = w' := by
  go_enter Tryd.func50, Tryd.ntmps50
  go_wp2
  go_loop [3] (fun i => i = .int .i64 0) (fun _ => 0)
  case atStart => rfl
  case round =>
    obtain rfl := hrel
    go_wp2
    go_loop [6] (fun i => i = .int .i64 0) (fun _ => 0)
    case atStart => rfl
    case round =>
      obtain rfl := hrel
      go_wp2
      go_loop [9] (fun i => i = .int .i64 0) (fun _ => 0)
      case atStart => rfl
      case round =>
        obtain rfl := hrel
        go_wp2
        go_ret
        exact ⟨rfl, rfl⟩
theorem own59 (w : World) : Calls Tryd.prog 51 #[.slice none 0 0] w fun e w' => e = .returned (.bool true) ∧ w = w' := by
  go_enter Tryd.func51, Tryd.ntmps51
  go_wp2
  go_loop [3] (fun i => i = .int .i64 0) (fun _ => 0)
  case atStart => rfl
  case round =>
    obtain rfl := hrel
    go_wp2
    go_loop [6] (fun i => i = .int .i64 0) (fun _ => 0)
    case atStart => rfl
    case round =>
      obtain rfl := hrel
      go_wp2
      go_loop [9] (fun i => i = .int .i64 0) (fun _ => 0)
      case atStart => rfl
      case round =>
        obtain rfl := hrel
        go_wp2
        go_ret
        exact ⟨rfl, rfl⟩
theorem own60 (w : World) : Calls Tryd.prog 52 #[.slice none 0 0] w fun e w' => e = .returned (.bool true) ∧ w = w' := by
  go_enter Tryd.func52, Tryd.ntmps52
  go_wp2
  go_loop [3] (fun i => i = .int .i64 0) (fun _ => 0)
  case atStart => rfl
  case round =>
    obtain rfl := hrel
    go_wp2
    go_loop [6] (fun i => i = .int .i64 0) (fun _ => 0)
    case atStart => rfl
    case round =>
      obtain rfl := hrel
      go_wp2
      go_loop [9] (fun i => i = .int .i64 0) (fun _ => 0)
      case atStart => rfl
      case round =>
        obtain rfl := hrel
        go_wp2
        go_ret
        exact ⟨rfl, rfl⟩
theorem own61 (w : World) : Calls Tryd.prog 53 #[.slice none 0 0] w fun e w' => e = .returned (.bool true) ∧ w = w' := by
  go_enter Tryd.func53, Tryd.ntmps53
  go_wp2
  go_loop [3] (fun i => i = .int .i64 0) (fun _ => 0)
  case atStart => rfl
  case round =>
    obtain rfl := hrel
    go_wp2
    go_loop [6] (fun i => i = .int .i64 0) (fun _ => 0)
    case atStart => rfl
    case round =>
      obtain rfl := hrel
      go_wp2
      go_loop [9] (fun i => i = .int .i64 0) (fun _ => 0)
      case atStart => rfl
      case round =>
        obtain rfl := hrel
        go_wp2
        go_ret
        exact ⟨rfl, rfl⟩
theorem own62 (w : World) : Calls Tryd.prog 54 #[.slice none 0 0] w fun e w' => e = .returned (.bool true) ∧ w = w' := by
  go_enter Tryd.func54, Tryd.ntmps54
  go_wp2
  go_loop [3] (fun i => i = .int .i64 0) (fun _ => 0)
  case atStart => rfl
  case round =>
    obtain rfl := hrel
    go_wp2
    go_loop [6] (fun i => i = .int .i64 0) (fun _ => 0)
    case atStart => rfl
    case round =>
      obtain rfl := hrel
      go_wp2
      go_loop [9] (fun i => i = .int .i64 0) (fun _ => 0)
      case atStart => rfl
      case round =>
        obtain rfl := hrel
        go_wp2
        go_ret
        exact ⟨rfl, rfl⟩
theorem own63 (w : World) : Calls Tryd.prog 55 #[.slice none 0 0] w fun e w' => e = .returned (.bool true) ∧ w = w' := by
  go_enter Tryd.func55, Tryd.ntmps55
  go_wp2
  go_loop [3] (fun i => i = .int .i64 0) (fun _ => 0)
  case atStart => rfl
  case round =>
    obtain rfl := hrel
    go_wp2
    go_loop [6] (fun i => i = .int .i64 0) (fun _ => 0)
    case atStart => rfl
    case round =>
      obtain rfl := hrel
      go_wp2
      go_loop [9] (fun i => i = .int .i64 0) (fun _ => 0)
      case atStart => rfl
      case round =>
        obtain rfl := hrel
        go_wp2
        go_ret
        exact ⟨rfl, rfl⟩
theorem own64 (w : World) : Calls Tryd.prog 56 #[.slice none 0 0] w fun e w' => e = .returned (.bool true) ∧ w = w' := by
  go_enter Tryd.func56, Tryd.ntmps56
  go_wp2
  go_loop [3] (fun i => i = .int .i64 0) (fun _ => 0)
  case atStart => rfl
  case round =>
    obtain rfl := hrel
    go_wp2
    go_loop [6] (fun i => i = .int .i64 0) (fun _ => 0)
    case atStart => rfl
    case round =>
      obtain rfl := hrel
      go_wp2
      go_loop [9] (fun i => i = .int .i64 0) (fun _ => 0)
      case atStart => rfl
      case round =>
        obtain rfl := hrel
        go_wp2
        go_ret
        exact ⟨rfl, rfl⟩
theorem own65 (w : World) : Calls Tryd.prog 57 #[.slice none 0 0] w fun e w' => e = .returned (.bool true) ∧ w = w' := by
  go_enter Tryd.func57, Tryd.ntmps57
  go_wp2
  go_loop [3] (fun i => i = .int .i64 0) (fun _ => 0)
  case atStart => rfl
  case round =>
    obtain rfl := hrel
    go_wp2
    go_loop [6] (fun i => i = .int .i64 0) (fun _ => 0)
    case atStart => rfl
    case round =>
      obtain rfl := hrel
      go_wp2
      go_loop [9] (fun i => i = .int .i64 0) (fun _ => 0)
      case atStart => rfl
      case round =>
        obtain rfl := hrel
        go_wp2
        go_ret
        exact ⟨rfl, rfl⟩
theorem own66 (w : World) : Calls Tryd.prog 58 #[.slice none 0 0] w fun e w' => e = .returned (.bool true) ∧ w = w' := by
  go_enter Tryd.func58, Tryd.ntmps58
  go_wp2
  go_loop [3] (fun i => i = .int .i64 0) (fun _ => 0)
  case atStart => rfl
  case round =>
    obtain rfl := hrel
    go_wp2
    go_loop [6] (fun i => i = .int .i64 0) (fun _ => 0)
    case atStart => rfl
    case round =>
      obtain rfl := hrel
      go_wp2
      go_loop [9] (fun i => i = .int .i64 0) (fun _ => 0)
      case atStart => rfl
      case round =>
        obtain rfl := hrel
        go_wp2
        go_ret
        exact ⟨rfl, rfl⟩
theorem own67 (w : World) : Calls Tryd.prog 59 #[.slice none 0 0] w fun e w' => e = .returned (.bool true) ∧ w = w' := by
  go_enter Tryd.func59, Tryd.ntmps59
  go_wp2
  go_loop [3] (fun i => i = .int .i64 0) (fun _ => 0)
  case atStart => rfl
  case round =>
    obtain rfl := hrel
    go_wp2
    go_loop [6] (fun i => i = .int .i64 0) (fun _ => 0)
    case atStart => rfl
    case round =>
      obtain rfl := hrel
      go_wp2
      go_loop [9] (fun i => i = .int .i64 0) (fun _ => 0)
      case atStart => rfl
      case round =>
        obtain rfl := hrel
        go_wp2
        go_ret
        exact ⟨rfl, rfl⟩
theorem own69 (w : World) : Calls Tryd.prog 61 #[.slice none 0 0] w fun e w' => e = .returned (.bool true) ∧ w = w' := by
  go_enter Tryd.func61, Tryd.ntmps61
  go_wp2
  go_loop [3] (fun i => i = .int .i64 0) (fun _ => 0)
  case atStart => rfl
  case round =>
    obtain rfl := hrel
    go_wp2
    go_loop [6] (fun i => i = .int .i64 0) (fun _ => 0)
    case atStart => rfl
    case round =>
      obtain rfl := hrel
      go_wp2
      go_loop [9] (fun i => i = .int .i64 0) (fun _ => 0)
      case atStart => rfl
      case round =>
        obtain rfl := hrel
        go_wp2
        go_ret
        exact ⟨rfl, rfl⟩
theorem own70 (w : World) : Calls Tryd.prog 62 #[.slice none 0 0] w fun e w' => e = .returned (.bool true) ∧ w = w' := by
  go_enter Tryd.func62, Tryd.ntmps62
  go_wp2
  go_loop [3] (fun i => i = .int .i64 0) (fun _ => 0)
  case atStart => rfl
  case round =>
    obtain rfl := hrel
    go_wp2
    go_loop [6] (fun i => i = .int .i64 0) (fun _ => 0)
    case atStart => rfl
    case round =>
      obtain rfl := hrel
      go_wp2
      go_loop [9] (fun i => i = .int .i64 0) (fun _ => 0)
      case atStart => rfl
      case round =>
        obtain rfl := hrel
        go_wp2
        go_ret
        exact ⟨rfl, rfl⟩
end Go.Proofs.YtdlifcpdlbmijaaDoor.B2
namespace Go.Proofs.YtdlifcpdlbmijaaDoor.B2
open Go.RowKit
theorem BookAt.outer {w : World} {pb h n : Nat} {X : Nat → Value} (H : BookAt w pb h n X) : ∃ a cap, w.heap[pb]? = some (.cells (bk (.slice a n cap)) 63 (0, 0)) ∧ Outer w a h n X := by
  obtain ⟨v, h1, h2, rfl, h4⟩ := H
  rcases h2.2 with ⟨rfl, rfl⟩ | ⟨g, cap, cur, hv, hg⟩
  · exact ⟨none, 0, h1, fun h0 => by omega⟩
  · have hc := h2.cells (g := g) (by rw [hv]; rfl)
    have hl := (h2.lt g (by rw [hv]; rfl)).2
    subst hv
    refine ⟨_, cap, h1, fun _ => ⟨rfl, hl, fun i hi => ?_⟩⟩
    have := hc i (X i) (by simp [hi])
    rw [add_here] at this
    exact this
theorem bk_cell {w : World} {pb : Nat} {v : Value} (h : w.heap[pb]? = some (.cells (bk v) 63 (0, 0))) (k : Nat) (hk : k < 31) : w.cell? ⟨pb, k + 1, none⟩ = some (.slice none 0 0) := by
  rw [cell_of_row _ _ _ _ _ _ h]; exact bk_rest v k hk
set_option maxRecDepth 100000 in
set_option maxHeartbeats 4000000 in
theorem own_any (pb h n N : Nat) (X : Nat → Value) (L : Nat → Nat) (w : World) (H : BookAt w pb h n X) (hpb : pb < N) (P : Places N w.heap.size h X) (hR : ∃ C, Lots w N X C ∧ ∀ j, (C j).length = L j) (hn : n ≤ 1000) (hL : ∀ j, L j ≤ 1000000) (hz : ∀ j, n ≤ j → L j = 0) :
    Calls Tryd.prog 15 #[.pointer (some ⟨pb, 0, none⟩)] w fun e w' => e = .returned (.bool true) ∧ Below N w w' := by
  obtain ⟨a, cap, hb, hO⟩ := H.outer
  have hpl := H.lt.1
  have c0 : w.cell? ⟨pb, 0, none⟩ = some (.slice a n cap) := by rw [cell_of_row _ _ _ _ _ _ hb]; rfl
  have HB := Lib.hid hb
  have HO := Lib.hid hO
  have HP := Lib.hid P
  have HR := Lib.hid hR
  have HL := Lib.hid hL
  have HZ := Lib.hid hz
  clear H hb hO P hR hL hz
  go_enter Tryd.func15, Tryd.ntmps15
  go_wp2_with fail
  refine (ownbytes_any a h n cap N X L _ HP.out HO.out HR.out hn HL.out HZ.out).mono ?_
  rintro e w1 ⟨rfl, hb1⟩
  have hbk : w1.heap[pb]? = some (.cells (bk (.slice a n cap)) 63 (0, 0)) := (hb1.block pb hpb).trans HB.out
  have hpl1 := (Array.getElem?_eq_some_iff.1 hbk).1
  have B1 := Lib.hid hb1
  have BK := Lib.hid hbk
  clear hb1 hbk c0
  have c1 : w1.cell? ⟨pb, 1, none⟩ = some (.slice none 0 0) := bk_cell BK.out 0 (by decide)
  go_wp2_with fail
  refine (own40 _).mono ?_
  rintro e wx ⟨rfl, hww⟩
  subst hww
  clear c1
  have c2 : w1.cell? ⟨pb, 2, none⟩ = some (.slice none 0 0) := bk_cell BK.out 1 (by decide)
  go_wp2_with fail
  refine (own41 _).mono ?_
  rintro e wx ⟨rfl, hww⟩
  subst hww
  clear c2
  have c3 : w1.cell? ⟨pb, 3, none⟩ = some (.slice none 0 0) := bk_cell BK.out 2 (by decide)
  go_wp2_with fail
  refine (own42 _).mono ?_
  rintro e wx ⟨rfl, hww⟩
  subst hww
  clear c3
  have c4 : w1.cell? ⟨pb, 4, none⟩ = some (.slice none 0 0) := bk_cell BK.out 3 (by decide)
  go_wp2_with fail
  refine (own43 _).mono ?_
  rintro e wx ⟨rfl, hww⟩
  subst hww
  clear c4
  have c5 : w1.cell? ⟨pb, 5, none⟩ = some (.slice none 0 0) := bk_cell BK.out 4 (by decide)
  go_wp2_with fail
  refine (own44 _).mono ?_
  rintro e wx ⟨rfl, hww⟩
  subst hww
  clear c5
  have c6 : w1.cell? ⟨pb, 6, none⟩ = some (.slice none 0 0) := bk_cell BK.out 5 (by decide)
  go_wp2_with fail
  refine (own45 _).mono ?_
  rintro e wx ⟨rfl, hww⟩
  subst hww
  clear c6
  have c7 : w1.cell? ⟨pb, 7, none⟩ = some (.slice none 0 0) := bk_cell BK.out 6 (by decide)
  go_wp2_with fail
  refine (own46 _).mono ?_
  rintro e wx ⟨rfl, hww⟩
  subst hww
  clear c7
  have c8 : w1.cell? ⟨pb, 8, none⟩ = some (.slice none 0 0) := bk_cell BK.out 7 (by decide)
  go_wp2_with fail
  refine (own47 _).mono ?_
  rintro e wx ⟨rfl, hww⟩
  subst hww
  clear c8
  have c9 : w1.cell? ⟨pb, 9, none⟩ = some (.slice none 0 0) := bk_cell BK.out 8 (by decide)
  go_wp2_with fail
  refine (own48 _).mono ?_
  rintro e wx ⟨rfl, hww⟩
  subst hww
  clear c9
  have c10 : w1.cell? ⟨pb, 10, none⟩ = some (.slice none 0 0) := bk_cell BK.out 9 (by decide)
  go_wp2_with fail
  refine (own49 _).mono ?_
  rintro e wx ⟨rfl, hww⟩
  subst hww
  clear c10
  have c11 : w1.cell? ⟨pb, 11, none⟩ = some (.slice none 0 0) := bk_cell BK.out 10 (by decide)
  go_wp2_with fail
  refine (own50 _).mono ?_
  rintro e wx ⟨rfl, hww⟩
  subst hww
  clear c11
  have c12 : w1.cell? ⟨pb, 12, none⟩ = some (.slice none 0 0) := bk_cell BK.out 11 (by decide)
  go_wp2_with fail
  refine (own51 _).mono ?_
  rintro e wx ⟨rfl, hww⟩
  subst hww
  clear c12
  have c13 : w1.cell? ⟨pb, 13, none⟩ = some (.slice none 0 0) := bk_cell BK.out 12 (by decide)
  go_wp2_with fail
  refine (own52 _).mono ?_
  rintro e wx ⟨rfl, hww⟩
  subst hww
  clear c13
  have c14 : w1.cell? ⟨pb, 14, none⟩ = some (.slice none 0 0) := bk_cell BK.out 13 (by decide)
  go_wp2_with fail
  refine (own53 _).mono ?_
  rintro e wx ⟨rfl, hww⟩
  subst hww
  clear c14
  have c15 : w1.cell? ⟨pb, 15, none⟩ = some (.slice none 0 0) := bk_cell BK.out 14 (by decide)
  go_wp2_with fail
  refine (own54 _).mono ?_
  rintro e wx ⟨rfl, hww⟩
  subst hww
  clear c15
  have c16 : w1.cell? ⟨pb, 16, none⟩ = some (.slice none 0 0) := bk_cell BK.out 15 (by decide)
  go_wp2_with fail
  refine (own55 _).mono ?_
  rintro e wx ⟨rfl, hww⟩
  subst hww
  clear c16
  have c17 : w1.cell? ⟨pb, 17, none⟩ = some (.slice none 0 0) := bk_cell BK.out 16 (by decide)
  go_wp2_with fail
  refine (own56 _).mono ?_
  rintro e wx ⟨rfl, hww⟩
  subst hww
  clear c17
  have c18 : w1.cell? ⟨pb, 18, none⟩ = some (.slice none 0 0) := bk_cell BK.out 17 (by decide)
  go_wp2_with fail
  refine (own57 _).mono ?_
  rintro e wx ⟨rfl, hww⟩
  subst hww
  clear c18
  have c19 : w1.cell? ⟨pb, 19, none⟩ = some (.slice none 0 0) := bk_cell BK.out 18 (by decide)
  go_wp2_with fail
  refine (own58 _).mono ?_
  rintro e wx ⟨rfl, hww⟩
  subst hww
  clear c19
  have c20 : w1.cell? ⟨pb, 20, none⟩ = some (.slice none 0 0) := bk_cell BK.out 19 (by decide)
  go_wp2_with fail
  refine (own59 _).mono ?_
  rintro e wx ⟨rfl, hww⟩
  subst hww
  clear c20
  have c21 : w1.cell? ⟨pb, 21, none⟩ = some (.slice none 0 0) := bk_cell BK.out 20 (by decide)
  go_wp2_with fail
  refine (own60 _).mono ?_
  rintro e wx ⟨rfl, hww⟩
  subst hww
  clear c21
  have c22 : w1.cell? ⟨pb, 22, none⟩ = some (.slice none 0 0) := bk_cell BK.out 21 (by decide)
  go_wp2_with fail
  refine (own61 _).mono ?_
  rintro e wx ⟨rfl, hww⟩
  subst hww
  clear c22
  have c23 : w1.cell? ⟨pb, 23, none⟩ = some (.slice none 0 0) := bk_cell BK.out 22 (by decide)
  go_wp2_with fail
  refine (own62 _).mono ?_
  rintro e wx ⟨rfl, hww⟩
  subst hww
  clear c23
  have c24 : w1.cell? ⟨pb, 24, none⟩ = some (.slice none 0 0) := bk_cell BK.out 23 (by decide)
  go_wp2_with fail
  refine (own63 _).mono ?_
  rintro e wx ⟨rfl, hww⟩
  subst hww
  clear c24
  have c25 : w1.cell? ⟨pb, 25, none⟩ = some (.slice none 0 0) := bk_cell BK.out 24 (by decide)
  go_wp2_with fail
  refine (own64 _).mono ?_
  rintro e wx ⟨rfl, hww⟩
  subst hww
  clear c25
  have c26 : w1.cell? ⟨pb, 26, none⟩ = some (.slice none 0 0) := bk_cell BK.out 25 (by decide)
  go_wp2_with fail
  refine (own65 _).mono ?_
  rintro e wx ⟨rfl, hww⟩
  subst hww
  clear c26
  have c27 : w1.cell? ⟨pb, 27, none⟩ = some (.slice none 0 0) := bk_cell BK.out 26 (by decide)
  go_wp2_with fail
  refine (own66 _).mono ?_
  rintro e wx ⟨rfl, hww⟩
  subst hww
  clear c27
  have c28 : w1.cell? ⟨pb, 28, none⟩ = some (.slice none 0 0) := bk_cell BK.out 27 (by decide)
  go_wp2_with fail
  refine (own67 _).mono ?_
  rintro e wx ⟨rfl, hww⟩
  subst hww
  clear c28
  have c29 : w1.cell? ⟨pb, 29, none⟩ = some (.slice none 0 0) := bk_cell BK.out 28 (by decide)
  go_wp2_with fail
  refine (own68 _).mono ?_
  rintro e w2 ⟨rfl, hb2⟩
  have B2 := Lib.hid (B1.out.trans (hb2.mono (Nat.le_trans HP.out.nm (Below.size B1.out))))
  replace BK := Lib.hid ((hb2.block pb hpl1).trans BK.out)
  clear hb2 c29
  have c30 : w2.cell? ⟨pb, 30, none⟩ = some (.slice none 0 0) := bk_cell BK.out 29 (by decide)
  go_wp2_with fail
  refine (own69 _).mono ?_
  rintro e wx ⟨rfl, hww⟩
  subst hww
  clear c30
  have c31 : w2.cell? ⟨pb, 31, none⟩ = some (.slice none 0 0) := bk_cell BK.out 30 (by decide)
  go_wp2_with fail
  refine (own70 _).mono ?_
  rintro e wx ⟨rfl, hww⟩
  subst hww
  clear c31
  go_wp2
  go_ret
  exact ⟨rfl, B2.out⟩
end Go.Proofs.YtdlifcpdlbmijaaDoor.B2
namespace Go.Proofs.YtdlifcpdlbmijaaDoor
set_option linter.unusedVariables false
set_option linter.unusedSimpArgs false
open Go.RowKit Go.PlainAid Go.Shelf
open B2 (Only Wr PutPost Bys Row cellsOf Rf RfPost BookAt BookPost Lots bk Places owns_only)
open Gm (St Smp)
/-- where the four stand -/
structure Seats (N a p r pb : Nat) : Prop where
  na : N ≤ a
  np : N ≤ p
  ar : a < r
  pr : p < r
  rb : r < pb
structure Inv (w : World) (a p r pb : Nat) (l m : List Smp) (n d g bh : Nat) (X : Nat → Value) (C : Nat → List Nat) (wr : World) : Prop where
  ap : Ap wr a p d (Gm.run l)
  ra : Ra wr r g m
  bk : BookAt wr pb bh n X
  lots : Lots wr (pb + 1) X C
  len : ∀ j, (C j).length ≤ 1000000
  zero : ∀ j, n ≤ j → C j = []
  rows : ∀ j k, (X j).ownBlock = some k → k ≠ d ∧ k ≠ g ∧ k ≠ bh
  bhs : bh ≠ a ∧ bh ≠ p ∧ bh ≠ d ∧ bh ≠ r ∧ bh ≠ g
  gs : g ≠ a ∧ g ≠ p ∧ g ≠ d ∧ g ≠ pb
  ds : d ≠ r ∧ d ≠ pb
  base : w.heap.size ≤ d ∧ w.heap.size ≤ g ∧ w.heap.size ≤ bh
  below : Below w.heap.size w wr
theorem Ap.dlt {w : World} {a p d : Nat} {s : St} (h : Ap w a p d s) : p < w.heap.size ∧ d < w.heap.size := h.wr.lt
theorem Ra.lt {w : World} {r g : Nat} {l : List Smp} (h : Ra w r g l) : r < w.heap.size ∧ g < w.heap.size := by
  obtain ⟨v, h1, _, _, h4⟩ := h.row
  exact ⟨(Array.getElem?_eq_some_iff.1 h1).1, h4⟩
theorem Inv.still {w wr w' : World} {a p r pb n d g bh : Nat} {l m : List Smp} {X : Nat → Value} {C : Nat → List Nat} (I : Inv w a p r pb l m n d g bh X C wr) (hb : Below wr.heap.size wr w') : Inv w a p r pb l m n d g bh X C w' :=
  ⟨I.ap.below hb, I.ra.below hb, I.bk.below hb, I.lots.only (Only.of_below hb []) (fun _ _ _ => by simp), I.len, I.zero, I.rows, I.bhs, I.gs, I.ds, I.base, I.below.trans (hb.mono (Below.size I.below))⟩
theorem Inv.place {w wr : World} {a p r pb n d g bh : Nat} {l m : List Smp} {X : Nat → Value} {C : Nat → List Nat} (I : Inv w a p r pb l m n d g bh X C wr) (j k : Nat) (hg : (X j).ownBlock = some k) : pb < k ∧ k < wr.heap.size := (I.lots.own j).lt k hg
theorem Inv.app {w wr w' : World} {a p r pb n d g bh : Nat} {l m l2 : List Smp} {X : Nat → Value} {C : Nat → List Nat} (F : Seats w.heap.size a p r pb) (I : Inv w a p r pb l m n d g bh X C wr) (T : ApPost wr a p d (Gm.run l2) w') : ∃ d', Inv w a p r pb l2 m n d' g bh X C w' := by
  obtain ⟨d', h1, h2, ho⟩ := T
  have l1 := I.bk.lt
  have lr := I.ra.lt
  have la := I.ap.lt
  have ld := I.ap.dlt
  obtain ⟨f1, f2, f3, f4, f5⟩ := F
  obtain ⟨b1, b2, b3, b4, b5⟩ := I.bhs
  obtain ⟨g1, g2, g3, g4⟩ := I.gs
  obtain ⟨c1, c2⟩ := I.ds
  obtain ⟨e1, e2, e3⟩ := I.base
  have hs := Below.size I.below
  refine ⟨d', h1, I.ra.only ho (by simp; omega) (by simp; omega), I.bk.only ho (by simp; omega) (by simp; omega), I.lots.only ho (fun j k hk => ?_), I.len, I.zero, fun j k hk => ?_, ⟨b1, b2, by omega, b4, b5⟩, ⟨g1, g2, by omega, g4⟩, ⟨by omega, by omega⟩, ⟨by omega, e2, e3⟩, I.below.trans (ho.below hs (by intro x hx; simp at hx; omega))⟩
  · have h3 := I.place j k hk
    have h4 := I.rows j k hk
    simp; omega
  · have h3 := I.place j k hk
    have h4 := I.rows j k hk
    omega
theorem Inv.rap {w wr w' : World} {a p r pb n d g bh : Nat} {l m m2 : List Smp} {X : Nat → Value} {C : Nat → List Nat} (F : Seats w.heap.size a p r pb) (I : Inv w a p r pb l m n d g bh X C wr) (T : RaPost wr r g m2 w') : ∃ g', Inv w a p r pb l m2 n d g' bh X C w' := by
  obtain ⟨g', h1, h2, ho⟩ := T
  have l1 := I.bk.lt
  have lr := I.ra.lt
  have la := I.ap.lt
  have ld := I.ap.dlt
  obtain ⟨f1, f2, f3, f4, f5⟩ := F
  obtain ⟨b1, b2, b3, b4, b5⟩ := I.bhs
  obtain ⟨g1, g2, g3, g4⟩ := I.gs
  obtain ⟨c1, c2⟩ := I.ds
  obtain ⟨e1, e2, e3⟩ := I.base
  have hs := Below.size I.below
  have hA : Ap w' a p d (Gm.run l) := ⟨(ho.block a la (by simp; omega)).trans I.ap.row, I.ap.wr.only ho (by simp; omega) (by simp; omega), I.ap.pa, I.ap.da⟩
  refine ⟨g', hA, h1, I.bk.only ho (by simp; omega) (by simp; omega), I.lots.only ho (fun j k hk => ?_), I.len, I.zero, fun j k hk => ?_, ⟨b1, b2, b3, b4, by omega⟩, ⟨by omega, by omega, by omega, by omega⟩, ⟨c1, c2⟩, ⟨e1, by omega, e3⟩, I.below.trans (ho.below hs (by intro x hx; simp at hx; omega))⟩
  · have h3 := I.place j k hk
    have h4 := I.rows j k hk
    simp; omega
  · have h3 := I.place j k hk
    have h4 := I.rows j k hk
    omega
theorem row_lots {w : World} {g N : Nat} {v : Value} {ds : List Nat} (h : Row w g v ds) (hg : v.ownBlock = none ∨ N ≤ g) : w.ownsRow N 5 1 v ds.length (cellsOf ds) := by
  rcases h.value with ⟨rfl, rfl⟩ | ⟨cap, cur, rfl, h1, h2, h3, h4, h5⟩
  · exact World.ownsRow_nil w N 5 1
  · rcases hg with hg | hg
    · cases hg
    · exact ⟨by simp [B2.cellsOf_length], .inr ⟨g, cap, cur, rfl, hg, h1, h2, h3, by simpa using h4, by simpa using h5⟩⟩
theorem row_keep {w w' : World} {g : Nat} {v : Value} {ds : List Nat} (h : Row w g v ds) {S : List Nat} (ho : Only S w w') (hg : v.ownBlock = some g → g ∉ S) : Row w' g v ds := by
  rcases h.value with ⟨rfl, rfl⟩ | ⟨cap, cur, rfl, _⟩
  · exact Row.nil _ _
  · exact h.only ho (hg rfl)
/-- one row more -/
def more (n : Nat) (x : Value) (X : Nat → Value) : Nat → Value := fun j => if j = n then x else X j
theorem more_at (n : Nat) (x : Value) (X : Nat → Value) : more n x X n = x := by simp [more]
theorem more_low (n : Nat) (x : Value) (X : Nat → Value) (j : Nat) (h : j < n) : more n x X j = X j := by simp [more, show j ≠ n by omega]
set_option maxHeartbeats 4000000 in
theorem Inv.row {w wr w1 w2 : World} {a p r pb n d g bh u : Nat} {l m : List Smp} {X : Nat → Value} {C : Nat → List Nat} {x : Value} {bs : List Nat} (F : Seats w.heap.size a p r pb) (I : Inv w a p r pb l m n d g bh X C wr) (hR : Row w1 u x bs) (hg : x.ownBlock = none ∨ wr.heap.size ≤ u) (hb : Below wr.heap.size wr w1) (hl : bs.length ≤ 1000000)
    (hP : BookPost w1 pb bh (n + 1) (more n x X) w2) : (∃ bh' X' C', Inv w a p r pb l m (n + 1) d g bh' X' C' w2) ∧ Row w2 u x bs := by
  have J := I.still hb
  obtain ⟨bh', k, hbh, ho⟩ := hP
  have l0 := I.bk.lt
  have l1 := J.bk.lt
  have lr := I.ra.lt
  have la := I.ap.lt
  have ld := I.ap.dlt
  obtain ⟨f1, f2, f3, f4, f5⟩ := F
  obtain ⟨b1, b2, b3, b4, b5⟩ := I.bhs
  obtain ⟨g1, g2, g3, g4⟩ := I.gs
  obtain ⟨c1, c2⟩ := I.ds
  obtain ⟨e1, e2, e3⟩ := I.base
  have hs := Below.size I.below
  have hs1 := Below.size hb
  have hs2 := ho.size
  have hxg : ∀ g', x.ownBlock = some g' → g' = u ∧ wr.heap.size ≤ u ∧ u < w1.heap.size := by
    intro g' hg'
    rcases hR.2 with h1 | h1
    · rw [h1] at hg'; cases hg'
    · rw [h1] at hg'; cases hg'
      refine ⟨rfl, ?_, (hR.1.lt u h1).2⟩
      rcases hg with h2 | h2
      · rw [h2] at h1; cases h1
      · exact h2
  have hR2 : Row w2 u x bs := row_keep hR ho (fun e => by have := hxg u e; simp; omega)
  have hA : Ap w2 a p d (Gm.run l) := ⟨(ho.block a J.ap.lt (by simp; omega)).trans J.ap.row, J.ap.wr.only ho (by simp; omega) (by simp; omega), J.ap.pa, J.ap.da⟩
  refine ⟨⟨bh', more n x X, fun j => if j = n then bs else C j, hA, J.ra.only ho (by simp; omega) (by simp; omega), k, ⟨fun j => ?_, fun i j hij => ?_⟩, fun j => ?_, fun j hj => ?_, fun j g' hg' => ?_, ⟨by omega, by omega, by omega, by omega, by omega⟩, ⟨g1, g2, g3, g4⟩, ⟨c1, c2⟩, ⟨e1, e2, by omega⟩, (I.below.trans (hb.mono hs)).trans (ho.below (by omega) (by intro x hx; simp at hx; omega))⟩, hR2⟩
  · by_cases e : j = n
    · subst e
      simp only [if_true, more_at]
      refine row_lots hR2 ?_
      rcases hR2.2 with h1 | h1
      · exact .inl h1
      · have := hxg u h1; exact .inr (by omega)
    · simp only [if_neg e, more]
      refine owns_only (J.lots.own j) ho (fun g' hg' => ?_)
      have h1 := I.place j g' hg'
      have h2 := I.rows j g' hg'
      simp; omega
  · by_cases e : i = n
    · subst e
      have e2 : j ≠ i := fun e => hij e.symm
      simp only [more, if_true, if_neg e2]
      cases e3 : x.ownBlock with
      | none => exact .inl rfl
      | some g' =>
        refine .inr fun e4 => ?_
        have h1 := I.place j g' e4.symm
        have h2 := hxg g' e3
        omega
    · by_cases e2 : j = n
      · subst e2
        simp only [more, if_true, if_neg e]
        cases e3 : (X i).ownBlock with
        | none => exact .inl rfl
        | some g' =>
          refine .inr fun e4 => ?_
          have h1 := I.place i g' e3
          have h2 := hxg g' e4.symm
          omega
      · simp only [more, if_neg e, if_neg e2]
        exact I.lots.apart i j hij
  · by_cases e : j = n
    · simp only [if_pos e]; exact hl
    · simp only [if_neg e]; exact I.len j
  · have e : j ≠ n := by omega
    simp only [if_neg e]; exact I.zero j (by omega)
  · by_cases e : j = n
    · subst e
      rw [more_at] at hg'
      have := hxg g' hg'
      omega
    · simp only [more, if_neg e] at hg'
      have h1 := I.place j g' hg'
      have h2 := I.rows j g' hg'
      omega
theorem Inv.own {w wr : World} {a p r pb n d g bh : Nat} {l m : List Smp} {X : Nat → Value} {C : Nat → List Nat} (I : Inv w a p r pb l m n d g bh X C wr) (hp : w.heap.size ≤ pb) (hn : n ≤ 1000) :
    Calls Tryd.prog 15 #[.pointer (some ⟨pb, 0, none⟩)] wr fun e w' => e = .returned (.bool true) ∧ Below w.heap.size w w' := by
  refine (B2.own_any pb bh n (pb + 1) X (fun j => (C j).length) wr I.bk (by omega) ⟨fun j g hg => ⟨(I.place j g hg).2, (I.place j g hg).1⟩, fun j g hg => (I.rows j g hg).2.2, I.bk.lt.2, I.lots.apart, I.bk.lt.1⟩ ⟨C, I.lots, fun _ => rfl⟩ hn I.len (fun j hj => by rw [I.zero j hj]; rfl)).mono ?_
  rintro e w' ⟨rfl, hb⟩
  exact ⟨rfl, I.below.trans (hb.mono (by omega))⟩
theorem inv_start {w w1 : World} (h1 : Ap w1 (w.heap.size + 1) w.heap.size w.heap.size Gm.st0) (hb : Below w.heap.size w w1) (tb t28 : TypeId) (ht : t28 = 28) :
    Inv w (w.heap.size + 1) w.heap.size w1.heap.size (w1.heap.size + 1) [] [] 0 w.heap.size w1.heap.size (w1.heap.size + 1) (fun _ => .slice none 0 0) (fun _ => []) ((w1.alloc (.cells #[.slice none 0 0] t28)).alloc (.cells (bk (.slice none 0 0)) 63)) := by
  subst ht
  have l := h1.dlt
  have la := h1.lt
  have hs := Below.size hb
  have o1 : Only [] w1 ((w1.alloc (.cells #[.slice none 0 0] 28)).alloc (.cells (bk (.slice none 0 0)) 63)) := ((Only.refl [] w1).alloc _).alloc _
  have hq : ((w1.alloc (.cells #[.slice none 0 0] 28)).alloc (.cells (bk (.slice none 0 0)) 63)).heap[w1.heap.size]? = some (.cells #[.slice none 0 0] 28 (0, 0)) :=
    (Below.heap_alloc (w1.alloc (.cells #[.slice none 0 0] 28)) _ _ (by simp)).trans (heap_alloc_new _ _)
  have hz : ((w1.alloc (.cells #[.slice none 0 0] 28)).alloc (.cells (bk (.slice none 0 0)) 63)).heap.size = w1.heap.size + 2 := by simp
  refine ⟨⟨(o1.block _ la (by simp)).trans h1.row, h1.wr.only o1 (by simp) (by simp), h1.pa, h1.da⟩, ⟨.slice none 0 0, hq, World.ownsRow_nil _ 0 70 2, .inl ⟨rfl, rfl⟩, by omega⟩, ⟨.slice none 0 0, ?_, World.ownsRow_nil _ 0 _ 1, rfl, by simp [Value.ownBlock]⟩, ⟨fun j => World.ownsRow_nil _ _ 5 1, fun i j _ => .inl rfl⟩, fun _ => by simp, fun _ _ => rfl, (fun j g hg => by cases hg), ⟨by omega, by omega, by omega, by omega, by omega⟩, ⟨by omega, by omega, by omega, by omega⟩, ⟨by omega, by omega⟩, ⟨by omega, by omega, by omega⟩, hb.trans (o1.below hs (by simp))⟩
  have h2 := heap_alloc_new (w1.alloc (.cells #[.slice none 0 0] 28)) (.cells (bk (.slice none 0 0)) 63)
  rw [show (w1.alloc (.cells #[.slice none 0 0] 28)).heap.size = w1.heap.size + 1 by simp] at h2
  exact h2
end Go.Proofs.YtdlifcpdlbmijaaDoor
namespace Go.Proofs.YtdlifcpdlbmijaaDoor
open Go.RowKit
abbrev laid1 : List (String × DataW Unit) := Rows.gorillaMakesRow.laid
def great1 : List String := []
noncomputable def startWorld (os : Os) : World := (World.doorLaid Tryd.prog 26 os).layVars Tryd.prog ((laid1.filter fun x => x.2.handleName?.isNone).filter fun x => great1.contains x.1)
theorem startWorld_os (os : Os) : (startWorld os).os = os := World.layVars_os _ _ _
set_option maxRecDepth 100000
noncomputable def apartBlocks (os : Os) : List Nat := (List.range (World.doorLaid Tryd.prog 26 os).heap.size).filter fun b => !(([] : List Nat).contains b)
theorem start_fits (os : Os) : (World.doorLaid Tryd.prog 26 os).layFits Tryd.prog ((laid1.filter fun x => x.2.handleName?.isNone).filter fun x => great1.contains x.1) (apartBlocks os) = true := by kernel_rfl
theorem start_ifaces (os : Os) : (World.doorLaid Tryd.prog 26 os).layIfaces Tryd.prog ((laid1.filter fun x => x.2.handleName?.isNone).filter fun x => great1.contains x.1) (startWorld os) = true := by kernel_rfl
theorem start_others (os : Os) : LaidIn Tryd.prog (startWorld os) ((laid1.filter fun x => x.2.handleName?.isNone).filter fun x => !great1.contains x.1) (apartBlocks os) :=
  LaidIn.of_run (apartBlocks os) 8 (by kernel_rfl) (by kernel_rfl) (by kernel_rfl) (by kernel_rfl)
theorem start_met (os : Os) : laidMetH Tryd.prog laid1 (startWorld os) :=
  laidMetH_of_parts3 (fuel := 8) (laidMet_layVars (w0 := World.doorLaid Tryd.prog 26 os) great1 (apartBlocks os) rfl (start_fits os) (start_ifaces os) (start_others os)) (by kernel_rfl) (by kernel_rfl)
theorem door_met (os : Os) (args : Array Value) : laidMetH Tryd.prog laid1 ((startWorld os).forCall (fun _ _ => 0) ⟨#[], args, []⟩).memory :=
  laidMetH.of_heap (by simp [World.memory, World.forCall, Input.heap]) (start_met os)
#print axioms door_met
end Go.Proofs.YtdlifcpdlbmijaaDoor
namespace Go.Proofs.YtdlifcpdlbmijaaDoor
open Go.RowKit
set_option maxRecDepth 100000
theorem start_shaped (os : Os) (args : Array Value) : ((startWorld os).forCall (fun _ _ => 0) ⟨#[], args, []⟩).Shaped Tryd.prog := World.shaped_of_ZipB (by kernel_rfl) (by kernel_rfl)
end Go.Proofs.YtdlifcpdlbmijaaDoor
namespace Go.Proofs.YtdlifcpdlbmijaaDoor
set_option linter.unusedVariables false
set_option linter.unusedSimpArgs false
open Go.RowKit Go.ChangeShapes Go.WideShapes Go.ChangeAt Go.WideMaps Go.WideElems
theorem one_laid {W : World} (h : laidMetH Tryd.prog laid1 W) (n : String) (d : DataW Unit) (he : laid1.filter (fun x => x.1 == n) = [(n, d)]) (hp : ([(n, d)].all fun x => x.2.handleName?.isNone) = true) : laidMet Tryd.prog [(n, d)] W := by
  have h1 := h.filter (fun x => x.1 == n)
  rw [he, MakeChecks.laidMetH_plain _ _ _ hp] at h1
  exact h1
set_option maxRecDepth 100000 in
theorem laid_tab {W : World} (h : laidMetH Tryd.prog laid1 W) : TabAt W := by
  obtain ⟨ps, ⟨g', t', cs, fuel, p, q, hg', ht', hv, hd, _, _⟩, _⟩ := one_laid h "math/bits.deBruijn64tab" Rows.laid_math_bits_deBruijn64tab (by kernel_rfl) (by kernel_rfl)
  have hg : Tryd.prog.globalNamed "math/bits.deBruijn64tab" = some 1 := by kernel_rfl
  obtain rfl := Option.some.inj (hg.symm.trans hg')
  obtain rfl := Option.some.inj ((show (Tryd.prog.globals[1]?).map (·.type) = some 264 by kernel_rfl).symm.trans ht')
  have e := Lib.cells_of_tab (t := 264) (e := 5) (n := 64) (k := .u8) (zs := Lib.deBruijn64tab.map fun (x : Nat) => (x : Int)) (by kernel_rfl) (by kernel_rfl) (by kernel_rfl) (by kernel_rfl) (show DataW.trod (fun _ => ()) Tryd.prog W 0 (fun _ => true) false fuel 264 cs.toList = some (Lib.tabData .u8 (Lib.deBruijn64tab.map fun (x : Nat) => (x : Int)), p) from hd)
  intro j hj
  rw [World.var?_cell hg hv j, ← Array.getElem?_toList, e]
  simp [List.getElem?_map, List.getD, List.getElem?_eq_getElem hj]
def rowD (zs : List Int) : DataW Unit := .slice (zs.map fun z => .lit (.int .i64 z)) []
theorem one3 : Tryd.prog.cellsOf 2 = 1 := by kernel_rfl
theorem one173 : Tryd.prog.cellsOf 173 = 1 := by kernel_rfl
theorem add_nought (a : Addr) : a.add 0 = a := by
  obtain ⟨b, o, s⟩ := a
  cases s <;> simp [Addr.add]
theorem addr_spot {w : World} {a : Addr} {v : Value} (h : w.cell? a = some v) : ∃ b o, a = ⟨b, o, none⟩ := by
  obtain ⟨b, o, s⟩ := a
  have : s = none := by simpa using World.cell?_spot h
  exact ⟨b, o, by rw [this]⟩
theorem add_plain (b o j : Nat) : (⟨b, o, none⟩ : Addr).add j = ⟨b, o + j, none⟩ := by unfold Addr.add; split <;> simp_all
/-- a row of five numbers -/
theorem row_of {W : World} {spare : Nat → Bool} {fuel : Nat} {cs : List Value} {zs : List Int} {p : List MemPlace} (hz : zs.length = 5) (h : DataW.trod (fun _ => ()) Tryd.prog W 0 spare false fuel 173 cs = some (rowD zs, p)) :
    ∃ b o c, cs = [.slice (some ⟨b, o, none⟩) 5 c] ∧ ∀ j (hj : j < zs.length), W.cell? ⟨b, o + j, none⟩ = some (.int .i64 zs[j]) := by
  rcases DataW.trod_slice Tryd.underlying173 h with ⟨_, hx⟩ | ⟨a, len, cap, elems, rest, n, _, hcs, hx, _, _, _, hel, hat, _, _⟩
  · simp [rowD] at hx
  · have hx1 := congrArg Prod.fst hx
    simp only [rowD, DataW.slice.injEq] at hx1
    have hlen : len = 5 := by
      have := congrArg List.length hx1.1
      simp at this
      omega
    subst hlen
    have key : ∀ j (hj : j < zs.length), W.cell? (a.add j) = some (.int .i64 zs[j]) := by
      intro j hj
      have h1 := hat j (by omega)
      rw [one3, Nat.mul_one] at h1
      have hje : j < elems.length := by omega
      rw [List.getElem?_eq_getElem hje] at h1
      obtain ⟨cs', hc, ht⟩ := Option.bind_eq_some_iff.1 h1
      obtain ⟨z, rfl, hz2, _⟩ := DataW.trod_int Tryd.underlying2 ht
      obtain ⟨_, _, hcell⟩ := World.cells?_some hc
      have h2 := hcell 0 (by decide)
      rw [add_nought] at h2
      have h3 : (elems.map (·.1))[j]? = some (.lit (.int .i64 z)) := by rw [List.getElem?_map, List.getElem?_eq_getElem hje, hz2]; rfl
      rw [← hx1.1, List.getElem?_map, List.getElem?_eq_getElem hj] at h3
      simp only [Option.map_some, Option.some.injEq, DataW.lit.injEq, Lit.int.injEq, true_and] at h3
      rw [h2, h3]
      rfl
    obtain ⟨b, o, rfl⟩ : ∃ b o, a = ⟨b, o, none⟩ := by
      have h0 := key 0 (by omega)
      rw [add_nought] at h0
      exact addr_spot h0
    exact ⟨b, o, cap, hcs, fun j hj => by have := key j hj; rwa [add_plain] at this⟩
set_option maxRecDepth 100000 in
theorem laid_rows {W : World} (h : laidMetH Tryd.prog laid1 W) : ∃ q p0 p1 p2 c c0 c1 c2 o9 oa oc od, TabB W q p0 p1 p2 c c0 c1 c2 o9 oa oc od := by
  obtain ⟨ps, ⟨g', t', cs, fuel, p, q, hg', ht', hv, hd, _, _⟩, _⟩ := one_laid h "barograph/barographref10.buckets" Rows.laid_barograph_barographref10_buckets (by kernel_rfl) (by kernel_rfl)
  have hg : Tryd.prog.globalNamed "barograph/barographref10.buckets" = some 0 := by kernel_rfl
  obtain rfl := Option.some.inj (hg.symm.trans hg')
  obtain rfl := Option.some.inj ((show (Tryd.prog.globals[0]?).map (·.type) = some 33 by kernel_rfl).symm.trans ht')
  have hd' : DataW.trod (fun _ => ()) Tryd.prog W 0 (fun _ => true) false fuel 33 cs.toList = some (.slice [rowD [2, 2, -63, 64, 7], rowD [6, 3, -255, 256, 9], rowD [14, 4, -2047, 2048, 12]] [], p) := hd
  rcases DataW.trod_slice Tryd.underlying33 hd' with ⟨_, hx⟩ | ⟨a, len, cap, elems, rest, n, _, hcs, hx, _, _, _, hel, hat, _, _⟩
  · simp at hx
  · have hx1 := congrArg Prod.fst hx
    simp only [DataW.slice.injEq] at hx1
    have hlen : len = 3 := by
      have := congrArg List.length hx1.1
      simp at this
      omega
    subst hlen
    have hrow : ∀ j (hj : j < 3) (zs : List Int), ([rowD [2, 2, -63, 64, 7], rowD [6, 3, -255, 256, 9], rowD [14, 4, -2047, 2048, 12]] : List (DataW Unit))[j]? = some (rowD zs) → zs.length = 5 → ∃ b o c, W.cell? (a.add j) = some (.slice (some ⟨b, o, none⟩) 5 c) ∧ ∀ i (hi : i < zs.length), W.cell? ⟨b, o + i, none⟩ = some (.int .i64 zs[i]) := by
      intro j hj zs hz hl
      have h1 := hat j hj
      rw [one173, Nat.mul_one] at h1
      have hje : j < elems.length := by omega
      rw [List.getElem?_eq_getElem hje] at h1
      obtain ⟨cs', hc, ht⟩ := Option.bind_eq_some_iff.1 h1
      have h3 : (elems.map (·.1))[j]? = some (rowD zs) := by rw [← hx1.1]; exact hz
      rw [List.getElem?_map, List.getElem?_eq_getElem hje] at h3
      simp only [Option.map_some, Option.some.injEq] at h3
      obtain ⟨b, o, c, rfl, hcell⟩ := row_of (p := elems[j].2) hl (by rw [ht, ← h3])
      obtain ⟨_, _, hcell2⟩ := World.cells?_some hc
      have h2 := hcell2 0 (by decide)
      rw [add_nought] at h2
      exact ⟨b, o, c, h2, hcell⟩
    obtain ⟨b0, oa, c0, k0, r0⟩ := hrow 0 (by decide) _ rfl rfl
    obtain ⟨b1, oc, c1, k1, r1⟩ := hrow 1 (by decide) _ rfl rfl
    obtain ⟨b2, od, c2, k2, r2⟩ := hrow 2 (by decide) _ rfl rfl
    obtain ⟨qb, o9, rfl⟩ : ∃ b o, a = ⟨b, o, none⟩ := by
      rw [add_nought] at k0
      exact addr_spot k0
    rw [add_plain] at k0 k1 k2
    have hgc : W.cell? ⟨0, 0, none⟩ = some (.slice (some ⟨qb, o9, none⟩) 3 cap) := by
      rw [World.var?_cell hg hv 0, ← Array.getElem?_toList, hcs]
      rfl
    exact ⟨qb, b0, b1, b2, cap, c0, c1, c2, o9, oa, oc, od, hgc, ⟨k0, k1, k2⟩, ⟨r0 0 (by decide), r0 1 (by decide), r0 2 (by decide), r0 3 (by decide), r0 4 (by decide)⟩, ⟨r1 0 (by decide), r1 1 (by decide), r1 2 (by decide), r1 3 (by decide), r1 4 (by decide)⟩, ⟨r2 0 (by decide), r2 1 (by decide), r2 2 (by decide), r2 3 (by decide), r2 4 (by decide)⟩⟩
end Go.Proofs.YtdlifcpdlbmijaaDoor
