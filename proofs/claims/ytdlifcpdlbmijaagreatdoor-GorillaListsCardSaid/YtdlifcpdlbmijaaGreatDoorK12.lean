/-
  PACKED: LsN, LsJ, LsP, B2NoneA, B2NoneB, LsO, Door, Start, Laid
-/
import Derived.Test.YtdlifcpdlbmijaaGreatDoorK11
import Derived.Test.YtdlifcpdlbmijaaGreatDoorK04
import Derived.Test.YtdlifcpdlbmijaaGreatDoorK05
import Derived.Test.YtdlifcpdlbmijaaGreatDoorK08
import Derived.Test.YtdlifcpdlbmijaaGreatDoorK07
import Derived.Test.YtdlifcpdlbmijaaGreatDoorK10
import Derived.Test.YtdlifcpdlbmijaaGreatDoorK09
import Derived.Test.YtdlifcpdlbmijaaGreatDoorK01
import Derived.Test.YtdlifcpdlbmijaaGreatDoorRows
import Derived.Laws.AppendOwn
import Derived.BigQuiet
import Derived.WalkKit
import Derived.ProofKit
import Derived.LaidMore
import Derived.LaidHandle
import Derived.Lay
import Derived.Lib.LaidIn
import Derived.Stop.Joined
import Derived.LaidLaws
import Derived.LaidSub
import Derived.MakeChecks
import Derived.Lib.LaidTab
import Derived.OpenShut
import Derived.Shelf.Vars
set_option linter.unusedVariables false
set_option linter.unusedSimpArgs false
namespace Go.Proofs.YtdlifcpdlbmijaaGreatDoor
set_option linter.unusedVariables false
set_option linter.unusedSimpArgs false
open Go.RowKit Go.PlainAid
open B2 (Only)
open Gm (St Smp Chk)
theorem info23s : (Tryz.prog.info? 23).map (fun i => (i.zero, i.size, i.bytes)) = some (some (.slice none 0 0), 1, 24) := by kernel_rfl
/-- the bytes' rows of the first k chunks are in the book -/
structure BkC (w : World) (pb k : Nat) (F0 : Nat → Value) (ds : List Value) (wr : World) : Prop where
  ex : ∃ F, BG wr pb F ∧ (∀ j, j ≠ 0 → F j = F0 j) ∧ wr.ownsRow 0 24 1 (F 0) k (ds.take k) ∧ Only [pb] w wr ∧ (∀ g, (F 0).ownBlock = some g → w.heap.size ≤ g)
theorem BkC.next {w wr w' : World} {pb k : Nat} {F0 F : Nat → Value} {ds : List Value} {x : Value} (hF0 : ∀ j, j ≠ 0 → F j = F0 j) (h0 : ∀ g, (F 0).ownBlock = some g → w.heap.size ≤ g) (hO : Only [pb] w wr) (hx : ds[k]? = some x) (hp : BPost wr pb 0 24 k F (ds.take k) x w') : BkC w pb (k + 1) F0 ds w' := by
  obtain ⟨v', h1, h2, h3, h4⟩ := hp
  refine ⟨⟨_, h1, fun j hj => by rw [upd_rest _ _ _ _ hj]; exact hF0 j hj, ?_, ?_, ?_⟩⟩
  · rw [upd_here, List.take_add_one, hx]; exact h2
  · refine hO.trans h3 (fun y hy => ?_)
    rcases List.mem_cons.1 hy with rfl | hy
    · exact .inl (by simp)
    · exact .inr (h0 y (by simpa using hy))
  · rw [upd_here]
    intro g hg
    rcases h4 with h4 | ⟨g2, h4, h5⟩
    · exact h0 g (by rw [← h4]; exact hg)
    · rw [hg] at h4; injection h4 with h4; have := hO.size; omega
theorem chs_data {w : World} {base : Nat} {v : Value} {cs : List Chk} {ds : List Value} (H : OwnC w base v cs ds) (k : Nat) (hk : k < cs.length) : ∃ g ad cap c, v = .slice (some ⟨g, 0, none⟩) cs.length c ∧ ds[k]? = some (.slice ad cs[k].bs.length cap) ∧ w.cell? ⟨g, k * 4 + 3, none⟩ = some (.slice ad cs[k].bs.length cap) := by
  obtain ⟨ad, cap, h1, _⟩ := H.each k hk
  rcases H.row.2 with ⟨_, h0⟩ | ⟨g, c2, cur, hv2, _, hh, _⟩
  · omega
  · refine ⟨g, ad, cap, c2, hv2, h1, ?_⟩
    have hk2 : k < ds.length := by rw [H.len]; exact hk
    obtain ⟨_, _, _, k4⟩ := chC_get cs ds k hk hk2
    have q := H.row.cells (g := g) (by rw [hv2]; rfl) _ _ k4
    rw [B2.add_here] at q
    rw [q]
    rw [List.getElem?_eq_getElem hk2] at h1
    exact h1
set_option maxRecDepth 100000 in
set_option maxHeartbeats 4000000 in
theorem bgchunks_any (pb n cap base : Nat) (a : Option Addr) (cs : List Chk) (ds : List Value) (F : Nat → Value) (w : World) (H : BG w pb F) (h26 : F 26 = .slice none 0 0) (h0 : F 0 = .slice none 0 0) (hC : OwnC w base (.slice a n cap) cs ds) (hn : cs.length = n) (hz : n ≤ 1000) :
    Calls Tryz.prog 14 #[.pointer (some ⟨pb, 0, none⟩), .slice a n cap] w fun e w' => e = .returned (.tuple #[]) ∧
      ∃ F', BG w' pb F' ∧ (∀ j, j ≠ 0 → j ≠ 26 → F' j = F j) ∧ w'.ownsRow 0 24 1 (F' 0) n ds ∧ w'.ownsRow 0 23 1 (F' 26) 1 [.slice a n cap] ∧ Only [pb] w w' ∧ (∀ g, (F' 0).ownBlock = some g → w.heap.size ≤ g) ∧ (∀ g, (F' 26).ownBlock = some g → w.heap.size ≤ g) := by
  obtain ⟨i0, hi, hz0, hz1, hz2⟩ := info_parts info23s
  have c0 : w.cell? ⟨pb, 26, none⟩ = some (.slice none 0 0) := by rw [← h26]; exact H.cell 26 (by decide)
  have HH := Lib.hid H
  have HV := Lib.hid (World.ownsRow_nil w 0 23 1)
  have HFF := Lib.hid (And.intro h26 h0)
  have HCC := Lib.hid (And.intro hC hn)
  have HDL := Lib.hid (show ds.length = n by rw [hC.len, hn])
  clear H h26 h0 hC hn
  go_enter Tryz.func14, Tryz.ntmps14
  go_wp2_with (at_builtin; refine Bk.wpList_append_goes _ rfl (.tmp 9) (.tmp 11) 66 rfl 23 i0 (.slice none 0 0) 1 24 Tryz.underlying66 hi hz0 hz1 hz2 rfl (by decide) (.slice none 0 0) 0 [] rfl (HV.out.alloc _) ⟨w.heap.size, 0, none⟩ 1 1 [Value.slice a n cap] rfl rfl (one_anyB w _ 23) (by simp [Value.oneCell']) (by unfold maxLen; omega) (by omega) (by decide) ?_)
  intro v2 w2 hown2 hgo2
  obtain ⟨a2, c3, rfl⟩ := Bk.owns_shape hown2
  obtain ⟨hb2, hpost⟩ := HH.out.append HFF.out.1 (by decide) (by decide) HV.out hown2 hgo2
  have c2 : w2.cell? ⟨pb, 26, none⟩ = some (.slice none 0 0) := by rw [← HFF.out.1]; exact hb2.cell 26 (by decide)
  have f2 : w2.frozen? ⟨pb, 26, none⟩ = false := hb2.frozen 26
  obtain ⟨v3, k1, k2, k3, k4⟩ := hpost
  obtain ⟨W, hW⟩ : ∃ W, w2.setCell ⟨pb, 26, none⟩ (.slice a2 (0 + 1) c3) = W := ⟨_, rfl⟩
  rw [hW] at k1 k2 k3
  have hO1 : Only [pb] w W := by rw [HFF.out.1] at k3; exact k3
  have hv3 : ∀ g, v3.ownBlock = some g → w.heap.size ≤ g := fun g hg => by
    rcases k4 with k4 | ⟨g2, k4, k5⟩
    · rw [HFF.out.1] at k4; rw [hg] at k4; cases k4
    · rw [hg] at k4; injection k4 with k4; omega
  have hW' : w2.setCell ⟨pb, 26, none⟩ (.slice a2 1 c3) = W := hW
  have hCW : OwnC W base (.slice a n cap) cs ds := HCC.out.1.only hO1 (fun g hg hm => by
    obtain ⟨cur, hc⟩ := owns_cells HCC.out.1.row hg
    exact unlike hc HH.out (by decide) (by simpa using hm)) (fun g cur hc hm => unlike hc HH.out (by decide) (by simpa using hm))
  have HN := Lib.hid (And.intro k2 (And.intro hO1 (And.intro hv3 hCW)))
  have B0 : BkC W pb 0 (upd F 26 v3) ds W := ⟨⟨_, k1, fun j hj => rfl, by rw [upd_rest _ _ _ _ (by decide), HFF.out.2]; exact World.ownsRow_nil _ _ _ _, Only.refl _ _, fun g hg => by rw [upd_rest _ _ _ _ (by decide), HFF.out.2] at hg; cases hg⟩⟩
  have HB0 := Lib.hid B0
  clear hown2 hgo2 hb2 k1 k2 k3 k4 hO1 hv3 hCW hW B0
  go_wp2
  go_loopw [4] (fun i wr => ∃ k : Nat, k ≤ n ∧ i = .int .i64 (k : Nat) ∧ Hid (BkC W pb k (upd F 26 v3) ds wr)) (fun i _ => n - (intOf i).toNat)
  case atStart => exact ⟨0, Nat.zero_le _, rfl, HB0⟩
  case round =>
    obtain ⟨k, hk, rfl, HI⟩ := hrel
    by_cases hlt : k < n
    · have da : decide ((k : Int) < (n : Int)) = true := decide_eq_true (by omega)
      have da2 : decide (k < n) = true := decide_eq_true hlt
      have hkx : (k : Int) < (n : Int) := by omega
      obtain ⟨F1, f1, f2, f3, f4, f5⟩ := HI.out.ex
      have hpb := HB0.out.ex
      obtain ⟨F9, hF9, _⟩ := hpb
      have hCr : OwnC wr base (.slice a n cap) cs ds := HN.out.2.2.2.only f4 (fun g hg hm => by
        obtain ⟨cur, hc⟩ := owns_cells HN.out.2.2.2.row hg
        exact unlike hc hF9 (by decide) (by simpa using hm)) (fun g cur hc hm => unlike hc hF9 (by decide) (by simpa using hm))
      obtain ⟨g, ad, cp, c9, hv, hd, hcell⟩ := chs_data hCr k (by rw [HCC.out.2]; exact hlt)
      injection hv with hv1 hv2 hv3
      subst hv1
      obtain ⟨bl, hbl⟩ : ∃ bl, (cs[k]'(by rw [HCC.out.2]; exact hlt)).bs.length = bl := ⟨_, rfl⟩
      rw [hbl] at hd hcell
      have CB := Lib.hid (bgbytes_any pb k bl cp ad F1 (ds.take k) wr f1 f3 (by omega))
      have HX := Lib.hid (fun (w' : World) (hp : BPost wr pb 0 24 k F1 (ds.take k) (.slice ad bl cp) w') => BkC.next f2 f5 f4 hd hp)
      clear f1 f2 f3 f4 f5 hCr hbl hd hv2 hv3
      go_wp2_with fail
      go_at_call 38
      refine CB.out.mono ?_
      rintro e w5 ⟨rfl, hp⟩
      have HY := Lib.hid (HX.out _ hp)
      clear hp CB HX
      go_wp2_with fail
      go_roundw
      case rel => exact ⟨k + 1, by omega, by go_num, HY⟩
      case measure => simp [intOf]; omega
    · obtain rfl : k = n := by omega
      have da : decide ((k : Int) < (k : Int)) = false := by simp
      have da2 : decide (k < k) = false := by simp
      go_wp2_with fail
      go_end0
      obtain ⟨F1, f1, f2, f3, f4, f5⟩ := HI.out.ex
      have hnn := HN.out
      obtain ⟨F9, hF9, _⟩ := HB0.out.ex
      have e26 : F1 26 = v3 := by rw [f2 26 (by decide), upd_here]
      refine ⟨rfl, F1, f1, fun j h1 h2 => by rw [f2 j h1, upd_rest _ _ _ _ h2], by rw [List.take_of_length_le (by rw [HDL.out]; exact Nat.le_refl _)] at f3; exact f3, ?_, ?_, ?_, ?_⟩
      · rw [e26]
        refine Bk.owns_only hnn.1 f4 (fun g hg hm => ?_)
        obtain ⟨cur, hc⟩ := owns_cells hnn.1 hg
        exact unlike hc hF9 (by decide) (by simpa using hm)
      · exact hnn.2.1.trans f4 (fun x hx => .inl hx)
      · intro g hg
        have h1 := f5 g hg
        have h2 := hnn.2.1.size
        omega
      · rw [e26]; exact hnn.2.2.1
end Go.Proofs.YtdlifcpdlbmijaaGreatDoor
namespace Go.Proofs.YtdlifcpdlbmijaaGreatDoor
open Go.RowKit Go.PlainAid Go.Shelf
open B2 (Only Bys Row cellsOf owns_only)
open Gm (St Smp Chk)
set_option linter.unusedVariables false
set_option linter.unusedSimpArgs false
open Go.RowKit Go.PlainAid Go.Shelf
open B2 (Only Bys Row cellsOf owns_only)
open Gm (St Smp Chk)
theorem owns_base {w : World} {N e sz n : Nat} {v : Value} {xs : List Value} (h : w.ownsRow N e sz v n xs) (g : Nat) (hg : v.ownBlock = some g) : N ≤ g := by
  rcases h.2 with ⟨hv, _⟩ | ⟨g2, c2, cur, hv, hN, hh, _⟩
  · rw [hv] at hg; cases hg
  · rw [hv] at hg; injection hg with hg; have hg : g2 = g := hg; omega
/-- a chunk more -/
theorem OwnC.more {w W w2 : World} {base len cap : Nat} {v v' : Value} {cs : List Chk} {ds : List Value} {c : Chk} {ad : Option Addr} (H : OwnC w base v cs ds) (hW : Below w.heap.size w W)
    (hl : len = c.bs.length) (hrow : w.ownsRow 0 5 1 (.slice ad len cap) len (cellsOf c.bs)) (h8 : ∀ x ∈ c.bs, x < 256)
    (hown : w2.ownsRow base 26 4 v' (cs.length + 1) (chC cs ds ++ [.int .i64 c.frm, .int .i64 c.to, .int .i64 ((c.n : Nat) : Int), .slice ad len cap])) (hg : W.grownBy w2 v.ownBlock)
    (hnew : ∀ i g, (ds.getD i (.slice none 0 0)).ownBlock = some g → (Value.slice ad len cap).ownBlock ≠ some g) (hlow : ∀ g, (Value.slice ad len cap).ownBlock = some g → base ≤ g) : OwnC w2 base v' (cs ++ [c]) (ds ++ [.slice ad len cap]) := by
  subst hl
  have hO : Only v.ownBlock.toList W w2 := (Only.refl _ _).grown hg (fun k hk => .inl (by simp [hk]))
  have hO2 : Only v.ownBlock.toList w w2 := (Only.of_below hW _).trans hO (fun x hx => .inl hx)
  have hty : ∀ g cur, w.heap[g]? = some (.cells cur 5 (0, 0)) → g ∉ v.ownBlock.toList := fun g cur hc hm => by
    have hm : v.ownBlock = some g := by simpa using hm
    rcases H.row.2 with ⟨hv, _⟩ | ⟨g2, c2, cur2, hv, _, hh, _⟩
    · rw [hv] at hm; cases hm
    · rw [hv] at hm; injection hm with hm; have hm : g2 = g := hm; subst hm
      rw [hc] at hh; injection hh with hh; injection hh with _ hh; exact absurd hh (by decide)
  have keep5 : ∀ {ad : Option Addr} {l cap : Nat} {bs : List Nat}, w.ownsRow 0 5 1 (.slice ad l cap) l (cellsOf bs) → w2.ownsRow 0 5 1 (.slice ad l cap) l (cellsOf bs) := fun {ad l cap bs} h =>
    owns_only h hO2 (fun g hg => by
      rcases h.2 with ⟨hv, _⟩ | ⟨g2, c2, cur2, hv, _, hh, _⟩
      · rw [hv] at hg; cases hg
      · rw [hv] at hg; injection hg with hg; have hg : g2 = g := hg; subst hg; exact hty _ _ hh)
  refine ⟨?_, by simp [H.len], apart_snoc H.apart hnew, low_snoc H.low hlow, fun k hk => ?_⟩
  · rw [List.length_append, chC_snoc _ _ _ _ H.len]
    exact hown
  · by_cases hk2 : k < cs.length
    · obtain ⟨ad2, cap2, k1, k2, k3⟩ := H.each k hk2
      have e : (cs ++ [c])[k] = cs[k] := List.getElem_append_left hk2
      rw [e]
      exact ⟨ad2, cap2, by rw [List.getElem?_append_left (by rw [H.len]; exact hk2)]; exact k1, keep5 k2, k3⟩
    · have : k = cs.length := by simp at hk; omega
      subst this
      have e : (cs ++ [c])[cs.length] = c := by simp
      rw [e]
      exact ⟨ad, cap, by rw [List.getElem?_append_right (by rw [H.len]; exact Nat.le_refl _), H.len, Nat.sub_self]; rfl, keep5 hrow, h8⟩
/-- the chunks so far -/
structure EncR (l : List Smp) (n base k : Nat) (v : Value) (W : World) : Prop where
  ex : ∃ cs ds, OwnC W base v cs ds ∧ cs.length = k ∧ ∀ j (h : j < cs.length), Gm.IsChk (Gm.grp l j) cs[j]
  cnt : k = 0 ∨ 120 * (k - 1) < n
theorem EncR.next {l : List Smp} {n base k s kk len cap g : Nat} {v v' : Value} {W w5 w6 : World} {ad : Option Addr} {bs : List Nat} {f t : Int} {cs : List Chk} {ds : List Value}
    (H : OwnC W base v cs ds) (hk : cs.length = k) (hall : ∀ j (h : j < cs.length), Gm.IsChk (Gm.grp l j) cs[j]) (hlt : 120 * k < n) (hn : l.length = n)
    (hs : (Gm.grp l k).length = s) (hf : f = ((Gm.grp l k).getD 0 ⟨0, 0⟩).t) (ht : t = ((Gm.grp l k).getD (s - 1) ⟨0, 0⟩).t)
    (hkk : kk < 8) (hP : B2.Bt.Packs kk bs (Gm.run (Gm.grp l k)).out) (hlen : bs.length = len) (hR : Row w5 g (.slice ad len cap) bs) (hnw : ad = none ∨ W.heap.size ≤ g) (hb : Below W.heap.size W w5) (hbase : base ≤ W.heap.size) {o : World} (ho : Below w5.heap.size w5 o)
    (hown : o.ownsRow 0 5 1 (.slice ad len cap) len (cellsOf bs) → w6.ownsRow base 26 4 v' (k + 1) (chC cs ds ++ [.int .i64 f, .int .i64 t, .int .i64 ((s : Nat) : Int), .slice ad len cap]) ∧ o.grownBy w6 v.ownBlock) : EncR l n base (k + 1) v' w6 := by
  have hs1 : 0 < s := by rw [← hs, Gm.grp_len]; omega
  have e0 : ((Gm.grp l k).getD 0 ⟨0, 0⟩) = (Gm.grp l k)[0]'(by omega) := by simp [List.getD, List.getElem?_eq_getElem (show 0 < (Gm.grp l k).length by omega)]
  have e1 : ((Gm.grp l k).getD (s - 1) ⟨0, 0⟩) = (Gm.grp l k)[s - 1]'(by omega) := by simp [List.getD, List.getElem?_eq_getElem (show s - 1 < (Gm.grp l k).length by omega)]
  have hI : Gm.IsChk (Gm.grp l k) ⟨f, t, s, bs⟩ := by
    refine ⟨?_, ?_, ?_, kk, hkk, hP⟩
    · show f = _
      rw [hf, e0, run_frm1 _ (by omega)]
    · show t = _
      rw [ht, e1, run_last' _ (s - 1) (by omega)]
    · show s = _
      rw [Gm.run_n, hs]
  have hrow : o.ownsRow 0 5 1 (.slice ad len cap) len (cellsOf bs) := by
    have := owns_only hR.1 (Only.of_below ho []) (fun _ _ => by simp)
    rw [hlen] at this
    exact this
  obtain ⟨h1, h2⟩ := hown hrow
  subst hk
  have hm := (H.below (hb.trans (ho.mono hb.size))).more (c := ⟨f, t, s, bs⟩) (Below.refl _ _) hlen.symm hrow hP.1 h1 h2 (fun i q hq e => by
    have a1 := H.lt i q hq
    rcases hnw with a2 | a2
    · subst a2; cases e
    · rcases hR.2 with a3 | a3
      · rw [e] at a3; cases a3
      · rw [e] at a3; injection a3 with a3; omega) (fun q e => by
    rcases hnw with a2 | a2
    · subst a2; cases e
    · rcases hR.2 with a3 | a3
      · rw [e] at a3; cases a3
      · rw [e] at a3; injection a3 with a3; omega)
  refine ⟨⟨_, _, hm, by simp, fun j hj => ?_⟩, .inr (by omega)⟩
  by_cases hj2 : j < cs.length
  · rw [List.getElem_append_left hj2]; exact hall j hj2
  · have : j = cs.length := by simp at hj; omega
    subst this
    simp only [List.getElem_concat_length]
    exact hI
theorem min_grp (l : List Smp) (n k i0 : Nat) (hn : l.length = n) (h0 : 120 * k = i0) (hlt : i0 < n) : ∃ s, (Gm.grp l k).length = s ∧ 0 < s ∧ s ≤ 120 ∧ i0 + s ≤ n ∧ min n (i0 + 120) = i0 + s := ⟨_, rfl, by rw [Gm.grp_len]; omega, by rw [Gm.grp_len]; omega, by rw [Gm.grp_len]; omega, by rw [Gm.grp_len]; omega⟩
set_option maxRecDepth 100000 in
set_option maxHeartbeats 8000000 in
theorem refenc_ok (a : Option Addr) (n c : Nat) (l : List Smp) (hn : l.length = n) (hc : n ≤ c) (hz : n ≤ 2000) (hok : ∀ x ∈ l, Gm.OkS x) (hf : fitE l = 0) (k0 p0 p1 p2 cc c0 c1 c2 o9 oa oc od : Nat) (w : World) (H : Sms w a l) (HT : TabB w k0 p0 p1 p2 cc c0 c1 c2 o9 oa oc od) :
    Calls Tryz.prog 12 #[.slice a n c] w fun e w' => ∃ v cs ds, e = .returned (.tuple #[v, .int .u16 0]) ∧ Gm.Enc l cs ∧ OwnC w' w.heap.size v cs ds ∧ Below w.heap.size w w' := by
  have CF := Lib.hid (fits_any a n c l hn (by omega) w H)
  rw [hf] at CF
  simp only [Int.cast_ofNat_Int] at CF
  have HL := Lib.hid (And.intro H (And.intro hn (And.intro hok HT)))
  clear H hn hok HT hf
  obtain ⟨i0, hi0, hx0, hy0, hz0⟩ := info_parts info73
  go_enter Tryz.func12, Tryz.ntmps12
  go_wp2_with (go_at_call 35; refine CF.out.mono ?_; rintro e w1 ⟨rfl, hb1⟩; have HB1 := Lib.hid hb1; clear hb1)
  go_loopw [5, 6] (fun v i wr => ∃ k : Nat, i = .int .i64 ((120 * k : Nat) : Int) ∧ 120 * k ≤ n + 119 ∧ Hid (EncR l n w.heap.size k v wr ∧ Below w.heap.size w wr)) (fun _ i _ => n + 120 - (intOf i).toNat)
  case atStart => exact ⟨0, by simp, by omega, Lib.hid ⟨⟨⟨[], [], OwnC.nil _ _, rfl, fun j h => by simp at h⟩, .inl rfl⟩, HB1.out⟩⟩
  case round =>
    obtain ⟨k, rfl, hk, HI⟩ := hrel
    obtain ⟨j0, hj0⟩ : ∃ j0, 120 * k = j0 := ⟨_, rfl⟩
    have HJ := Lib.hid hj0
    rw [hj0] at hk ⊢
    by_cases hlt : j0 < n
    · have da : decide ((j0 : Int) < (n : Int)) = true := decide_eq_true (by omega)
      have da2 : decide (j0 < n) = true := decide_eq_true hlt
      obtain ⟨s, hs, hs1, hs2, hs3, hmin⟩ := min_grp l n k j0 HL.out.2.1 hj0 hlt
      have hsum : IntKind.i64.wrap ((j0 : Int) + 120) = ((j0 + 120 : Nat) : Int) := by rw [IntKind.wrap_i64]; omega
      have hsum2 : wrap64 ((j0 : Int) + 120) = ((j0 + 120 : Nat) : Int) := by unfold wrap64; omega
      obtain ⟨E, hE⟩ : ∃ E, j0 + s = E := ⟨_, rfl⟩
      have hmm : min (n : Int) ((j0 : Int) + 120) = (E : Int) := by omega
      have hEs : E - j0 = s := by omega
      have hEn : E ≤ n := by omega
      have hEc : E ≤ c := by omega
      have hjE : j0 ≤ E := by omega
      obtain ⟨b, off, rfl, hbl, hcl⟩ := (HL.out.1.below HI.out.2) (by intro e; have := HL.out.2.1; rw [e] at this; simp at this; omega)
      have hSam : Sam wr b (off + j0 * 2) (Gm.grp l k) := fun i hi => by
        have h1 : j0 + i < l.length := by rw [HL.out.2.1]; omega
        have h2 := hcl (j0 + i) h1
        have h3 : (Gm.grp l k)[i] = l[j0 + i] := by
          have := grp_at (l := l) (j := k) (r := i) hi (by rw [HJ.out]; exact h1)
          rw [this]
          congr 1
          rw [HJ.out]
        rw [h3, show off + j0 * 2 + i * 2 = off + (j0 + i) * 2 by omega]
        exact h2
      have CC := Lib.hid (rchunk_any b (off + j0 * 2) s (c - j0) (Gm.grp l k) hs hs1 (by omega) (fun x hx => HL.out.2.2.1 x (Gm.grp_mem hx)) k0 p0 p1 p2 cc c0 c1 c2 o9 oa oc od wr hSam (HL.out.2.2.2.below HI.out.2))
      obtain ⟨cs, ds, hC, hck, hall⟩ := HI.out.1.ex
      obtain ⟨av, ac, hv⟩ := hC.shape
      rw [hck] at hv
      subst hv
      have HCC := Lib.hid (And.intro hC (And.intro hck hall))
      have HS := Lib.hid (And.intro hs (And.intro hs1 (And.intro hmin hj0)))
      clear hcl hSam hC hall hs hmin hj0 hsum hsum2 hck
      go_wp2_with fail
      go_at_call 36
      refine CC.out.mono ?_
      rintro e w5 ⟨bs, kk, ad, cp, g, hkk, hPk, rfl, hRow, hnw, hb5⟩
      obtain ⟨bl, hbl2⟩ : ∃ bl, bs.length = bl := ⟨_, rfl⟩
      obtain ⟨f, hf⟩ : ∃ f, ((Gm.grp l k).getD 0 ⟨0, 0⟩).t = f := ⟨_, rfl⟩
      obtain ⟨t, ht⟩ : ∃ t, ((Gm.grp l k).getD (s - 1) ⟨0, 0⟩).t = t := ⟨_, rfl⟩
      rw [hbl2] at hRow
      have HP := Lib.hid (And.intro hkk (And.intro hPk (And.intro hbl2 (And.intro hRow (And.intro hnw (And.intro hb5 (And.intro hf ht)))))))
      rw [hf, ht, hbl2]
      unfold chV
      clear hkk hPk hRow hnw hb5 hbl2 hf ht CC
      have hsz1 : (w5.alloc (.cells #[.int .i64 f, .int .i64 t, .int .i64 ((s : Nat) : Int), .slice ad bl cp] 26)).heap.size = w5.heap.size + 1 := by simp
      have hA1 := (Below.refl w5.heap.size w5).alloc (Nat.le_refl _) (.cells #[.int .i64 f, .int .i64 t, .int .i64 ((s : Nat) : Int), .slice ad bl cp] 26)
      have hA2 := hA1.alloc (by omega) (.cells #[.int .i64 f, .int .i64 t, .int .i64 ((s : Nat) : Int), .slice ad bl cp] 26)
      have hfc := four_cells (w5.alloc (.cells #[.int .i64 f, .int .i64 t, .int .i64 ((s : Nat) : Int), .slice ad bl cp] 26)) (.int .i64 f) (.int .i64 t) (.int .i64 ((s : Nat) : Int)) (.slice ad bl cp) 26
      rw [hsz1] at hfc
      have hrow0 : ((w5.alloc (.cells #[.int .i64 f, .int .i64 t, .int .i64 ((s : Nat) : Int), .slice ad bl cp] 26)).alloc (.cells #[.int .i64 f, .int .i64 t, .int .i64 ((s : Nat) : Int), .slice ad bl cp] 26)).ownsRow w.heap.size 26 4 (.slice av k ac) k (chC cs ds) := by
        have h1 := HCC.out.1.row
        rw [HCC.out.2.1] at h1
        exact owns_only h1 (Only.of_below (HP.out.2.2.2.2.2.1.trans (hA2.mono HP.out.2.2.2.2.2.1.size)) []) (fun _ _ => by simp)
      have HA2 := Lib.hid (And.intro hA2 (And.intro hfc hrow0))
      have hk2 : k ≤ 2000 := by have := HJ.out; omega
      clear hA1 hA2 hfc hrow0 hsz1
      go_wp2_with (at_builtin; refine wpList_append_own _ rfl (.tmp 28) (.tmp 30) 23 rfl w.heap.size 26 i0 (.agg #[.int .i64 0, .int .i64 0, .int .i64 0, .slice none 0 0]) 4 48 Tryz.underlying23 hi0 hx0 hy0 hz0 rfl (by decide) (.slice av k ac) k (chC cs ds) rfl HA2.out.2.2 ⟨w5.heap.size + 1, 0, none⟩ 1 1 [.int .i64 f, .int .i64 t, .int .i64 ((s : Nat) : Int), .slice ad bl cp] rfl rfl HA2.out.2.1 (by simp [Value.oneCell']) (by unfold maxLen; omega) (by omega) (by have h1 := HI.out.2.size; have h2 := HP.out.2.2.2.2.2.1.size; simp; omega) ?_)
      intro v2 w6 hown6 hgr6 _
      have HE := Lib.hid (EncR.next HCC.out.1 HCC.out.2.1 HCC.out.2.2 (by rw [HJ.out]; exact hlt) HL.out.2.1 HS.out.1 HP.out.2.2.2.2.2.2.1.symm HP.out.2.2.2.2.2.2.2.symm HP.out.1 HP.out.2.1 HP.out.2.2.1 HP.out.2.2.2.1 HP.out.2.2.2.2.1 HP.out.2.2.2.2.2.1 HI.out.2.size HA2.out.1 (fun _ => ⟨hown6, hgr6⟩))
      have HBB := Lib.hid (show Below w.heap.size w w6 from (HI.out.2.trans ((HP.out.2.2.2.2.2.1.trans (HA2.out.1.mono HP.out.2.2.2.2.2.1.size)).mono HI.out.2.size)).grown hgr6 (by have h1 := HI.out.2.size; have h2 := HP.out.2.2.2.2.2.1.size; simp; omega) (fun q hq => owns_base HCC.out.1.row q hq))
      clear hown6 hgr6
      go_wp2_with fail
      have hj := HJ.out
      exact ⟨⟨k + 1, by rw [show 120 * (k + 1) = j0 + 120 by omega]; simp, by omega, Lib.hid ⟨HE.out, HBB.out⟩⟩, by simp [intOf]; omega⟩
    · have da : decide ((j0 : Int) < (n : Int)) = false := decide_eq_false (by omega)
      have da2 : decide (j0 < n) = false := decide_eq_false hlt
      go_wp2_with fail
      go_ret2
      obtain ⟨cs, ds, hC, hck, hall⟩ := HI.out.1.ex
      refine ⟨_, cs, ds, rfl, ⟨?_, hall⟩, hC, HI.out.2⟩
      have h1 := HI.out.1.cnt
      have h2 := HJ.out
      rw [HL.out.2.1, hck]
      unfold Gm.cnt
      omega
end Go.Proofs.YtdlifcpdlbmijaaGreatDoor
namespace Go.Proofs.YtdlifcpdlbmijaaGreatDoor
open Go.RowKit Go.PlainAid Go.Shelf
open B2 (Only Bys Row cellsOf owns_only)
open Gm (St Smp Chk)
set_option maxRecDepth 100000 in
theorem refenc_no (a : Option Addr) (n c : Nat) (l : List Smp) (hn : l.length = n) (hz : n ≤ 2000) (F : Nat) (hF : fitE l = F) (hf : F ≠ 0) (w : World) (H : Sms w a l) :
    Calls Tryz.prog 12 #[.slice a n c] w fun e w' => e = .returned (.tuple #[.slice none 0 0, .int .u16 (F : Int)]) ∧ Below w.heap.size w w' := by
  have CF := Lib.hid (fits_any a n c l hn (by omega) w H)
  rw [hF] at CF
  have hd : decide ((F : Int) = 0) = false := decide_eq_false (by omega)
  have hd2 : ¬ F = 0 := hf
  have hd3 : decide (F = 0) = false := decide_eq_false hf
  clear H hn hF hf
  go_enter Tryz.func12, Tryz.ntmps12
  go_wp2_with (go_at_call 35; refine CF.out.mono ?_; rintro e w1 ⟨rfl, hb1⟩; have HB1 := Lib.hid hb1; clear hb1)
  go_ret2
  exact ⟨rfl, HB1.out⟩
end Go.Proofs.YtdlifcpdlbmijaaGreatDoor
namespace Go.Proofs.YtdlifcpdlbmijaaGreatDoor
set_option linter.unusedVariables false
set_option linter.unusedSimpArgs false
open Go.RowKit Go.PlainAid Go.Shelf
open B2 (Only Bys Row cellsOf owns_only)
open Gm (St Smp Chk)
/-- what the order's error is behind k chunks -/
def OrdI (cs : List Cin) (k : Nat) (O : Int) : Prop := (O = 0 ∧ ∀ i (h : i + 1 < cs.length), i + 1 < k → cs[i].t < cs[i + 1].f) ∨ (O = 100 ∧ ¬ upsC cs)
theorem OrdI.zero (cs : List Cin) : OrdI cs 0 0 := .inl ⟨rfl, fun i h h2 => by omega⟩
theorem OrdI.one {cs : List Cin} {O : Int} (h : OrdI cs 0 O) : OrdI cs 1 O := by
  rcases h with ⟨h1, _⟩ | h
  · exact .inl ⟨h1, fun i h h2 => by omega⟩
  · exact .inr h
theorem OrdI.good {cs : List Cin} {O : Int} {q : Nat} (h : OrdI cs (q + 1) O) (hq : q + 1 < cs.length) (hx : cs[q].t < cs[q + 1].f) : OrdI cs (q + 1 + 1) O := by
  rcases h with ⟨h1, h3⟩ | h
  · refine .inl ⟨h1, fun i h h2 => ?_⟩
    by_cases e : i = q
    · subst e; exact hx
    · exact h3 i h (by omega)
  · exact .inr h
theorem OrdI.bad {cs : List Cin} {q : Nat} (hq : q + 1 < cs.length) (hx : ¬ cs[q].t < cs[q + 1].f) : OrdI cs (q + 1 + 1) 100 := .inr ⟨rfl, fun h => hx (h q hq)⟩
theorem smC_one' (l : List Smp) : ∀ u ∈ smC l, u.oneCell' = true := by
  intro u hu
  obtain ⟨a, _, ha⟩ := List.mem_flatMap.1 hu
  simp at ha
  rcases ha with rfl | rfl <;> rfl
theorem smC_len' (l : List Smp) : (smC l).length = l.length * 2 := by
  induction l with
  | nil => rfl
  | cons a l ih => simp only [smC, List.flatMap_cons, List.length_append, List.length_cons, List.length_nil] at *; omega
theorem smC_app (l m : List Smp) : smC (l ++ m) = smC l ++ smC m := by simp [smC]
theorem owns_src {w : World} {q : Nat} {v : Value} {g : List Smp} (H : OwnS w q v g) (h : g ≠ []) : ∃ b cap, v = .slice (some ⟨b, 0, none⟩) g.length cap ∧ b < w.heap.size ∧ ∀ j u, (smC g)[j]? = some u → w.cell? ((⟨b, 0, none⟩ : Addr).add j) = some u := by
  rcases H.2 with ⟨_, h0⟩ | ⟨b, cap, cur, hv, _⟩
  · exact absurd (List.eq_nil_of_length_eq_zero h0) h
  · exact ⟨b, cap, hv, (World.ownsRow.lt H b (by rw [hv]; rfl)).2, fun j u hj => World.ownsRow.cells H (g := b) (by rw [hv]; rfl) j u hj⟩
theorem smps_lenP (cs : List Cin) : ∀ k, k ≤ cs.length → (∀ q (h : q < cs.length), q < k → GoodI cs[q]) → ((cs.take k).flatMap smpOf).length ≤ 120 * k := by
  intro k
  induction k with
  | zero => intro _ _; simp
  | succ k ih =>
    intro hk h
    rw [List.take_succ_eq_append_getElem (by omega), List.flatMap_append, List.length_append]
    have h1 := ih (by omega) (fun q hq hqk => h q hq (by omega))
    obtain ⟨g, G⟩ := h k (by omega) (by omega)
    have h2 := isC_smp G
    have h3 := G.1.len
    rw [h2] at h3
    simp only [List.flatMap_cons, List.flatMap_nil, List.append_nil]
    omega
theorem dec_app {w W w6 : World} {q m : Nat} {v v6 : Value} {l g : List Smp} (hN : q ≤ w.heap.size) (hm : l.length = m) (hB : Below q w W) (h : W.ownsRow q 79 2 v m (smC l)) (h6 : w6.ownsRow q 79 2 v6 (m + g.length) (smC l ++ smC g)) (hg : W.grownBy w6 v.ownBlock) : OwnS w6 q v6 (l ++ g) ∧ Below q w w6 := by
  refine ⟨?_, hB.grown hg (Nat.le_trans hN hB.size) (fun x hx => ?_)⟩
  · unfold OwnS
    rw [smC_app, List.length_append, hm]
    exact h6
  · rcases h.2 with ⟨hv, _⟩ | ⟨g2, c2, cur, hv, hN, hh, _⟩
    · rw [hv] at hx; cases hx
    · rw [hv] at hx; injection hx with hx; have hx : g2 = x := hx; omega
set_option maxRecDepth 100000 in
set_option maxHeartbeats 8000000 in
theorem refdec_all (a : Option Addr) (n c : Nat) (cs : List Cin) (hn : cs.length = n) (hz : n ≤ 100000) (hG : ∀ r ∈ cs, r.bs.length ≤ 1000000) (k0 p0 p1 p2 cc c0 c1 c2 o9 oa oc od : Nat) (w : World) (H : CinAt w a cs) (HT : TabB w k0 p0 p1 p2 cc c0 c1 c2 o9 oa oc od) :
    Calls Tryz.prog 13 #[.slice a n c] w fun e w' => DecSays w.heap.size cs e w' ∧ Below w.heap.size w w' := by
  have HL := Lib.hid (And.intro H (And.intro hn (And.intro hG HT)))
  clear H hn hG HT
  obtain ⟨i0, hi0, hx0, hy0, hz0⟩ := info_parts info70'
  have HI0 := Lib.hid (And.intro hi0 (And.intro hx0 (And.intro hy0 hz0)))
  clear hi0 hx0 hy0 hz0
  go_enter Tryz.func13, Tryz.ntmps13
  go_wp2_with fail
  go_loopw [4, 5, 6] (fun v o i wr => ∃ (k : Nat) (O : Int), k ≤ n ∧ i = .int .i64 (k : Nat) ∧ o = .int .u16 O ∧ Hid (OwnS wr w.heap.size v ((cs.take k).flatMap smpOf) ∧ Below w.heap.size w wr ∧ OrdI cs k O ∧ ∀ q (h : q < cs.length), q < k → GoodI cs[q])) (fun _ _ i _ => n - (intOf i).toNat)
  case atStart => exact ⟨0, 0, Nat.zero_le _, rfl, rfl, Lib.hid ⟨by simpa [OwnS, smC] using World.ownsRow_nil w w.heap.size 79 2, Below.refl _ _, OrdI.zero cs, fun q h h2 => by omega⟩⟩
  case round =>
    obtain ⟨k, O, hk, rfl, rfl, HI⟩ := hrel
    by_cases hlt : k < n
    · have da : decide ((k : Int) < (n : Int)) = true := decide_eq_true (by omega)
      have da2 : decide (k < n) = true := decide_eq_true hlt
      have hkx : (k : Int) < (n : Int) := by omega
      have hkl : k < cs.length := by rw [HL.out.2.1]; exact hlt
      obtain ⟨b1, o1, rfl, hl1, hc1⟩ := (HL.out.1.below HI.out.2.1) (by intro e; rw [e] at hkl; simp at hkl)
      have HY := Lib.hid (fun q (h : q < cs.length) => (hc1 q h).choose_spec.choose_spec.2.1)
      obtain ⟨ad, cp, y0, y1, y2, y3, _, hB⟩ := hc1 k hkl
      have hG1 := HL.out.2.2.1 _ (List.getElem_mem hkl)
      obtain ⟨⟨f, t, N, bs⟩, hr⟩ : ∃ r : Cin, cs[k]'hkl = r := ⟨_, rfl⟩
      rw [hr] at y0 y1 y2 y3 hB hG1
      simp only at y0 y1 y2 y3 hB hG1
      have CA := Lib.hid (refall_any f t N ad bs cp hG1 k0 p0 p1 p2 cc c0 c1 c2 o9 oa oc od wr hB (HL.out.2.2.2.below HI.out.2.1))
      have HR := Lib.hid hkl
      have HRR := Lib.hid hr
      unfold chR at CA
      clear hc1 hB hG1 hr
      go_wp2_with fail
      go_at_call 37
      refine CA.out.mono ?_
      rintro e w5 ⟨hb5, h⟩
      have HB5 := Lib.hid hb5
      rcases h with ⟨g, v, rfl, hO, hC⟩ | ⟨a9, n9, c9, rfl, hno⟩
      rotate_left
      · have HNO := Lib.hid (show ¬ ∀ r ∈ cs, GoodI r from fun h => hno (by have h2 := h _ (List.getElem_mem hkl); rw [HRR.out] at h2; exact h2))
        clear hb5 hno CA
        go_wp2_with fail
        go_ret2
        exact ⟨.inl ⟨rfl, HNO.out⟩, HI.out.2.1.trans (HB5.out.mono HI.out.2.1.size)⟩
      have hgs : g = smpOf (cs[k]'hkl) := by rw [HRR.out]; exact isC_smp (r := ⟨f, t, N, bs⟩) hC
      have HST := Lib.hid (show ∀ q (h : q < cs.length), q < k + 1 → GoodI cs[q] from fun q h h2 => by
        by_cases e : q = k
        · subst e
          rw [HRR.out]
          exact ⟨g, hC⟩
        · exact HI.out.2.2.2 q h (by omega))
      have hgl := hC.1.len
      have hg1 := hC.1.some
      obtain ⟨sb, sc, rfl, hsb, hsrc⟩ := owns_src hO (by intro e; rw [e] at hg1; simp at hg1)
      have HLN := Lib.hid (smps_lenP cs k (by have := HR.out; omega) HI.out.2.2.2)
      obtain ⟨m, hm⟩ : ∃ m, ((cs.take k).flatMap smpOf).length = m := ⟨_, rfl⟩
      have HM := Lib.hid hm
      have hO0 : wr.ownsRow w.heap.size 79 2 u4 m (smC ((cs.take k).flatMap smpOf)) := by have h := HI.out.1; unfold OwnS at h; rw [hm] at h; exact h
      obtain ⟨va, vc, rfl⟩ := Bk.owns_shape hO0
      rw [hm] at HLN
      have hst := smps_step cs k HR.out
      rw [← hgs] at hst
      have HSS := Lib.hid hst
      have HOW := Lib.hid (fun N => show (w5.drewN N).ownsRow w.heap.size 79 2 (.slice va m vc) m (smC ((cs.take k).flatMap smpOf)) from owns_only hO0 (Only.of_below (HB5.out.trans ((drewn_below w5 N).mono HB5.out.size)) []) (fun _ _ => by simp))
      have HSR := Lib.hid (fun N => show ∀ j u, (smC g)[j]? = some u → (w5.drewN N).cell? ((⟨sb, 0, none⟩ : Addr).add j) = some u from fun j u hj => hsrc j u hj)
      have HBW := Lib.hid (fun N => show Below w.heap.size w (w5.drewN N) from (HI.out.2.1.trans (HB5.out.mono HI.out.2.1.size)).trans ((drewn_below w5 N).mono (Nat.le_trans HI.out.2.1.size HB5.out.size)))
      have HGL := Lib.hid (And.intro (smC_len' g) (smC_one' g))
      obtain ⟨G, hGG⟩ : ∃ G, g.length = G := ⟨_, rfl⟩
      have hsz9 := HI.out.2.1.size
      have hb1 : m + G ≤ maxLen := by have := HLN.out; unfold maxLen; omega
      have hb2 : (m + G) * 16 ≤ 140737488355328 := by have := HLN.out; omega
      have HB3 := Lib.hid (fun N => (HBW.out N).size)
      have hk9 : m + G ≤ 12000120 := by have := HLN.out; omega
      rw [hGG] at HGL hgl hg1 ⊢
      have HGG := Lib.hid hGG
      have x0 := cell_below y0 hb5
      clear hO hC hgs hO0 hst hsrc hsb hGG y0 y1 y2 y3 hb5 CA hm
      rcases Nat.eq_zero_or_pos k with hk0 | hk0
      · subst hk0
        have HON := Lib.hid HI.out.2.2.1.one
        clear x0
        go_wp2_with fail
        go_quiet (fail)
        go_wp2_with (at_builtin; refine wpList_append_own _ rfl (.tmp 41) (.tmp 42) 22 rfl w.heap.size 79 i0 (.agg #[.int .i64 0, .int .u64 0]) 2 16 Tryz.underlying22 HI0.out.1 HI0.out.2.1 HI0.out.2.2.1 HI0.out.2.2.2 rfl (by decide) (.slice va m vc) m (smC ((cs.take 0).flatMap smpOf)) rfl (HOW.out nq) ⟨sb, 0, none⟩ G sc (smC g) rfl HGL.out.1 (HSR.out nq) HGL.out.2 hb1 hb2 (HB3.out nq) ?_)
        intro v2 w6 hown6 hgr6 _
        have HE := Lib.hid (dec_app (Nat.le_refl _) HM.out (HBW.out nq) (HOW.out nq) (by rw [HGG.out]; exact hown6) hgr6)
        rw [HSS.out] at HE
        clear hown6 hgr6
        go_wp2_with fail
        exact ⟨⟨0 + 1, O, by omega, by simp, rfl, Lib.hid ⟨HE.out.1, HE.out.2, HON.out, HST.out⟩⟩, by simp [intOf]; omega⟩
      · obtain ⟨q, rfl⟩ : ∃ q, k = q + 1 := ⟨k - 1, by omega⟩
        have x1 := cell_below (HY.out q (by omega)) HB5.out
        have HOG := Lib.hid (fun h => HI.out.2.2.1.good hkl h)
        have HOB := Lib.hid (fun h => OrdI.bad (cs := cs) (q := q) hkl h)
        rw [HRR.out] at HOG HOB
        obtain ⟨T0, hT0⟩ : ∃ T0, (cs[q]'(by omega)).t = T0 := ⟨_, rfl⟩
        rw [hT0] at x1 HOG HOB
        simp only at HOG HOB
        have hsub : ((q + 1 : Nat) : Int) - 1 = (q : Int) := by omega
        obtain ⟨k, hk⟩ : ∃ k, q + 1 = k := ⟨_, rfl⟩
        rw [hk] at x0 hsub HOG HOB HST HSS HOW HM da da2 hlt ⊢
        have hq0 : (0 : Int) ≤ (q : Int) := by omega
        have hqn : (q : Int) < (n : Int) := by omega
        have hqn2 : q < n := by omega
        have hpos : decide ((k : Int) > 0) = true := decide_eq_true (by omega)
        have hpos2 : decide ((0 : Int) < (k : Int)) = true := decide_eq_true (by omega)
        have hpos3 : decide (0 < k) = true := decide_eq_true (by omega)
        have hpos4 : 0 < k := by omega
        have hkx : (k : Int) < (n : Int) := by omega
        have hkn : k ≤ n := by omega
        clear hk0 hT0
        by_cases hup : T0 < f
        · have dl : decide (f ≤ T0) = false := decide_eq_false (by omega)
          have HON := Lib.hid (HOG.out hup)
          clear HOG HOB hup
          go_wp2_with fail
          go_quiet (fail)
          go_wp2_with (at_builtin; refine wpList_append_own _ rfl (.tmp 41) (.tmp 42) 22 rfl w.heap.size 79 i0 (.agg #[.int .i64 0, .int .u64 0]) 2 16 Tryz.underlying22 HI0.out.1 HI0.out.2.1 HI0.out.2.2.1 HI0.out.2.2.2 rfl (by decide) (.slice va m vc) m (smC ((cs.take k).flatMap smpOf)) rfl (HOW.out nq) ⟨sb, 0, none⟩ G sc (smC g) rfl HGL.out.1 (HSR.out nq) HGL.out.2 hb1 hb2 (HB3.out nq) ?_)
          intro v2 w6 hown6 hgr6 _
          have HE := Lib.hid (dec_app (Nat.le_refl _) HM.out (HBW.out nq) (HOW.out nq) (by rw [HGG.out]; exact hown6) hgr6)
          rw [HSS.out] at HE
          clear hown6 hgr6
          go_wp2_with fail
          exact ⟨⟨k + 1, O, by omega, by simp, rfl, Lib.hid ⟨HE.out.1, HE.out.2, HON.out, HST.out⟩⟩, by simp [intOf]; omega⟩
        · have dl : decide (f ≤ T0) = true := decide_eq_true (by omega)
          have dl2 : f ≤ T0 := by omega
          have HON := Lib.hid (HOB.out hup)
          clear HOG HOB hup
          go_wp2_with fail
          go_quiet (fail)
          go_wp2_with (at_builtin; refine wpList_append_own _ rfl (.tmp 41) (.tmp 42) 22 rfl w.heap.size 79 i0 (.agg #[.int .i64 0, .int .u64 0]) 2 16 Tryz.underlying22 HI0.out.1 HI0.out.2.1 HI0.out.2.2.1 HI0.out.2.2.2 rfl (by decide) (.slice va m vc) m (smC ((cs.take k).flatMap smpOf)) rfl (HOW.out nq) ⟨sb, 0, none⟩ G sc (smC g) rfl HGL.out.1 (HSR.out nq) HGL.out.2 hb1 hb2 (HB3.out nq) ?_)
          intro v2 w6 hown6 hgr6 _
          have HE := Lib.hid (dec_app (Nat.le_refl _) HM.out (HBW.out nq) (HOW.out nq) (by rw [HGG.out]; exact hown6) hgr6)
          rw [HSS.out] at HE
          clear hown6 hgr6
          go_wp2_with fail
          exact ⟨⟨k + 1, 100, by omega, by simp, rfl, Lib.hid ⟨HE.out.1, HE.out.2, HON.out, HST.out⟩⟩, by simp [intOf]; omega⟩
    · have hkn : k = n := by omega
      subst hkn
      have da : decide ((k : Int) < (k : Int)) = false := by simp
      have da2 : decide (k < k) = false := by simp
      have HF := Lib.hid (show cs.take k = cs from List.take_of_length_le (by have h := HL.out.2.1; omega))
      have HALL := Lib.hid (show ∀ r ∈ cs, GoodI r from fun r hr => by
        obtain ⟨q, hq, rfl⟩ := List.getElem_of_mem hr
        exact HI.out.2.2.2 q hq (by have h := HL.out.2.1; omega))
      rcases HI.out.2.2.1 with ⟨hO, hu⟩ | ⟨hO, hu⟩
      · subst hO
        have HU := Lib.hid (show upsC cs from fun i h => hu i h (by have h := HL.out.2.1; omega))
        clear hu
        go_wp2_with fail
        go_ret2
        have h1 := HI.out.1
        rw [HF.out] at h1
        exact ⟨.inr (.inr ⟨_, rfl, h1, HALL.out, HU.out⟩), HI.out.2.1⟩
      · subst hO
        have HU := Lib.hid hu
        clear hu
        go_wp2_with fail
        go_ret2
        exact ⟨.inr (.inl ⟨rfl, HALL.out, HU.out⟩), HI.out.2.1⟩
end Go.Proofs.YtdlifcpdlbmijaaGreatDoor
namespace Go.Proofs.YtdlifcpdlbmijaaGreatDoor.B2
open Go.RowKit
set_option maxRecDepth 100000
theorem own40 (w : World) : Calls Tryz.prog 42 #[.slice none 0 0] w fun e w' => e = .returned (.bool true) ∧ w = w' := by
  go_enter Tryz.func42, Tryz.ntmps42
  go_wp2
  go_loop [3] (fun i => i = .int .i64 0) (fun _ => 0)
  case atStart => rfl
  case round =>
    obtain rfl := hrel
    go_wp2
    go_loop [6] (fun i => i = .int .i64 0) (fun _ => 0)
    case atStart => rfl
    case round =>
      obtain rfl := hrel
      go_wp2
      go_loop [9] (fun i => i = .int .i64 0) (fun _ => 0)
      case atStart => rfl
      case round =>
        obtain rfl := hrel
        go_wp2
        go_ret
        exact ⟨rfl, rfl⟩
theorem own41 (w : World) : Calls Tryz.prog 43 #[.slice none 0 0] w fun e w' => e = .returned (.bool true) ∧ w = w' := by
  go_enter Tryz.func43, Tryz.ntmps43
  go_wp2
  go_loop [3] (fun i => i = .int .i64 0) (fun _ => 0)
  case atStart => rfl
  case round =>
    obtain rfl := hrel
    go_wp2
    go_loop [6] (fun i => i = .int .i64 0) (fun _ => 0)
    case atStart => rfl
    case round =>
      obtain rfl := hrel
      go_wp2
      go_loop [9] (fun i => i = .int .i64 0) (fun _ => 0)
      case atStart => rfl
      case round =>
        obtain rfl := hrel
        go_wp2
        go_ret
        exact ⟨rfl, rfl⟩
theorem own42 (w : World) : Calls Tryz.prog 44 #[.slice none 0 0] w fun e w' => e = .returned (.bool true) ∧ w = w' := by
  go_enter Tryz.func44, Tryz.ntmps44
  go_wp2
  go_loop [3] (fun i => i = .int .i64 0) (fun _ => 0)
  case atStart => rfl
  case round =>
    obtain rfl := hrel
    go_wp2
    go_loop [6] (fun i => i = .int .i64 0) (fun _ => 0)
    case atStart => rfl
    case round =>
      obtain rfl := hrel
      go_wp2
      go_loop [9] (fun i => i = .int .i64 0) (fun _ => 0)
      case atStart => rfl
      case round =>
        obtain rfl := hrel
        go_wp2
        go_ret
        exact ⟨rfl, rfl⟩
theorem own43 (w : World) : Calls Tryz.prog 45 #[.slice none 0 0] w fun e w' => e = .returned (.bool true) ∧ w = w' := by
  go_enter Tryz.func45, Tryz.ntmps45
  go_wp2
  go_loop [3] (fun i => i = .int .i64 0) (fun _ => 0)
  case atStart => rfl
  case round =>
    obtain rfl := hrel
    go_wp2
    go_loop [6] (fun i => i = .int .i64 0) (fun _ => 0)
    case atStart => rfl
    case round =>
      obtain rfl := hrel
      go_wp2
      go_loop [9] (fun i => i = .int .i64 0) (fun _ => 0)
      case atStart => rfl
      case round =>
        obtain rfl := hrel
        go_wp2
        go_ret
        exact ⟨rfl, rfl⟩
theorem own44 (w : World) : Calls Tryz.prog 46 #[.slice none 0 0] w fun e w' => e = .returned (.bool true) ∧ w = w' := by
  go_enter Tryz.func46, Tryz.ntmps46
  go_wp2
  go_loop [3] (fun i => i = .int .i64 0) (fun _ => 0)
  case atStart => rfl
  case round =>
    obtain rfl := hrel
    go_wp2
    go_loop [6] (fun i => i = .int .i64 0) (fun _ => 0)
    case atStart => rfl
    case round =>
      obtain rfl := hrel
      go_wp2
      go_loop [9] (fun i => i = .int .i64 0) (fun _ => 0)
      case atStart => rfl
      case round =>
        obtain rfl := hrel
        go_wp2
        go_ret
        exact ⟨rfl, rfl⟩
theorem own45 (w : World) : Calls Tryz.prog 47 #[.slice none 0 0] w fun e w' => e = .returned (.bool true) ∧ w = w' := by
  go_enter Tryz.func47, Tryz.ntmps47
  go_wp2
  go_loop [3] (fun i => i = .int .i64 0) (fun _ => 0)
  case atStart => rfl
  case round =>
    obtain rfl := hrel
    go_wp2
    go_loop [6] (fun i => i = .int .i64 0) (fun _ => 0)
    case atStart => rfl
    case round =>
      obtain rfl := hrel
      go_wp2
      go_loop [9] (fun i => i = .int .i64 0) (fun _ => 0)
      case atStart => rfl
      case round =>
        obtain rfl := hrel
        go_wp2
        go_ret
        exact ⟨rfl, rfl⟩
theorem own46 (w : World) : Calls Tryz.prog 48 #[.slice none 0 0] w fun e w' => e = .returned (.bool true) ∧ w = w' := by
  go_enter Tryz.func48, Tryz.ntmps48
  go_wp2
  go_loop [3] (fun i => i = .int .i64 0) (fun _ => 0)
  case atStart => rfl
  case round =>
    obtain rfl := hrel
    go_wp2
    go_loop [6] (fun i => i = .int .i64 0) (fun _ => 0)
    case atStart => rfl
    case round =>
      obtain rfl := hrel
      go_wp2
      go_loop [9] (fun i => i = .int .i64 0) (fun _ => 0)
      case atStart => rfl
      case round =>
        obtain rfl := hrel
        go_wp2
        go_ret
        exact ⟨rfl, rfl⟩
theorem own47 (w : World) : Calls Tryz.prog 49 #[.slice none 0 0] w fun e w' => e = .returned (.bool true) ∧ w = w' := by
  go_enter Tryz.func49, Tryz.ntmps49
  go_wp2
  go_loop [3] (fun i => i = .int .i64 0) (fun _ => 0)
  case atStart => rfl
  case round =>
    obtain rfl := hrel
    go_wp2
    go_loop [6] (fun i => i = .int .i64 0) (fun _ => 0)
    case atStart => rfl
    case round =>
      obtain rfl := hrel
      go_wp2
      go_loop [9] (fun i => i = .int .i64 0) (fun _ => 0)
      case atStart => rfl
      case round =>
        obtain rfl := hrel
        go_wp2
        go_ret
        exact ⟨rfl, rfl⟩
theorem own48 (w : World) : Calls Tryz.prog 50 #[.slice none 0 0] w fun e w' => e = .returned (.bool true) ∧ w = w' := by
  go_enter Tryz.func50, Tryz.ntmps50
  go_wp2
  go_loop [3] (fun i => i = .int .i64 0) (fun _ => 0)
  case atStart => rfl
  case round =>
    obtain rfl := hrel
    go_wp2
    go_loop [6] (fun i => i = .int .i64 0) (fun _ => 0)
    case atStart => rfl
    case round =>
      obtain rfl := hrel
      go_wp2
      go_loop [9] (fun i => i = .int .i64 0) (fun _ => 0)
      case atStart => rfl
      case round =>
        obtain rfl := hrel
        go_wp2
        go_ret
        exact ⟨rfl, rfl⟩
theorem own49 (w : World) : Calls Tryz.prog 51 #[.slice none 0 0] w fun e w' => e = .returned (.bool true) ∧ w = w' := by
  go_enter Tryz.func51, Tryz.ntmps51
  go_wp2
  go_loop [3] (fun i => i = .int .i64 0) (fun _ => 0)
  case atStart => rfl
  case round =>
    obtain rfl := hrel
    go_wp2
    go_loop [6] (fun i => i = .int .i64 0) (fun _ => 0)
    case atStart => rfl
    case round =>
      obtain rfl := hrel
      go_wp2
      go_loop [9] (fun i => i = .int .i64 0) (fun _ => 0)
      case atStart => rfl
      case round =>
        obtain rfl := hrel
        go_wp2
        go_ret
        exact ⟨rfl, rfl⟩
theorem own50 (w : World) : Calls Tryz.prog 52 #[.slice none 0 0] w fun e w' => e = .returned (.bool true) ∧ w = w' := by
  go_enter Tryz.func52, Tryz.ntmps52
  go_wp2
  go_loop [3] (fun i => i = .int .i64 0) (fun _ => 0)
  case atStart => rfl
  case round =>
    obtain rfl := hrel
    go_wp2
    go_loop [6] (fun i => i = .int .i64 0) (fun _ => 0)
    case atStart => rfl
    case round =>
      obtain rfl := hrel
      go_wp2
      go_loop [9] (fun i => i = .int .i64 0) (fun _ => 0)
      case atStart => rfl
      case round =>
        obtain rfl := hrel
        go_wp2
        go_ret
        exact ⟨rfl, rfl⟩
theorem own51 (w : World) : Calls Tryz.prog 53 #[.slice none 0 0] w fun e w' => e = .returned (.bool true) ∧ w = w' := by
  go_enter Tryz.func53, Tryz.ntmps53
  go_wp2
  go_loop [3] (fun i => i = .int .i64 0) (fun _ => 0)
  case atStart => rfl
  case round =>
    obtain rfl := hrel
    go_wp2
    go_loop [6] (fun i => i = .int .i64 0) (fun _ => 0)
    case atStart => rfl
    case round =>
      obtain rfl := hrel
      go_wp2
      go_loop [9] (fun i => i = .int .i64 0) (fun _ => 0)
      case atStart => rfl
      case round =>
        obtain rfl := hrel
        go_wp2
        go_ret
        exact ⟨rfl, rfl⟩
theorem own52 (w : World) : Calls Tryz.prog 54 #[.slice none 0 0] w fun e w' => e = .returned (.bool true) ∧ w = w' := by
  go_enter Tryz.func54, Tryz.ntmps54
  go_wp2
  go_loop [3] (fun i => i = .int .i64 0) (fun _ => 0)
  case atStart => rfl
  case round =>
    obtain rfl := hrel
    go_wp2
    go_loop [6] (fun i => i = .int .i64 0) (fun _ => 0)
    case atStart => rfl
    case round =>
      obtain rfl := hrel
      go_wp2
      go_loop [9] (fun i => i = .int .i64 0) (fun _ => 0)
      case atStart => rfl
      case round =>
        obtain rfl := hrel
        go_wp2
        go_ret
        exact ⟨rfl, rfl⟩
theorem own53 (w : World) : Calls Tryz.prog 55 #[.slice none 0 0] w fun e w' => e = .returned (.bool true) ∧ w = w' := by
  go_enter Tryz.func55, Tryz.ntmps55
  go_wp2
  go_loop [3] (fun i => i = .int .i64 0) (fun _ => 0)
  case atStart => rfl
  case round =>
    obtain rfl := hrel
    go_wp2
    go_loop [6] (fun i => i = .int .i64 0) (fun _ => 0)
    case atStart => rfl
    case round =>
      obtain rfl := hrel
      go_wp2
      go_loop [9] (fun i => i = .int .i64 0) (fun _ => 0)
      case atStart => rfl
      case round =>
        obtain rfl := hrel
        go_wp2
        go_ret
        exact ⟨rfl, rfl⟩
theorem own54 (w : World) : Calls Tryz.prog 56 #[.slice none 0 0] w fun e w' => e = .returned (.bool true) ∧ w = w' := by
  go_enter Tryz.func56, Tryz.ntmps56
  go_wp2
  go_loop [3] (fun i => i = .int .i64 0) (fun _ => 0)
  case atStart => rfl
  case round =>
    obtain rfl := hrel
    go_wp2
    go_loop [6] (fun i => i = .int .i64 0) (fun _ => 0)
    case atStart => rfl
    case round =>
      obtain rfl := hrel
      go_wp2
      go_loop [9] (fun i => i = .int .i64 0) (fun _ => 0)
      case atStart => rfl
      case round =>
        obtain rfl := hrel
        go_wp2
        go_ret
        exact ⟨rfl, rfl⟩
end Go.Proofs.YtdlifcpdlbmijaaGreatDoor.B2
namespace Go.Proofs.YtdlifcpdlbmijaaGreatDoor.B2
open Go.RowKit
set_option maxRecDepth 100000
theorem own55 (w : World) : Calls Tryz.prog 57 #[.slice none 0 0] w fun e w' => e = .returned (.bool true) ∧ w = w' := by
  go_enter Tryz.func57, Tryz.ntmps57
  go_wp2
  go_loop [3] (fun i => i = .int .i64 0) (fun _ => 0)
  case atStart => rfl
  case round =>
    obtain rfl := hrel
    go_wp2
    go_loop [6] (fun i => i = .int .i64 0) (fun _ => 0)
    case atStart => rfl
    case round =>
      obtain rfl := hrel
      go_wp2
      go_loop [9] (fun i => i = .int .i64 0) (fun _ => 0)
      case atStart => rfl
      case round =>
        obtain rfl := hrel
        go_wp2
        go_ret
        exact ⟨rfl, rfl⟩
theorem own56 (w : World) : Calls Tryz.prog 58 #[.slice none 0 0] w fun e w' => e = .returned (.bool true) ∧ w = w' := by
  go_enter Tryz.func58, Tryz.ntmps58
  go_wp2
  go_loop [3] (fun i => i = .int .i64 0) (fun _ => 0)
  case atStart => rfl
  case round =>
    obtain rfl := hrel
    go_wp2
    go_loop [6] (fun i => i = .int .i64 0) (fun _ => 0)
    case atStart => rfl
    case round =>
      obtain rfl := hrel
      go_wp2
      go_loop [9] (fun i => i = .int .i64 0) (fun _ => 0)
      case atStart => rfl
      case round =>
        obtain rfl := hrel
        go_wp2
        go_ret
        exact ⟨rfl, rfl⟩
theorem own57 (w : World) : Calls Tryz.prog 59 #[.slice none 0 0] w fun e w' => e = .returned (.bool true) ∧ w = w' := by
  go_enter Tryz.func59, Tryz.ntmps59
  go_wp2
  go_loop [3] (fun i => i = .int .i64 0) (fun _ => 0)
  case atStart => rfl
  case round =>
    obtain rfl := hrel
    go_wp2
    go_loop [6] (fun i => i = .int .i64 0) (fun _ => 0)
    case atStart => rfl
    case round =>
      obtain rfl := hrel
      go_wp2
      go_loop [9] (fun i => i = .int .i64 0) (fun _ => 0)
      case atStart => rfl
      case round =>
        obtain rfl := hrel
        go_wp2
        go_ret
        exact ⟨rfl, rfl⟩
theorem own58 (w : World) : Calls Tryz.prog 60 #[.slice none 0 0] w fun e w' => e = .returned (.bool true) ∧ w = w' := by
  go_enter Tryz.func60, Tryz.ntmps60
  go_wp2
  go_loop [3] (fun i => i = .int .i64 0) (fun _ => 0)
  case atStart => rfl
  case round =>
    obtain rfl := hrel
    go_wp2
    go_loop [6] (fun i => i = .int .i64 0) (fun _ => 0)
    case atStart => rfl
    case round =>
      obtain rfl := hrel
      go_wp2
      go_loop [9] (fun i => i = .int .i64 0) (fun _ => 0)
      case atStart => rfl
      case round =>
        obtain rfl := hrel
        go_wp2
        go_ret
        exact ⟨rfl, rfl⟩
theorem own59 (w : World) : Calls Tryz.prog 61 #[.slice none 0 0] w fun e w' => e = .returned (.bool true) ∧ w = w' := by
  go_enter Tryz.func61, Tryz.ntmps61
  go_wp2
  go_loop [3] (fun i => i = .int .i64 0) (fun _ => 0)
  case atStart => rfl
  case round =>
    obtain rfl := hrel
    go_wp2
    go_loop [6] (fun i => i = .int .i64 0) (fun _ => 0)
    case atStart => rfl
    case round =>
      obtain rfl := hrel
      go_wp2
      go_loop [9] (fun i => i = .int .i64 0) (fun _ => 0)
      case atStart => rfl
      case round =>
        obtain rfl := hrel
        go_wp2
        go_ret
        exact ⟨rfl, rfl⟩
theorem own60 (w : World) : Calls Tryz.prog 62 #[.slice none 0 0] w fun e w' => e = .returned (.bool true) ∧ w = w' := by
  go_enter Tryz.func62, Tryz.ntmps62
  go_wp2
  go_loop [3] (fun i => i = .int .i64 0) (fun _ => 0)
  case atStart => rfl
  case round =>
    obtain rfl := hrel
    go_wp2
    go_loop [6] (fun i => i = .int .i64 0) (fun _ => 0)
    case atStart => rfl
    case round =>
      obtain rfl := hrel
      go_wp2
      go_loop [9] (fun i => i = .int .i64 0) (fun _ => 0)
      case atStart => rfl
      case round =>
        obtain rfl := hrel
        go_wp2
        go_ret
        exact ⟨rfl, rfl⟩
theorem own61 (w : World) : Calls Tryz.prog 63 #[.slice none 0 0] w fun e w' => e = .returned (.bool true) ∧ w = w' := by
  go_enter Tryz.func63, Tryz.ntmps63
  go_wp2
  go_loop [3] (fun i => i = .int .i64 0) (fun _ => 0)
  case atStart => rfl
  case round =>
    obtain rfl := hrel
    go_wp2
    go_loop [6] (fun i => i = .int .i64 0) (fun _ => 0)
    case atStart => rfl
    case round =>
      obtain rfl := hrel
      go_wp2
      go_loop [9] (fun i => i = .int .i64 0) (fun _ => 0)
      case atStart => rfl
      case round =>
        obtain rfl := hrel
        go_wp2
        go_ret
        exact ⟨rfl, rfl⟩
theorem own62 (w : World) : Calls Tryz.prog 64 #[.slice none 0 0] w fun e w' => e = .returned (.bool true) ∧ w = w' := by
  go_enter Tryz.func64, Tryz.ntmps64
  go_wp2
  go_loop [3] (fun i => i = .int .i64 0) (fun _ => 0)
  case atStart => rfl
  case round =>
    obtain rfl := hrel
    go_wp2
    go_loop [6] (fun i => i = .int .i64 0) (fun _ => 0)
    case atStart => rfl
    case round =>
      obtain rfl := hrel
      go_wp2
      go_loop [9] (fun i => i = .int .i64 0) (fun _ => 0)
      case atStart => rfl
      case round =>
        obtain rfl := hrel
        go_wp2
        go_ret
        exact ⟨rfl, rfl⟩
theorem own63 (w : World) : Calls Tryz.prog 65 #[.slice none 0 0] w fun e w' => e = .returned (.bool true) ∧ w = w' := by
  go_enter Tryz.func65, Tryz.ntmps65
  go_wp2
  go_loop [3] (fun i => i = .int .i64 0) (fun _ => 0)
  case atStart => rfl
  case round =>
    obtain rfl := hrel
    go_wp2
    go_loop [6] (fun i => i = .int .i64 0) (fun _ => 0)
    case atStart => rfl
    case round =>
      obtain rfl := hrel
      go_wp2
      go_loop [9] (fun i => i = .int .i64 0) (fun _ => 0)
      case atStart => rfl
      case round =>
        obtain rfl := hrel
        go_wp2
        go_ret
        exact ⟨rfl, rfl⟩
theorem own64 (w : World) : Calls Tryz.prog 66 #[.slice none 0 0] w fun e w' => e = .returned (.bool true) ∧ w = w' := by
  go_enter Tryz.func66, Tryz.ntmps66
  go_wp2
  go_loop [3] (fun i => i = .int .i64 0) (fun _ => 0)
  case atStart => rfl
  case round =>
    obtain rfl := hrel
    go_wp2
    go_loop [6] (fun i => i = .int .i64 0) (fun _ => 0)
    case atStart => rfl
    case round =>
      obtain rfl := hrel
      go_wp2
      go_loop [9] (fun i => i = .int .i64 0) (fun _ => 0)
      case atStart => rfl
      case round =>
        obtain rfl := hrel
        go_wp2
        go_ret
        exact ⟨rfl, rfl⟩
theorem own65 (w : World) : Calls Tryz.prog 67 #[.slice none 0 0] w fun e w' => e = .returned (.bool true) ∧ w = w' := by
  go_enter Tryz.func67, Tryz.ntmps67
  go_wp2
  go_loop [3] (fun i => i = .int .i64 0) (fun _ => 0)
  case atStart => rfl
  case round =>
    obtain rfl := hrel
    go_wp2
    go_loop [6] (fun i => i = .int .i64 0) (fun _ => 0)
    case atStart => rfl
    case round =>
      obtain rfl := hrel
      go_wp2
      go_loop [9] (fun i => i = .int .i64 0) (fun _ => 0)
      case atStart => rfl
      case round =>
        obtain rfl := hrel
        go_wp2
        go_ret
        exact ⟨rfl, rfl⟩
theorem own66 (w : World) : Calls Tryz.prog 68 #[.slice none 0 0] w fun e w' => e = .returned (.bool true) ∧ w = w' := by
  go_enter Tryz.func68, Tryz.ntmps68
  go_wp2
  go_loop [3] (fun i => i = .int .i64 0) (fun _ => 0)
  case atStart => rfl
  case round =>
    obtain rfl := hrel
    go_wp2
    go_loop [6] (fun i => i = .int .i64 0) (fun _ => 0)
    case atStart => rfl
    case round =>
      obtain rfl := hrel
      go_wp2
      go_loop [9] (fun i => i = .int .i64 0) (fun _ => 0)
      case atStart => rfl
      case round =>
        obtain rfl := hrel
        go_wp2
        go_ret
        exact ⟨rfl, rfl⟩
theorem own67 (w : World) : Calls Tryz.prog 69 #[.slice none 0 0] w fun e w' => e = .returned (.bool true) ∧ w = w' := by
  go_enter Tryz.func69, Tryz.ntmps69
  go_wp2
  go_loop [3] (fun i => i = .int .i64 0) (fun _ => 0)
  case atStart => rfl
  case round =>
    obtain rfl := hrel
    go_wp2
    go_loop [6] (fun i => i = .int .i64 0) (fun _ => 0)
    case atStart => rfl
    case round =>
      obtain rfl := hrel
      go_wp2
      go_loop [9] (fun i => i = .int .i64 0) (fun _ => 0)
      case atStart => rfl
      case round =>
        obtain rfl := hrel
        go_wp2
        go_ret
        exact ⟨rfl, rfl⟩
theorem own69 (w : World) : Calls Tryz.prog 71 #[.slice none 0 0] w fun e w' => e = .returned (.bool true) ∧ w = w' := by
  go_enter Tryz.func71, Tryz.ntmps71
  go_wp2
  go_loop [3] (fun i => i = .int .i64 0) (fun _ => 0)
  case atStart => rfl
  case round =>
    obtain rfl := hrel
    go_wp2
    go_loop [6] (fun i => i = .int .i64 0) (fun _ => 0)
    case atStart => rfl
    case round =>
      obtain rfl := hrel
      go_wp2
      go_loop [9] (fun i => i = .int .i64 0) (fun _ => 0)
      case atStart => rfl
      case round =>
        obtain rfl := hrel
        go_wp2
        go_ret
        exact ⟨rfl, rfl⟩
theorem own70 (w : World) : Calls Tryz.prog 72 #[.slice none 0 0] w fun e w' => e = .returned (.bool true) ∧ w = w' := by
  go_enter Tryz.func72, Tryz.ntmps72
  go_wp2
  go_loop [3] (fun i => i = .int .i64 0) (fun _ => 0)
  case atStart => rfl
  case round =>
    obtain rfl := hrel
    go_wp2
    go_loop [6] (fun i => i = .int .i64 0) (fun _ => 0)
    case atStart => rfl
    case round =>
      obtain rfl := hrel
      go_wp2
      go_loop [9] (fun i => i = .int .i64 0) (fun _ => 0)
      case atStart => rfl
      case round =>
        obtain rfl := hrel
        go_wp2
        go_ret
        exact ⟨rfl, rfl⟩
end Go.Proofs.YtdlifcpdlbmijaaGreatDoor.B2
namespace Go.Proofs.YtdlifcpdlbmijaaGreatDoor
set_option linter.unusedVariables false
set_option linter.unusedSimpArgs false
open Go.RowKit Go.PlainAid
open B2 (Only)
theorem Bk.Places.mono {N M M' h : Nat} {X : Nat → Value} (P : Bk.Places N M h X) (hm : M ≤ M') : Bk.Places N M' h X := ⟨fun j g hg => ⟨Nat.lt_of_lt_of_le (P.lt j g hg).1 hm, (P.lt j g hg).2⟩, P.ne, Nat.lt_of_lt_of_le P.h hm, P.apart, Nat.le_trans P.nm hm⟩
theorem Bk8.Places.mono {N M M' h : Nat} {X : Nat → Value} (P : Bk8.Places N M h X) (hm : M ≤ M') : Bk8.Places N M' h X := ⟨fun j g hg => ⟨Nat.lt_of_lt_of_le (P.lt j g hg).1 hm, (P.lt j g hg).2⟩, P.ne, Nat.lt_of_lt_of_le P.h hm, P.apart, Nat.le_trans P.nm hm⟩
/-- rows of bytes, of samples, of chunks: what each look wants -/
structure ThreeB (w : World) (a : Option Addr) (h n : Nat) (X : Nat → Value) (L : Nat → Nat) (S : List Nat) : Prop where
  P : B2.Places 0 w.heap.size h X
  O : B2.Outer w a h n X
  R : ∃ C, B2.Lots w 0 X C ∧ ∀ j, (C j).length = L j
  n1 : n ≤ 1000
  L1 : ∀ j, L j ≤ 1000000
  z : ∀ j, n ≤ j → L j = 0
  S1 : ∀ j g, (X j).ownBlock = some g → g ∈ S
structure ThreeS (w : World) (a : Option Addr) (h n : Nat) (X : Nat → Value) (L : Nat → Nat) (S : List Nat) : Prop where
  P : Bk.Places 0 w.heap.size h X
  O : Bk.Outer w a h n X
  R : ∃ C, Bk.Lots 79 2 w 0 X L C
  n1 : n ≤ 1000
  L1 : ∀ j, L j ≤ 100000000
  z : ∀ j, n ≤ j → L j = 0
  S1 : ∀ j g, (X j).ownBlock = some g → g ∈ S
structure ThreeC (w : World) (a : Option Addr) (h n : Nat) (X : Nat → Value) (L : Nat → Nat) (S : List Nat) : Prop where
  P : Bk8.Places 0 w.heap.size h X
  O : Bk8.Outer w a h n X
  R : ∃ C, Bk8.Lots 26 4 w 0 X L C
  n1 : n ≤ 1000
  L1 : ∀ j, L j ≤ 100000000
  z : ∀ j, n ≤ j → L j = 0
  S1 : ∀ j g, (X j).ownBlock = some g → g ∈ S
theorem ThreeS.only {w w' : World} {a : Option Addr} {h n : Nat} {X : Nat → Value} {L : Nat → Nat} {S T : List Nat} (H : ThreeS w a h n X L S) (ho : Only T w w') (h1 : h ∉ T) (h2 : ∀ x ∈ T, x ∉ S) : ThreeS w' a h n X L S :=
  ⟨H.P.mono ho.size, H.O.only ho h1, by obtain ⟨C, hC⟩ := H.R; exact ⟨C, hC.only ho (fun i g hg hm => h2 g hm (H.S1 i g hg))⟩, H.n1, H.L1, H.z, H.S1⟩
theorem ThreeC.only {w w' : World} {a : Option Addr} {h n : Nat} {X : Nat → Value} {L : Nat → Nat} {S T : List Nat} (H : ThreeC w a h n X L S) (ho : Only T w w') (h1 : h ∉ T) (h2 : ∀ x ∈ T, x ∉ S) : ThreeC w' a h n X L S :=
  ⟨H.P.mono ho.size, H.O.only ho h1, by obtain ⟨C, hC⟩ := H.R; exact ⟨C, hC.only ho (fun i g hg hm => h2 g hm (H.S1 i g hg))⟩, H.n1, H.L1, H.z, H.S1⟩
set_option maxRecDepth 100000 in
set_option maxHeartbeats 8000000 in
theorem bgown_any (pb : Nat) (F : Nat → Value) (w : World) (H : BG w pb F) (a0 a1 a2 : Option Addr) (h0 h1 h2 n0 n1 n2 z0 z1 z2 : Nat) (X0 X1 X2 : Nat → Value) (L0 L1 L2 : Nat → Nat) (S0 S1 S2 : List Nat)
    (e0 : F 0 = .slice a0 n0 z0) (e1 : F 10 = .slice a1 n1 z1) (e2 : F 26 = .slice a2 n2 z2) (er : ∀ k, k ≠ 0 → k ≠ 10 → k ≠ 26 → F k = .slice none 0 0)
    (T0 : ThreeB w a0 h0 n0 X0 L0 S0) (T1 : ThreeS w a1 h1 n1 X1 L1 S1) (T2 : ThreeC w a2 h2 n2 X2 L2 S2) (hpb : pb ∉ S0 ∧ pb ∉ S1 ∧ pb ∉ S2) (hh : h1 ∉ S0 ∧ h2 ∉ S0 ∧ h2 ∉ S1) (hd : ∀ x ∈ S0, x ∉ S1 ∧ x ∉ S2) (hd2 : ∀ x ∈ S1, x ∉ S2) :
    Calls Tryz.prog 19 #[.pointer (some ⟨pb, 0, none⟩)] w fun e w' => e = .returned (.bool true) ∧ Only (S0 ++ (S1 ++ S2)) w w' := by
  have BK := Lib.hid H
  have HE := Lib.hid (And.intro e0 (And.intro e1 (And.intro e2 er)))
  have HT0 := Lib.hid T0
  have HT1 := Lib.hid T1
  have HT2 := Lib.hid T2
  have HD := Lib.hid (And.intro hpb (And.intro hh (And.intro hd hd2)))
  clear H e0 e1 e2 er T0 T1 T2 hpb hh hd hd2
  go_enter Tryz.func19, Tryz.ntmps19
  have c0 : w.cell? ⟨pb, 0, none⟩ = some (.slice a0 n0 z0) := (BK.out.cell 0 (by decide)).trans (by rw [HE.out.1])
  go_wp2_with fail
  refine (B2.ownbytesT_any S0 a0 h0 n0 z0 0 X0 L0 _ HT0.out.S1 HT0.out.P HT0.out.O HT0.out.R HT0.out.n1 HT0.out.L1 HT0.out.z).mono ?_
  rintro e w1 ⟨rfl, hb1⟩
  have HO := Lib.hid (hb1.mono (S' := S0 ++ (S1 ++ S2)) (fun x hx => List.mem_append_left _ hx))
  replace BK := Lib.hid (BK.out.only hb1 HD.out.1.1)
  replace HT1 := Lib.hid (HT1.out.only hb1 HD.out.2.1.1 (fun x hx => (HD.out.2.2.1 x hx).1))
  replace HT2 := Lib.hid (HT2.out.only hb1 HD.out.2.1.2.1 (fun x hx => (HD.out.2.2.1 x hx).2))
  clear hb1 c0 HT0
  have c1 : w1.cell? ⟨pb, 1, none⟩ = some (.slice none 0 0) := (BK.out.cell 1 (by decide)).trans (by rw [HE.out.2.2.2 1 (by decide) (by decide) (by decide)])
  go_wp2_with fail
  refine (B2.own40 _).mono ?_
  rintro e wx ⟨rfl, hww⟩
  subst hww
  clear c1
  have c2 : w1.cell? ⟨pb, 2, none⟩ = some (.slice none 0 0) := (BK.out.cell 2 (by decide)).trans (by rw [HE.out.2.2.2 2 (by decide) (by decide) (by decide)])
  go_wp2_with fail
  refine (B2.own41 _).mono ?_
  rintro e wx ⟨rfl, hww⟩
  subst hww
  clear c2
  have c3 : w1.cell? ⟨pb, 3, none⟩ = some (.slice none 0 0) := (BK.out.cell 3 (by decide)).trans (by rw [HE.out.2.2.2 3 (by decide) (by decide) (by decide)])
  go_wp2_with fail
  refine (B2.own42 _).mono ?_
  rintro e wx ⟨rfl, hww⟩
  subst hww
  clear c3
  have c4 : w1.cell? ⟨pb, 4, none⟩ = some (.slice none 0 0) := (BK.out.cell 4 (by decide)).trans (by rw [HE.out.2.2.2 4 (by decide) (by decide) (by decide)])
  go_wp2_with fail
  refine (B2.own43 _).mono ?_
  rintro e wx ⟨rfl, hww⟩
  subst hww
  clear c4
  have c5 : w1.cell? ⟨pb, 5, none⟩ = some (.slice none 0 0) := (BK.out.cell 5 (by decide)).trans (by rw [HE.out.2.2.2 5 (by decide) (by decide) (by decide)])
  go_wp2_with fail
  refine (B2.own44 _).mono ?_
  rintro e wx ⟨rfl, hww⟩
  subst hww
  clear c5
  have c6 : w1.cell? ⟨pb, 6, none⟩ = some (.slice none 0 0) := (BK.out.cell 6 (by decide)).trans (by rw [HE.out.2.2.2 6 (by decide) (by decide) (by decide)])
  go_wp2_with fail
  refine (B2.own45 _).mono ?_
  rintro e wx ⟨rfl, hww⟩
  subst hww
  clear c6
  have c7 : w1.cell? ⟨pb, 7, none⟩ = some (.slice none 0 0) := (BK.out.cell 7 (by decide)).trans (by rw [HE.out.2.2.2 7 (by decide) (by decide) (by decide)])
  go_wp2_with fail
  refine (B2.own46 _).mono ?_
  rintro e wx ⟨rfl, hww⟩
  subst hww
  clear c7
  have c8 : w1.cell? ⟨pb, 8, none⟩ = some (.slice none 0 0) := (BK.out.cell 8 (by decide)).trans (by rw [HE.out.2.2.2 8 (by decide) (by decide) (by decide)])
  go_wp2_with fail
  refine (B2.own47 _).mono ?_
  rintro e wx ⟨rfl, hww⟩
  subst hww
  clear c8
  have c9 : w1.cell? ⟨pb, 9, none⟩ = some (.slice none 0 0) := (BK.out.cell 9 (by decide)).trans (by rw [HE.out.2.2.2 9 (by decide) (by decide) (by decide)])
  go_wp2_with fail
  refine (B2.own48 _).mono ?_
  rintro e wx ⟨rfl, hww⟩
  subst hww
  clear c9
  have c10 : w1.cell? ⟨pb, 10, none⟩ = some (.slice a1 n1 z1) := (BK.out.cell 10 (by decide)).trans (by rw [HE.out.2.1])
  go_wp2_with fail
  refine (osm_any S1 a1 h1 n1 z1 0 X1 L1 _ HT1.out.P HT1.out.O HT1.out.R HT1.out.n1 HT1.out.L1 HT1.out.z HT1.out.S1).mono ?_
  rintro e w2 ⟨rfl, hb1⟩
  replace HO := Lib.hid (HO.out.trans hb1 (fun x hx => .inl (List.mem_append_right _ (List.mem_append_left _ hx))))
  replace BK := Lib.hid (BK.out.only hb1 HD.out.1.2.1)
  replace HT2 := Lib.hid (HT2.out.only hb1 HD.out.2.1.2.2 (fun x hx => HD.out.2.2.2 x hx))
  clear hb1 c10 HT1
  have c11 : w2.cell? ⟨pb, 11, none⟩ = some (.slice none 0 0) := (BK.out.cell 11 (by decide)).trans (by rw [HE.out.2.2.2 11 (by decide) (by decide) (by decide)])
  go_wp2_with fail
  refine (B2.own50 _).mono ?_
  rintro e wx ⟨rfl, hww⟩
  subst hww
  clear c11
  have c12 : w2.cell? ⟨pb, 12, none⟩ = some (.slice none 0 0) := (BK.out.cell 12 (by decide)).trans (by rw [HE.out.2.2.2 12 (by decide) (by decide) (by decide)])
  go_wp2_with fail
  refine (B2.own51 _).mono ?_
  rintro e wx ⟨rfl, hww⟩
  subst hww
  clear c12
  have c13 : w2.cell? ⟨pb, 13, none⟩ = some (.slice none 0 0) := (BK.out.cell 13 (by decide)).trans (by rw [HE.out.2.2.2 13 (by decide) (by decide) (by decide)])
  go_wp2_with fail
  refine (B2.own52 _).mono ?_
  rintro e wx ⟨rfl, hww⟩
  subst hww
  clear c13
  have c14 : w2.cell? ⟨pb, 14, none⟩ = some (.slice none 0 0) := (BK.out.cell 14 (by decide)).trans (by rw [HE.out.2.2.2 14 (by decide) (by decide) (by decide)])
  go_wp2_with fail
  refine (B2.own53 _).mono ?_
  rintro e wx ⟨rfl, hww⟩
  subst hww
  clear c14
  have c15 : w2.cell? ⟨pb, 15, none⟩ = some (.slice none 0 0) := (BK.out.cell 15 (by decide)).trans (by rw [HE.out.2.2.2 15 (by decide) (by decide) (by decide)])
  go_wp2_with fail
  refine (B2.own54 _).mono ?_
  rintro e wx ⟨rfl, hww⟩
  subst hww
  clear c15
  have c16 : w2.cell? ⟨pb, 16, none⟩ = some (.slice none 0 0) := (BK.out.cell 16 (by decide)).trans (by rw [HE.out.2.2.2 16 (by decide) (by decide) (by decide)])
  go_wp2_with fail
  refine (B2.own55 _).mono ?_
  rintro e wx ⟨rfl, hww⟩
  subst hww
  clear c16
  have c17 : w2.cell? ⟨pb, 17, none⟩ = some (.slice none 0 0) := (BK.out.cell 17 (by decide)).trans (by rw [HE.out.2.2.2 17 (by decide) (by decide) (by decide)])
  go_wp2_with fail
  refine (B2.own56 _).mono ?_
  rintro e wx ⟨rfl, hww⟩
  subst hww
  clear c17
  have c18 : w2.cell? ⟨pb, 18, none⟩ = some (.slice none 0 0) := (BK.out.cell 18 (by decide)).trans (by rw [HE.out.2.2.2 18 (by decide) (by decide) (by decide)])
  go_wp2_with fail
  refine (B2.own57 _).mono ?_
  rintro e wx ⟨rfl, hww⟩
  subst hww
  clear c18
  have c19 : w2.cell? ⟨pb, 19, none⟩ = some (.slice none 0 0) := (BK.out.cell 19 (by decide)).trans (by rw [HE.out.2.2.2 19 (by decide) (by decide) (by decide)])
  go_wp2_with fail
  refine (B2.own58 _).mono ?_
  rintro e wx ⟨rfl, hww⟩
  subst hww
  clear c19
  have c20 : w2.cell? ⟨pb, 20, none⟩ = some (.slice none 0 0) := (BK.out.cell 20 (by decide)).trans (by rw [HE.out.2.2.2 20 (by decide) (by decide) (by decide)])
  go_wp2_with fail
  refine (B2.own59 _).mono ?_
  rintro e wx ⟨rfl, hww⟩
  subst hww
  clear c20
  have c21 : w2.cell? ⟨pb, 21, none⟩ = some (.slice none 0 0) := (BK.out.cell 21 (by decide)).trans (by rw [HE.out.2.2.2 21 (by decide) (by decide) (by decide)])
  go_wp2_with fail
  refine (B2.own60 _).mono ?_
  rintro e wx ⟨rfl, hww⟩
  subst hww
  clear c21
  have c22 : w2.cell? ⟨pb, 22, none⟩ = some (.slice none 0 0) := (BK.out.cell 22 (by decide)).trans (by rw [HE.out.2.2.2 22 (by decide) (by decide) (by decide)])
  go_wp2_with fail
  refine (B2.own61 _).mono ?_
  rintro e wx ⟨rfl, hww⟩
  subst hww
  clear c22
  have c23 : w2.cell? ⟨pb, 23, none⟩ = some (.slice none 0 0) := (BK.out.cell 23 (by decide)).trans (by rw [HE.out.2.2.2 23 (by decide) (by decide) (by decide)])
  go_wp2_with fail
  refine (B2.own62 _).mono ?_
  rintro e wx ⟨rfl, hww⟩
  subst hww
  clear c23
  have c24 : w2.cell? ⟨pb, 24, none⟩ = some (.slice none 0 0) := (BK.out.cell 24 (by decide)).trans (by rw [HE.out.2.2.2 24 (by decide) (by decide) (by decide)])
  go_wp2_with fail
  refine (B2.own63 _).mono ?_
  rintro e wx ⟨rfl, hww⟩
  subst hww
  clear c24
  have c25 : w2.cell? ⟨pb, 25, none⟩ = some (.slice none 0 0) := (BK.out.cell 25 (by decide)).trans (by rw [HE.out.2.2.2 25 (by decide) (by decide) (by decide)])
  go_wp2_with fail
  refine (B2.own64 _).mono ?_
  rintro e wx ⟨rfl, hww⟩
  subst hww
  clear c25
  have c26 : w2.cell? ⟨pb, 26, none⟩ = some (.slice a2 n2 z2) := (BK.out.cell 26 (by decide)).trans (by rw [HE.out.2.2.1])
  go_wp2_with fail
  refine (och_any S2 a2 h2 n2 z2 0 X2 L2 _ HT2.out.P HT2.out.O HT2.out.R HT2.out.n1 HT2.out.L1 HT2.out.z HT2.out.S1).mono ?_
  rintro e w3 ⟨rfl, hb1⟩
  replace HO := Lib.hid (HO.out.trans hb1 (fun x hx => .inl (List.mem_append_right _ (List.mem_append_right _ hx))))
  replace BK := Lib.hid (BK.out.only hb1 HD.out.1.2.2)
  clear hb1 c26 HT2
  have c27 : w3.cell? ⟨pb, 27, none⟩ = some (.slice none 0 0) := (BK.out.cell 27 (by decide)).trans (by rw [HE.out.2.2.2 27 (by decide) (by decide) (by decide)])
  go_wp2_with fail
  refine (B2.own66 _).mono ?_
  rintro e wx ⟨rfl, hww⟩
  subst hww
  clear c27
  have c28 : w3.cell? ⟨pb, 28, none⟩ = some (.slice none 0 0) := (BK.out.cell 28 (by decide)).trans (by rw [HE.out.2.2.2 28 (by decide) (by decide) (by decide)])
  go_wp2_with fail
  refine (B2.own67 _).mono ?_
  rintro e wx ⟨rfl, hww⟩
  subst hww
  clear c28
  have c29 : w3.cell? ⟨pb, 29, none⟩ = some (.slice none 0 0) := (BK.out.cell 29 (by decide)).trans (by rw [HE.out.2.2.2 29 (by decide) (by decide) (by decide)])
  go_wp2_with fail
  refine (B2.own68 _).mono ?_
  rintro e w4 ⟨rfl, hb1⟩
  replace HO := Lib.hid (HO.out.trans (Only.of_below hb1 []) (by simp))
  replace BK := Lib.hid (BK.out.below hb1)
  clear hb1 c29
  have c30 : w4.cell? ⟨pb, 30, none⟩ = some (.slice none 0 0) := (BK.out.cell 30 (by decide)).trans (by rw [HE.out.2.2.2 30 (by decide) (by decide) (by decide)])
  go_wp2_with fail
  refine (B2.own69 _).mono ?_
  rintro e wx ⟨rfl, hww⟩
  subst hww
  clear c30
  have c31 : w4.cell? ⟨pb, 31, none⟩ = some (.slice none 0 0) := (BK.out.cell 31 (by decide)).trans (by rw [HE.out.2.2.2 31 (by decide) (by decide) (by decide)])
  go_wp2_with fail
  refine (B2.own70 _).mono ?_
  rintro e wx ⟨rfl, hww⟩
  subst hww
  clear c31
  go_wp2
  go_ret
  exact ⟨rfl, HO.out⟩
end Go.Proofs.YtdlifcpdlbmijaaGreatDoor
namespace Go.Proofs.YtdlifcpdlbmijaaGreatDoor
open Go.RowKit
abbrev laid1 : List (String × DataW Unit) := Rows.gorillaListsRow.laid
def great1 : List String := []
noncomputable def startWorld (os : Os) : World := (World.doorLaid Tryz.prog 26 os).layVars Tryz.prog ((laid1.filter fun x => x.2.handleName?.isNone).filter fun x => great1.contains x.1)
theorem startWorld_os (os : Os) : (startWorld os).os = os := World.layVars_os _ _ _
set_option maxRecDepth 100000
noncomputable def apartBlocks (os : Os) : List Nat := (List.range (World.doorLaid Tryz.prog 26 os).heap.size).filter fun b => !(([] : List Nat).contains b)
theorem start_fits (os : Os) : (World.doorLaid Tryz.prog 26 os).layFits Tryz.prog ((laid1.filter fun x => x.2.handleName?.isNone).filter fun x => great1.contains x.1) (apartBlocks os) = true := by kernel_rfl
theorem start_ifaces (os : Os) : (World.doorLaid Tryz.prog 26 os).layIfaces Tryz.prog ((laid1.filter fun x => x.2.handleName?.isNone).filter fun x => great1.contains x.1) (startWorld os) = true := by kernel_rfl
theorem start_others (os : Os) : LaidIn Tryz.prog (startWorld os) ((laid1.filter fun x => x.2.handleName?.isNone).filter fun x => !great1.contains x.1) (apartBlocks os) :=
  LaidIn.of_run (apartBlocks os) 8 (by kernel_rfl) (by kernel_rfl) (by kernel_rfl) (by kernel_rfl)
theorem start_met (os : Os) : laidMetH Tryz.prog laid1 (startWorld os) :=
  laidMetH_of_parts3 (fuel := 8) (laidMet_layVars (w0 := World.doorLaid Tryz.prog 26 os) great1 (apartBlocks os) rfl (start_fits os) (start_ifaces os) (start_others os)) (by kernel_rfl) (by kernel_rfl)
theorem door_met (os : Os) (args : Array Value) : laidMetH Tryz.prog laid1 ((startWorld os).forCall (fun _ _ => 0) ⟨#[], args, []⟩).memory :=
  laidMetH.of_heap (by simp [World.memory, World.forCall, Input.heap]) (start_met os)
#print axioms door_met
end Go.Proofs.YtdlifcpdlbmijaaGreatDoor
namespace Go.Proofs.YtdlifcpdlbmijaaGreatDoor
open Go.RowKit
set_option maxRecDepth 100000
theorem start_shaped (os : Os) (args : Array Value) : ((startWorld os).forCall (fun _ _ => 0) ⟨#[], args, []⟩).Shaped Tryz.prog := World.shaped_of_ZipB (by kernel_rfl) (by kernel_rfl)
end Go.Proofs.YtdlifcpdlbmijaaGreatDoor
namespace Go.Proofs.YtdlifcpdlbmijaaGreatDoor
set_option linter.unusedVariables false
set_option linter.unusedSimpArgs false
open Go.RowKit Go.ChangeShapes Go.WideShapes Go.ChangeAt Go.WideMaps Go.WideElems
theorem one_laid {W : World} (h : laidMetH Tryz.prog laid1 W) (n : String) (d : DataW Unit) (he : laid1.filter (fun x => x.1 == n) = [(n, d)]) (hp : ([(n, d)].all fun x => x.2.handleName?.isNone) = true) : laidMet Tryz.prog [(n, d)] W := by
  have h1 := h.filter (fun x => x.1 == n)
  rw [he, MakeChecks.laidMetH_plain _ _ _ hp] at h1
  exact h1
set_option maxRecDepth 100000 in
theorem laid_tab {W : World} (h : laidMetH Tryz.prog laid1 W) : TabAt W := by
  obtain ⟨ps, ⟨g', t', cs, fuel, p, q, hg', ht', hv, hd, _, _⟩, _⟩ := one_laid h "math/bits.deBruijn64tab" Rows.laid_math_bits_deBruijn64tab (by kernel_rfl) (by kernel_rfl)
  have hg : Tryz.prog.globalNamed "math/bits.deBruijn64tab" = some 1 := by kernel_rfl
  obtain rfl := Option.some.inj (hg.symm.trans hg')
  obtain rfl := Option.some.inj ((show (Tryz.prog.globals[1]?).map (·.type) = some 262 by kernel_rfl).symm.trans ht')
  have e := Lib.cells_of_tab (t := 262) (e := 5) (n := 64) (k := .u8) (zs := Lib.deBruijn64tab.map fun (x : Nat) => (x : Int)) (by kernel_rfl) (by kernel_rfl) (by kernel_rfl) (by kernel_rfl) (show DataW.trod (fun _ => ()) Tryz.prog W 0 (fun _ => true) false fuel 262 cs.toList = some (Lib.tabData .u8 (Lib.deBruijn64tab.map fun (x : Nat) => (x : Int)), p) from hd)
  intro j hj
  rw [World.var?_cell hg hv j, ← Array.getElem?_toList, e]
  simp [List.getElem?_map, List.getD, List.getElem?_eq_getElem hj]
def rowD (zs : List Int) : DataW Unit := .slice (zs.map fun z => .lit (.int .i64 z)) []
theorem one3 : Tryz.prog.cellsOf 2 = 1 := by kernel_rfl
theorem one173 : Tryz.prog.cellsOf 176 = 1 := by kernel_rfl
theorem add_nought (a : Addr) : a.add 0 = a := by
  obtain ⟨b, o, s⟩ := a
  cases s <;> simp [Addr.add]
theorem addr_spot {w : World} {a : Addr} {v : Value} (h : w.cell? a = some v) : ∃ b o, a = ⟨b, o, none⟩ := by
  obtain ⟨b, o, s⟩ := a
  have : s = none := by simpa using World.cell?_spot h
  exact ⟨b, o, by rw [this]⟩
theorem add_plain (b o j : Nat) : (⟨b, o, none⟩ : Addr).add j = ⟨b, o + j, none⟩ := by unfold Addr.add; split <;> simp_all
/-- a row of five numbers -/
theorem row_of {W : World} {spare : Nat → Bool} {fuel : Nat} {cs : List Value} {zs : List Int} {p : List MemPlace} (hz : zs.length = 5) (h : DataW.trod (fun _ => ()) Tryz.prog W 0 spare false fuel 176 cs = some (rowD zs, p)) :
    ∃ b o c, cs = [.slice (some ⟨b, o, none⟩) 5 c] ∧ ∀ j (hj : j < zs.length), W.cell? ⟨b, o + j, none⟩ = some (.int .i64 zs[j]) := by
  rcases DataW.trod_slice Tryz.underlying176 h with ⟨_, hx⟩ | ⟨a, len, cap, elems, rest, n, _, hcs, hx, _, _, _, hel, hat, _, _⟩
  · simp [rowD] at hx
  · have hx1 := congrArg Prod.fst hx
    simp only [rowD, DataW.slice.injEq] at hx1
    have hlen : len = 5 := by
      have := congrArg List.length hx1.1
      simp at this
      omega
    subst hlen
    have key : ∀ j (hj : j < zs.length), W.cell? (a.add j) = some (.int .i64 zs[j]) := by
      intro j hj
      have h1 := hat j (by omega)
      rw [one3, Nat.mul_one] at h1
      have hje : j < elems.length := by omega
      rw [List.getElem?_eq_getElem hje] at h1
      obtain ⟨cs', hc, ht⟩ := Option.bind_eq_some_iff.1 h1
      obtain ⟨z, rfl, hz2, _⟩ := DataW.trod_int Tryz.underlying2 ht
      obtain ⟨_, _, hcell⟩ := World.cells?_some hc
      have h2 := hcell 0 (by decide)
      rw [add_nought] at h2
      have h3 : (elems.map (·.1))[j]? = some (.lit (.int .i64 z)) := by rw [List.getElem?_map, List.getElem?_eq_getElem hje, hz2]; rfl
      rw [← hx1.1, List.getElem?_map, List.getElem?_eq_getElem hj] at h3
      simp only [Option.map_some, Option.some.injEq, DataW.lit.injEq, Lit.int.injEq, true_and] at h3
      rw [h2, h3]
      rfl
    obtain ⟨b, o, rfl⟩ : ∃ b o, a = ⟨b, o, none⟩ := by
      have h0 := key 0 (by omega)
      rw [add_nought] at h0
      exact addr_spot h0
    exact ⟨b, o, cap, hcs, fun j hj => by have := key j hj; rwa [add_plain] at this⟩
set_option maxRecDepth 100000 in
theorem laid_rows {W : World} (h : laidMetH Tryz.prog laid1 W) : ∃ q p0 p1 p2 c c0 c1 c2 o9 oa oc od, TabB W q p0 p1 p2 c c0 c1 c2 o9 oa oc od := by
  obtain ⟨ps, ⟨g', t', cs, fuel, p, q, hg', ht', hv, hd, _, _⟩, _⟩ := one_laid h "barograph/barographref10.buckets" Rows.laid_barograph_barographref10_buckets (by kernel_rfl) (by kernel_rfl)
  have hg : Tryz.prog.globalNamed "barograph/barographref10.buckets" = some 0 := by kernel_rfl
  obtain rfl := Option.some.inj (hg.symm.trans hg')
  obtain rfl := Option.some.inj ((show (Tryz.prog.globals[0]?).map (·.type) = some 43 by kernel_rfl).symm.trans ht')
  have hd' : DataW.trod (fun _ => ()) Tryz.prog W 0 (fun _ => true) false fuel 43 cs.toList = some (.slice [rowD [2, 2, -63, 64, 7], rowD [6, 3, -255, 256, 9], rowD [14, 4, -2047, 2048, 12]] [], p) := hd
  rcases DataW.trod_slice Tryz.underlying43 hd' with ⟨_, hx⟩ | ⟨a, len, cap, elems, rest, n, _, hcs, hx, _, _, _, hel, hat, _, _⟩
  · simp at hx
  · have hx1 := congrArg Prod.fst hx
    simp only [DataW.slice.injEq] at hx1
    have hlen : len = 3 := by
      have := congrArg List.length hx1.1
      simp at this
      omega
    subst hlen
    have hrow : ∀ j (hj : j < 3) (zs : List Int), ([rowD [2, 2, -63, 64, 7], rowD [6, 3, -255, 256, 9], rowD [14, 4, -2047, 2048, 12]] : List (DataW Unit))[j]? = some (rowD zs) → zs.length = 5 → ∃ b o c, W.cell? (a.add j) = some (.slice (some ⟨b, o, none⟩) 5 c) ∧ ∀ i (hi : i < zs.length), W.cell? ⟨b, o + i, none⟩ = some (.int .i64 zs[i]) := by
      intro j hj zs hz hl
      have h1 := hat j hj
      rw [one173, Nat.mul_one] at h1
      have hje : j < elems.length := by omega
      rw [List.getElem?_eq_getElem hje] at h1
      obtain ⟨cs', hc, ht⟩ := Option.bind_eq_some_iff.1 h1
      have h3 : (elems.map (·.1))[j]? = some (rowD zs) := by rw [← hx1.1]; exact hz
      rw [List.getElem?_map, List.getElem?_eq_getElem hje] at h3
      simp only [Option.map_some, Option.some.injEq] at h3
      obtain ⟨b, o, c, rfl, hcell⟩ := row_of (p := elems[j].2) hl (by rw [ht, ← h3])
      obtain ⟨_, _, hcell2⟩ := World.cells?_some hc
      have h2 := hcell2 0 (by decide)
      rw [add_nought] at h2
      exact ⟨b, o, c, h2, hcell⟩
    obtain ⟨b0, oa, c0, k0, r0⟩ := hrow 0 (by decide) _ rfl rfl
    obtain ⟨b1, oc, c1, k1, r1⟩ := hrow 1 (by decide) _ rfl rfl
    obtain ⟨b2, od, c2, k2, r2⟩ := hrow 2 (by decide) _ rfl rfl
    obtain ⟨qb, o9, rfl⟩ : ∃ b o, a = ⟨b, o, none⟩ := by
      rw [add_nought] at k0
      exact addr_spot k0
    rw [add_plain] at k0 k1 k2
    have hgc : W.cell? ⟨0, 0, none⟩ = some (.slice (some ⟨qb, o9, none⟩) 3 cap) := by
      rw [World.var?_cell hg hv 0, ← Array.getElem?_toList, hcs]
      rfl
    exact ⟨qb, b0, b1, b2, cap, c0, c1, c2, o9, oa, oc, od, hgc, ⟨k0, k1, k2⟩, ⟨r0 0 (by decide), r0 1 (by decide), r0 2 (by decide), r0 3 (by decide), r0 4 (by decide)⟩, ⟨r1 0 (by decide), r1 1 (by decide), r1 2 (by decide), r1 3 (by decide), r1 4 (by decide)⟩, ⟨r2 0 (by decide), r2 1 (by decide), r2 2 (by decide), r2 3 (by decide), r2 4 (by decide)⟩⟩
end Go.Proofs.YtdlifcpdlbmijaaGreatDoor
