/-
  PROVED: records cut one behind the other are found again, all of them, and with one sector turned to noughts just those ahead of it; for every segment, row of records and number, what is read of bulk at most 1048576 (the bound is not used by the walk); the arguments read afterwards as they read before.
-/
import Derived.Test.YtlegdaoidjpokaaK05
import Derived.Test.YtlegdaoidjpokaaK04
import Derived.Test.YtlegdaoidjpokaaRows
import Derived.OwnWalk
import Derived.WalkKit
import Derived.SizedLaws
import Derived.Deep.CondSized
import Derived.Deep.Matrix
import Derived.ProofKit
import Derived.OpenShut
import Derived.ShutString
import Derived.ChangeOld
import Derived.Below
namespace Go.Proofs.Ytlegdaoidjpokaa
set_option linter.unusedVariables false
set_option linter.unusedSimpArgs false
open Go.RowKit
open B2 (Only Row Lots owns_only)
theorem turned_much (seg n cap which : Nat) (a : Option Addr) (x : Int) (c : Nat) (hn : 7680 < n) (w : World) :
    Calls Try.prog 6 #[.int .u32 seg, .slice a n cap, .int .u8 which, .int .i64 x, .int .u32 c] w fun e w' => e = .returned (.bool true) ∧ Below w.heap.size w w' := by
  have d1 : decide ((7680 : Int) < (n : Int)) = true := by simp; omega
  have CK := Lib.hid (known_any w)
  go_enter Try.func6, Try.ntmps6
  go_wp2_with fail
  go_at_call 14
  refine CK.out.mono ?_
  rintro e w1 ⟨rfl, hb⟩
  have HB := Lib.hid hb
  clear hb
  go_wp2_with fail
  go_ret
  exact ⟨rfl, HB.out⟩
/-- the same sectors with one of them another row -/
structure Some1 (w : World) (N g2 ms nd k : Nat) (S : List (List Nat)) (x : Value) : Prop where
  row : ∃ cur : Array Value, w.heap[g2]? = some (.cells cur 23 (0, 0)) ∧ nd ≤ cur.size ∧ ∀ i, i < nd → cur[i]? = some (if i = k then x else .slice (some ⟨ms, i * 256, none⟩) 256 256)
  mem : Mem w ms 5 S.flatten
  len : ∀ s ∈ S, s.length = 256
  byt : ∀ s ∈ S, ∀ c ∈ s, c < 256
  nd : S.length = nd ∧ nd ≤ 1000
theorem Some1.rws {w : World} {N g2 ms nd k g cp : Nat} {S : List (List Nat)} {m : List Nat} (H : Some1 w N g2 ms nd k S (.slice (some ⟨g, 0, none⟩) 256 cp)) (hk : k < nd) (hm : Bys w (some ⟨g, 0, none⟩) m) (hml : m.length = 256) (hc : 256 ≤ cp) : Rws w (some ⟨g2, 0, none⟩) (S.set k m) := by
  obtain ⟨cur, h1, h2, h3⟩ := H.row
  obtain ⟨hn, hn9⟩ := H.nd
  refine ⟨by rw [List.length_set, hn]; unfold maxLen; omega, fun _ => ⟨g2, 0, rfl, (Array.getElem?_eq_some_iff.1 h1).1, fun i hi => ?_⟩⟩
  have hi2 : i < nd := by rw [List.length_set, hn] at hi; exact hi
  have hc1 : w.cell? ⟨g2, 0 + i, none⟩ = some (if i = k then .slice (some ⟨g, 0, none⟩) 256 cp else .slice (some ⟨ms, i * 256, none⟩) 256 256) := by
    rw [Nat.zero_add, cell_of_row _ _ _ _ _ _ h1, h3 i hi2]
  by_cases e : i = k
  · subst e
    have e1 : (S.set i m)[i] = m := by simp
    rw [if_pos rfl] at hc1
    rw [e1, hml]
    exact ⟨_, cp, hc1, hc, hm⟩
  · have e1 : (S.set k m)[i] = S[i]'(by omega) := by rw [List.getElem_set, if_neg (fun h => e h.symm)]
    rw [if_neg e] at hc1
    have hmem : S[i]'(by omega) ∈ S := List.getElem_mem (by omega)
    rw [e1, H.len _ hmem]
    exact ⟨_, 256, hc1, Nat.le_refl _, H.mem.bys (i * 256) _ (fun j hj => flat_get S H.len i j (by omega) hj) (H.byt _ hmem) (by rw [H.len _ hmem]; decide)⟩
/-- the sectors' slices, copied to a row of their own -/
theorem copy_row {wr w5 : World} {nd ms : Nat} {v2 : Value} (hown : w5.ownsRow wr.heap.size 23 1 v2 (0 + nd) ([] ++ secs ms nd nd)) (h0 : 0 < nd) : ∃ g2 c2, v2 = .slice (some ⟨g2, 0, none⟩) nd c2 ∧ wr.heap.size ≤ g2 ∧ nd ≤ c2 ∧ ∃ cur : Array Value, w5.heap[g2]? = some (.cells cur 23 (0, 0)) ∧ nd ≤ cur.size ∧ ∀ i, i < nd → cur[i]? = some (.slice (some ⟨ms, i * 256, none⟩) 256 256) := by
  rw [Nat.zero_add, List.nil_append] at hown
  rcases hown.2 with ⟨_, h1⟩ | ⟨g, c, cur, hv, hN, hh, hc, _, hs, ht⟩
  · omega
  · refine ⟨g, c, hv, hN, hc, cur, hh, by omega, fun i hi => ?_⟩
    have h2 := congrArg (fun l => l[i]?) ht
    simp only [List.getElem?_take] at h2
    rw [if_pos (by omega), secs_get _ _ _ _ hi, if_pos hi] at h2
    rw [← Array.getElem?_toList]
    exact h2
theorem Some1.of_set {w5 : World} {N h g2 ms nd k : Nat} {S : List (List Nat)} {x : Value} (hS : Spt w5 N h ms S) (hl : S.length = nd) (hrow : ∃ cur : Array Value, w5.heap[g2]? = some (.cells cur 23 (0, 0)) ∧ nd ≤ cur.size ∧ ∀ i, i < nd → cur[i]? = some (.slice (some ⟨ms, i * 256, none⟩) 256 256)) (hk : k < nd) (hne : ms ≠ g2) : Some1 (w5.setCell ⟨g2, k, none⟩ x) N g2 ms nd k S x ∧ Only [g2] w5 (w5.setCell ⟨g2, k, none⟩ x) := by
  obtain ⟨cur, h1, h2, h3⟩ := hrow
  have ho : Only [g2] w5 (w5.setCell ⟨g2, k, none⟩ x) := (Only.refl [g2] w5).setCell (p := ⟨g2, k, none⟩) (.inl (by simp)) _
  refine ⟨⟨⟨cur.setIfInBounds k x, heap_setCell_same _ _ _ _ _ _ h1, by rw [Array.size_setIfInBounds]; exact h2, fun i hi => ?_⟩, hS.mem.only ho (by simpa using hne), hS.len, hS.byt, hl, by have := hS.low.2.2; omega⟩, ho⟩
  rw [Array.getElem?_setIfInBounds]
  by_cases e : k = i
  · subst e
    rw [if_pos rfl, if_pos (by omega), if_pos rfl]
  · rw [if_neg e, if_neg (fun h => e h.symm)]
    exact h3 i hi
theorem Spt.src {w : World} {N h m nd : Nat} {S : List (List Nat)} (H : Spt w N h m S) (hl : S.length = nd) : ∀ j u, (secs m nd nd)[j]? = some u → w.cell? ((⟨h, 0, none⟩ : Addr).add j) = some u := by
  intro j u hu
  have hj : j < nd := by
    have := (List.getElem?_eq_some_iff.1 hu).1
    rwa [secs_len] at this
  rw [secs_get _ _ _ _ hj, if_pos hj] at hu
  rw [B2.add_here, H.cell j (by omega)]
  exact hu
theorem secs_one (m n k : Nat) : ∀ u ∈ secs m n k, u.oneCell' = true := by
  intro u hu
  unfold secs at hu
  obtain ⟨i, _, rfl⟩ := List.mem_map.1 hu
  split <;> simp [Value.oneCell']
set_option maxHeartbeats 8000000 in
set_option maxRecDepth 100000 in
theorem turned_law (seg n cap which : Nat) (a : Option Addr) (at' : Int) (c : Nat) (bs : List Nat) (hn : bs.length = n) (hn2 : n ≤ 7680) (hs : seg < 4294967296) (h8 : which < 256) (hcc : c < 4294967296) (hc : n ≤ cap) (hc0 : a = none → cap = 0) (w : World) (H : Bys w a bs) (hold : ∀ x, a = some x → x.block < w.heap.size ∨ bs = []) :
    Calls Try.prog 6 #[.int .u32 seg, .slice a n cap, .int .u8 which, .int .i64 at', .int .u32 c] w fun e w' => e = .returned (.bool true) ∧ Below w.heap.size w w' := by
  obtain ⟨i0, hi, hz0, hz1, hz2⟩ := info_parts info5
  obtain ⟨i1, hi1, hy0, hy1, hy2⟩ := info_parts B2.info27
  have HI := Lib.hid (And.intro hi (And.intro hz0 (And.intro hz1 hz2)))
  have HI1 := Lib.hid (And.intro hi1 (And.intro hy0 (And.intro hy1 hy2)))
  have d1 : decide ((7680 : Int) < (n : Int)) = false := by simp; omega
  have d9 : ¬ 7680 < n := by omega
  have CK := Lib.hid (known_any w)
  have hnd : Fr.need n ≤ 32 := by unfold Fr.need; omega
  have hnp := Fr.need_pos n
  have CS := Lib.hid (fun W hB hO => spl_ok a bs n cap seg 0 hn hc hc0 hn2 hs (by omega) W hB hO)
  have HBY := Lib.hid (And.intro H hold)
  have hSl : (Fr.cutS seg 0 bs).length = Fr.need n := by rw [Fr.cutS_len, hn]
  have hone := Fr.scan_one seg bs (by omega)
  have hbrk := fun k x hk h => Fr.scan_broken seg k bs x (by omega) hk h
  have hget : ∀ k, k < Fr.need n → (Fr.cutS seg 0 bs)[k]? = some (Fr.sec (Fr.kindOf k (Fr.need n)) seg k (Fr.part bs k)) := by
    intro k hk
    unfold Fr.cutS
    rw [hn, List.getElem?_map, List.getElem?_range hk]
    simp
  obtain ⟨nd, hnd2⟩ : ∃ nd, Fr.need n = nd := ⟨_, rfl⟩
  obtain ⟨S, hS⟩ : ∃ S, Fr.cutS seg 0 bs = S := ⟨_, rfl⟩
  rw [hn, hnd2] at hone hbrk
  rw [hnd2] at CS hnd hnp hSl hget
  rw [hS] at CS hone hbrk hSl hget
  have HSL := Lib.hid hSl
  have HSC := Lib.hid (And.intro hone (And.intro hbrk hget))
  obtain ⟨k, hk⟩ : ∃ k : Nat, which % nd = k := ⟨_, rfl⟩
  have hknd : k < nd := by rw [← hk]; exact Nat.mod_lt _ hnp
  have hkm : (which : Int) % (nd : Int) = (k : Int) := by rw [← hk]; exact (Int.natCast_emod which nd).symm
  have hkt : (which : Int).tmod (nd : Int) = (k : Int) := by rw [Int.tmod_eq_emod_of_nonneg (by omega)]; exact hkm
  have hne0 : ((nd : Int) == 0) = false := by simp; omega
  have hnd0 : ¬ nd = 0 := by omega
  obtain ⟨f, hf, hcs⟩ := from_cases at' 256 (by decide)
  rw [show (8 : Int) * ((256 : Nat) : Int) = 2048 by rfl] at hcs
  have hd3 : decide ((f : Int) < 0) = false := by simp
  clear hn hc hc0 H hold hnd2 hS hone hbrk hget hSl hk hi hz0 hz1 hz2 hi1 hy0 hy1 hy2
  rcases hcs with ⟨hp, hr⟩ | ⟨hp, hr⟩ | ⟨t, hp, ht, hr, hs2⟩
  case inl =>
    go_enter Try.func6, Try.ntmps6
    go_wp2_with fail
    go_at_call 14
    refine CK.out.mono ?_
    rintro e w1 ⟨rfl, hb1⟩
    have HB1 := Lib.hid hb1
    clear hb1 CK
    go_wp2_with fail
    go_at_call 9
    refine (CS.out w1 (HBY.out.1.below HB1.out) (fun x hx => (HBY.out.2 x hx).imp (fun h => Nat.lt_of_lt_of_le h HB1.out.size) id)).mono ?_
    rintro e w2 ⟨h, ms, rfl, hSp, hb2⟩
    have HS2 := Lib.hid (And.intro hSp (HB1.out.trans (hb2.mono HB1.out.size)))
    have hck := hSp.cell k (by rw [HSL.out]; exact hknd)
    have hbk := hSp.bys k (by rw [HSL.out]; exact hknd)
    have hlk := hSp.len _ (List.getElem_mem (show k < S.length by rw [HSL.out]; exact hknd))
    have hkl : k < S.length := by rw [HSL.out]; exact hknd
    have hQ : S[k]? = some S[k] := List.getElem?_eq_getElem hkl
    have h8k := hSp.byt _ (List.getElem_mem hkl)
    generalize S[k] = Q at hbk hlk hQ h8k
    have HSRC := Lib.hid (cellsOf_at hbk)
    have HLK := Lib.hid (show (cellsOf Q).length = 256 * 1 by rw [cellsOf_length, hlk])
    have HQ := Lib.hid (And.intro hQ (And.intro hlk h8k))
    clear hSp hb2 HB1 CS hlk hbk hkl hQ h8k
    go_wp2_with (at_builtin; refine wpList_append_own _ rfl (.tmp 54) (.tmp 58) 23 rfl w2.heap.size 5 i0 (.int .u8 0) 1 1 Try.underlying23 HI.out.1 HI.out.2.1 HI.out.2.2.1 HI.out.2.2.2 rfl (by decide) _ 0 [] rfl (World.ownsRow_nil _ _ _ _) ⟨ms, k * 256, none⟩ 256 256 (cellsOf Q) rfl HLK.out HSRC.out (cellsOf_one _) (by decide) (by decide) (Nat.le_refl _) ?_; intro v' w3 hown3 hgr3 _; have HB3 := Lib.hid ((Below.refl w2.heap.size w2).grown hgr3 (Nat.le_refl _) (fun k hk => by cases hk)); have HX3 := Lib.hid (owns_xat (show 0 + 256 = Q.length by rw [HQ.out.2.1]) hown3 (by intro h; have := HQ.out.2.1; rw [h] at this; simp at this)); clear hown3 hgr3)
    obtain ⟨g, cp, rfl, hg, hcp, hX⟩ := HX3.out
    have HX := Lib.hid (turned_start HQ.out.2.2 hX HB3.out : Turned w2 g Q c f 0 w3 false)
    have HGL := Lib.hid (And.intro hg hcp)
    have hcp2 : 256 ≤ cp := by omega
    clear hX HX3 hck hcp
    go_loopw [16, 17] (fun tb i wr => ∃ (k : Nat) (y : Bool), k ≤ 32 ∧ i = .int .i64 k ∧ tb = .bool y ∧ Hid (Turned w2 g Q c f k wr y)) (fun _ i _ => 32 - (intOf i).toNat)
    case atStart => exact ⟨0, false, Nat.zero_le _, rfl, rfl, HX⟩
    case round =>
      obtain ⟨j, y, hj, rfl, rfl, HT⟩ := hrel
      by_cases hlt : j < 32
      · by_cases hbit : c.testBit j = true
        · by_cases hin : f + j < 8 * Q.length
          · obtain ⟨hfz, x, hx8, hcell⟩ := turned_at HT.out ((f + j) / 8) (by omega)
            have hb1 := bit_yes hcc hbit
            have HN := Lib.hid (turned_yes HT.out hg hbit hin hx8 hcell)
            have hbit' := Lib.hid hbit
            rw [HQ.out.2.1] at hin
            clear hbit
            go_wp2
            go_roundw
            case rel => exact ⟨j + 1, true, by omega, by go_num, rfl, HN⟩
            case measure => simp [intOf]; omega
          · have hb1 := bit_yes hcc hbit
            have HN := Lib.hid (turned_no HT.out (fun hh => hin hh.2))
            rw [HQ.out.2.1] at hin
            clear hbit
            go_wp2
            go_roundw
            case rel => exact ⟨j + 1, y, by omega, by go_num, rfl, HN⟩
            case measure => simp [intOf]; omega
        · have hb1 := bit_no hcc hbit
          have HN := Lib.hid (turned_no HT.out (fun hh => hbit hh.1))
          clear hbit
          go_wp2
          go_roundw
          case rel => exact ⟨j + 1, y, by omega, by go_num, rfl, HN⟩
          case measure => simp [intOf]; omega
      · obtain rfl : j = 32 := by omega
        clear hlt hj
        obtain ⟨m, hml, hm8, hmR, hmX, hmB, hmy, hm0⟩ := HT.out
        have hSr := HS2.out.1.below hmB
        have HSr := Lib.hid (And.intro hSr (HS2.out.2.trans (hmB.mono HS2.out.2.size)))
        have HSRC2 := Lib.hid (hSr.src HSL.out)
        have HONE2 := Lib.hid (secs_one ms nd nd)
        have HSLN := Lib.hid (show (secs ms nd nd).length = nd * 1 by rw [secs_len, Nat.mul_one])
        have HMX2 := Lib.hid (show 0 + nd ≤ maxLen ∧ (0 + nd) * 24 ≤ 140737488355328 from ⟨by unfold maxLen; omega, by omega⟩)
        rw [HQ.out.2.1] at hml
        have hmbys := hmX.bytes (by rw [hml]; decide) hm8
        have hglt : g < wr.heap.size := by obtain ⟨cur, hcur, _⟩ := hmX; exact (Array.getElem?_eq_some_iff.1 hcur).1
        have hmslt : ms < wr.heap.size := hSr.mem.lt
        have HM := Lib.hid (And.intro hml (And.intro hm8 (And.intro hmR (And.intro hmy (And.intro hm0 (And.intro hmbys (And.intro hglt hmslt)))))))
        clear hml hm8 hmR hmX hmB hmy hm0 hSr hmbys hglt hmslt HT HS2 HSRC HLK
        go_wp2_with (at_builtin; refine wpList_append_own _ rfl (.tmp 94) (.tmp 95) 25 rfl wr.heap.size 23 i1 (.slice none 0 0) 1 24 Try.underlying25 HI1.out.1 HI1.out.2.1 HI1.out.2.2.1 HI1.out.2.2.2 rfl (by decide) _ 0 [] rfl (World.ownsRow_nil _ _ _ _) ⟨h, 0, none⟩ nd nd (secs ms nd nd) rfl HSLN.out HSRC2.out HONE2.out HMX2.out.1 HMX2.out.2 (Nat.le_refl _) ?_; intro v2 w5 hown5 hgr5 _; have hb5 := (Below.refl wr.heap.size wr).grown hgr5 (Nat.le_refl _) (fun k hk => by cases hk); obtain ⟨g2, c2, rfl, hg2, hc2, hrow5⟩ := copy_row hown5 hnp; have H5 := Lib.hid (And.intro (HSr.out.1.below hb5) (And.intro (HSr.out.2.trans (hb5.mono HSr.out.2.size)) (HM.out.2.2.2.2.2.1.below hb5))); have HW5 := Lib.hid (And.intro hrow5 (And.intro hg2 hb5.size)); obtain ⟨cur, hcur, hcsz, hcget⟩ := hrow5; have hcell5 : w5.cell? ⟨g2, k, none⟩ = some (.slice (some ⟨ms, k * 256, none⟩) 256 256) := (cell_of_row _ _ _ _ _ _ hcur).trans (hcget k hknd); have hfz5 : w5.frozen? ⟨g2, k, none⟩ = false := frozen_of_row _ _ _ _ _ hcur; clear hown5 hgr5 hb5 hg2 hcur hcsz hcget)
        obtain ⟨hsome, ho6⟩ := Some1.of_set (x := .slice (some ⟨g, 0, none⟩) 256 cp) H5.out.1 HSL.out HW5.out.1 hknd (by have := HM.out.2.2.2.2.2.2.2; have := HW5.out.2.1; omega)
        have hbm := H5.out.2.2.only ho6 (fun x hx => by injection hx with hx; subst hx; have := HM.out.2.2.2.2.2.2.1; have := HW5.out.2.1; simp; omega)
        have hrws := hsome.rws hknd hbm HM.out.1 hcp2
        have HB6 := Lib.hid (H5.out.2.1.trans (ho6.below H5.out.2.1.size (by have h1 := HSr.out.2.size; have h2 := HW5.out.2.1; intro x hx; simp at hx; omega)))
        have C9 := Lib.hid (scan_any (some ⟨g2, 0, none⟩) (S.set k m) nd c2 seg (by rw [List.length_set]; exact HSL.out) (by omega) hs _ hrws)
        have hQS : Q = Fr.sec (Fr.kindOf k nd) seg k (Fr.part bs k) := Option.some.inj (HQ.out.1.symm.trans (HSC.out.2.2 k hknd))
        have hsc : (y = true → Fr.scan seg (S.set k m) = ([], 0)) ∧ (y = false → Fr.scan seg (S.set k m) = ([bs], nd)) := by
          refine ⟨fun hy => HSC.out.2.1 k m hknd ?_, fun hy => ?_⟩
          · have hW := HM.out.2.2.2.1.1 hy
            have hR := HM.out.2.2.1
            have hlt := Nat.lt_of_lt_of_le (Crc.Wm_lt c f (8 * Q.length) 32) (show (2 : Nat) ^ 32 ≤ 4294967296 from Nat.le_refl _)
            generalize Crc.Wm c f (8 * Q.length) 32 = W9 at hW hR hlt
            rw [hQS] at hR
            exact Fr.readS_turned (by rcases Fr.kindOf_is k nd with h | h | h | h <;> omega) (fun x hx => HBY.out.1.2.1 x (by unfold Fr.part at hx; exact List.mem_of_mem_drop (List.mem_of_mem_take hx))) (by rw [Fr.part_len]; omega) HM.out.2.1 hR hlt hW k
          · have hm := HM.out.2.2.2.2.1 hy
            rw [hm]
            have : S.set k Q = S := by
              apply List.ext_getElem?
              intro i
              rw [List.getElem?_set]
              by_cases e : k = i
              · subst e
                rw [if_pos rfl, if_pos (by rw [HSL.out]; exact hknd), HQ.out.1]
              · rw [if_neg e]
            rw [this]
            exact HSC.out.1
        have HSCN := Lib.hid hsc
        clear hsc hQS hsome hbm hrws hcell5 hfz5 H5 HW5 HM HSr
        generalize w5.setCell ⟨g2, k, none⟩ (.slice (some ⟨g, 0, none⟩) 256 cp) = W6 at *
        go_at_call 19
        refine C9.out.mono ?_
        rintro e w7 ⟨hb7, v7, X7, rfl, hO7⟩
        obtain ⟨a7, c7, rfl⟩ := hO7.shape
        have HB7 := Lib.hid (HB6.out.trans (hb7.mono HB6.out.size))
        clear hb7 hO7 C9 HB6
        cases y
        · rw [HSCN.out.2 rfl]
          have hl1 : ([bs] : List (List Nat)).length = 1 := rfl
          rw [hl1]
          clear HSCN hl1
          go_wp2_with fail
          go_ret
          exact ⟨rfl, HB7.out⟩
        · rw [HSCN.out.1 rfl]
          have hl1 : ([] : List (List Nat)).length = 0 := rfl
          rw [hl1]
          clear HSCN hl1
          go_wp2_with fail
          go_ret
          exact ⟨rfl, HB7.out⟩
  case inr.inl =>
    go_enter Try.func6, Try.ntmps6
    go_wp2_with fail
    go_at_call 14
    refine CK.out.mono ?_
    rintro e w1 ⟨rfl, hb1⟩
    have HB1 := Lib.hid hb1
    clear hb1 CK
    go_wp2_with fail
    go_at_call 9
    refine (CS.out w1 (HBY.out.1.below HB1.out) (fun x hx => (HBY.out.2 x hx).imp (fun h => Nat.lt_of_lt_of_le h HB1.out.size) id)).mono ?_
    rintro e w2 ⟨h, ms, rfl, hSp, hb2⟩
    have HS2 := Lib.hid (And.intro hSp (HB1.out.trans (hb2.mono HB1.out.size)))
    have hck := hSp.cell k (by rw [HSL.out]; exact hknd)
    have hbk := hSp.bys k (by rw [HSL.out]; exact hknd)
    have hlk := hSp.len _ (List.getElem_mem (show k < S.length by rw [HSL.out]; exact hknd))
    have hkl : k < S.length := by rw [HSL.out]; exact hknd
    have hQ : S[k]? = some S[k] := List.getElem?_eq_getElem hkl
    have h8k := hSp.byt _ (List.getElem_mem hkl)
    generalize S[k] = Q at hbk hlk hQ h8k
    have HSRC := Lib.hid (cellsOf_at hbk)
    have HLK := Lib.hid (show (cellsOf Q).length = 256 * 1 by rw [cellsOf_length, hlk])
    have HQ := Lib.hid (And.intro hQ (And.intro hlk h8k))
    clear hSp hb2 HB1 CS hlk hbk hkl hQ h8k
    go_wp2_with (at_builtin; refine wpList_append_own _ rfl (.tmp 54) (.tmp 58) 23 rfl w2.heap.size 5 i0 (.int .u8 0) 1 1 Try.underlying23 HI.out.1 HI.out.2.1 HI.out.2.2.1 HI.out.2.2.2 rfl (by decide) _ 0 [] rfl (World.ownsRow_nil _ _ _ _) ⟨ms, k * 256, none⟩ 256 256 (cellsOf Q) rfl HLK.out HSRC.out (cellsOf_one _) (by decide) (by decide) (Nat.le_refl _) ?_; intro v' w3 hown3 hgr3 _; have HB3 := Lib.hid ((Below.refl w2.heap.size w2).grown hgr3 (Nat.le_refl _) (fun k hk => by cases hk)); have HX3 := Lib.hid (owns_xat (show 0 + 256 = Q.length by rw [HQ.out.2.1]) hown3 (by intro h; have := HQ.out.2.1; rw [h] at this; simp at this)); clear hown3 hgr3)
    obtain ⟨g, cp, rfl, hg, hcp, hX⟩ := HX3.out
    have HX := Lib.hid (turned_start HQ.out.2.2 hX HB3.out : Turned w2 g Q c f 0 w3 false)
    have HGL := Lib.hid (And.intro hg hcp)
    have hcp2 : 256 ≤ cp := by omega
    clear hX HX3 hck hcp
    go_loopw [16, 17] (fun tb i wr => ∃ (k : Nat) (y : Bool), k ≤ 32 ∧ i = .int .i64 k ∧ tb = .bool y ∧ Hid (Turned w2 g Q c f k wr y)) (fun _ i _ => 32 - (intOf i).toNat)
    case atStart => exact ⟨0, false, Nat.zero_le _, rfl, rfl, HX⟩
    case round =>
      obtain ⟨j, y, hj, rfl, rfl, HT⟩ := hrel
      by_cases hlt : j < 32
      · by_cases hbit : c.testBit j = true
        · by_cases hin : f + j < 8 * Q.length
          · obtain ⟨hfz, x, hx8, hcell⟩ := turned_at HT.out ((f + j) / 8) (by omega)
            have hb1 := bit_yes hcc hbit
            have HN := Lib.hid (turned_yes HT.out hg hbit hin hx8 hcell)
            have hbit' := Lib.hid hbit
            rw [HQ.out.2.1] at hin
            clear hbit
            go_wp2
            go_roundw
            case rel => exact ⟨j + 1, true, by omega, by go_num, rfl, HN⟩
            case measure => simp [intOf]; omega
          · have hb1 := bit_yes hcc hbit
            have HN := Lib.hid (turned_no HT.out (fun hh => hin hh.2))
            rw [HQ.out.2.1] at hin
            clear hbit
            go_wp2
            go_roundw
            case rel => exact ⟨j + 1, y, by omega, by go_num, rfl, HN⟩
            case measure => simp [intOf]; omega
        · have hb1 := bit_no hcc hbit
          have HN := Lib.hid (turned_no HT.out (fun hh => hbit hh.1))
          clear hbit
          go_wp2
          go_roundw
          case rel => exact ⟨j + 1, y, by omega, by go_num, rfl, HN⟩
          case measure => simp [intOf]; omega
      · obtain rfl : j = 32 := by omega
        clear hlt hj
        obtain ⟨m, hml, hm8, hmR, hmX, hmB, hmy, hm0⟩ := HT.out
        have hSr := HS2.out.1.below hmB
        have HSr := Lib.hid (And.intro hSr (HS2.out.2.trans (hmB.mono HS2.out.2.size)))
        have HSRC2 := Lib.hid (hSr.src HSL.out)
        have HONE2 := Lib.hid (secs_one ms nd nd)
        have HSLN := Lib.hid (show (secs ms nd nd).length = nd * 1 by rw [secs_len, Nat.mul_one])
        have HMX2 := Lib.hid (show 0 + nd ≤ maxLen ∧ (0 + nd) * 24 ≤ 140737488355328 from ⟨by unfold maxLen; omega, by omega⟩)
        rw [HQ.out.2.1] at hml
        have hmbys := hmX.bytes (by rw [hml]; decide) hm8
        have hglt : g < wr.heap.size := by obtain ⟨cur, hcur, _⟩ := hmX; exact (Array.getElem?_eq_some_iff.1 hcur).1
        have hmslt : ms < wr.heap.size := hSr.mem.lt
        have HM := Lib.hid (And.intro hml (And.intro hm8 (And.intro hmR (And.intro hmy (And.intro hm0 (And.intro hmbys (And.intro hglt hmslt)))))))
        clear hml hm8 hmR hmX hmB hmy hm0 hSr hmbys hglt hmslt HT HS2 HSRC HLK
        go_wp2_with (at_builtin; refine wpList_append_own _ rfl (.tmp 94) (.tmp 95) 25 rfl wr.heap.size 23 i1 (.slice none 0 0) 1 24 Try.underlying25 HI1.out.1 HI1.out.2.1 HI1.out.2.2.1 HI1.out.2.2.2 rfl (by decide) _ 0 [] rfl (World.ownsRow_nil _ _ _ _) ⟨h, 0, none⟩ nd nd (secs ms nd nd) rfl HSLN.out HSRC2.out HONE2.out HMX2.out.1 HMX2.out.2 (Nat.le_refl _) ?_; intro v2 w5 hown5 hgr5 _; have hb5 := (Below.refl wr.heap.size wr).grown hgr5 (Nat.le_refl _) (fun k hk => by cases hk); obtain ⟨g2, c2, rfl, hg2, hc2, hrow5⟩ := copy_row hown5 hnp; have H5 := Lib.hid (And.intro (HSr.out.1.below hb5) (And.intro (HSr.out.2.trans (hb5.mono HSr.out.2.size)) (HM.out.2.2.2.2.2.1.below hb5))); have HW5 := Lib.hid (And.intro hrow5 (And.intro hg2 hb5.size)); obtain ⟨cur, hcur, hcsz, hcget⟩ := hrow5; have hcell5 : w5.cell? ⟨g2, k, none⟩ = some (.slice (some ⟨ms, k * 256, none⟩) 256 256) := (cell_of_row _ _ _ _ _ _ hcur).trans (hcget k hknd); have hfz5 : w5.frozen? ⟨g2, k, none⟩ = false := frozen_of_row _ _ _ _ _ hcur; clear hown5 hgr5 hb5 hg2 hcur hcsz hcget)
        obtain ⟨hsome, ho6⟩ := Some1.of_set (x := .slice (some ⟨g, 0, none⟩) 256 cp) H5.out.1 HSL.out HW5.out.1 hknd (by have := HM.out.2.2.2.2.2.2.2; have := HW5.out.2.1; omega)
        have hbm := H5.out.2.2.only ho6 (fun x hx => by injection hx with hx; subst hx; have := HM.out.2.2.2.2.2.2.1; have := HW5.out.2.1; simp; omega)
        have hrws := hsome.rws hknd hbm HM.out.1 hcp2
        have HB6 := Lib.hid (H5.out.2.1.trans (ho6.below H5.out.2.1.size (by have h1 := HSr.out.2.size; have h2 := HW5.out.2.1; intro x hx; simp at hx; omega)))
        have C9 := Lib.hid (scan_any (some ⟨g2, 0, none⟩) (S.set k m) nd c2 seg (by rw [List.length_set]; exact HSL.out) (by omega) hs _ hrws)
        have hQS : Q = Fr.sec (Fr.kindOf k nd) seg k (Fr.part bs k) := Option.some.inj (HQ.out.1.symm.trans (HSC.out.2.2 k hknd))
        have hsc : (y = true → Fr.scan seg (S.set k m) = ([], 0)) ∧ (y = false → Fr.scan seg (S.set k m) = ([bs], nd)) := by
          refine ⟨fun hy => HSC.out.2.1 k m hknd ?_, fun hy => ?_⟩
          · have hW := HM.out.2.2.2.1.1 hy
            have hR := HM.out.2.2.1
            have hlt := Nat.lt_of_lt_of_le (Crc.Wm_lt c f (8 * Q.length) 32) (show (2 : Nat) ^ 32 ≤ 4294967296 from Nat.le_refl _)
            generalize Crc.Wm c f (8 * Q.length) 32 = W9 at hW hR hlt
            rw [hQS] at hR
            exact Fr.readS_turned (by rcases Fr.kindOf_is k nd with h | h | h | h <;> omega) (fun x hx => HBY.out.1.2.1 x (by unfold Fr.part at hx; exact List.mem_of_mem_drop (List.mem_of_mem_take hx))) (by rw [Fr.part_len]; omega) HM.out.2.1 hR hlt hW k
          · have hm := HM.out.2.2.2.2.1 hy
            rw [hm]
            have : S.set k Q = S := by
              apply List.ext_getElem?
              intro i
              rw [List.getElem?_set]
              by_cases e : k = i
              · subst e
                rw [if_pos rfl, if_pos (by rw [HSL.out]; exact hknd), HQ.out.1]
              · rw [if_neg e]
            rw [this]
            exact HSC.out.1
        have HSCN := Lib.hid hsc
        clear hsc hQS hsome hbm hrws hcell5 hfz5 H5 HW5 HM HSr
        generalize w5.setCell ⟨g2, k, none⟩ (.slice (some ⟨g, 0, none⟩) 256 cp) = W6 at *
        go_at_call 19
        refine C9.out.mono ?_
        rintro e w7 ⟨hb7, v7, X7, rfl, hO7⟩
        obtain ⟨a7, c7, rfl⟩ := hO7.shape
        have HB7 := Lib.hid (HB6.out.trans (hb7.mono HB6.out.size))
        clear hb7 hO7 C9 HB6
        cases y
        · rw [HSCN.out.2 rfl]
          have hl1 : ([bs] : List (List Nat)).length = 1 := rfl
          rw [hl1]
          clear HSCN hl1
          go_wp2_with fail
          go_ret
          exact ⟨rfl, HB7.out⟩
        · rw [HSCN.out.1 rfl]
          have hl1 : ([] : List (List Nat)).length = 0 := rfl
          rw [hl1]
          clear HSCN hl1
          go_wp2_with fail
          go_ret
          exact ⟨rfl, HB7.out⟩
  case inr.inr =>
    go_enter Try.func6, Try.ntmps6
    go_wp2_with fail
    go_at_call 14
    refine CK.out.mono ?_
    rintro e w1 ⟨rfl, hb1⟩
    have HB1 := Lib.hid hb1
    clear hb1 CK
    go_wp2_with fail
    go_at_call 9
    refine (CS.out w1 (HBY.out.1.below HB1.out) (fun x hx => (HBY.out.2 x hx).imp (fun h => Nat.lt_of_lt_of_le h HB1.out.size) id)).mono ?_
    rintro e w2 ⟨h, ms, rfl, hSp, hb2⟩
    have HS2 := Lib.hid (And.intro hSp (HB1.out.trans (hb2.mono HB1.out.size)))
    have hck := hSp.cell k (by rw [HSL.out]; exact hknd)
    have hbk := hSp.bys k (by rw [HSL.out]; exact hknd)
    have hlk := hSp.len _ (List.getElem_mem (show k < S.length by rw [HSL.out]; exact hknd))
    have hkl : k < S.length := by rw [HSL.out]; exact hknd
    have hQ : S[k]? = some S[k] := List.getElem?_eq_getElem hkl
    have h8k := hSp.byt _ (List.getElem_mem hkl)
    generalize S[k] = Q at hbk hlk hQ h8k
    have HSRC := Lib.hid (cellsOf_at hbk)
    have HLK := Lib.hid (show (cellsOf Q).length = 256 * 1 by rw [cellsOf_length, hlk])
    have HQ := Lib.hid (And.intro hQ (And.intro hlk h8k))
    clear hSp hb2 HB1 CS hlk hbk hkl hQ h8k
    go_wp2_with (at_builtin; refine wpList_append_own _ rfl (.tmp 54) (.tmp 58) 23 rfl w2.heap.size 5 i0 (.int .u8 0) 1 1 Try.underlying23 HI.out.1 HI.out.2.1 HI.out.2.2.1 HI.out.2.2.2 rfl (by decide) _ 0 [] rfl (World.ownsRow_nil _ _ _ _) ⟨ms, k * 256, none⟩ 256 256 (cellsOf Q) rfl HLK.out HSRC.out (cellsOf_one _) (by decide) (by decide) (Nat.le_refl _) ?_; intro v' w3 hown3 hgr3 _; have HB3 := Lib.hid ((Below.refl w2.heap.size w2).grown hgr3 (Nat.le_refl _) (fun k hk => by cases hk)); have HX3 := Lib.hid (owns_xat (show 0 + 256 = Q.length by rw [HQ.out.2.1]) hown3 (by intro h; have := HQ.out.2.1; rw [h] at this; simp at this)); clear hown3 hgr3)
    obtain ⟨g, cp, rfl, hg, hcp, hX⟩ := HX3.out
    have HX := Lib.hid (turned_start HQ.out.2.2 hX HB3.out : Turned w2 g Q c f 0 w3 false)
    have HGL := Lib.hid (And.intro hg hcp)
    have hcp2 : 256 ≤ cp := by omega
    clear hX HX3 hck hcp
    go_loopw [16, 17] (fun tb i wr => ∃ (k : Nat) (y : Bool), k ≤ 32 ∧ i = .int .i64 k ∧ tb = .bool y ∧ Hid (Turned w2 g Q c f k wr y)) (fun _ i _ => 32 - (intOf i).toNat)
    case atStart => exact ⟨0, false, Nat.zero_le _, rfl, rfl, HX⟩
    case round =>
      obtain ⟨j, y, hj, rfl, rfl, HT⟩ := hrel
      by_cases hlt : j < 32
      · by_cases hbit : c.testBit j = true
        · by_cases hin : f + j < 8 * Q.length
          · obtain ⟨hfz, x, hx8, hcell⟩ := turned_at HT.out ((f + j) / 8) (by omega)
            have hb1 := bit_yes hcc hbit
            have HN := Lib.hid (turned_yes HT.out hg hbit hin hx8 hcell)
            have hbit' := Lib.hid hbit
            rw [HQ.out.2.1] at hin
            clear hbit
            go_wp2
            go_roundw
            case rel => exact ⟨j + 1, true, by omega, by go_num, rfl, HN⟩
            case measure => simp [intOf]; omega
          · have hb1 := bit_yes hcc hbit
            have HN := Lib.hid (turned_no HT.out (fun hh => hin hh.2))
            rw [HQ.out.2.1] at hin
            clear hbit
            go_wp2
            go_roundw
            case rel => exact ⟨j + 1, y, by omega, by go_num, rfl, HN⟩
            case measure => simp [intOf]; omega
        · have hb1 := bit_no hcc hbit
          have HN := Lib.hid (turned_no HT.out (fun hh => hbit hh.1))
          clear hbit
          go_wp2
          go_roundw
          case rel => exact ⟨j + 1, y, by omega, by go_num, rfl, HN⟩
          case measure => simp [intOf]; omega
      · obtain rfl : j = 32 := by omega
        clear hlt hj
        obtain ⟨m, hml, hm8, hmR, hmX, hmB, hmy, hm0⟩ := HT.out
        have hSr := HS2.out.1.below hmB
        have HSr := Lib.hid (And.intro hSr (HS2.out.2.trans (hmB.mono HS2.out.2.size)))
        have HSRC2 := Lib.hid (hSr.src HSL.out)
        have HONE2 := Lib.hid (secs_one ms nd nd)
        have HSLN := Lib.hid (show (secs ms nd nd).length = nd * 1 by rw [secs_len, Nat.mul_one])
        have HMX2 := Lib.hid (show 0 + nd ≤ maxLen ∧ (0 + nd) * 24 ≤ 140737488355328 from ⟨by unfold maxLen; omega, by omega⟩)
        rw [HQ.out.2.1] at hml
        have hmbys := hmX.bytes (by rw [hml]; decide) hm8
        have hglt : g < wr.heap.size := by obtain ⟨cur, hcur, _⟩ := hmX; exact (Array.getElem?_eq_some_iff.1 hcur).1
        have hmslt : ms < wr.heap.size := hSr.mem.lt
        have HM := Lib.hid (And.intro hml (And.intro hm8 (And.intro hmR (And.intro hmy (And.intro hm0 (And.intro hmbys (And.intro hglt hmslt)))))))
        clear hml hm8 hmR hmX hmB hmy hm0 hSr hmbys hglt hmslt HT HS2 HSRC HLK
        go_wp2_with (at_builtin; refine wpList_append_own _ rfl (.tmp 94) (.tmp 95) 25 rfl wr.heap.size 23 i1 (.slice none 0 0) 1 24 Try.underlying25 HI1.out.1 HI1.out.2.1 HI1.out.2.2.1 HI1.out.2.2.2 rfl (by decide) _ 0 [] rfl (World.ownsRow_nil _ _ _ _) ⟨h, 0, none⟩ nd nd (secs ms nd nd) rfl HSLN.out HSRC2.out HONE2.out HMX2.out.1 HMX2.out.2 (Nat.le_refl _) ?_; intro v2 w5 hown5 hgr5 _; have hb5 := (Below.refl wr.heap.size wr).grown hgr5 (Nat.le_refl _) (fun k hk => by cases hk); obtain ⟨g2, c2, rfl, hg2, hc2, hrow5⟩ := copy_row hown5 hnp; have H5 := Lib.hid (And.intro (HSr.out.1.below hb5) (And.intro (HSr.out.2.trans (hb5.mono HSr.out.2.size)) (HM.out.2.2.2.2.2.1.below hb5))); have HW5 := Lib.hid (And.intro hrow5 (And.intro hg2 hb5.size)); obtain ⟨cur, hcur, hcsz, hcget⟩ := hrow5; have hcell5 : w5.cell? ⟨g2, k, none⟩ = some (.slice (some ⟨ms, k * 256, none⟩) 256 256) := (cell_of_row _ _ _ _ _ _ hcur).trans (hcget k hknd); have hfz5 : w5.frozen? ⟨g2, k, none⟩ = false := frozen_of_row _ _ _ _ _ hcur; clear hown5 hgr5 hb5 hg2 hcur hcsz hcget)
        obtain ⟨hsome, ho6⟩ := Some1.of_set (x := .slice (some ⟨g, 0, none⟩) 256 cp) H5.out.1 HSL.out HW5.out.1 hknd (by have := HM.out.2.2.2.2.2.2.2; have := HW5.out.2.1; omega)
        have hbm := H5.out.2.2.only ho6 (fun x hx => by injection hx with hx; subst hx; have := HM.out.2.2.2.2.2.2.1; have := HW5.out.2.1; simp; omega)
        have hrws := hsome.rws hknd hbm HM.out.1 hcp2
        have HB6 := Lib.hid (H5.out.2.1.trans (ho6.below H5.out.2.1.size (by have h1 := HSr.out.2.size; have h2 := HW5.out.2.1; intro x hx; simp at hx; omega)))
        have C9 := Lib.hid (scan_any (some ⟨g2, 0, none⟩) (S.set k m) nd c2 seg (by rw [List.length_set]; exact HSL.out) (by omega) hs _ hrws)
        have hQS : Q = Fr.sec (Fr.kindOf k nd) seg k (Fr.part bs k) := Option.some.inj (HQ.out.1.symm.trans (HSC.out.2.2 k hknd))
        have hsc : (y = true → Fr.scan seg (S.set k m) = ([], 0)) ∧ (y = false → Fr.scan seg (S.set k m) = ([bs], nd)) := by
          refine ⟨fun hy => HSC.out.2.1 k m hknd ?_, fun hy => ?_⟩
          · have hW := HM.out.2.2.2.1.1 hy
            have hR := HM.out.2.2.1
            have hlt := Nat.lt_of_lt_of_le (Crc.Wm_lt c f (8 * Q.length) 32) (show (2 : Nat) ^ 32 ≤ 4294967296 from Nat.le_refl _)
            generalize Crc.Wm c f (8 * Q.length) 32 = W9 at hW hR hlt
            rw [hQS] at hR
            exact Fr.readS_turned (by rcases Fr.kindOf_is k nd with h | h | h | h <;> omega) (fun x hx => HBY.out.1.2.1 x (by unfold Fr.part at hx; exact List.mem_of_mem_drop (List.mem_of_mem_take hx))) (by rw [Fr.part_len]; omega) HM.out.2.1 hR hlt hW k
          · have hm := HM.out.2.2.2.2.1 hy
            rw [hm]
            have : S.set k Q = S := by
              apply List.ext_getElem?
              intro i
              rw [List.getElem?_set]
              by_cases e : k = i
              · subst e
                rw [if_pos rfl, if_pos (by rw [HSL.out]; exact hknd), HQ.out.1]
              · rw [if_neg e]
            rw [this]
            exact HSC.out.1
        have HSCN := Lib.hid hsc
        clear hsc hQS hsome hbm hrws hcell5 hfz5 H5 HW5 HM HSr
        generalize w5.setCell ⟨g2, k, none⟩ (.slice (some ⟨g, 0, none⟩) 256 cp) = W6 at *
        go_at_call 19
        refine C9.out.mono ?_
        rintro e w7 ⟨hb7, v7, X7, rfl, hO7⟩
        obtain ⟨a7, c7, rfl⟩ := hO7.shape
        have HB7 := Lib.hid (HB6.out.trans (hb7.mono HB6.out.size))
        clear hb7 hO7 C9 HB6
        cases y
        · rw [HSCN.out.2 rfl]
          have hl1 : ([bs] : List (List Nat)).length = 1 := rfl
          rw [hl1]
          clear HSCN hl1
          go_wp2_with fail
          go_ret
          exact ⟨rfl, HB7.out⟩
        · rw [HSCN.out.1 rfl]
          have hl1 : ([] : List (List Nat)).length = 0 := rfl
          rw [hl1]
          clear HSCN hl1
          go_wp2_with fail
          go_ret
          exact ⟨rfl, HB7.out⟩
/- LAWFT2 -/
end Go.Proofs.Ytlegdaoidjpokaa
namespace Go.Proofs.Ytlegdaoidjpokaa
set_option linter.unusedVariables false
set_option linter.unusedSimpArgs false
open Go.RowKit
open B2 (Only Row Lots owns_only)
theorem same_n' (n m : Nat) (a a2 : Option Addr) (bs : List Nat) (cap cap2 : Nat) (w : World) (hn : bs.length = n) (hm : bs.length = m) (H : Bys w a bs) (H2 : Bys w a2 bs) :
    Calls Try.prog 27 #[.slice a n cap, .slice a2 m cap2] w fun e w' => e = .returned (.bool true) ∧ Below w.heap.size w w' := by
  subst hn; subst hm; exact same_any a a2 bs cap cap2 w H H2
set_option maxHeartbeats 4000000 in
set_option maxRecDepth 100000 in
theorem samerows_any (a a2 : Option Addr) (Ls : List (List Nat)) (n cap cap2 : Nat) (hn : Ls.length = n) (hn9 : n ≤ 1000000000) (w : World) (H : Rws w a Ls) (H2 : Rws w a2 Ls) :
    Calls Try.prog 15 #[.slice a n cap, .slice a2 n cap2] w fun e w' => e = .returned (.bool true) ∧ Below w.heap.size w w' := by
  have HH := Lib.hid (And.intro H (And.intro H2 hn))
  have hd0 : ((n : Int) != (n : Int)) = false := by simp
  clear H H2 hn
  go_enter Try.func15, Try.ntmps15
  go_wp2_with fail
  go_loopw [5] (fun i wr => ∃ j : Nat, j ≤ n ∧ i = .int .i64 j ∧ Hid (Below w.heap.size w wr)) (fun i _ => n - (intOf i).toNat)
  case atStart => exact ⟨0, Nat.zero_le _, rfl, Lib.hid (Below.refl _ _)⟩
  case round =>
    obtain ⟨j, hj, rfl, HB⟩ := hrel
    by_cases hlt : j < n
    · have hd : decide ((j : Int) < (n : Int)) = true := by simp; omega
      have hd2 : decide (j < n) = true := by simp; omega
      have hjl : j < Ls.length := by have := HH.out.2.2; omega
      have hne : Ls ≠ [] := by intro h; rw [h] at hjl; simp at hjl
      obtain ⟨h1, o1, rfl, hh1, hc1⟩ := HH.out.1.2 hne
      obtain ⟨h2, o2, rfl, hh2, hc2⟩ := HH.out.2.1.2 hne
      obtain ⟨x1, y1, k1, -, b1⟩ := hc1 j hjl
      obtain ⟨x2, y2, k2, -, b2⟩ := hc2 j hjl
      have hb : Below w.heap.size w wr.drew := HB.out.trans ((drew_below wr).mono HB.out.size)
      have q : wr.drew.cell? ⟨h1, o1 + j, none⟩ = some (.slice x1 Ls[j].length y1) ∧ wr.drew.cell? ⟨h2, o2 + j, none⟩ = some (.slice x2 Ls[j].length y2) := ⟨(hb.cell (p := ⟨h1, o1 + j, none⟩) hh1).trans k1, (hb.cell (p := ⟨h2, o2 + j, none⟩) hh2).trans k2⟩
      obtain ⟨L, hL⟩ : ∃ L, Ls[j].length = L := ⟨_, rfl⟩
      have CS := Lib.hid (fun W (hW : Below w.heap.size w W) => same_n' L L x1 x2 Ls[j] y1 y2 W hL hL (b1.below hW) (b2.below hW))
      have HCL := Lib.hid (fun W (hW : Below w.heap.size w W) => show W.cell? ⟨h1, o1 + j, none⟩ = some (.slice x1 L y1) ∧ W.cell? ⟨h2, o2 + j, none⟩ = some (.slice x2 L y2) from by rw [← hL]; exact ⟨(hW.cell (p := ⟨h1, o1 + j, none⟩) hh1).trans k1, (hW.cell (p := ⟨h2, o2 + j, none⟩) hh2).trans k2⟩)
      rw [hL] at q
      have HBD := Lib.hid hb
      clear hc1 hc2 k1 k2 b1 b2 hL hb hne hjl hh1 hh2
      go_wp2_with fail
      go_region_held3 (fun w' => w'.cell? ⟨h1, o1 + j, none⟩ = some (.slice x1 L y1) ∧ w'.cell? ⟨h2, o2 + j, none⟩ = some (.slice x2 L y2)) ((first | exact q | assumption))
        ((go_at_call 27; refine (CS.out _ HBD.out).mono ?_; rintro e w9 ⟨rfl, hb9⟩; have HB9 := Lib.hid (HBD.out.trans (hb9.mono HBD.out.size)); have q9 := HCL.out _ HB9.out; clear hb9))
      clear q q9
      go_wp2_with fail
      go_roundw
      case rel => exact ⟨j + 1, by omega, by go_num, HB9⟩
      case measure => simp [intOf]; omega
    · obtain rfl : j = n := by omega
      have hd : decide ((j : Int) < (j : Int)) = false := by simp
      go_wp2_with fail
      go_ret
      exact ⟨rfl, HB.out⟩
/-- what 'much' adds up, as far as it goes -/
def mucher (Ls : List (List Nat)) (k : Nat) : Nat := Ls.length + ((Ls.take k).map List.length).sum
theorem mucher_succ (Ls : List (List Nat)) (k : Nat) (h : k < Ls.length) : mucher Ls (k + 1) = mucher Ls k + Ls[k].length := by
  unfold mucher
  rw [List.take_succ_eq_append_getElem h]
  simp only [List.map_append, List.sum_append, List.map_cons, List.map_nil, List.sum_cons, List.sum_nil]
  omega
theorem mucher_mono (Ls : List (List Nat)) (k : Nat) : mucher Ls k ≤ mucher Ls Ls.length := by
  unfold mucher
  have h : ∀ (l : List (List Nat)) (k : Nat), ((l.take k).map List.length).sum ≤ (l.map List.length).sum := by
    intro l
    induction l with
    | nil => intro k; simp
    | cons x l ih =>
      intro k
      cases k with
      | zero => simp
      | succ k => simp only [List.take_succ_cons, List.map_cons, List.sum_cons]; have := ih k; omega
  have := h Ls k
  rw [List.take_length]
  omega
set_option maxHeartbeats 4000000 in
theorem much_any (a : Option Addr) (Ls : List (List Nat)) (n cap : Nat) (hn : Ls.length = n) (hn9 : n ≤ 140737488355328) (hl9 : ∀ l ∈ Ls, l.length ≤ 140737488355328) (w : World) (H : Rws w a Ls) :
    Calls Try.prog 17 #[.slice a n cap] w fun e w' => e = .returned (.bool (decide (100000 < mucher Ls Ls.length))) ∧ w' = w := by
  have HH := Lib.hid (And.intro H hn)
  have HL9 := Lib.hid hl9
  have HM0 := Lib.hid (show n = mucher Ls 0 by unfold mucher; simp [hn])
  clear H hl9
  go_enter Try.func17, Try.ntmps17
  go_wp2_with fail
  go_loopw [3, 4] (fun s i wr => ∃ (j m : Nat), j ≤ n ∧ i = .int .i64 j ∧ s = .int .i64 m ∧ Hid (m = mucher Ls j) ∧ m ≤ 1000000000000000 ∧ wr = w) (fun _ i _ => n - (intOf i).toNat)
  case atStart => exact ⟨0, n, Nat.zero_le _, rfl, rfl, HM0, by omega, rfl⟩
  case round =>
    obtain ⟨j, m, hj, rfl, rfl, HM, hm9, rfl⟩ := hrel
    by_cases hlt : j < n
    · have hd : decide ((j : Int) < (n : Int)) = true := by simp; omega
      have hd2 : decide (j < n) = true := by simp; omega
      by_cases hm : m ≤ 100000
      · have hd3 : decide ((m : Int) ≤ 100000) = true := by simp; omega
        have hd4 : decide (m ≤ 100000) = true := by simp; omega
        have hjl : j < Ls.length := by have := HH.out.2; omega
        obtain ⟨h1, o1, rfl, hh1, hc1⟩ := HH.out.1.2 (by intro h; rw [h] at hjl; simp at hjl)
        obtain ⟨x1, y1, k1, -, b1⟩ := hc1 j hjl
        have hll := HL9.out _ (List.getElem_mem hjl)
        have HS := Lib.hid (mucher_succ Ls j hjl)
        obtain ⟨L, hL⟩ : ∃ L, Ls[j].length = L := ⟨_, rfl⟩
        rw [hL] at k1 hll HS
        have HMN : Hid (m + L = mucher Ls (j + 1)) := Lib.hid (by rw [HS.out, ← HM.out])
        clear hc1 hL b1 hjl HS
        go_wp2_with fail
        go_roundw
        case rel => exact ⟨j + 1, m + L, by omega, by go_num, by go_num, HMN, by omega, by trivial⟩
        case measure => simp [intOf]; omega
      · have hd3 : decide ((m : Int) ≤ 100000) = false := by simp; omega
        have hd4 : decide (m ≤ 100000) = false := by simp; omega
        have hd5 : decide ((100000 : Int) < (m : Int)) = true := by simp; omega
        have HR := Lib.hid (show decide (100000 < mucher Ls Ls.length) = true from decide_eq_true (by have := mucher_mono Ls j; have := HM.out; omega))
        go_wp2_with fail
        go_ret
        rw [HR.out]; exact ⟨rfl, rfl⟩
    · obtain rfl : j = n := by omega
      have hd : decide ((j : Int) < (j : Int)) = false := by simp
      have hd5 : decide ((100000 : Int) < (m : Int)) = decide (100000 < mucher Ls Ls.length) := by
        rw [HM.out, hn]
        exact decide_eq_decide.2 (by omega)
      have hd6 : decide (100000 < m) = decide (100000 < mucher Ls Ls.length) := by rw [HM.out, hn]
      obtain ⟨X, hX⟩ : ∃ X, decide (100000 < mucher Ls Ls.length) = X := ⟨_, rfl⟩
      rw [hX] at hd5 hd6
      have HX := Lib.hid hX
      clear hX
      go_wp2_with fail
      go_ret
      rw [HX.out]; exact ⟨rfl, rfl⟩
end Go.Proofs.Ytlegdaoidjpokaa
namespace Go.Proofs.Ytlegdaoidjpokaa
set_option linter.unusedVariables false
set_option linter.unusedSimpArgs false
open Go.RowKit
open B2 (Only Row Lots owns_only)
/-- rows of bytes that came in: a nil one has no room -/
def RwsC (w : World) (a : Option Addr) (Ls : List (List Nat)) : Prop :=
  Ls.length ≤ maxLen ∧ (Ls ≠ [] → ∃ h off, a = some ⟨h, off, none⟩ ∧ h < w.heap.size ∧ ∀ i (hi : i < Ls.length), ∃ ai ci, w.cell? ⟨h, off + i, none⟩ = some (.slice ai Ls[i].length ci) ∧ Ls[i].length ≤ ci ∧ (ai = none → ci = 0) ∧ Bys w ai Ls[i])
theorem RwsC.rws {w : World} {a : Option Addr} {Ls : List (List Nat)} (h : RwsC w a Ls) : Rws w a Ls := by
  obtain ⟨h1, h2⟩ := h
  refine ⟨h1, fun hn => ?_⟩
  obtain ⟨b, off, ha, hlt, hc⟩ := h2 hn
  refine ⟨b, off, ha, hlt, fun i hi => ?_⟩
  obtain ⟨ai, ci, k1, k2, _, k3⟩ := hc i hi
  exact ⟨ai, ci, k1, k2, k3⟩
theorem RwsC.below {w w' : World} {a : Option Addr} {Ls : List (List Nat)} (h : RwsC w a Ls) (hb : Below w.heap.size w w') : RwsC w' a Ls := by
  obtain ⟨h1, h2⟩ := h
  refine ⟨h1, fun hn => ?_⟩
  obtain ⟨b, off, ha, hlt, hc⟩ := h2 hn
  refine ⟨b, off, ha, Nat.lt_of_lt_of_le hlt hb.size, fun i hi => ?_⟩
  obtain ⟨ai, ci, k1, k2, k4, k3⟩ := hc i hi
  exact ⟨ai, ci, (hb.cell (p := ⟨b, off + i, none⟩) hlt).trans k1, k2, k4, k3.below hb⟩
theorem Spt.only {w w' : World} {N h m : Nat} {S : List (List Nat)} (H : Spt w N h m S) {T : List Nat} (ho : Only T w w') (hT : ∀ k ∈ T, k < N) : Spt w' N h m S :=
  ⟨(ho.block h (Array.getElem?_eq_some_iff.1 H.row).1 (fun hm => by have := hT _ hm; have := H.low.1; omega)).trans H.row, H.mem.only ho (fun hm => by have := hT _ hm; have := H.low.2.1; omega), H.len, H.byt, H.low⟩
structure Bk (w0 w : World) (v7 v8 v9 : Value) (A R : List (List Nat)) (B : List Nat) (Q : List (Nat × Nat × List Nat)) (x7 x8 : List Value) : Prop where
  r7 : w.ownsRow w0.heap.size 23 1 v7 A.length x7
  r8 : w.ownsRow w0.heap.size 23 1 v8 R.length x8
  r9 : w.ownsRow w0.heap.size 3 1 v9 B.length (B.map fun b => .int .i64 ((b : Nat) : Int))
  q : ∀ b off s, (b, off, s) ∈ Q → Bys w (some ⟨b, off, none⟩) s ∧ b < w.heap.size ∧ v7.ownBlock ≠ some b ∧ v8.ownBlock ≠ some b ∧ v9.ownBlock ≠ some b
  p7 : ∀ i (hi : i < A.length), A[i].length = 256 ∧ ∃ b off, x7[i]? = some (.slice (some ⟨b, off, none⟩) 256 256) ∧ (b, off, A[i]) ∈ Q
  p8 : ∀ j (hj : j < R.length), ∃ a c, x8[j]? = some (.slice a R[j].length c) ∧ R[j].length ≤ c ∧ Bys w0 a R[j]
  o78 : ∀ k, v7.ownBlock = some k → v8.ownBlock ≠ some k
  o79 : ∀ k, v7.ownBlock = some k → v9.ownBlock ≠ some k
  o89 : ∀ k, v8.ownBlock = some k → v9.ownBlock ≠ some k
  below : Below w0.heap.size w0 w
theorem Bk.start (w : World) : Bk w w (.slice none 0 0) (.slice none 0 0) (.slice none 0 0) [] [] [] [] [] [] :=
  ⟨World.ownsRow_nil w _ 23 1, World.ownsRow_nil w _ 23 1, World.ownsRow_nil w _ 3 1, (fun b off s h => by cases h), (fun i hi => absurd hi (Nat.not_lt_zero _)), (fun i hi => absurd hi (Nat.not_lt_zero _)), fun k h => (by cases h), fun k h => (by cases h), fun k h => (by cases h), Below.refl _ _⟩
theorem only_grown {w w' : World} {v : Value} (hg : w.grownBy w' v.ownBlock) : Only v.ownBlock.toList w w' := (Only.refl _ w).grown hg (fun k hk => .inl (by simp [hk]))
theorem new_blk {v v' : Value} {n b : Nat} (hv : v'.ownBlock = v.ownBlock ∨ v'.ownBlock = some n) (h1 : v.ownBlock ≠ some b) (h2 : b < n) : v'.ownBlock ≠ some b := by
  rcases hv with h | h
  · rw [h]; exact h1
  · rw [h]; intro h3; injection h3 with h3; omega
theorem Bk.down {w0 w w' : World} {v7 v8 v9 : Value} {A R : List (List Nat)} {B : List Nat} {Q : List (Nat × Nat × List Nat)} {x7 x8 : List Value} (H : Bk w0 w v7 v8 v9 A R B Q x7 x8) (hb : Below w.heap.size w w') : Bk w0 w' v7 v8 v9 A R B Q x7 x8 :=
  ⟨owns_only H.r7 (Only.of_below hb []) (fun _ _ => by simp), owns_only H.r8 (Only.of_below hb []) (fun _ _ => by simp), owns_only H.r9 (Only.of_below hb []) (fun _ _ => by simp),
    fun b off s h => ⟨(H.q b off s h).1.below hb, Nat.lt_of_lt_of_le (H.q b off s h).2.1 hb.size, (H.q b off s h).2.2⟩, H.p7, H.p8, H.o78, H.o79, H.o89, H.below.trans (hb.mono H.below.size)⟩
/-- the sectors that a Split gave are kept with the rest -/
theorem Bk.more {w0 w w2 : World} {v7 v8 v9 : Value} {A R S : List (List Nat)} {B : List Nat} {Q : List (Nat × Nat × List Nat)} {x7 x8 : List Value} {h ms : Nat} (H : Bk w0 w v7 v8 v9 A R B Q x7 x8) (hb : Below w.heap.size w w2) (hS : Spt w2 w.heap.size h ms S) :
    Bk w0 w2 v7 v8 v9 A R B (Q ++ (List.range S.length).map fun i => (ms, i * 256, S.getD i [])) x7 x8 := by
  have H2 := H.down hb
  refine ⟨H2.r7, H2.r8, H2.r9, fun b off s hm => ?_, fun i hi => ?_, H2.p8, H2.o78, H2.o79, H2.o89, H2.below⟩
  · rcases List.mem_append.1 hm with hm | hm
    · exact H2.q b off s hm
    · obtain ⟨i, hi, he⟩ := List.mem_map.1 hm
      have hi2 := List.mem_range.1 hi
      simp only [Prod.mk.injEq] at he
      obtain ⟨rfl, rfl, rfl⟩ := he
      have e : S.getD i [] = S[i] := by simp [List.getD, List.getElem?_eq_getElem hi2]
      have hl := hS.low.2.1
      rw [e]
      exact ⟨hS.bys i hi2, hS.mem.lt, fun h => by have := (H.r7.lt _ h).2; omega, fun h => by have := (H.r8.lt _ h).2; omega, fun h => by have := (H.r9.lt _ h).2; omega⟩
  · obtain ⟨k1, b, off, k2, k3⟩ := H2.p7 i hi
    exact ⟨k1, b, off, k2, List.mem_append_left _ k3⟩
theorem Bk.add9 {w0 w3 w4 : World} {v7 v8 v9 v9' : Value} {A R : List (List Nat)} {B : List Nat} {Q : List (Nat × Nat × List Nat)} {x7 x8 : List Value} {t n9 : Nat} (H : Bk w0 w3 v7 v8 v9 A R B Q x7 x8) (hn : B.length = n9)
    (hown : w4.ownsRow w0.heap.size 3 1 v9' (n9 + 1) ((B.map fun b => .int .i64 ((b : Nat) : Int)) ++ [.int .i64 (t : Int)])) (hg : w3.grownBy w4 v9.ownBlock) (hv : v9'.ownBlock = v9.ownBlock ∨ v9'.ownBlock = some w3.heap.size) :
    Bk w0 w4 v7 v8 v9' A R (B ++ [t]) Q x7 x8 ∧ Only v9.ownBlock.toList w3 w4 := by
  subst hn
  have ho := only_grown hg
  refine ⟨⟨owns_only H.r7 ho (fun g hg h => H.o79 g hg (by simpa using h)), owns_only H.r8 ho (fun g hg h => H.o89 g hg (by simpa using h)), ?_, fun b off s hm => ?_, H.p7, H.p8, H.o78, fun k hk => new_blk hv (H.o79 k hk) (H.r7.lt k hk).2, fun k hk => new_blk hv (H.o89 k hk) (H.r8.lt k hk).2, H.below.grown hg H.below.size (fun k hk => (H.r9.lt k hk).1)⟩, ho⟩
  · rw [List.length_append, List.length_singleton, List.map_append]; exact hown
  · obtain ⟨q1, q2, q3, q4, q5⟩ := H.q b off s hm
    exact ⟨q1.only ho (fun x hx h => by injection hx with hx; subst hx; exact q5 (by simpa using h)), Nat.lt_of_lt_of_le q2 ho.size, q3, q4, new_blk hv q5 q2⟩
theorem Bk.add7 {w0 w3 w4 : World} {v7 v8 v9 v7' : Value} {A R S : List (List Nat)} {B : List Nat} {Q : List (Nat × Nat × List Nat)} {x7 x8 ys : List Value} {n7 ns : Nat} (H : Bk w0 w3 v7 v8 v9 A R B Q x7 x8) (hn : A.length = n7) (hns : S.length = ns)
    (hy : ∀ i (hi : i < S.length), S[i].length = 256 ∧ ∃ b off, ys[i]? = some (.slice (some ⟨b, off, none⟩) 256 256) ∧ (b, off, S[i]) ∈ Q)
    (hown : w4.ownsRow w0.heap.size 23 1 v7' (n7 + ns) (x7 ++ ys)) (hg : w3.grownBy w4 v7.ownBlock) (hv : v7'.ownBlock = v7.ownBlock ∨ v7'.ownBlock = some w3.heap.size) :
    Bk w0 w4 v7' v8 v9 (A ++ S) R B Q (x7 ++ ys) x8 ∧ Only v7.ownBlock.toList w3 w4 := by
  subst hn; subst hns
  have ho := only_grown hg
  have hx7 : x7.length = A.length := by have := H.r7.1; omega
  have h78 : ∀ k, v8.ownBlock = some k → v7.ownBlock ≠ some k := fun k hk h => H.o78 k h hk
  have h79 : ∀ k, v9.ownBlock = some k → v7.ownBlock ≠ some k := fun k hk h => H.o79 k h hk
  refine ⟨⟨?_, owns_only H.r8 ho (fun g hg h => h78 g hg (by simpa using h)), owns_only H.r9 ho (fun g hg h => h79 g hg (by simpa using h)), fun b off s hm => ?_, fun i hi => ?_, H.p8, fun k hk h => new_blk hv (h78 k h) (H.r8.lt k h).2 hk, fun k hk h => new_blk hv (h79 k h) (H.r9.lt k h).2 hk, H.o89, H.below.grown hg H.below.size (fun k hk => (H.r7.lt k hk).1)⟩, ho⟩
  · rw [List.length_append]; exact hown
  · obtain ⟨q1, q2, q3, q4, q5⟩ := H.q b off s hm
    exact ⟨q1.only ho (fun x hx h => by injection hx with hx; subst hx; exact q3 (by simpa using h)), Nat.lt_of_lt_of_le q2 ho.size, new_blk hv q3 q2, q4, q5⟩
  · by_cases hi2 : i < A.length
    · obtain ⟨k1, b, off, k2, k3⟩ := H.p7 i hi2
      rw [List.getElem_append_left hi2]
      exact ⟨k1, b, off, by rw [List.getElem?_append_left (by omega)]; exact k2, k3⟩
    · have hi3 : i - A.length < S.length := by rw [List.length_append] at hi; omega
      obtain ⟨k1, b, off, k2, k3⟩ := hy _ hi3
      rw [List.getElem_append_right (by omega)]
      exact ⟨k1, b, off, by rw [List.getElem?_append_right (by omega), hx7]; exact k2, k3⟩
theorem Bk.add8 {w0 w3 w4 : World} {v7 v8 v9 v8' : Value} {A R : List (List Nat)} {B : List Nat} {Q : List (Nat × Nat × List Nat)} {x7 x8 : List Value} {r : List Nat} {a : Option Addr} {c n8 L : Nat} (H : Bk w0 w3 v7 v8 v9 A R B Q x7 x8) (hn : R.length = n8) (hL : r.length = L) (hc : L ≤ c) (hr : Bys w0 a r)
    (hown : w4.ownsRow w0.heap.size 23 1 v8' (n8 + 1) (x8 ++ [.slice a L c])) (hg : w3.grownBy w4 v8.ownBlock) (hv : v8'.ownBlock = v8.ownBlock ∨ v8'.ownBlock = some w3.heap.size) :
    Bk w0 w4 v7 v8' v9 A (R ++ [r]) B Q x7 (x8 ++ [.slice a L c]) := by
  subst hn; subst hL
  have ho := only_grown hg
  have hx8 : x8.length = R.length := by have := H.r8.1; omega
  have h89 : ∀ k, v9.ownBlock = some k → v8.ownBlock ≠ some k := fun k hk h => H.o89 k h hk
  refine ⟨owns_only H.r7 ho (fun g hg h => H.o78 g hg (by simpa using h)), ?_, owns_only H.r9 ho (fun g hg h => h89 g hg (by simpa using h)), fun b off s hm => ?_, H.p7, fun i hi => ?_, fun k hk => new_blk hv (H.o78 k hk) (H.r7.lt k hk).2, H.o79, fun k hk h => new_blk hv (h89 k h) (H.r9.lt k h).2 hk, H.below.grown hg H.below.size (fun k hk => (H.r8.lt k hk).1)⟩
  · rw [List.length_append]; exact hown
  · obtain ⟨q1, q2, q3, q4, q5⟩ := H.q b off s hm
    exact ⟨q1.only ho (fun x hx h => by injection hx with hx; subst hx; exact q4 (by simpa using h)), Nat.lt_of_lt_of_le q2 ho.size, q3, new_blk hv q4 q2, q5⟩
  · by_cases hi2 : i < R.length
    · obtain ⟨a', c', k1, k2, k3⟩ := H.p8 i hi2
      rw [List.getElem_append_left hi2]
      exact ⟨a', c', by rw [List.getElem?_append_left (by omega)]; exact k1, k2, k3⟩
    · have hi3 : i = R.length := by simp at hi; omega
      subst hi3
      have e : (R ++ [r])[R.length] = r := by simp
      rw [e]
      exact ⟨a, c, by rw [← hx8]; simp, hc, hr⟩
/-- the sectors that lie there -/
theorem Bk.rws7 {w0 w : World} {v7 v8 v9 : Value} {A R : List (List Nat)} {B : List Nat} {Q : List (Nat × Nat × List Nat)} {x7 x8 : List Value} (H : Bk w0 w v7 v8 v9 A R B Q x7 x8) (hA : A.length ≤ 1000) : ∃ a c, v7 = .slice a A.length c ∧ Rws w a A ∧ A.length ≤ c := by
  have hx7 : x7.length = A.length := by have := H.r7.1; omega
  rcases H.r7.2 with ⟨hv, h0⟩ | ⟨g, c, cur, hv, _, hh, hc, _, hs, ht⟩
  · rw [List.eq_nil_of_length_eq_zero h0] at hA ⊢
    exact ⟨none, 0, hv, ⟨by simp, fun h => absurd rfl h⟩, Nat.le_refl _⟩
  · refine ⟨_, c, hv, ⟨by unfold maxLen; omega, fun _ => ⟨g, 0, rfl, (Array.getElem?_eq_some_iff.1 hh).1, fun i hi => ?_⟩⟩, hc⟩
    obtain ⟨k1, b, off, k2, k3⟩ := H.p7 i hi
    refine ⟨some ⟨b, off, none⟩, 256, ?_, by omega, (H.q _ _ _ k3).1⟩
    have h2 := congrArg (fun l => l[i]?) ht
    simp only [List.getElem?_take] at h2
    rw [if_pos (by omega)] at h2
    rw [Nat.zero_add, cell_of_row _ _ _ _ _ _ hh, ← Array.getElem?_toList, h2, k2, k1]
/-- the first j records that lie there -/
theorem Bk.rws8 {w0 w : World} {v7 v8 v9 : Value} {A R : List (List Nat)} {B : List Nat} {Q : List (Nat × Nat × List Nat)} {x7 x8 : List Value} (H : Bk w0 w v7 v8 v9 A R B Q x7 x8) (hR : R.length ≤ 1000000000) : ∃ a c, v8 = .slice a R.length c ∧ R.length ≤ c ∧ ∀ j, Rws w a (R.take j) := by
  have hx8 : x8.length = R.length := by have := H.r8.1; omega
  rcases H.r8.2 with ⟨hv, h0⟩ | ⟨g, c, cur, hv, _, hh, hc, _, hs, ht⟩
  · rw [List.eq_nil_of_length_eq_zero h0] at hR ⊢
    exact ⟨none, 0, hv, Nat.le_refl _, fun j => ⟨by simp, fun h => absurd (by simp) h⟩⟩
  · refine ⟨_, c, hv, hc, fun j => ⟨by rw [List.length_take]; unfold maxLen; omega, fun _ => ⟨g, 0, rfl, (Array.getElem?_eq_some_iff.1 hh).1, fun i hi => ?_⟩⟩⟩
    have hi2 : i < R.length := by rw [List.length_take] at hi; omega
    obtain ⟨a, c', k1, k2, k3⟩ := H.p8 i hi2
    rw [List.getElem_take]
    refine ⟨a, c', ?_, k2, k3.below H.below⟩
    have h2 := congrArg (fun l => l[i]?) ht
    simp only [List.getElem?_take] at h2
    rw [if_pos (by omega)] at h2
    rw [Nat.zero_add, cell_of_row _ _ _ _ _ _ hh, ← Array.getElem?_toList, h2, k1]
/-- where each begins -/
theorem Bk.ints {w0 w : World} {v7 v8 v9 : Value} {A R : List (List Nat)} {B : List Nat} {Q : List (Nat × Nat × List Nat)} {x7 x8 : List Value} (H : Bk w0 w v7 v8 v9 A R B Q x7 x8) (h0 : 0 < B.length) : ∃ g c, v9 = .slice (some ⟨g, 0, none⟩) B.length c ∧ g < w.heap.size ∧ ∀ i (hi : i < B.length), w.cell? ⟨g, i, none⟩ = some (.int .i64 ((B[i] : Nat) : Int)) := by
  rcases H.r9.2 with ⟨_, h1⟩ | ⟨g, c, cur, hv, _, hh, hc, _, hs, ht⟩
  · omega
  · refine ⟨g, c, hv, (Array.getElem?_eq_some_iff.1 hh).1, fun i hi => ?_⟩
    have h2 := congrArg (fun l => l[i]?) ht
    simp only [List.getElem?_take] at h2
    rw [if_pos (by omega)] at h2
    rw [cell_of_row _ _ _ _ _ _ hh, ← Array.getElem?_toList, h2]
    simp [hi]
/-- where the records of a row begin -/
def starts (R : List (List Nat)) : List Nat := (List.range R.length).map fun j => Fr.total (R.take j)
theorem starts_snoc (R : List (List Nat)) (r : List Nat) : starts (R ++ [r]) = starts R ++ [Fr.total R] := by
  unfold starts
  rw [List.length_append, List.length_singleton, List.range_succ, List.map_append, List.map_singleton]
  congr 1
  · refine List.map_congr_left fun j hj => ?_
    have := List.mem_range.1 hj
    rw [List.take_append_of_le_length (by omega)]
  · simp
structure Taken (seg : Nat) (A R : List (List Nat)) (B : List Nat) (T rl : Nat) : Prop where
  all : A = Fr.catS seg 0 R
  bg : B = starts R
  tot : Fr.total R = T
  len : R.length = rl
  short : ∀ r ∈ R, r.length ≤ 7680
theorem Taken.start (seg : Nat) : Taken seg [] [] [] 0 0 := ⟨rfl, rfl, rfl, rfl, fun r h => by cases h⟩
theorem Taken.next {seg : Nat} {A R : List (List Nat)} {B : List Nat} {T rl : Nat} (H : Taken seg A R B T rl) (r : List Nat) (hr : r.length ≤ 7680) : Taken seg (A ++ Fr.cutS seg T r) (R ++ [r]) (B ++ [T]) (T + Fr.need r.length) (rl + 1) := by
  obtain ⟨h1, h2, h3, h4, h5⟩ := H
  refine ⟨?_, ?_, ?_, ?_, fun x hx => ?_⟩
  · rw [Fr.catS_snoc, h1, h3, Nat.zero_add]
  · rw [starts_snoc, h2, h3]
  · rw [Fr.total_snoc, h3]
  · rw [List.length_append, h4]; rfl
  · rcases List.mem_append.1 hx with hx | hx
    · exact h5 x hx
    · simp at hx; subst hx; exact hr
theorem Taken.lens {seg : Nat} {A R : List (List Nat)} {B : List Nat} {T rl : Nat} (H : Taken seg A R B T rl) : A.length = T ∧ B.length = rl := by
  obtain ⟨h1, h2, h3, h4, h5⟩ := H
  refine ⟨by rw [h1, Fr.catS_len, h3], by rw [h2]; simp [starts, h4]⟩
theorem starts_get (R : List (List Nat)) (j : Nat) (hj : j < R.length) : (starts R)[j]? = some (Fr.total (R.take j)) := by
  unfold starts
  rw [List.getElem?_map, List.getElem?_range hj]; rfl
end Go.Proofs.Ytlegdaoidjpokaa
namespace Go.Proofs.Ytlegdaoidjpokaa
set_option linter.unusedVariables false
set_option linter.unusedSimpArgs false
open Go.RowKit
open B2 (Only Row Lots owns_only)
theorem OutR.rws {w : World} {N : Nat} {v : Value} {rs : List (List Nat)} {X : Nat → Value} (h : OutR w N v rs X) (h8 : ∀ r ∈ rs, ∀ c ∈ r, c < 256) (hl : rs.length ≤ 1000000000) : ∃ a c, v = .slice a rs.length c ∧ Rws w a rs := by
  obtain ⟨a, c, hv⟩ := h.shape
  refine ⟨a, c, hv, by unfold maxLen; omega, fun hn => ?_⟩
  have h0 : 0 < rs.length := by cases rs with | nil => exact absurd rfl hn | cons x l => simp
  obtain ⟨g, c2, _, _, hv2, hc2, _⟩ := h.cell 0 h0
  rw [hv] at hv2
  injection hv2 with ha _ _
  refine ⟨g, 0, ha, World.block_lt_of_cell? _ _ hc2, fun i hi => ?_⟩
  obtain ⟨g', c3, xa, xc, hv3, hc3, hx⟩ := h.cell i hi
  rw [hv] at hv3
  injection hv3 with ha3 _ _
  have hgg : g' = g := by rw [ha] at ha3; injection ha3 with h5; injection h5 with h6; exact h6.symm
  subst hgg
  have hown := h.lots.own i
  have e : rs.getD i [] = rs[i] := by simp [List.getD, List.getElem?_eq_getElem hi]
  simp only [e] at hown
  obtain ⟨a4, c4, hx4, hb4, hc4⟩ := OwnB.bys (v := X i) (ds := rs[i]) hown (h8 _ (List.getElem_mem hi))
  rw [hx] at hx4
  injection hx4 with e1 _ e2
  subst e1; subst e2
  exact ⟨xa, xc, by rw [Nat.zero_add]; exact hc3, hc4, hb4⟩
theorem Bk.byt {w0 w : World} {v7 v8 v9 : Value} {A R : List (List Nat)} {B : List Nat} {Q : List (Nat × Nat × List Nat)} {x7 x8 : List Value} (H : Bk w0 w v7 v8 v9 A R B Q x7 x8) : ∀ r ∈ R, ∀ c ∈ r, c < 256 := by
  intro r hr
  obtain ⟨i, hi, rfl⟩ := List.getElem_of_mem hr
  obtain ⟨a, c, _, _, hb⟩ := H.p8 i hi
  exact hb.2.1
theorem Bk.src7 {w0 w : World} {v7 v8 v9 : Value} {A R : List (List Nat)} {B : List Nat} {Q : List (Nat × Nat × List Nat)} {x7 x8 : List Value} (H : Bk w0 w v7 v8 v9 A R B Q x7 x8) (h0 : 0 < A.length) :
    x7.length = A.length ∧ (∀ u ∈ x7, u.oneCell' = true) ∧ ∃ g c, v7 = .slice (some ⟨g, 0, none⟩) A.length c ∧ ∀ j u, x7[j]? = some u → w.cell? ((⟨g, 0, none⟩ : Addr).add j) = some u := by
  have hx7 : x7.length = A.length := by have := H.r7.1; omega
  refine ⟨hx7, fun u hu => ?_, ?_⟩
  · obtain ⟨i, hi, rfl⟩ := List.getElem_of_mem hu
    obtain ⟨_, b, off, k, _⟩ := H.p7 i (by omega)
    rw [List.getElem?_eq_getElem hi] at k
    injection k with k
    rw [k]; simp [Value.oneCell']
  · rcases H.r7.2 with ⟨_, h1⟩ | ⟨g, c, cur, hv, _, hh, hc, _, hs, ht⟩
    · omega
    · refine ⟨g, c, hv, fun j u hu => ?_⟩
      have hj : j < x7.length := (List.getElem?_eq_some_iff.1 hu).1
      have h2 := congrArg (fun l => l[j]?) ht
      simp only [List.getElem?_take] at h2
      rw [if_pos (by omega)] at h2
      rw [B2.add_here, cell_of_row _ _ _ _ _ _ hh, ← Array.getElem?_toList, h2, hu]
/-- a row of slices, copied to a row of their own -/
theorem copy_own {wr w5 : World} {n : Nat} {xs : List Value} {v2 : Value} (hown : w5.ownsRow wr.heap.size 23 1 v2 (0 + n) ([] ++ xs)) (h0 : 0 < n) : ∃ g2 c2, v2 = .slice (some ⟨g2, 0, none⟩) n c2 ∧ wr.heap.size ≤ g2 ∧ n ≤ c2 ∧ ∃ cur : Array Value, w5.heap[g2]? = some (.cells cur 23 (0, 0)) ∧ n ≤ cur.size ∧ ∀ i, i < n → cur[i]? = xs[i]? := by
  rw [Nat.zero_add, List.nil_append] at hown
  rcases hown.2 with ⟨_, h1⟩ | ⟨g, c, cur, hv, hN, hh, hc, _, hs, ht⟩
  · omega
  · refine ⟨g, c, hv, hN, hc, cur, hh, by omega, fun i hi => ?_⟩
    have h2 := congrArg (fun l => l[i]?) ht
    simp only [List.getElem?_take] at h2
    rw [if_pos (by omega)] at h2
    rw [← Array.getElem?_toList]
    exact h2
def zeroSec : List Nat := List.replicate 256 0
theorem make256z (W : World) : (Instr.makeSlice 23 (.int .i64 256) (.int .i64 256)).run Try.prog W = .ok (.slice (some ⟨W.heap.size, 0, none⟩) 256 256) (W.alloc (.cells (cellsOf zeroSec).toArray 5)) := make256 W
theorem some_rws {w0 w3 w5 : World} {v7 v8 v9 : Value} {A R : List (List Nat)} {B : List Nat} {Q : List (Nat × Nat × List Nat)} {x7 x8 : List Value} {g2 k nd : Nat} (H : Bk w0 w3 v7 v8 v9 A R B Q x7 x8) (hb : Below w3.heap.size w3 w5) (hg : w3.heap.size ≤ g2) (hn : A.length = nd)
    (hrow : ∃ cur : Array Value, w5.heap[g2]? = some (.cells cur 23 (0, 0)) ∧ nd ≤ cur.size ∧ ∀ i, i < nd → cur[i]? = x7[i]?) (hk : k < nd) (hA : nd ≤ 1000) :
    Below w3.heap.size w3 ((w5.alloc (.cells (cellsOf zeroSec).toArray 5)).setCell ⟨g2, k, none⟩ (.slice (some ⟨w5.heap.size, 0, none⟩) 256 256)) ∧ Rws ((w5.alloc (.cells (cellsOf zeroSec).toArray 5)).setCell ⟨g2, k, none⟩ (.slice (some ⟨w5.heap.size, 0, none⟩) 256 256)) (some ⟨g2, 0, none⟩) (A.set k zeroSec) := by
  subst hn
  obtain ⟨cur, h1, h2, h3⟩ := hrow
  have hglt : g2 < w5.heap.size := (Array.getElem?_eq_some_iff.1 h1).1
  have hA5 := (Below.refl w5.heap.size w5).alloc (Nat.le_refl _) (.cells (cellsOf zeroSec).toArray 5)
  have h1a : (w5.alloc (.cells (cellsOf zeroSec).toArray 5)).heap[g2]? = some (.cells cur 23 (0, 0)) := (hA5.block _ hglt).trans h1
  have hz : Bys (w5.alloc (.cells (cellsOf zeroSec).toArray 5)) (some ⟨w5.heap.size, 0, none⟩) zeroSec := made_bys 256 (by decide) w5
  generalize w5.alloc (.cells (cellsOf zeroSec).toArray 5) = W at *
  have ho : Only [g2] W (W.setCell ⟨g2, k, none⟩ (.slice (some ⟨w5.heap.size, 0, none⟩) 256 256)) := (Only.refl [g2] W).setCell (p := ⟨g2, k, none⟩) (.inl (by simp)) _
  have hbW : Below w3.heap.size w3 (W.setCell ⟨g2, k, none⟩ (.slice (some ⟨w5.heap.size, 0, none⟩) 256 256)) := (hb.trans (hA5.mono hb.size)).setCell hg _
  have hz6 := hz.only ho (fun x hx h => by injection hx with hx; subst hx; simp at h; omega)
  refine ⟨hbW, by rw [List.length_set]; unfold maxLen; omega, fun _ => ⟨g2, 0, rfl, ?_, fun i hi => ?_⟩⟩
  · have := ho.size; have := hA5.size; omega
  have hi2 : i < A.length := by rw [List.length_set] at hi; exact hi
  have hcell : (W.setCell ⟨g2, k, none⟩ (.slice (some ⟨w5.heap.size, 0, none⟩) 256 256)).cell? ⟨g2, i, none⟩ = (cur.setIfInBounds k (.slice (some ⟨w5.heap.size, 0, none⟩) 256 256))[i]? := cell_of_row _ _ _ _ _ _ (heap_setCell_same _ _ _ _ _ _ h1a)
  rw [Nat.zero_add, hcell]
  rw [Array.getElem?_setIfInBounds]
  by_cases e : k = i
  · subst e
    have e1 : (A.set k zeroSec)[k] = zeroSec := by simp
    rw [if_pos rfl, if_pos (by omega), e1]
    exact ⟨_, 256, by unfold zeroSec; rw [List.length_replicate], by unfold zeroSec; rw [List.length_replicate]; exact Nat.le_refl _, hz6⟩
  · have e1 : (A.set k zeroSec)[i] = A[i] := by rw [List.getElem_set, if_neg e]
    obtain ⟨k1, b, off, k2, k3⟩ := H.p7 i hi2
    rw [if_neg e, e1, h3 i hi2, k2, k1]
    exact ⟨_, 256, rfl, Nat.le_refl _, (H.q _ _ _ k3).1.below hbW⟩
/-- which record a sector belongs to -/
theorem find_ahead (R : List (List Nat)) : ∀ k, k < Fr.total R → ∃ al, al < R.length ∧ Fr.total (R.take al) ≤ k ∧ k < Fr.total (R.take (al + 1)) := by
  induction R with
  | nil => intro k h; simp [Fr.total] at h
  | cons r R ih =>
    intro k h
    simp only [Fr.total] at h
    by_cases h1 : k < Fr.need r.length
    · exact ⟨0, by simp, by simp [Fr.total], by simp only [List.take_succ_cons, Fr.total]; omega⟩
    · obtain ⟨al, h2, h3, h4⟩ := ih (k - Fr.need r.length) (by omega)
      exact ⟨al + 1, by simp; omega, by simp only [List.take_succ_cons, Fr.total]; omega, by simp only [List.take_succ_cons, Fr.total] at h4 ⊢; omega⟩
/-- both scans, of what was taken -/
theorem Taken.scan {seg : Nat} {A R : List (List Nat)} {B : List Nat} {T rl : Nat} (H : Taken seg A R B T rl) (hT : T ≤ 32) : Fr.scan seg A = (R, T) := by
  have := H.tot
  rw [H.all, Fr.scan_cat seg R H.short (by omega), this]
theorem Taken.scan_at {seg : Nat} {A R : List (List Nat)} {B : List Nat} {T rl k al : Nat} (H : Taken seg A R B T rl) (hT : T ≤ 32) (hal : al < rl) (h1 : Fr.total (R.take al) ≤ k) (h2 : k < Fr.total (R.take (al + 1))) : Fr.scan seg (A.set k zeroSec) = (R.take al, Fr.total (R.take al)) := by
  have := H.tot
  have := H.len
  rw [H.all]
  exact Fr.scan_hurt seg k al R H.short (by omega) (by omega) h1 h2
end Go.Proofs.Ytlegdaoidjpokaa
namespace Go.Proofs.Ytlegdaoidjpokaa
set_option linter.unusedVariables false
set_option linter.unusedSimpArgs false
open Go.RowKit
open B2 (Only Row Lots owns_only)
theorem info3 : (Try.prog.info? 3).map (fun i => (i.zero, i.size, i.bytes)) = some (some (.int .i64 0), 1, 8) := by kernel_rfl
theorem back_much (seg n cap hurt : Nat) (a : Option Addr) (Ls : List (List Nat)) (hn : Ls.length = n) (hn9 : n ≤ 140737488355328) (hl9 : ∀ l ∈ Ls, l.length ≤ 140737488355328) (hm : 100000 < mucher Ls Ls.length) (w : World) (H : Rws w a Ls) :
    Calls Try.prog 5 #[.int .u32 seg, .slice a n cap, .int .u8 hurt] w fun e w' => e = .returned (.bool true) ∧ Below w.heap.size w w' := by
  have CM := Lib.hid (much_any a Ls n cap hn hn9 hl9 w H)
  rw [decide_eq_true hm] at CM
  have CK := Lib.hid (known_any w)
  clear hn hn9 hl9 hm H
  go_enter Try.func5, Try.ntmps5
  go_wp2_with fail
  go_at_call 17
  refine CM.out.mono ?_
  rintro e w1 ⟨rfl, rfl⟩
  clear CM
  go_wp2_with fail
  go_at_call 14
  refine CK.out.mono ?_
  rintro e w1 ⟨rfl, hb⟩
  have HB := Lib.hid hb
  clear hb
  go_wp2_with fail
  go_ret
  exact ⟨rfl, HB.out⟩
set_option maxHeartbeats 8000000 in
set_option maxRecDepth 100000 in
theorem back_law (seg n cap hurt : Nat) (a : Option Addr) (Ls : List (List Nat)) (hn : Ls.length = n) (hn9 : n ≤ 1000000) (hl9 : ∀ l ∈ Ls, l.length ≤ 140737488355328) (hm : ¬ 100000 < mucher Ls Ls.length) (hs : seg < 4294967296) (hh : hurt < 256) (w : World) (H : RwsC w a Ls) :
    Calls Try.prog 5 #[.int .u32 seg, .slice a n cap, .int .u8 hurt] w fun e w' => e = .returned (.bool true) ∧ Below w.heap.size w w' := by
  obtain ⟨i1, hi1, hy0, hy1, hy2⟩ := info_parts B2.info27
  obtain ⟨i3, hi3, hx0, hx1, hx2⟩ := info_parts info3
  have HI := Lib.hid (And.intro hi1 (And.intro hy0 (And.intro hy1 hy2)))
  have HI3 := Lib.hid (And.intro hi3 (And.intro hx0 (And.intro hx1 hx2)))
  have CM := Lib.hid (much_any a Ls n cap hn (by omega) hl9 w H.rws)
  rw [decide_eq_false hm] at CM
  have CK := Lib.hid (fun W => known_any W)
  have HR := Lib.hid H
  have HN := Lib.hid hn
  clear hn hl9 hm H hi1 hy0 hy1 hy2 hi3 hx0 hx1 hx2
  go_enter Try.func5, Try.ntmps5
  go_wp2_with fail
  go_at_call 17
  refine CM.out.mono ?_
  rintro e w1 ⟨rfl, rfl⟩
  clear CM
  go_wp2_with fail
  go_at_call 14
  refine (CK.out _).mono ?_
  rintro e w0 ⟨rfl, hb⟩
  have HB := Lib.hid hb
  have HR0 := Lib.hid (HR.out.below hb)
  have HK0 := Lib.hid (Bk.start w0)
  clear hb CK HR
  go_wp2_with fail
  go_loopw [7, 8, 9, 10] (fun v7 v8 v9 i wr => ∃ (j T rl : Nat) (A R : List (List Nat)) (B : List Nat) (Q : List (Nat × Nat × List Nat)) (x7 x8 : List Value), j ≤ n ∧ T ≤ 32 ∧ rl ≤ j ∧ i = .int .i64 j ∧ Hid (Bk w0 wr v7 v8 v9 A R B Q x7 x8) ∧ Hid (Taken seg A R B T rl)) (fun _ _ _ i _ => n - (intOf i).toNat)
  case atStart => exact ⟨0, 0, 0, [], [], [], [], [], [], Nat.zero_le _, by omega, Nat.le_refl _, rfl, HK0, Lib.hid (Taken.start seg)⟩
  case round =>
    clear HK0
    obtain ⟨j, T, rl, A, R, B, Q, x7, x8, hj, hT, hrl, rfl, HK, HT⟩ := hrel
    have hAl : A.length = T := HT.out.lens.1
    have hBl : B.length = rl := HT.out.lens.2
    have hRl : R.length = rl := HT.out.len
    obtain ⟨va, vc, rfl, hRw7, -⟩ := HK.out.rws7 (by omega)
    have HRW7 := Lib.hid hRw7
    obtain ⟨ra, rc, rfl, -, hRw8⟩ := HK.out.rws8 (by omega)
    have HRW8 := Lib.hid hRw8
    clear hRw7 hRw8
    obtain ⟨ba, bc, rfl⟩ : ∃ ba bc, u9 = Value.slice ba B.length bc := by
      rcases HK.out.r9.2 with ⟨hv, h0⟩ | ⟨g, c, _, hv, _⟩
      · exact ⟨none, 0, by rw [hv, h0]⟩
      · exact ⟨_, c, hv⟩
    rw [hAl, hBl, hRl] at HK
    rw [hAl, hBl, hRl]
    have HL := Lib.hid (And.intro hAl (And.intro hBl hRl))
    clear hAl hBl hRl
    by_cases hlt : j < n
    · have hd : decide ((j : Int) < (n : Int)) = true := by simp; omega
      have hd2 : decide (j < n) = true := by simp; omega
      by_cases h40 : j < 40
      · have hd3 : decide ((j : Int) < 40) = true := by simp; omega
        have hd4 : decide (j < 40) = true := by simp; omega
        have hjl : j < Ls.length := by have := HN.out; omega
        obtain ⟨hb, ho, rfl, hhb, hcc⟩ := HR0.out.2 (by intro h; rw [h] at hjl; simp at hjl)
        obtain ⟨x1, y1, k1, k2, k3, b1⟩ := hcc j hjl
        obtain ⟨r, hr⟩ : ∃ r, Ls[j] = r := ⟨_, rfl⟩
        rw [hr] at k1 k2 b1
        obtain ⟨L, hL⟩ : ∃ L, r.length = L := ⟨_, rfl⟩
        rw [hL] at k1 k2
        have q := (HK.out.below.cell (p := ⟨hb, ho + j, none⟩) hhb).trans k1
        have HCL := Lib.hid (fun W (hW : Below w0.heap.size w0 W) => show W.cell? ⟨hb, ho + j, none⟩ = some (.slice x1 L y1) from (hW.cell (p := ⟨hb, ho + j, none⟩) hhb).trans k1)
        have HB1 := Lib.hid (And.intro b1 (And.intro k2 (And.intro k3 hL)))
        clear hcc k1 k2 k3 b1 hr hjl hhb
        by_cases h7 : 7680 < L
        · have CS := Lib.hid (fun W => split_long x1 L y1 seg (T : Int) h7 W)
          go_wp2_with fail
          go_at_call 9
          refine (CS.out wr).mono ?_
          rintro e w2 ⟨rfl, rfl⟩
          clear CS
          go_wp2_with fail
          go_roundw
          case rel => exact ⟨j + 1, T, rl, A, R, B, Q, x7, x8, by omega, hT, by omega, by go_num, HK, HT⟩
          case measure => simp [intOf]; omega
        · by_cases h32 : T + Fr.need L ≤ 32
          · obtain ⟨nd, hnd⟩ : ∃ nd, Fr.need L = nd := ⟨_, rfl⟩
            obtain ⟨S, hS⟩ : ∃ S, Fr.cutS seg T r = S := ⟨_, rfl⟩
            have CS := Lib.hid (fun W hB hO => spl_ok x1 r L y1 seg T HB1.out.2.2.2 HB1.out.2.1 HB1.out.2.2.1 (by omega) hs h32 W hB hO)
            have hTN := HT.out.next r (by have := HB1.out.2.2.2; omega)
            rw [HB1.out.2.2.2, hnd, hS] at hTN
            have HTN := Lib.hid hTN
            have hSl : S.length = nd := by rw [← hS, Fr.cutS_len, HB1.out.2.2.2, hnd]
            have HSL := Lib.hid hSl
            have hnp : 0 < nd := by rw [← hnd]; exact Fr.need_pos L
            rw [hnd, hS] at CS
            rw [hnd] at h32
            clear hTN hSl hnd hS
            go_wp2_with fail
            go_at_call 9
            refine (CS.out wr (HB1.out.1.below HK.out.below) (fun x hx => (bys_old HB1.out.1 x hx).imp (fun h => Nat.lt_of_lt_of_le h HK.out.below.size) id)).mono ?_
            rintro e w2 ⟨h, ms, rfl, hSp, hb2⟩
            have hA := (Below.refl w2.heap.size w2).alloc (Nat.le_refl _) (.cells #[.int .i64 (T : Int)] 3)
            have HK3 := Lib.hid ((HK.out.more hb2 hSp).down hA)
            have HS3 := Lib.hid (hSp.below hA)
            have HWR := Lib.hid hb2.size
            have HOW9 := Lib.hid (show (w2.alloc (.cells #[.int .i64 (T : Int)] 3)).ownsRow w0.heap.size 3 1 (.slice ba rl bc) rl (B.map fun b => .int .i64 ((b : Nat) : Int)) from by have h := HK3.out.r9; rw [HL.out.2.1] at h; exact h)
            have HSRC9 := Lib.hid (B2.one_any w2 (.int .i64 (T : Int)) 3)
            have HONE9 := Lib.hid (show ∀ u ∈ ([.int .i64 (T : Int)] : List Value), u.oneCell' = true by simp [Value.oneCell'])
            have HMX := Lib.hid (show (rl + 1 ≤ maxLen ∧ (rl + 1) * 8 ≤ 140737488355328) ∧ (rl + 1) * 24 ≤ 140737488355328 ∧ T + nd ≤ maxLen ∧ (T + nd) * 24 ≤ 140737488355328 from ⟨⟨by unfold maxLen; omega, by omega⟩, by omega, by unfold maxLen; omega, by omega⟩)
            clear CS hSp hb2 hA
            go_wp2_with (first
              | (at_builtin; (with_reducible refine wpList_append_own_at _ rfl (.tmp 50) (.tmp 53) 75 rfl w0.heap.size 3 i3 (.int .i64 0) 1 8 Try.underlying75 HI3.out.1 HI3.out.2.1 HI3.out.2.2.1 HI3.out.2.2.2 rfl (by decide) (.slice ba rl bc) rl (B.map fun b => .int .i64 ((b : Nat) : Int)) rfl HOW9.out ⟨w2.heap.size, 0, none⟩ 1 1 [.int .i64 (T : Int)] rfl rfl HSRC9.out HONE9.out HMX.out.1.1 HMX.out.1.2 HK3.out.below.size ?_)
                 intro v9' w4 hown9 hgr9 _ hpl9
                 have H4 := HK3.out.add9 HL.out.2.1 hown9 hgr9 hpl9
                 have HS4 := Lib.hid (HS3.out.only H4.2 (fun k hk => (HK.out.r9.lt k (by simpa using hk)).2))
                 have HK4 := Lib.hid H4.1
                 have HOW7 := Lib.hid (show w4.ownsRow w0.heap.size 23 1 (.slice va T vc) T x7 from by have h := HK4.out.r7; rw [HL.out.1] at h; exact h)
                 have HSRC7 := Lib.hid (HS4.out.src HSL.out)
                 have HONE7 := Lib.hid (secs_one ms nd nd)
                 have HSN7 := Lib.hid (show (secs ms nd nd).length = nd * 1 by rw [secs_len, Nat.mul_one])
                 clear H4 hown9 hgr9 hpl9)
              | (at_builtin; (with_reducible refine wpList_append_own_at _ rfl (.tmp 55) (.tmp 56) 25 rfl w0.heap.size 23 i1 (.slice none 0 0) 1 24 Try.underlying25 HI.out.1 HI.out.2.1 HI.out.2.2.1 HI.out.2.2.2 rfl (by decide) (.slice va T vc) T x7 rfl HOW7.out ⟨h, 0, none⟩ nd nd (secs ms nd nd) rfl HSN7.out HSRC7.out HONE7.out HMX.out.2.2.1 HMX.out.2.2.2 HK4.out.below.size ?_)
                 intro v7' w5 hown7 hgr7 _ hpl7
                 have H5 := HK4.out.add7 HL.out.1 HSL.out (fun i hi => ⟨HS4.out.len _ (List.getElem_mem hi), ms, i * 256, by rw [secs_get _ _ _ _ (by rw [← HSL.out]; exact hi), if_pos (by rw [← HSL.out]; exact hi)], by
                   refine List.mem_append_right _ (List.mem_map.2 ⟨i, List.mem_range.2 hi, ?_⟩)
                   simp [List.getD, List.getElem?_eq_getElem hi]⟩) hown7 hgr7 hpl7
                 have q5 := HCL.out _ H5.1.below
                 have hA8 := (Below.refl w5.heap.size w5).alloc (Nat.le_refl _) (.cells #[.slice x1 L y1] 23)
                 have HK5 := Lib.hid (H5.1.down hA8)
                 have HOW8 := Lib.hid (show (w5.alloc (.cells #[.slice x1 L y1] 23)).ownsRow w0.heap.size 23 1 (.slice ra rl rc) rl x8 from by have h := HK5.out.r8; rw [HL.out.2.2] at h; exact h)
                 have HSRC8 := Lib.hid (B2.one_any w5 (.slice x1 L y1) 23)
                 have HONE8 := Lib.hid (show ∀ u ∈ ([.slice x1 L y1] : List Value), u.oneCell' = true by simp [Value.oneCell'])
                 clear H5 hown7 hgr7 hpl7 hA8)
              | (at_builtin; (with_reducible refine wpList_append_own_at _ rfl (.tmp 58) (.tmp 63) 25 rfl w0.heap.size 23 i1 (.slice none 0 0) 1 24 Try.underlying25 HI.out.1 HI.out.2.1 HI.out.2.2.1 HI.out.2.2.2 rfl (by decide) (.slice ra rl rc) rl x8 rfl HOW8.out ⟨w5.heap.size, 0, none⟩ 1 1 [.slice x1 L y1] rfl rfl HSRC8.out HONE8.out HMX.out.1.1 HMX.out.2.1 HK5.out.below.size ?_)
                 intro v8' w6 hown8 hgr8 _ hpl8
                 have HK6 := Lib.hid (HK5.out.add8 HL.out.2.2 HB1.out.2.2.2 HB1.out.2.1 HB1.out.1 hown8 hgr8 hpl8)
                 clear hown8 hgr8 hpl8))
            go_roundw
            case rel => exact ⟨j + 1, T + nd, rl + 1, A ++ S, R ++ [r], B ++ [T], _, _, _, by omega, h32, by omega, by go_num, HK6, HTN⟩
            case measure => simp [intOf]; omega
          · have CS := Lib.hid (fun W => split_arg x1 L y1 seg (T : Int) (by omega) (.inr (by omega)) (by omega) W)
            go_wp2_with fail
            go_at_call 9
            refine (CS.out wr).mono ?_
            rintro e w2 ⟨rfl, rfl⟩
            clear CS
            go_wp2_with fail
            go_roundw
            case rel => exact ⟨j + 1, T, rl, A, R, B, Q, x7, x8, by omega, hT, by omega, by go_num, HK, HT⟩
            case measure => simp [intOf]; omega
      · have hd3 : decide ((j : Int) < 40) = false := by simp; omega
        have hd4 : decide (j < 40) = false := by simp; omega
        have hsc1 := HT.out.scan hT
        have C1 := Lib.hid (scan_any va A T vc seg HL.out.1 (by omega) hs wr HRW7.out)
        rw [hsc1] at C1
        clear hsc1
        go_wp2_with fail
        go_at_call 19
        refine C1.out.mono ?_
        rintro e w2 ⟨hb2, v2, X2, rfl, hO2'⟩
        have hO2 : OutR w2 wr.heap.size v2 R X2 := hO2'
        obtain ⟨a2, c2, rfl, hR2⟩ := hO2.rws HK.out.byt (by have := HL.out.2.2; omega)
        simp only [HL.out.2.2]
        have HK2 := Lib.hid (HK.out.down hb2)
        have CS := Lib.hid (samerows_any a2 ra R rl c2 rc HL.out.2.2 (by omega) w2 hR2 (by have := (HRW8.out R.length).below hb2; rwa [List.take_length] at this))
        clear hb2 hO2 hO2' hR2 C1 HRW7 HRW8
        go_wp2_with fail
        go_at_call 15
        refine CS.out.mono ?_
        rintro e w3 ⟨rfl, hb3⟩
        have HK3 := Lib.hid (HK2.out.down hb3)
        clear hb3 HK2 CS HK
        by_cases hT0 : T = 0
        · have hz : ((T : Int) == 0) = true := by simp; omega
          have HBE := Lib.hid (HB.out.trans (HK3.out.below.mono HB.out.size))
          go_wp2_with fail
          go_ret
          exact ⟨rfl, HBE.out⟩
        · have hz : ((T : Int) == 0) = false := by simp; omega
          obtain ⟨k, hk⟩ : ∃ k : Nat, hurt % T = k := ⟨_, rfl⟩
          have hkT : k < T := by rw [← hk]; exact Nat.mod_lt _ (by omega)
          have hkm : (hurt : Int) % (T : Int) = (k : Int) := by rw [← hk]; exact (Int.natCast_emod hurt T).symm
          have hkt : (hurt : Int).tmod (T : Int) = (k : Int) := by rw [Int.tmod_eq_emod_of_nonneg (by omega)]; exact hkm
          obtain ⟨al, hal0, hal1, hal2⟩ := find_ahead R k (by have := HT.out.tot; omega)
          have hal : al < rl := by have := HL.out.2.2; omega
          have hsc2 := HT.out.scan_at hT hal hal1 hal2
          obtain ⟨tm, htm⟩ : ∃ tm, Fr.total (R.take al) = tm := ⟨_, rfl⟩
          rw [htm] at hsc2
          have HSC2 := Lib.hid hsc2
          have HAL := Lib.hid (And.intro hal1 (And.intro hal2 htm))
          obtain ⟨hx7, hone7, g7, c7, hv7, hsrc7⟩ := HK3.out.src7 (by have := HL.out.1; omega)
          have hv7a : va = some ⟨g7, 0, none⟩ := by injection hv7
          clear hv7
          subst hv7a
          have HLN := Lib.hid (show x7.length = T * 1 by have := HL.out.1; omega)
          have HSRC := Lib.hid hsrc7
          have HONE := Lib.hid hone7
          have HMX := Lib.hid (show 0 + T ≤ maxLen ∧ (0 + T) * 24 ≤ 140737488355328 from ⟨by unfold maxLen; omega, by omega⟩)
          have hmk := make256z
          clear hk hal0 hal1 hal2 hsc2 htm hx7 hone7 hsrc7
          go_wp2_with (at_builtin; refine wpList_append_own _ rfl (.tmp 89) (.tmp 90) 25 rfl w3.heap.size 23 i1 (.slice none 0 0) 1 24 Try.underlying25 HI.out.1 HI.out.2.1 HI.out.2.2.1 HI.out.2.2.2 rfl (by decide) _ 0 [] rfl (World.ownsRow_nil _ _ _ _) ⟨g7, 0, none⟩ T vc x7 rfl HLN.out HSRC.out HONE.out HMX.out.1 HMX.out.2 (Nat.le_refl _) ?_; intro v16 w5 hown5 hgr5 _; have hb5 := (Below.refl w3.heap.size w3).grown hgr5 (Nat.le_refl _) (fun k hk => by cases hk); obtain ⟨g2, c16, rfl, hg2, hc2, hrow5⟩ := copy_own hown5 (by omega); have HSR := Lib.hid (some_rws HK3.out hb5 hg2 HL.out.1 hrow5 hkT (by omega)); obtain ⟨cur, hcur, hcsz, hcget⟩ := hrow5; obtain ⟨-, bk, ok, hxk, -⟩ := HK3.out.p7 k (by have := HL.out.1; omega); have hcurA := ((((Below.refl w5.heap.size w5).alloc (Nat.le_refl _) (.cells (cellsOf zeroSec).toArray 5)).block _ (Array.getElem?_eq_some_iff.1 hcur).1).trans hcur); have hcell5 : w5.cell? ⟨g2, k, none⟩ = some (.slice (some ⟨bk, ok, none⟩) 256 256) := (cell_of_row _ _ _ _ _ _ hcur).trans ((hcget k hkT).trans hxk); have hfz5 : w5.frozen? ⟨g2, k, none⟩ = false := frozen_of_row _ _ _ _ _ hcur; have hcell6 : (w5.alloc (.cells (cellsOf zeroSec).toArray 5)).cell? ⟨g2, k, none⟩ = some (.slice (some ⟨bk, ok, none⟩) 256 256) := (cell_of_row _ _ _ _ _ _ hcurA).trans ((hcget k hkT).trans hxk); have hfz6 : (w5.alloc (.cells (cellsOf zeroSec).toArray 5)).frozen? ⟨g2, k, none⟩ = false := frozen_of_row _ _ _ _ _ hcurA; clear hown5 hgr5 hb5 hg2 hcur hcsz hcget hcurA hxk)
          have C2 := Lib.hid (scan_any (some ⟨g2, 0, none⟩) (A.set k zeroSec) T c16 seg (by rw [List.length_set]; exact HL.out.1) (by omega) hs _ HSR.out.2)
          rw [HSC2.out] at C2
          have HK6 := Lib.hid (HK3.out.down HSR.out.1)
          clear HSR HSC2 HK3 hcell5 hfz5 hcell6 hfz6 HSRC HONE HLN HMX hmk
          generalize (w5.alloc (.cells (cellsOf zeroSec).toArray 5)).setCell ⟨g2, k, none⟩ (.slice (some ⟨w5.heap.size, 0, none⟩) 256 256) = W6 at *
          go_at_call 19
          refine C2.out.mono ?_
          rintro e w7 ⟨hb7, v7b, X7, rfl, hO7'⟩
          have hO7 : OutR w7 W6.heap.size v7b (R.take al) X7 := hO7'
          have hRtl : (R.take al).length = al := by rw [List.length_take]; have := HL.out.2.2; omega
          obtain ⟨a7, c7b, rfl, hR7⟩ := hO7.rws (fun r hr => HK6.out.byt r (List.mem_of_mem_take hr)) (by omega)
          simp only [hRtl]
          have HK7 := Lib.hid (HK6.out.down hb7)
          have HBE := Lib.hid (HB.out.trans (HK7.out.below.mono HB.out.size))
          obtain ⟨g9, c9, hv9, hg9, hc9⟩ := HK7.out.ints (by have := HL.out.2.1; omega)
          have hv9a : ba = some ⟨g9, 0, none⟩ := by injection hv9
          clear hv9
          subst hv9a
          have HC9 := Lib.hid (fun i (hi : i < rl) => show w7.cell? ⟨g9, i, none⟩ = some (.int .i64 ((Fr.total (R.take i) : Nat) : Int)) from by
            have hi2 : i < B.length := by have := HL.out.2.1; omega
            have h1 := hc9 i hi2
            have h2 := starts_get R i (by have := HL.out.2.2; omega)
            rw [← HT.out.bg, List.getElem?_eq_getElem hi2] at h2
            injection h2 with h2
            rw [h1, h2])
          obtain ⟨a8, c8, hv8, hc8, hr8⟩ := HK7.out.rws8 (by have := HL.out.2.2; omega)
          have hv8a : ra = a8 := by injection hv8
          have hv8c : rc = c8 := by injection hv8
          have halc : al ≤ rc := by have := HL.out.2.2; omega
          clear hv8c hc8
          clear hv8
          subst hv8a
          have hne8 : R.take rl ≠ [] := by
            intro h
            have h2 : (R.take rl).length = 0 := by rw [h]; rfl
            rw [List.length_take] at h2
            have := HL.out.2.2
            omega
          obtain ⟨g8, o8, rfl, -, -⟩ := (hr8 rl).2 hne8
          have CS2 := Lib.hid (fun cc => samerows_any a7 (some ⟨g8, o8, none⟩) (R.take al) al c7b cc hRtl (by omega) w7 hR7 (hr8 al))
          have q0 := HC9.out al hal
          rw [HAL.out.2.2] at q0
          have HQ0 := Lib.hid q0
          clear hb7 hO7 hO7' hR7 C2 HK6 HK7 hc9 hg9 hr8 hRtl q0
          go_wp2_with fail
          go_loopw [19] (fun i wx => ∃ t : Nat, t ≤ al ∧ i = .int .i64 t ∧ wx = w7) (fun i _ => al - (intOf i).toNat)
          case atStart => exact ⟨0, Nat.zero_le _, rfl, rfl⟩
          case round =>
            obtain ⟨t, ht, rfl, rfl⟩ := hrel
            obtain ⟨t1, ht1⟩ : ∃ t1, t + 1 = t1 := ⟨_, rfl⟩
            have hte : (t : Int) + 1 = (t1 : Int) := by omega
            by_cases hta : t < al
            · have hdr : decide ((t1 : Int) < (rl : Int)) = true := by simp; omega
              have hdr2 : decide (t1 < rl) = true := by simp; omega
              have q1 := HC9.out t1 (by omega)
              have hle := Fr.total_take_le R t1 al (by omega)
              obtain ⟨m1, hm1⟩ : ∃ m1, Fr.total (R.take t1) = m1 := ⟨_, rfl⟩
              rw [hm1] at q1 hle
              have hdk : decide ((m1 : Int) ≤ (k : Int)) = true := by have := HAL.out.1; simp; omega
              have hdk2 : decide (m1 ≤ k) = true := by have := HAL.out.1; simp; omega
              clear hm1 hle
              go_wp2_with fail
              go_roundw
              case rel => exact ⟨t1, by omega, by go_num, by first | rfl | trivial⟩
              case measure => simp [intOf]; omega
            · obtain rfl : t = al := by omega
              clear hta
              have q0 := HQ0.out
              by_cases hlast : t1 < rl
              · have hdr : decide ((t1 : Int) < (rl : Int)) = true := by simp; omega
                have hdr2 : decide (t1 < rl) = true := by simp; omega
                have q1 := HC9.out t1 hlast
                have hle := HAL.out.2.1
                rw [ht1] at hle
                obtain ⟨m1, hm1⟩ : ∃ m1, Fr.total (R.take t1) = m1 := ⟨_, rfl⟩
                rw [hm1] at q1 hle
                have hdk : decide ((m1 : Int) ≤ (k : Int)) = false := by simp; omega
                have hdk2 : decide (m1 ≤ k) = false := by simp; omega
                clear hm1 hle
                go_wp2_with fail
                go_at_call 15
                refine (CS2.out _).mono ?_
                rintro e w8 ⟨rfl, hb8⟩
                have HB8 := Lib.hid (HBE.out.trans (hb8.mono HBE.out.size))
                clear hb8
                go_wp2_with fail
                go_ret
                exact ⟨rfl, HB8.out⟩
              · have hdr : decide ((t1 : Int) < (rl : Int)) = false := by simp; omega
                have hdr2 : decide (t1 < rl) = false := by simp; omega
                go_wp2_with fail
                go_at_call 15
                refine (CS2.out _).mono ?_
                rintro e w8 ⟨rfl, hb8⟩
                have HB8 := Lib.hid (HBE.out.trans (hb8.mono HBE.out.size))
                clear hb8
                go_wp2_with fail
                go_ret
                exact ⟨rfl, HB8.out⟩
    · obtain rfl : j = n := by omega
      have hd : decide ((j : Int) < (j : Int)) = false := by simp
      have hsc1 := HT.out.scan hT
      have C1 := Lib.hid (scan_any va A T vc seg HL.out.1 (by omega) hs wr HRW7.out)
      rw [hsc1] at C1
      clear hsc1
      go_wp2_with fail
      go_at_call 19
      refine C1.out.mono ?_
      rintro e w2 ⟨hb2, v2, X2, rfl, hO2'⟩
      have hO2 : OutR w2 wr.heap.size v2 R X2 := hO2'
      obtain ⟨a2, c2, rfl, hR2⟩ := hO2.rws HK.out.byt (by have := HL.out.2.2; omega)
      simp only [HL.out.2.2]
      have HK2 := Lib.hid (HK.out.down hb2)
      have CS := Lib.hid (samerows_any a2 ra R rl c2 rc HL.out.2.2 (by omega) w2 hR2 (by have := (HRW8.out R.length).below hb2; rwa [List.take_length] at this))
      clear hb2 hO2 hO2' hR2 C1 HRW7 HRW8
      go_wp2_with fail
      go_at_call 15
      refine CS.out.mono ?_
      rintro e w3 ⟨rfl, hb3⟩
      have HK3 := Lib.hid (HK2.out.down hb3)
      clear hb3 HK2 CS HK
      by_cases hT0 : T = 0
      · have hz : ((T : Int) == 0) = true := by simp; omega
        have HBE := Lib.hid (HB.out.trans (HK3.out.below.mono HB.out.size))
        go_wp2_with fail
        go_ret
        exact ⟨rfl, HBE.out⟩
      · have hz : ((T : Int) == 0) = false := by simp; omega
        obtain ⟨k, hk⟩ : ∃ k : Nat, hurt % T = k := ⟨_, rfl⟩
        have hkT : k < T := by rw [← hk]; exact Nat.mod_lt _ (by omega)
        have hkm : (hurt : Int) % (T : Int) = (k : Int) := by rw [← hk]; exact (Int.natCast_emod hurt T).symm
        have hkt : (hurt : Int).tmod (T : Int) = (k : Int) := by rw [Int.tmod_eq_emod_of_nonneg (by omega)]; exact hkm
        obtain ⟨al, hal0, hal1, hal2⟩ := find_ahead R k (by have := HT.out.tot; omega)
        have hal : al < rl := by have := HL.out.2.2; omega
        have hsc2 := HT.out.scan_at hT hal hal1 hal2
        obtain ⟨tm, htm⟩ : ∃ tm, Fr.total (R.take al) = tm := ⟨_, rfl⟩
        rw [htm] at hsc2
        have HSC2 := Lib.hid hsc2
        have HAL := Lib.hid (And.intro hal1 (And.intro hal2 htm))
        obtain ⟨hx7, hone7, g7, c7, hv7, hsrc7⟩ := HK3.out.src7 (by have := HL.out.1; omega)
        have hv7a : va = some ⟨g7, 0, none⟩ := by injection hv7
        clear hv7
        subst hv7a
        have HLN := Lib.hid (show x7.length = T * 1 by have := HL.out.1; omega)
        have HSRC := Lib.hid hsrc7
        have HONE := Lib.hid hone7
        have HMX := Lib.hid (show 0 + T ≤ maxLen ∧ (0 + T) * 24 ≤ 140737488355328 from ⟨by unfold maxLen; omega, by omega⟩)
        have hmk := make256z
        clear hk hal0 hal1 hal2 hsc2 htm hx7 hone7 hsrc7
        go_wp2_with (at_builtin; refine wpList_append_own _ rfl (.tmp 89) (.tmp 90) 25 rfl w3.heap.size 23 i1 (.slice none 0 0) 1 24 Try.underlying25 HI.out.1 HI.out.2.1 HI.out.2.2.1 HI.out.2.2.2 rfl (by decide) _ 0 [] rfl (World.ownsRow_nil _ _ _ _) ⟨g7, 0, none⟩ T vc x7 rfl HLN.out HSRC.out HONE.out HMX.out.1 HMX.out.2 (Nat.le_refl _) ?_; intro v16 w5 hown5 hgr5 _; have hb5 := (Below.refl w3.heap.size w3).grown hgr5 (Nat.le_refl _) (fun k hk => by cases hk); obtain ⟨g2, c16, rfl, hg2, hc2, hrow5⟩ := copy_own hown5 (by omega); have HSR := Lib.hid (some_rws HK3.out hb5 hg2 HL.out.1 hrow5 hkT (by omega)); obtain ⟨cur, hcur, hcsz, hcget⟩ := hrow5; obtain ⟨-, bk, ok, hxk, -⟩ := HK3.out.p7 k (by have := HL.out.1; omega); have hcurA := ((((Below.refl w5.heap.size w5).alloc (Nat.le_refl _) (.cells (cellsOf zeroSec).toArray 5)).block _ (Array.getElem?_eq_some_iff.1 hcur).1).trans hcur); have hcell5 : w5.cell? ⟨g2, k, none⟩ = some (.slice (some ⟨bk, ok, none⟩) 256 256) := (cell_of_row _ _ _ _ _ _ hcur).trans ((hcget k hkT).trans hxk); have hfz5 : w5.frozen? ⟨g2, k, none⟩ = false := frozen_of_row _ _ _ _ _ hcur; have hcell6 : (w5.alloc (.cells (cellsOf zeroSec).toArray 5)).cell? ⟨g2, k, none⟩ = some (.slice (some ⟨bk, ok, none⟩) 256 256) := (cell_of_row _ _ _ _ _ _ hcurA).trans ((hcget k hkT).trans hxk); have hfz6 : (w5.alloc (.cells (cellsOf zeroSec).toArray 5)).frozen? ⟨g2, k, none⟩ = false := frozen_of_row _ _ _ _ _ hcurA; clear hown5 hgr5 hb5 hg2 hcur hcsz hcget hcurA hxk)
        have C2 := Lib.hid (scan_any (some ⟨g2, 0, none⟩) (A.set k zeroSec) T c16 seg (by rw [List.length_set]; exact HL.out.1) (by omega) hs _ HSR.out.2)
        rw [HSC2.out] at C2
        have HK6 := Lib.hid (HK3.out.down HSR.out.1)
        clear HSR HSC2 HK3 hcell5 hfz5 hcell6 hfz6 HSRC HONE HLN HMX hmk
        generalize (w5.alloc (.cells (cellsOf zeroSec).toArray 5)).setCell ⟨g2, k, none⟩ (.slice (some ⟨w5.heap.size, 0, none⟩) 256 256) = W6 at *
        go_at_call 19
        refine C2.out.mono ?_
        rintro e w7 ⟨hb7, v7b, X7, rfl, hO7'⟩
        have hO7 : OutR w7 W6.heap.size v7b (R.take al) X7 := hO7'
        have hRtl : (R.take al).length = al := by rw [List.length_take]; have := HL.out.2.2; omega
        obtain ⟨a7, c7b, rfl, hR7⟩ := hO7.rws (fun r hr => HK6.out.byt r (List.mem_of_mem_take hr)) (by omega)
        simp only [hRtl]
        have HK7 := Lib.hid (HK6.out.down hb7)
        have HBE := Lib.hid (HB.out.trans (HK7.out.below.mono HB.out.size))
        obtain ⟨g9, c9, hv9, hg9, hc9⟩ := HK7.out.ints (by have := HL.out.2.1; omega)
        have hv9a : ba = some ⟨g9, 0, none⟩ := by injection hv9
        clear hv9
        subst hv9a
        have HC9 := Lib.hid (fun i (hi : i < rl) => show w7.cell? ⟨g9, i, none⟩ = some (.int .i64 ((Fr.total (R.take i) : Nat) : Int)) from by
          have hi2 : i < B.length := by have := HL.out.2.1; omega
          have h1 := hc9 i hi2
          have h2 := starts_get R i (by have := HL.out.2.2; omega)
          rw [← HT.out.bg, List.getElem?_eq_getElem hi2] at h2
          injection h2 with h2
          rw [h1, h2])
        obtain ⟨a8, c8, hv8, hc8, hr8⟩ := HK7.out.rws8 (by have := HL.out.2.2; omega)
        have hv8a : ra = a8 := by injection hv8
        have hv8c : rc = c8 := by injection hv8
        have halc : al ≤ rc := by have := HL.out.2.2; omega
        clear hv8c hc8
        clear hv8
        subst hv8a
        have hne8 : R.take rl ≠ [] := by
          intro h
          have h2 : (R.take rl).length = 0 := by rw [h]; rfl
          rw [List.length_take] at h2
          have := HL.out.2.2
          omega
        obtain ⟨g8, o8, rfl, -, -⟩ := (hr8 rl).2 hne8
        have CS2 := Lib.hid (fun cc => samerows_any a7 (some ⟨g8, o8, none⟩) (R.take al) al c7b cc hRtl (by omega) w7 hR7 (hr8 al))
        have q0 := HC9.out al hal
        rw [HAL.out.2.2] at q0
        have HQ0 := Lib.hid q0
        clear hb7 hO7 hO7' hR7 C2 HK6 HK7 hc9 hg9 hr8 hRtl q0
        go_wp2_with fail
        go_loopw [19] (fun i wx => ∃ t : Nat, t ≤ al ∧ i = .int .i64 t ∧ wx = w7) (fun i _ => al - (intOf i).toNat)
        case atStart => exact ⟨0, Nat.zero_le _, rfl, rfl⟩
        case round =>
          obtain ⟨t, ht, rfl, rfl⟩ := hrel
          obtain ⟨t1, ht1⟩ : ∃ t1, t + 1 = t1 := ⟨_, rfl⟩
          have hte : (t : Int) + 1 = (t1 : Int) := by omega
          by_cases hta : t < al
          · have hdr : decide ((t1 : Int) < (rl : Int)) = true := by simp; omega
            have hdr2 : decide (t1 < rl) = true := by simp; omega
            have q1 := HC9.out t1 (by omega)
            have hle := Fr.total_take_le R t1 al (by omega)
            obtain ⟨m1, hm1⟩ : ∃ m1, Fr.total (R.take t1) = m1 := ⟨_, rfl⟩
            rw [hm1] at q1 hle
            have hdk : decide ((m1 : Int) ≤ (k : Int)) = true := by have := HAL.out.1; simp; omega
            have hdk2 : decide (m1 ≤ k) = true := by have := HAL.out.1; simp; omega
            clear hm1 hle
            go_wp2_with fail
            go_roundw
            case rel => exact ⟨t1, by omega, by go_num, by first | rfl | trivial⟩
            case measure => simp [intOf]; omega
          · obtain rfl : t = al := by omega
            clear hta
            have q0 := HQ0.out
            by_cases hlast : t1 < rl
            · have hdr : decide ((t1 : Int) < (rl : Int)) = true := by simp; omega
              have hdr2 : decide (t1 < rl) = true := by simp; omega
              have q1 := HC9.out t1 hlast
              have hle := HAL.out.2.1
              rw [ht1] at hle
              obtain ⟨m1, hm1⟩ : ∃ m1, Fr.total (R.take t1) = m1 := ⟨_, rfl⟩
              rw [hm1] at q1 hle
              have hdk : decide ((m1 : Int) ≤ (k : Int)) = false := by simp; omega
              have hdk2 : decide (m1 ≤ k) = false := by simp; omega
              clear hm1 hle
              go_wp2_with fail
              go_at_call 15
              refine (CS2.out _).mono ?_
              rintro e w8 ⟨rfl, hb8⟩
              have HB8 := Lib.hid (HBE.out.trans (hb8.mono HBE.out.size))
              clear hb8
              go_wp2_with fail
              go_ret
              exact ⟨rfl, HB8.out⟩
            · have hdr : decide ((t1 : Int) < (rl : Int)) = false := by simp; omega
              have hdr2 : decide (t1 < rl) = false := by simp; omega
              go_wp2_with fail
              go_at_call 15
              refine (CS2.out _).mono ?_
              rintro e w8 ⟨rfl, hb8⟩
              have HB8 := Lib.hid (HBE.out.trans (hb8.mono HBE.out.size))
              clear hb8
              go_wp2_with fail
              go_ret
              exact ⟨rfl, HB8.out⟩
end Go.Proofs.Ytlegdaoidjpokaa
namespace Go.Proofs.Ytlegdaoidjpokaa.frameBack
open Go.ChangeShapes Go.WideShapes Go.ChangeAt Go.RowKit
open Go.ChangeMaps (open_string shut_string)
set_option linter.unusedVariables false

theorem own : ownKnob Try.prog.godebug = none := by kernel_rfl
theorem laidOut : laidOutB Try.prog = true := by kernel_rfl

theorem rws_of {w : World} {a : Addr} {len cap : Nat} {A : Nat → Option Addr} {L C : Nat → Nat} {Z : Nat → List Int} (hl : len ≤ cap) (hcm : cap ≤ maxLen)
    (h : ∀ r, r < cap → w.cell? (a.add r) = some (.slice (A r) (L r) (C r)) ∧ L r ≤ C r ∧ C r ≤ maxLen ∧ (Z r).length = C r ∧ (∀ n ∈ Z r, (Lit.int .u8 n).wf = true) ∧ (A r = none → C r = 0) ∧
        ∀ a', A r = some a' → 0 ≤ a'.block ∧ ∀ c, c < C r → w.cell? (a'.add c) = some (.int .u8 ((Z r).getD c 0))) :
    ∃ F : Nat → List Nat, RwsC w (some a) ((List.range len).map F) ∧ ∀ r, r < len → (F r).length = L r := by
  have each : ∀ r, r < len → ∃ bs : List Nat, bs.length = L r ∧ Bys w (A r) bs ∧ (A r = none → C r = 0) := by
    intro r hr
    obtain ⟨_, h1, h2, h3, h4, h5, h6⟩ := h r (by omega)
    refine bys_of_row (zs := Z r) ?_
    cases hA : A r with
    | none =>
      have := h5 hA
      exact .inl ⟨rfl, by omega, this, List.length_eq_zero_iff.1 (by omega)⟩
    | some ad => exact .inr ⟨ad, rfl, h1, h2, h3, fun i hi => (h6 ad hA).2 i (by omega), h4⟩
  obtain ⟨F, hF⟩ := Deep.choose_lt each
  refine ⟨F, ⟨by rw [List.length_map, List.length_range]; omega, fun hn => ?_⟩, fun r hr => (hF r hr).1⟩
  have hn0 : 0 < len := by
    cases len with
    | zero => exact absurd rfl hn
    | succ k => omega
  obtain ⟨b, off, spot⟩ := a
  have hc0 := (h 0 (by omega)).1
  have hspot : spot = none := by simpa [Addr.add] using World.cell?_spot hc0
  subst hspot
  refine ⟨b, off, rfl, by simpa [Addr.add] using World.block_lt_of_cell? _ _ hc0, fun r hr => ?_⟩
  have hr2 : r < len := by rw [List.length_map, List.length_range] at hr; exact hr
  have hk := h r (by omega)
  have := hk.1
  rw [show (⟨b, off, none⟩ : Addr).add r = ⟨b, off + r, none⟩ by unfold Addr.add; split <;> simp_all] at this
  have e : ((List.range len).map F)[r] = F r := by simp
  rw [e]
  exact ⟨A r, C r, by rw [this, (hF r hr2).1], by rw [(hF r hr2).1]; exact hk.2.1, hk.2.2.2.2.2.1, (hF r hr2).2.1⟩
theorem mem_weightsAll {H : Type} {P : Program} {e : TypeId} {d : DataW H} : ∀ {ds : List (DataW H)}, d ∈ ds → ∀ n ∈ d.weights P e, n ∈ DataW.weightsAll P e ds
  | x :: xs, hd, n, hn => by
    simp only [DataW.weightsAll, List.mem_append]
    rcases List.mem_cons.1 hd with rfl | hd
    · exact .inl hn
    · exact .inr (mem_weightsAll hd n hn)
  | [], hd, _, _ => absurd hd (by simp)
theorem sized_row {H : Type} {t0 : TypeId} {d0 : DataW H} {ts : List TypeId} {ds : List (DataW H)} {elems spare es sp : List (DataW H)} (h : (DataW.weightsEach Try.prog (t0 :: 25 :: ts) (d0 :: .slice elems spare :: ds)).all (· ≤ reachBytes) = true) (hd : DataW.slice es sp ∈ elems) :
    (es.length + sp.length) * Try.prog.bytesOf 5 ≤ reachBytes := by
  have h1 : ((es.length + sp.length) * Try.prog.bytesOf 5) ∈ (DataW.slice es sp).weights Try.prog 23 := by simp [DataW.weights, Try.underlying23]
  have h2 : ((es.length + sp.length) * Try.prog.bytesOf 5) ∈ (DataW.slice elems spare).weights Try.prog 25 := by
    simp only [DataW.weights, Try.underlying25, List.mem_cons, List.mem_append]
    exact .inr (.inl (mem_weightsAll hd _ h1))
  have := List.all_eq_true.1 h _ (DataW.weights_mem_each (j := 1) rfl rfl _ h2)
  simpa using this
theorem sized_all {H : Type} {t0 : TypeId} {d0 : DataW H} {ts : List TypeId} {ds : List (DataW H)} {elems spare : List (DataW H)} (h : (DataW.weightsEach Try.prog (t0 :: 25 :: ts) (d0 :: .slice elems spare :: ds)).all (· ≤ reachBytes) = true) :
    (elems.length + spare.length) * Try.prog.bytesOf 23 ≤ reachBytes := sized_slice h (j := 1) (t := 25) (e := 23) rfl rfl Try.underlying25
theorem bytes5 : Try.prog.bytesOf 5 = 1 := by kernel_rfl
theorem bytes23 : Try.prog.bytesOf 23 = 24 := by kernel_rfl

theorem walk (a0 : Int) (a1 : Option Addr) (n cap : Nat) (Ls : List (List Nat)) (a2 : Int) (w : World) (w0 : (Lit.int .u32 a0).wf = true) (H : RwsC w a1 Ls) (hn : Ls.length = n) (hn9 : n ≤ 140737488351232) (hl9 : ∀ l ∈ Ls, l.length ≤ 140737488351232) (w2 : (Lit.int .u8 a2).wf = true) :
    Calls Try.prog 5 #[.int .u32 a0, .slice a1 n cap, .int .u8 a2] w fun e w' => e = .returned (.bool true) ∧ Below w.heap.size w w' := by
  obtain ⟨seg, rfl⟩ := Int.eq_ofNat_of_zero_le (bounds_u32 w0).1
  have hs : seg < 4294967296 := by have := (bounds_u32 w0).2; omega
  obtain ⟨k, rfl, hk⟩ := byte_nat w2
  by_cases hm : 100000 < mucher Ls Ls.length
  · exact back_much seg n cap k a1 Ls hn (by omega) (fun l h => by have := hl9 l h; omega) hm w H.rws
  · exact back_law seg n cap k a1 Ls hn (by unfold mucher at hm; omega) (fun l h => by have := hl9 l h; omega) hm hs hk w H

set_option maxRecDepth 100000 in
theorem lifted (os : Os) (started : os.Started) (H : Type) (enc : TypeId × Value → H) (F : Stop.Interp) :
    ReturnsInHanded {} Try.checked os 5 .any ((Rows.OpenSpec.upto Rows.frameBackSpec).pre6 enc Try.prog Try.f5 Rows.frameBackUptoRow.domain false) (((Rows.OpenSpec.upto Rows.frameBackSpec).at F).post enc Try.prog Try.f5 false true false false) := by
  refine returnsInHanded_of_cond_sized (C := Try.checked) (s := Rows.OpenSpec.upto Rows.frameBackSpec) (k := Rows.uptoSmall) rfl own started (by kernel_rfl) Try.func5
    (OpenSpec.witness (enc := enc) (C := Try.checked) (s := Rows.OpenSpec.upto Rows.frameBackSpec) (k := Rows.uptoSmall) rfl false ⟨#[], #[.int .u32 0, .slice none 0 0, .int .u8 0], []⟩ 8 (by kernel_rfl) (by kernel_rfl) (by kernel_rfl)
      (x := ([.lit (.int .u32 0), .nil, .lit (.int .u8 0)], [], [])) (by kernel_rfl) rfl (by kernel_rfl)) ?_
  intro W base args ds gs before hval0 hW hcnd hk hsz0 _
  have hval : ∀ (j : Nat) t v, Try.f5.params[j]? = some t → args[j]? = some v → Value.okWide Try.prog W .any base t v := hval0
  have hW' := hW
  obtain ⟨p, q, hA0, hV, rfl, hfz, hnd⟩ := hW
  have hA : DataW.TrodAll enc Try.prog W 0 (fun _ => true) true Try.f5.params.toList args.toList ds p := hA0
  have hsz : (DataW.weightsEach Try.prog (Try.f5.params.toList ++ Rows.frameBackSpec.plain.varTypes Try.prog) (ds ++ gs)).all (· ≤ reachBytes) = true := hsz0
  rw [Try.params5] at hA hval hsz
  obtain ⟨v0, vs0, d0, ds0, p0, q0, hargs, rfl, rfl, h0, r0⟩ := trodAll_cons hA
  obtain ⟨v1, vs1, d1, ds1, p1, q1, rfl, rfl, rfl, h1, r1⟩ := trodAll_cons r0
  obtain ⟨v2, vs2, d2, ds2, p2, q2, rfl, rfl, rfl, h2, r2⟩ := trodAll_cons r1
  obtain ⟨rfl, rfl, rfl⟩ := trodAll_nil r2
  obtain rfl : args = #[v0, v1, v2] := by cases args; simp_all
  obtain ⟨rfl, rfl⟩ := trodVars_none hV
  obtain ⟨a0, rfl, rfl, rfl, w0⟩ := open_int Try.underlying22 (hval 0 22 v0 rfl rfl) h0
  obtain ⟨a1, len1, cap1, rfl⟩ := okWide_slice Try.underlying25 (hval 1 25 v1 rfl rfl)
  obtain ⟨a2, rfl, rfl, rfl, w2⟩ := open_int Try.underlying5 (hval 2 5 v2 rfl rfl) h2
  have k1 := h1
  have lt1 : ∀ x ∈ p1, x.block < W.heap.size := by obtain ⟨m, hm⟩ := k1; exact DataW.trod_lt m _ _ _ hm
  obtain ⟨Ls, hn, hR, hn9, hl9⟩ : ∃ Ls : List (List Nat), Ls.length = len1 ∧ RwsC W a1 Ls ∧ len1 ≤ 140737488351232 ∧ ∀ l ∈ Ls, l.length ≤ 140737488351232 := by
    obtain ⟨fuel, hf⟩ := h1
    rcases Deep.open_int_rows Try.underlying25 Try.underlying23 Try.underlying5 (by kernel_rfl) (by kernel_rfl) hf with ⟨hcs, _⟩ | ⟨a, len, cap, A, L, C, Z, hcs, hb, hl, hm, hx, hrow⟩
    · simp [Value.cells] at hcs
      obtain ⟨rfl, rfl, rfl⟩ := hcs
      exact ⟨[], rfl, ⟨by simp, fun h => absurd rfl h⟩, by omega, fun l h => by cases h⟩
    · simp [Value.cells] at hcs
      obtain ⟨rfl, rfl, rfl⟩ := hcs
      simp only [Prod.mk.injEq] at hx
      have hd := hx.1
      rw [hd] at hsz
      have hall := sized_all (t0 := 22) (ts := 5 :: Rows.frameBackSpec.plain.varTypes Try.prog) (ds := [.lit (.int .u8 a2)]) hsz
      obtain ⟨F, hRw, hFL⟩ := rws_of hl hm hrow
      refine ⟨(List.range len1).map F, by rw [List.length_map, List.length_range], hRw, ?_, fun l hlm => ?_⟩
      · rw [bytes23] at hall
        simp only [List.length_map, List.length_range, reachBytes] at hall
        omega
      · obtain ⟨r, hr, rfl⟩ := List.mem_map.1 hlm
        have hr := List.mem_range.1 hr
        rw [hFL r hr]
        obtain ⟨_, r1, r2, r3, _, r4, _⟩ := hrow r (by omega)
        cases hA' : A r with
        | none => have := r4 hA'; omega
        | some ad =>
          have hmem : (DataW.slice (lits .u8 ((Z r).take (L r))) (lits .u8 ((Z r).drop (L r))) : DataW H) ∈ (List.range len1).map fun r => Deep.intRow .u8 (A r) (L r) (Z r) := by
            refine List.mem_map.2 ⟨r, List.mem_range.2 hr, ?_⟩
            simp only [Deep.intRow, hA']
          have := sized_row (t0 := 22) (ts := 5 :: Rows.frameBackSpec.plain.varTypes Try.prog) (ds := [.lit (.int .u8 a2)]) hsz hmem
          rw [bytes5] at this
          simp only [lits, List.length_map, List.length_take, List.length_drop, reachBytes] at this
          omega
  clear hA0 hval0
  refine (walk a0 a1 len1 cap1 Ls a2 W w0 hR hn hn9 hl9 w2).mono fun e W' ⟨he, bel⟩ => ?_
  subst he
  exact ⟨_, rfl, _, _, _, [], _, [], hW', trodAll_mk1 (shut_bool Try.underlying4 _), (trodAll_cons_mk (shut_int Try.underlying22 w0) (trodAll_cons_mk (Below.trod laidOut (by kernel_rfl) (of_decide_eq_true (by kernel_rfl)) k1 bel lt1) (trodAll_cons_mk (shut_int Try.underlying5 w2) trodAll_mk0))), rfl, bel.frame _, fun h => by cases h⟩

/-- the statement -/
theorem proved : Rows.FrameBackUptoSaid :=
  OpenClaim.holds_of_cond 5 Try.f5 rfl rfl rfl rfl rfl rfl rfl ⟨rfl, rfl, rfl, rfl, rfl⟩ rfl rfl rfl rfl rfl (by kernel_rfl) Try.func5 (by kernel_rfl)
    (of_decide_eq_true (by kernel_rfl)) (by unfold Func.isWrapper; first | (rw [if_pos (by decide +kernel)]; kernel_rfl) | (rw [if_neg (by decide +kernel)]; exact ⟨rfl, rfl⟩))
    (fun os started H enc _ F => lifted os started H enc F)
#print axioms proved
end Go.Proofs.Ytlegdaoidjpokaa.frameBack
