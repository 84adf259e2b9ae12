/-
  FOR FrameScans: what it shares.
-/
import Derived.Test.YtlegdaoidjpokaaK05
import Derived.Test.YtlegdaoidjpokaaK04
import Derived.Test.YtlegdaoidjpokaaK02
import Derived.OwnWalk
import Derived.BigQuiet
import Derived.Deep.QuietTactic
import Derived.Deep.RegionWith
import Derived.Handy
import Derived.Deep.RegionHeld3
namespace Go.Proofs.Ytlegdaoidjpokaa
set_option linter.unusedVariables false
set_option linter.unusedSimpArgs false
open Go.RowKit
open B2 (Only Row Lots owns_only)
theorem turned_much (seg n cap which : Nat) (a : Option Addr) (x : Int) (c : Nat) (hn : 7680 < n) (w : World) :
    Calls Try.prog 6 #[.int .u32 seg, .slice a n cap, .int .u8 which, .int .i64 x, .int .u32 c] w fun e w' => e = .returned (.bool true) ∧ Below w.heap.size w w' := by
  have d1 : decide ((7680 : Int) < (n : Int)) = true := by simp; omega
  have CK := Lib.hid (known_any w)
  go_enter Try.func6, Try.ntmps6
  go_wp2_with fail
  go_at_call 14
  refine CK.out.mono ?_
  rintro e w1 ⟨rfl, hb⟩
  have HB := Lib.hid hb
  clear hb
  go_wp2_with fail
  go_ret
  exact ⟨rfl, HB.out⟩
/-- the same sectors with one of them another row -/
structure Some1 (w : World) (N g2 ms nd k : Nat) (S : List (List Nat)) (x : Value) : Prop where
  row : ∃ cur : Array Value, w.heap[g2]? = some (.cells cur 23 (0, 0)) ∧ nd ≤ cur.size ∧ ∀ i, i < nd → cur[i]? = some (if i = k then x else .slice (some ⟨ms, i * 256, none⟩) 256 256)
  mem : Mem w ms 5 S.flatten
  len : ∀ s ∈ S, s.length = 256
  byt : ∀ s ∈ S, ∀ c ∈ s, c < 256
  nd : S.length = nd ∧ nd ≤ 1000
theorem Some1.rws {w : World} {N g2 ms nd k g cp : Nat} {S : List (List Nat)} {m : List Nat} (H : Some1 w N g2 ms nd k S (.slice (some ⟨g, 0, none⟩) 256 cp)) (hk : k < nd) (hm : Bys w (some ⟨g, 0, none⟩) m) (hml : m.length = 256) (hc : 256 ≤ cp) : Rws w (some ⟨g2, 0, none⟩) (S.set k m) := by
  obtain ⟨cur, h1, h2, h3⟩ := H.row
  obtain ⟨hn, hn9⟩ := H.nd
  refine ⟨by rw [List.length_set, hn]; unfold maxLen; omega, fun _ => ⟨g2, 0, rfl, (Array.getElem?_eq_some_iff.1 h1).1, fun i hi => ?_⟩⟩
  have hi2 : i < nd := by rw [List.length_set, hn] at hi; exact hi
  have hc1 : w.cell? ⟨g2, 0 + i, none⟩ = some (if i = k then .slice (some ⟨g, 0, none⟩) 256 cp else .slice (some ⟨ms, i * 256, none⟩) 256 256) := by
    rw [Nat.zero_add, cell_of_row _ _ _ _ _ _ h1, h3 i hi2]
  by_cases e : i = k
  · subst e
    have e1 : (S.set i m)[i] = m := by simp
    rw [if_pos rfl] at hc1
    rw [e1, hml]
    exact ⟨_, cp, hc1, hc, hm⟩
  · have e1 : (S.set k m)[i] = S[i]'(by omega) := by rw [List.getElem_set, if_neg (fun h => e h.symm)]
    rw [if_neg e] at hc1
    have hmem : S[i]'(by omega) ∈ S := List.getElem_mem (by omega)
    rw [e1, H.len _ hmem]
    exact ⟨_, 256, hc1, Nat.le_refl _, H.mem.bys (i * 256) _ (fun j hj => flat_get S H.len i j (by omega) hj) (H.byt _ hmem) (by rw [H.len _ hmem]; decide)⟩
/-- the sectors' slices, copied to a row of their own -/
theorem copy_row {wr w5 : World} {nd ms : Nat} {v2 : Value} (hown : w5.ownsRow wr.heap.size 23 1 v2 (0 + nd) ([] ++ secs ms nd nd)) (h0 : 0 < nd) : ∃ g2 c2, v2 = .slice (some ⟨g2, 0, none⟩) nd c2 ∧ wr.heap.size ≤ g2 ∧ nd ≤ c2 ∧ ∃ cur : Array Value, w5.heap[g2]? = some (.cells cur 23 (0, 0)) ∧ nd ≤ cur.size ∧ ∀ i, i < nd → cur[i]? = some (.slice (some ⟨ms, i * 256, none⟩) 256 256) := by
  rw [Nat.zero_add, List.nil_append] at hown
  rcases hown.2 with ⟨_, h1⟩ | ⟨g, c, cur, hv, hN, hh, hc, _, hs, ht⟩
  · omega
  · refine ⟨g, c, hv, hN, hc, cur, hh, by omega, fun i hi => ?_⟩
    have h2 := congrArg (fun l => l[i]?) ht
    simp only [List.getElem?_take] at h2
    rw [if_pos (by omega), secs_get _ _ _ _ hi, if_pos hi] at h2
    rw [← Array.getElem?_toList]
    exact h2
theorem Some1.of_set {w5 : World} {N h g2 ms nd k : Nat} {S : List (List Nat)} {x : Value} (hS : Spt w5 N h ms S) (hl : S.length = nd) (hrow : ∃ cur : Array Value, w5.heap[g2]? = some (.cells cur 23 (0, 0)) ∧ nd ≤ cur.size ∧ ∀ i, i < nd → cur[i]? = some (.slice (some ⟨ms, i * 256, none⟩) 256 256)) (hk : k < nd) (hne : ms ≠ g2) : Some1 (w5.setCell ⟨g2, k, none⟩ x) N g2 ms nd k S x ∧ Only [g2] w5 (w5.setCell ⟨g2, k, none⟩ x) := by
  obtain ⟨cur, h1, h2, h3⟩ := hrow
  have ho : Only [g2] w5 (w5.setCell ⟨g2, k, none⟩ x) := (Only.refl [g2] w5).setCell (p := ⟨g2, k, none⟩) (.inl (by simp)) _
  refine ⟨⟨⟨cur.setIfInBounds k x, heap_setCell_same _ _ _ _ _ _ h1, by rw [Array.size_setIfInBounds]; exact h2, fun i hi => ?_⟩, hS.mem.only ho (by simpa using hne), hS.len, hS.byt, hl, by have := hS.low.2.2; omega⟩, ho⟩
  rw [Array.getElem?_setIfInBounds]
  by_cases e : k = i
  · subst e
    rw [if_pos rfl, if_pos (by omega), if_pos rfl]
  · rw [if_neg e, if_neg (fun h => e h.symm)]
    exact h3 i hi
theorem Spt.src {w : World} {N h m nd : Nat} {S : List (List Nat)} (H : Spt w N h m S) (hl : S.length = nd) : ∀ j u, (secs m nd nd)[j]? = some u → w.cell? ((⟨h, 0, none⟩ : Addr).add j) = some u := by
  intro j u hu
  have hj : j < nd := by
    have := (List.getElem?_eq_some_iff.1 hu).1
    rwa [secs_len] at this
  rw [secs_get _ _ _ _ hj, if_pos hj] at hu
  rw [B2.add_here, H.cell j (by omega)]
  exact hu
theorem secs_one (m n k : Nat) : ∀ u ∈ secs m n k, u.oneCell' = true := by
  intro u hu
  unfold secs at hu
  obtain ⟨i, _, rfl⟩ := List.mem_map.1 hu
  split <;> simp [Value.oneCell']
set_option maxHeartbeats 8000000 in
set_option maxRecDepth 100000 in
theorem turned_law (seg n cap which : Nat) (a : Option Addr) (at' : Int) (c : Nat) (bs : List Nat) (hn : bs.length = n) (hn2 : n ≤ 7680) (hs : seg < 4294967296) (h8 : which < 256) (hcc : c < 4294967296) (hc : n ≤ cap) (hc0 : a = none → cap = 0) (w : World) (H : Bys w a bs) (hold : ∀ x, a = some x → x.block < w.heap.size ∨ bs = []) :
    Calls Try.prog 6 #[.int .u32 seg, .slice a n cap, .int .u8 which, .int .i64 at', .int .u32 c] w fun e w' => e = .returned (.bool true) ∧ Below w.heap.size w w' := by
  obtain ⟨i0, hi, hz0, hz1, hz2⟩ := info_parts info5
  obtain ⟨i1, hi1, hy0, hy1, hy2⟩ := info_parts B2.info27
  have HI := Lib.hid (And.intro hi (And.intro hz0 (And.intro hz1 hz2)))
  have HI1 := Lib.hid (And.intro hi1 (And.intro hy0 (And.intro hy1 hy2)))
  have d1 : decide ((7680 : Int) < (n : Int)) = false := by simp; omega
  have d9 : ¬ 7680 < n := by omega
  have CK := Lib.hid (known_any w)
  have hnd : Fr.need n ≤ 32 := by unfold Fr.need; omega
  have hnp := Fr.need_pos n
  have CS := Lib.hid (fun W hB hO => spl_ok a bs n cap seg 0 hn hc hc0 hn2 hs (by omega) W hB hO)
  have HBY := Lib.hid (And.intro H hold)
  have hSl : (Fr.cutS seg 0 bs).length = Fr.need n := by rw [Fr.cutS_len, hn]
  have hone := Fr.scan_one seg bs (by omega)
  have hbrk := fun k x hk h => Fr.scan_broken seg k bs x (by omega) hk h
  have hget : ∀ k, k < Fr.need n → (Fr.cutS seg 0 bs)[k]? = some (Fr.sec (Fr.kindOf k (Fr.need n)) seg k (Fr.part bs k)) := by
    intro k hk
    unfold Fr.cutS
    rw [hn, List.getElem?_map, List.getElem?_range hk]
    simp
  obtain ⟨nd, hnd2⟩ : ∃ nd, Fr.need n = nd := ⟨_, rfl⟩
  obtain ⟨S, hS⟩ : ∃ S, Fr.cutS seg 0 bs = S := ⟨_, rfl⟩
  rw [hn, hnd2] at hone hbrk
  rw [hnd2] at CS hnd hnp hSl hget
  rw [hS] at CS hone hbrk hSl hget
  have HSL := Lib.hid hSl
  have HSC := Lib.hid (And.intro hone (And.intro hbrk hget))
  obtain ⟨k, hk⟩ : ∃ k : Nat, which % nd = k := ⟨_, rfl⟩
  have hknd : k < nd := by rw [← hk]; exact Nat.mod_lt _ hnp
  have hkm : (which : Int) % (nd : Int) = (k : Int) := by rw [← hk]; exact (Int.natCast_emod which nd).symm
  have hkt : (which : Int).tmod (nd : Int) = (k : Int) := by rw [Int.tmod_eq_emod_of_nonneg (by omega)]; exact hkm
  have hne0 : ((nd : Int) == 0) = false := by simp; omega
  have hnd0 : ¬ nd = 0 := by omega
  obtain ⟨f, hf, hcs⟩ := from_cases at' 256 (by decide)
  rw [show (8 : Int) * ((256 : Nat) : Int) = 2048 by rfl] at hcs
  have hd3 : decide ((f : Int) < 0) = false := by simp
  clear hn hc hc0 H hold hnd2 hS hone hbrk hget hSl hk hi hz0 hz1 hz2 hi1 hy0 hy1 hy2
  rcases hcs with ⟨hp, hr⟩ | ⟨hp, hr⟩ | ⟨t, hp, ht, hr, hs2⟩
  case inl =>
    go_enter Try.func6, Try.ntmps6
    go_wp2_with fail
    go_at_call 14
    refine CK.out.mono ?_
    rintro e w1 ⟨rfl, hb1⟩
    have HB1 := Lib.hid hb1
    clear hb1 CK
    go_wp2_with fail
    go_at_call 9
    refine (CS.out w1 (HBY.out.1.below HB1.out) (fun x hx => (HBY.out.2 x hx).imp (fun h => Nat.lt_of_lt_of_le h HB1.out.size) id)).mono ?_
    rintro e w2 ⟨h, ms, rfl, hSp, hb2⟩
    have HS2 := Lib.hid (And.intro hSp (HB1.out.trans (hb2.mono HB1.out.size)))
    have hck := hSp.cell k (by rw [HSL.out]; exact hknd)
    have hbk := hSp.bys k (by rw [HSL.out]; exact hknd)
    have hlk := hSp.len _ (List.getElem_mem (show k < S.length by rw [HSL.out]; exact hknd))
    have hkl : k < S.length := by rw [HSL.out]; exact hknd
    have hQ : S[k]? = some S[k] := List.getElem?_eq_getElem hkl
    have h8k := hSp.byt _ (List.getElem_mem hkl)
    generalize S[k] = Q at hbk hlk hQ h8k
    have HSRC := Lib.hid (cellsOf_at hbk)
    have HLK := Lib.hid (show (cellsOf Q).length = 256 * 1 by rw [cellsOf_length, hlk])
    have HQ := Lib.hid (And.intro hQ (And.intro hlk h8k))
    clear hSp hb2 HB1 CS hlk hbk hkl hQ h8k
    go_wp2_with (at_builtin; refine wpList_append_own _ rfl (.tmp 54) (.tmp 58) 23 rfl w2.heap.size 5 i0 (.int .u8 0) 1 1 Try.underlying23 HI.out.1 HI.out.2.1 HI.out.2.2.1 HI.out.2.2.2 rfl (by decide) _ 0 [] rfl (World.ownsRow_nil _ _ _ _) ⟨ms, k * 256, none⟩ 256 256 (cellsOf Q) rfl HLK.out HSRC.out (cellsOf_one _) (by decide) (by decide) (Nat.le_refl _) ?_; intro v' w3 hown3 hgr3 _; have HB3 := Lib.hid ((Below.refl w2.heap.size w2).grown hgr3 (Nat.le_refl _) (fun k hk => by cases hk)); have HX3 := Lib.hid (owns_xat (show 0 + 256 = Q.length by rw [HQ.out.2.1]) hown3 (by intro h; have := HQ.out.2.1; rw [h] at this; simp at this)); clear hown3 hgr3)
    obtain ⟨g, cp, rfl, hg, hcp, hX⟩ := HX3.out
    have HX := Lib.hid (turned_start HQ.out.2.2 hX HB3.out : Turned w2 g Q c f 0 w3 false)
    have HGL := Lib.hid (And.intro hg hcp)
    have hcp2 : 256 ≤ cp := by omega
    clear hX HX3 hck hcp
    go_loopw [16, 17] (fun tb i wr => ∃ (k : Nat) (y : Bool), k ≤ 32 ∧ i = .int .i64 k ∧ tb = .bool y ∧ Hid (Turned w2 g Q c f k wr y)) (fun _ i _ => 32 - (intOf i).toNat)
    case atStart => exact ⟨0, false, Nat.zero_le _, rfl, rfl, HX⟩
    case round =>
      obtain ⟨j, y, hj, rfl, rfl, HT⟩ := hrel
      by_cases hlt : j < 32
      · by_cases hbit : c.testBit j = true
        · by_cases hin : f + j < 8 * Q.length
          · obtain ⟨hfz, x, hx8, hcell⟩ := turned_at HT.out ((f + j) / 8) (by omega)
            have hb1 := bit_yes hcc hbit
            have HN := Lib.hid (turned_yes HT.out hg hbit hin hx8 hcell)
            have hbit' := Lib.hid hbit
            rw [HQ.out.2.1] at hin
            clear hbit
            go_wp2
            go_roundw
            case rel => exact ⟨j + 1, true, by omega, by go_num, rfl, HN⟩
            case measure => simp [intOf]; omega
          · have hb1 := bit_yes hcc hbit
            have HN := Lib.hid (turned_no HT.out (fun hh => hin hh.2))
            rw [HQ.out.2.1] at hin
            clear hbit
            go_wp2
            go_roundw
            case rel => exact ⟨j + 1, y, by omega, by go_num, rfl, HN⟩
            case measure => simp [intOf]; omega
        · have hb1 := bit_no hcc hbit
          have HN := Lib.hid (turned_no HT.out (fun hh => hbit hh.1))
          clear hbit
          go_wp2
          go_roundw
          case rel => exact ⟨j + 1, y, by omega, by go_num, rfl, HN⟩
          case measure => simp [intOf]; omega
      · obtain rfl : j = 32 := by omega
        clear hlt hj
        obtain ⟨m, hml, hm8, hmR, hmX, hmB, hmy, hm0⟩ := HT.out
        have hSr := HS2.out.1.below hmB
        have HSr := Lib.hid (And.intro hSr (HS2.out.2.trans (hmB.mono HS2.out.2.size)))
        have HSRC2 := Lib.hid (hSr.src HSL.out)
        have HONE2 := Lib.hid (secs_one ms nd nd)
        have HSLN := Lib.hid (show (secs ms nd nd).length = nd * 1 by rw [secs_len, Nat.mul_one])
        have HMX2 := Lib.hid (show 0 + nd ≤ maxLen ∧ (0 + nd) * 24 ≤ 140737488355328 from ⟨by unfold maxLen; omega, by omega⟩)
        rw [HQ.out.2.1] at hml
        have hmbys := hmX.bytes (by rw [hml]; decide) hm8
        have hglt : g < wr.heap.size := by obtain ⟨cur, hcur, _⟩ := hmX; exact (Array.getElem?_eq_some_iff.1 hcur).1
        have hmslt : ms < wr.heap.size := hSr.mem.lt
        have HM := Lib.hid (And.intro hml (And.intro hm8 (And.intro hmR (And.intro hmy (And.intro hm0 (And.intro hmbys (And.intro hglt hmslt)))))))
        clear hml hm8 hmR hmX hmB hmy hm0 hSr hmbys hglt hmslt HT HS2 HSRC HLK
        go_wp2_with (at_builtin; refine wpList_append_own _ rfl (.tmp 94) (.tmp 95) 25 rfl wr.heap.size 23 i1 (.slice none 0 0) 1 24 Try.underlying25 HI1.out.1 HI1.out.2.1 HI1.out.2.2.1 HI1.out.2.2.2 rfl (by decide) _ 0 [] rfl (World.ownsRow_nil _ _ _ _) ⟨h, 0, none⟩ nd nd (secs ms nd nd) rfl HSLN.out HSRC2.out HONE2.out HMX2.out.1 HMX2.out.2 (Nat.le_refl _) ?_; intro v2 w5 hown5 hgr5 _; have hb5 := (Below.refl wr.heap.size wr).grown hgr5 (Nat.le_refl _) (fun k hk => by cases hk); obtain ⟨g2, c2, rfl, hg2, hc2, hrow5⟩ := copy_row hown5 hnp; have H5 := Lib.hid (And.intro (HSr.out.1.below hb5) (And.intro (HSr.out.2.trans (hb5.mono HSr.out.2.size)) (HM.out.2.2.2.2.2.1.below hb5))); have HW5 := Lib.hid (And.intro hrow5 (And.intro hg2 hb5.size)); obtain ⟨cur, hcur, hcsz, hcget⟩ := hrow5; have hcell5 : w5.cell? ⟨g2, k, none⟩ = some (.slice (some ⟨ms, k * 256, none⟩) 256 256) := (cell_of_row _ _ _ _ _ _ hcur).trans (hcget k hknd); have hfz5 : w5.frozen? ⟨g2, k, none⟩ = false := frozen_of_row _ _ _ _ _ hcur; clear hown5 hgr5 hb5 hg2 hcur hcsz hcget)
        obtain ⟨hsome, ho6⟩ := Some1.of_set (x := .slice (some ⟨g, 0, none⟩) 256 cp) H5.out.1 HSL.out HW5.out.1 hknd (by have := HM.out.2.2.2.2.2.2.2; have := HW5.out.2.1; omega)
        have hbm := H5.out.2.2.only ho6 (fun x hx => by injection hx with hx; subst hx; have := HM.out.2.2.2.2.2.2.1; have := HW5.out.2.1; simp; omega)
        have hrws := hsome.rws hknd hbm HM.out.1 hcp2
        have HB6 := Lib.hid (H5.out.2.1.trans (ho6.below H5.out.2.1.size (by have h1 := HSr.out.2.size; have h2 := HW5.out.2.1; intro x hx; simp at hx; omega)))
        have C9 := Lib.hid (scan_any (some ⟨g2, 0, none⟩) (S.set k m) nd c2 seg (by rw [List.length_set]; exact HSL.out) (by omega) hs _ hrws)
        have hQS : Q = Fr.sec (Fr.kindOf k nd) seg k (Fr.part bs k) := Option.some.inj (HQ.out.1.symm.trans (HSC.out.2.2 k hknd))
        have hsc : (y = true → Fr.scan seg (S.set k m) = ([], 0)) ∧ (y = false → Fr.scan seg (S.set k m) = ([bs], nd)) := by
          refine ⟨fun hy => HSC.out.2.1 k m hknd ?_, fun hy => ?_⟩
          · have hW := HM.out.2.2.2.1.1 hy
            have hR := HM.out.2.2.1
            have hlt := Nat.lt_of_lt_of_le (Crc.Wm_lt c f (8 * Q.length) 32) (show (2 : Nat) ^ 32 ≤ 4294967296 from Nat.le_refl _)
            generalize Crc.Wm c f (8 * Q.length) 32 = W9 at hW hR hlt
            rw [hQS] at hR
            exact Fr.readS_turned (by rcases Fr.kindOf_is k nd with h | h | h | h <;> omega) (fun x hx => HBY.out.1.2.1 x (by unfold Fr.part at hx; exact List.mem_of_mem_drop (List.mem_of_mem_take hx))) (by rw [Fr.part_len]; omega) HM.out.2.1 hR hlt hW k
          · have hm := HM.out.2.2.2.2.1 hy
            rw [hm]
            have : S.set k Q = S := by
              apply List.ext_getElem?
              intro i
              rw [List.getElem?_set]
              by_cases e : k = i
              · subst e
                rw [if_pos rfl, if_pos (by rw [HSL.out]; exact hknd), HQ.out.1]
              · rw [if_neg e]
            rw [this]
            exact HSC.out.1
        have HSCN := Lib.hid hsc
        clear hsc hQS hsome hbm hrws hcell5 hfz5 H5 HW5 HM HSr
        generalize w5.setCell ⟨g2, k, none⟩ (.slice (some ⟨g, 0, none⟩) 256 cp) = W6 at *
        go_at_call 19
        refine C9.out.mono ?_
        rintro e w7 ⟨hb7, v7, X7, rfl, hO7⟩
        obtain ⟨a7, c7, rfl⟩ := hO7.shape
        have HB7 := Lib.hid (HB6.out.trans (hb7.mono HB6.out.size))
        clear hb7 hO7 C9 HB6
        cases y
        · rw [HSCN.out.2 rfl]
          have hl1 : ([bs] : List (List Nat)).length = 1 := rfl
          rw [hl1]
          clear HSCN hl1
          go_wp2_with fail
          go_ret
          exact ⟨rfl, HB7.out⟩
        · rw [HSCN.out.1 rfl]
          have hl1 : ([] : List (List Nat)).length = 0 := rfl
          rw [hl1]
          clear HSCN hl1
          go_wp2_with fail
          go_ret
          exact ⟨rfl, HB7.out⟩
  case inr.inl =>
    go_enter Try.func6, Try.ntmps6
    go_wp2_with fail
    go_at_call 14
    refine CK.out.mono ?_
    rintro e w1 ⟨rfl, hb1⟩
    have HB1 := Lib.hid hb1
    clear hb1 CK
    go_wp2_with fail
    go_at_call 9
    refine (CS.out w1 (HBY.out.1.below HB1.out) (fun x hx => (HBY.out.2 x hx).imp (fun h => Nat.lt_of_lt_of_le h HB1.out.size) id)).mono ?_
    rintro e w2 ⟨h, ms, rfl, hSp, hb2⟩
    have HS2 := Lib.hid (And.intro hSp (HB1.out.trans (hb2.mono HB1.out.size)))
    have hck := hSp.cell k (by rw [HSL.out]; exact hknd)
    have hbk := hSp.bys k (by rw [HSL.out]; exact hknd)
    have hlk := hSp.len _ (List.getElem_mem (show k < S.length by rw [HSL.out]; exact hknd))
    have hkl : k < S.length := by rw [HSL.out]; exact hknd
    have hQ : S[k]? = some S[k] := List.getElem?_eq_getElem hkl
    have h8k := hSp.byt _ (List.getElem_mem hkl)
    generalize S[k] = Q at hbk hlk hQ h8k
    have HSRC := Lib.hid (cellsOf_at hbk)
    have HLK := Lib.hid (show (cellsOf Q).length = 256 * 1 by rw [cellsOf_length, hlk])
    have HQ := Lib.hid (And.intro hQ (And.intro hlk h8k))
    clear hSp hb2 HB1 CS hlk hbk hkl hQ h8k
    go_wp2_with (at_builtin; refine wpList_append_own _ rfl (.tmp 54) (.tmp 58) 23 rfl w2.heap.size 5 i0 (.int .u8 0) 1 1 Try.underlying23 HI.out.1 HI.out.2.1 HI.out.2.2.1 HI.out.2.2.2 rfl (by decide) _ 0 [] rfl (World.ownsRow_nil _ _ _ _) ⟨ms, k * 256, none⟩ 256 256 (cellsOf Q) rfl HLK.out HSRC.out (cellsOf_one _) (by decide) (by decide) (Nat.le_refl _) ?_; intro v' w3 hown3 hgr3 _; have HB3 := Lib.hid ((Below.refl w2.heap.size w2).grown hgr3 (Nat.le_refl _) (fun k hk => by cases hk)); have HX3 := Lib.hid (owns_xat (show 0 + 256 = Q.length by rw [HQ.out.2.1]) hown3 (by intro h; have := HQ.out.2.1; rw [h] at this; simp at this)); clear hown3 hgr3)
    obtain ⟨g, cp, rfl, hg, hcp, hX⟩ := HX3.out
    have HX := Lib.hid (turned_start HQ.out.2.2 hX HB3.out : Turned w2 g Q c f 0 w3 false)
    have HGL := Lib.hid (And.intro hg hcp)
    have hcp2 : 256 ≤ cp := by omega
    clear hX HX3 hck hcp
    go_loopw [16, 17] (fun tb i wr => ∃ (k : Nat) (y : Bool), k ≤ 32 ∧ i = .int .i64 k ∧ tb = .bool y ∧ Hid (Turned w2 g Q c f k wr y)) (fun _ i _ => 32 - (intOf i).toNat)
    case atStart => exact ⟨0, false, Nat.zero_le _, rfl, rfl, HX⟩
    case round =>
      obtain ⟨j, y, hj, rfl, rfl, HT⟩ := hrel
      by_cases hlt : j < 32
      · by_cases hbit : c.testBit j = true
        · by_cases hin : f + j < 8 * Q.length
          · obtain ⟨hfz, x, hx8, hcell⟩ := turned_at HT.out ((f + j) / 8) (by omega)
            have hb1 := bit_yes hcc hbit
            have HN := Lib.hid (turned_yes HT.out hg hbit hin hx8 hcell)
            have hbit' := Lib.hid hbit
            rw [HQ.out.2.1] at hin
            clear hbit
            go_wp2
            go_roundw
            case rel => exact ⟨j + 1, true, by omega, by go_num, rfl, HN⟩
            case measure => simp [intOf]; omega
          · have hb1 := bit_yes hcc hbit
            have HN := Lib.hid (turned_no HT.out (fun hh => hin hh.2))
            rw [HQ.out.2.1] at hin
            clear hbit
            go_wp2
            go_roundw
            case rel => exact ⟨j + 1, y, by omega, by go_num, rfl, HN⟩
            case measure => simp [intOf]; omega
        · have hb1 := bit_no hcc hbit
          have HN := Lib.hid (turned_no HT.out (fun hh => hbit hh.1))
          clear hbit
          go_wp2
          go_roundw
          case rel => exact ⟨j + 1, y, by omega, by go_num, rfl, HN⟩
          case measure => simp [intOf]; omega
      · obtain rfl : j = 32 := by omega
        clear hlt hj
        obtain ⟨m, hml, hm8, hmR, hmX, hmB, hmy, hm0⟩ := HT.out
        have hSr := HS2.out.1.below hmB
        have HSr := Lib.hid (And.intro hSr (HS2.out.2.trans (hmB.mono HS2.out.2.size)))
        have HSRC2 := Lib.hid (hSr.src HSL.out)
        have HONE2 := Lib.hid (secs_one ms nd nd)
        have HSLN := Lib.hid (show (secs ms nd nd).length = nd * 1 by rw [secs_len, Nat.mul_one])
        have HMX2 := Lib.hid (show 0 + nd ≤ maxLen ∧ (0 + nd) * 24 ≤ 140737488355328 from ⟨by unfold maxLen; omega, by omega⟩)
        rw [HQ.out.2.1] at hml
        have hmbys := hmX.bytes (by rw [hml]; decide) hm8
        have hglt : g < wr.heap.size := by obtain ⟨cur, hcur, _⟩ := hmX; exact (Array.getElem?_eq_some_iff.1 hcur).1
        have hmslt : ms < wr.heap.size := hSr.mem.lt
        have HM := Lib.hid (And.intro hml (And.intro hm8 (And.intro hmR (And.intro hmy (And.intro hm0 (And.intro hmbys (And.intro hglt hmslt)))))))
        clear hml hm8 hmR hmX hmB hmy hm0 hSr hmbys hglt hmslt HT HS2 HSRC HLK
        go_wp2_with (at_builtin; refine wpList_append_own _ rfl (.tmp 94) (.tmp 95) 25 rfl wr.heap.size 23 i1 (.slice none 0 0) 1 24 Try.underlying25 HI1.out.1 HI1.out.2.1 HI1.out.2.2.1 HI1.out.2.2.2 rfl (by decide) _ 0 [] rfl (World.ownsRow_nil _ _ _ _) ⟨h, 0, none⟩ nd nd (secs ms nd nd) rfl HSLN.out HSRC2.out HONE2.out HMX2.out.1 HMX2.out.2 (Nat.le_refl _) ?_; intro v2 w5 hown5 hgr5 _; have hb5 := (Below.refl wr.heap.size wr).grown hgr5 (Nat.le_refl _) (fun k hk => by cases hk); obtain ⟨g2, c2, rfl, hg2, hc2, hrow5⟩ := copy_row hown5 hnp; have H5 := Lib.hid (And.intro (HSr.out.1.below hb5) (And.intro (HSr.out.2.trans (hb5.mono HSr.out.2.size)) (HM.out.2.2.2.2.2.1.below hb5))); have HW5 := Lib.hid (And.intro hrow5 (And.intro hg2 hb5.size)); obtain ⟨cur, hcur, hcsz, hcget⟩ := hrow5; have hcell5 : w5.cell? ⟨g2, k, none⟩ = some (.slice (some ⟨ms, k * 256, none⟩) 256 256) := (cell_of_row _ _ _ _ _ _ hcur).trans (hcget k hknd); have hfz5 : w5.frozen? ⟨g2, k, none⟩ = false := frozen_of_row _ _ _ _ _ hcur; clear hown5 hgr5 hb5 hg2 hcur hcsz hcget)
        obtain ⟨hsome, ho6⟩ := Some1.of_set (x := .slice (some ⟨g, 0, none⟩) 256 cp) H5.out.1 HSL.out HW5.out.1 hknd (by have := HM.out.2.2.2.2.2.2.2; have := HW5.out.2.1; omega)
        have hbm := H5.out.2.2.only ho6 (fun x hx => by injection hx with hx; subst hx; have := HM.out.2.2.2.2.2.2.1; have := HW5.out.2.1; simp; omega)
        have hrws := hsome.rws hknd hbm HM.out.1 hcp2
        have HB6 := Lib.hid (H5.out.2.1.trans (ho6.below H5.out.2.1.size (by have h1 := HSr.out.2.size; have h2 := HW5.out.2.1; intro x hx; simp at hx; omega)))
        have C9 := Lib.hid (scan_any (some ⟨g2, 0, none⟩) (S.set k m) nd c2 seg (by rw [List.length_set]; exact HSL.out) (by omega) hs _ hrws)
        have hQS : Q = Fr.sec (Fr.kindOf k nd) seg k (Fr.part bs k) := Option.some.inj (HQ.out.1.symm.trans (HSC.out.2.2 k hknd))
        have hsc : (y = true → Fr.scan seg (S.set k m) = ([], 0)) ∧ (y = false → Fr.scan seg (S.set k m) = ([bs], nd)) := by
          refine ⟨fun hy => HSC.out.2.1 k m hknd ?_, fun hy => ?_⟩
          · have hW := HM.out.2.2.2.1.1 hy
            have hR := HM.out.2.2.1
            have hlt := Nat.lt_of_lt_of_le (Crc.Wm_lt c f (8 * Q.length) 32) (show (2 : Nat) ^ 32 ≤ 4294967296 from Nat.le_refl _)
            generalize Crc.Wm c f (8 * Q.length) 32 = W9 at hW hR hlt
            rw [hQS] at hR
            exact Fr.readS_turned (by rcases Fr.kindOf_is k nd with h | h | h | h <;> omega) (fun x hx => HBY.out.1.2.1 x (by unfold Fr.part at hx; exact List.mem_of_mem_drop (List.mem_of_mem_take hx))) (by rw [Fr.part_len]; omega) HM.out.2.1 hR hlt hW k
          · have hm := HM.out.2.2.2.2.1 hy
            rw [hm]
            have : S.set k Q = S := by
              apply List.ext_getElem?
              intro i
              rw [List.getElem?_set]
              by_cases e : k = i
              · subst e
                rw [if_pos rfl, if_pos (by rw [HSL.out]; exact hknd), HQ.out.1]
              · rw [if_neg e]
            rw [this]
            exact HSC.out.1
        have HSCN := Lib.hid hsc
        clear hsc hQS hsome hbm hrws hcell5 hfz5 H5 HW5 HM HSr
        generalize w5.setCell ⟨g2, k, none⟩ (.slice (some ⟨g, 0, none⟩) 256 cp) = W6 at *
        go_at_call 19
        refine C9.out.mono ?_
        rintro e w7 ⟨hb7, v7, X7, rfl, hO7⟩
        obtain ⟨a7, c7, rfl⟩ := hO7.shape
        have HB7 := Lib.hid (HB6.out.trans (hb7.mono HB6.out.size))
        clear hb7 hO7 C9 HB6
        cases y
        · rw [HSCN.out.2 rfl]
          have hl1 : ([bs] : List (List Nat)).length = 1 := rfl
          rw [hl1]
          clear HSCN hl1
          go_wp2_with fail
          go_ret
          exact ⟨rfl, HB7.out⟩
        · rw [HSCN.out.1 rfl]
          have hl1 : ([] : List (List Nat)).length = 0 := rfl
          rw [hl1]
          clear HSCN hl1
          go_wp2_with fail
          go_ret
          exact ⟨rfl, HB7.out⟩
  case inr.inr =>
    go_enter Try.func6, Try.ntmps6
    go_wp2_with fail
    go_at_call 14
    refine CK.out.mono ?_
    rintro e w1 ⟨rfl, hb1⟩
    have HB1 := Lib.hid hb1
    clear hb1 CK
    go_wp2_with fail
    go_at_call 9
    refine (CS.out w1 (HBY.out.1.below HB1.out) (fun x hx => (HBY.out.2 x hx).imp (fun h => Nat.lt_of_lt_of_le h HB1.out.size) id)).mono ?_
    rintro e w2 ⟨h, ms, rfl, hSp, hb2⟩
    have HS2 := Lib.hid (And.intro hSp (HB1.out.trans (hb2.mono HB1.out.size)))
    have hck := hSp.cell k (by rw [HSL.out]; exact hknd)
    have hbk := hSp.bys k (by rw [HSL.out]; exact hknd)
    have hlk := hSp.len _ (List.getElem_mem (show k < S.length by rw [HSL.out]; exact hknd))
    have hkl : k < S.length := by rw [HSL.out]; exact hknd
    have hQ : S[k]? = some S[k] := List.getElem?_eq_getElem hkl
    have h8k := hSp.byt _ (List.getElem_mem hkl)
    generalize S[k] = Q at hbk hlk hQ h8k
    have HSRC := Lib.hid (cellsOf_at hbk)
    have HLK := Lib.hid (show (cellsOf Q).length = 256 * 1 by rw [cellsOf_length, hlk])
    have HQ := Lib.hid (And.intro hQ (And.intro hlk h8k))
    clear hSp hb2 HB1 CS hlk hbk hkl hQ h8k
    go_wp2_with (at_builtin; refine wpList_append_own _ rfl (.tmp 54) (.tmp 58) 23 rfl w2.heap.size 5 i0 (.int .u8 0) 1 1 Try.underlying23 HI.out.1 HI.out.2.1 HI.out.2.2.1 HI.out.2.2.2 rfl (by decide) _ 0 [] rfl (World.ownsRow_nil _ _ _ _) ⟨ms, k * 256, none⟩ 256 256 (cellsOf Q) rfl HLK.out HSRC.out (cellsOf_one _) (by decide) (by decide) (Nat.le_refl _) ?_; intro v' w3 hown3 hgr3 _; have HB3 := Lib.hid ((Below.refl w2.heap.size w2).grown hgr3 (Nat.le_refl _) (fun k hk => by cases hk)); have HX3 := Lib.hid (owns_xat (show 0 + 256 = Q.length by rw [HQ.out.2.1]) hown3 (by intro h; have := HQ.out.2.1; rw [h] at this; simp at this)); clear hown3 hgr3)
    obtain ⟨g, cp, rfl, hg, hcp, hX⟩ := HX3.out
    have HX := Lib.hid (turned_start HQ.out.2.2 hX HB3.out : Turned w2 g Q c f 0 w3 false)
    have HGL := Lib.hid (And.intro hg hcp)
    have hcp2 : 256 ≤ cp := by omega
    clear hX HX3 hck hcp
    go_loopw [16, 17] (fun tb i wr => ∃ (k : Nat) (y : Bool), k ≤ 32 ∧ i = .int .i64 k ∧ tb = .bool y ∧ Hid (Turned w2 g Q c f k wr y)) (fun _ i _ => 32 - (intOf i).toNat)
    case atStart => exact ⟨0, false, Nat.zero_le _, rfl, rfl, HX⟩
    case round =>
      obtain ⟨j, y, hj, rfl, rfl, HT⟩ := hrel
      by_cases hlt : j < 32
      · by_cases hbit : c.testBit j = true
        · by_cases hin : f + j < 8 * Q.length
          · obtain ⟨hfz, x, hx8, hcell⟩ := turned_at HT.out ((f + j) / 8) (by omega)
            have hb1 := bit_yes hcc hbit
            have HN := Lib.hid (turned_yes HT.out hg hbit hin hx8 hcell)
            have hbit' := Lib.hid hbit
            rw [HQ.out.2.1] at hin
            clear hbit
            go_wp2
            go_roundw
            case rel => exact ⟨j + 1, true, by omega, by go_num, rfl, HN⟩
            case measure => simp [intOf]; omega
          · have hb1 := bit_yes hcc hbit
            have HN := Lib.hid (turned_no HT.out (fun hh => hin hh.2))
            rw [HQ.out.2.1] at hin
            clear hbit
            go_wp2
            go_roundw
            case rel => exact ⟨j + 1, y, by omega, by go_num, rfl, HN⟩
            case measure => simp [intOf]; omega
        · have hb1 := bit_no hcc hbit
          have HN := Lib.hid (turned_no HT.out (fun hh => hbit hh.1))
          clear hbit
          go_wp2
          go_roundw
          case rel => exact ⟨j + 1, y, by omega, by go_num, rfl, HN⟩
          case measure => simp [intOf]; omega
      · obtain rfl : j = 32 := by omega
        clear hlt hj
        obtain ⟨m, hml, hm8, hmR, hmX, hmB, hmy, hm0⟩ := HT.out
        have hSr := HS2.out.1.below hmB
        have HSr := Lib.hid (And.intro hSr (HS2.out.2.trans (hmB.mono HS2.out.2.size)))
        have HSRC2 := Lib.hid (hSr.src HSL.out)
        have HONE2 := Lib.hid (secs_one ms nd nd)
        have HSLN := Lib.hid (show (secs ms nd nd).length = nd * 1 by rw [secs_len, Nat.mul_one])
        have HMX2 := Lib.hid (show 0 + nd ≤ maxLen ∧ (0 + nd) * 24 ≤ 140737488355328 from ⟨by unfold maxLen; omega, by omega⟩)
        rw [HQ.out.2.1] at hml
        have hmbys := hmX.bytes (by rw [hml]; decide) hm8
        have hglt : g < wr.heap.size := by obtain ⟨cur, hcur, _⟩ := hmX; exact (Array.getElem?_eq_some_iff.1 hcur).1
        have hmslt : ms < wr.heap.size := hSr.mem.lt
        have HM := Lib.hid (And.intro hml (And.intro hm8 (And.intro hmR (And.intro hmy (And.intro hm0 (And.intro hmbys (And.intro hglt hmslt)))))))
        clear hml hm8 hmR hmX hmB hmy hm0 hSr hmbys hglt hmslt HT HS2 HSRC HLK
        go_wp2_with (at_builtin; refine wpList_append_own _ rfl (.tmp 94) (.tmp 95) 25 rfl wr.heap.size 23 i1 (.slice none 0 0) 1 24 Try.underlying25 HI1.out.1 HI1.out.2.1 HI1.out.2.2.1 HI1.out.2.2.2 rfl (by decide) _ 0 [] rfl (World.ownsRow_nil _ _ _ _) ⟨h, 0, none⟩ nd nd (secs ms nd nd) rfl HSLN.out HSRC2.out HONE2.out HMX2.out.1 HMX2.out.2 (Nat.le_refl _) ?_; intro v2 w5 hown5 hgr5 _; have hb5 := (Below.refl wr.heap.size wr).grown hgr5 (Nat.le_refl _) (fun k hk => by cases hk); obtain ⟨g2, c2, rfl, hg2, hc2, hrow5⟩ := copy_row hown5 hnp; have H5 := Lib.hid (And.intro (HSr.out.1.below hb5) (And.intro (HSr.out.2.trans (hb5.mono HSr.out.2.size)) (HM.out.2.2.2.2.2.1.below hb5))); have HW5 := Lib.hid (And.intro hrow5 (And.intro hg2 hb5.size)); obtain ⟨cur, hcur, hcsz, hcget⟩ := hrow5; have hcell5 : w5.cell? ⟨g2, k, none⟩ = some (.slice (some ⟨ms, k * 256, none⟩) 256 256) := (cell_of_row _ _ _ _ _ _ hcur).trans (hcget k hknd); have hfz5 : w5.frozen? ⟨g2, k, none⟩ = false := frozen_of_row _ _ _ _ _ hcur; clear hown5 hgr5 hb5 hg2 hcur hcsz hcget)
        obtain ⟨hsome, ho6⟩ := Some1.of_set (x := .slice (some ⟨g, 0, none⟩) 256 cp) H5.out.1 HSL.out HW5.out.1 hknd (by have := HM.out.2.2.2.2.2.2.2; have := HW5.out.2.1; omega)
        have hbm := H5.out.2.2.only ho6 (fun x hx => by injection hx with hx; subst hx; have := HM.out.2.2.2.2.2.2.1; have := HW5.out.2.1; simp; omega)
        have hrws := hsome.rws hknd hbm HM.out.1 hcp2
        have HB6 := Lib.hid (H5.out.2.1.trans (ho6.below H5.out.2.1.size (by have h1 := HSr.out.2.size; have h2 := HW5.out.2.1; intro x hx; simp at hx; omega)))
        have C9 := Lib.hid (scan_any (some ⟨g2, 0, none⟩) (S.set k m) nd c2 seg (by rw [List.length_set]; exact HSL.out) (by omega) hs _ hrws)
        have hQS : Q = Fr.sec (Fr.kindOf k nd) seg k (Fr.part bs k) := Option.some.inj (HQ.out.1.symm.trans (HSC.out.2.2 k hknd))
        have hsc : (y = true → Fr.scan seg (S.set k m) = ([], 0)) ∧ (y = false → Fr.scan seg (S.set k m) = ([bs], nd)) := by
          refine ⟨fun hy => HSC.out.2.1 k m hknd ?_, fun hy => ?_⟩
          · have hW := HM.out.2.2.2.1.1 hy
            have hR := HM.out.2.2.1
            have hlt := Nat.lt_of_lt_of_le (Crc.Wm_lt c f (8 * Q.length) 32) (show (2 : Nat) ^ 32 ≤ 4294967296 from Nat.le_refl _)
            generalize Crc.Wm c f (8 * Q.length) 32 = W9 at hW hR hlt
            rw [hQS] at hR
            exact Fr.readS_turned (by rcases Fr.kindOf_is k nd with h | h | h | h <;> omega) (fun x hx => HBY.out.1.2.1 x (by unfold Fr.part at hx; exact List.mem_of_mem_drop (List.mem_of_mem_take hx))) (by rw [Fr.part_len]; omega) HM.out.2.1 hR hlt hW k
          · have hm := HM.out.2.2.2.2.1 hy
            rw [hm]
            have : S.set k Q = S := by
              apply List.ext_getElem?
              intro i
              rw [List.getElem?_set]
              by_cases e : k = i
              · subst e
                rw [if_pos rfl, if_pos (by rw [HSL.out]; exact hknd), HQ.out.1]
              · rw [if_neg e]
            rw [this]
            exact HSC.out.1
        have HSCN := Lib.hid hsc
        clear hsc hQS hsome hbm hrws hcell5 hfz5 H5 HW5 HM HSr
        generalize w5.setCell ⟨g2, k, none⟩ (.slice (some ⟨g, 0, none⟩) 256 cp) = W6 at *
        go_at_call 19
        refine C9.out.mono ?_
        rintro e w7 ⟨hb7, v7, X7, rfl, hO7⟩
        obtain ⟨a7, c7, rfl⟩ := hO7.shape
        have HB7 := Lib.hid (HB6.out.trans (hb7.mono HB6.out.size))
        clear hb7 hO7 C9 HB6
        cases y
        · rw [HSCN.out.2 rfl]
          have hl1 : ([bs] : List (List Nat)).length = 1 := rfl
          rw [hl1]
          clear HSCN hl1
          go_wp2_with fail
          go_ret
          exact ⟨rfl, HB7.out⟩
        · rw [HSCN.out.1 rfl]
          have hl1 : ([] : List (List Nat)).length = 0 := rfl
          rw [hl1]
          clear HSCN hl1
          go_wp2_with fail
          go_ret
          exact ⟨rfl, HB7.out⟩
/- LAWFT2 -/
end Go.Proofs.Ytlegdaoidjpokaa
namespace Go.Proofs.Ytlegdaoidjpokaa
set_option linter.unusedVariables false
set_option linter.unusedSimpArgs false
open Go.RowKit
open B2 (Only Row Lots owns_only)
theorem same_n' (n m : Nat) (a a2 : Option Addr) (bs : List Nat) (cap cap2 : Nat) (w : World) (hn : bs.length = n) (hm : bs.length = m) (H : Bys w a bs) (H2 : Bys w a2 bs) :
    Calls Try.prog 27 #[.slice a n cap, .slice a2 m cap2] w fun e w' => e = .returned (.bool true) ∧ Below w.heap.size w w' := by
  subst hn; subst hm; exact same_any a a2 bs cap cap2 w H H2
set_option maxHeartbeats 4000000 in
set_option maxRecDepth 100000 in
theorem samerows_any (a a2 : Option Addr) (Ls : List (List Nat)) (n cap cap2 : Nat) (hn : Ls.length = n) (hn9 : n ≤ 1000000000) (w : World) (H : Rws w a Ls) (H2 : Rws w a2 Ls) :
    Calls Try.prog 15 #[.slice a n cap, .slice a2 n cap2] w fun e w' => e = .returned (.bool true) ∧ Below w.heap.size w w' := by
  have HH := Lib.hid (And.intro H (And.intro H2 hn))
  have hd0 : ((n : Int) != (n : Int)) = false := by simp
  clear H H2 hn
  go_enter Try.func15, Try.ntmps15
  go_wp2_with fail
  go_loopw [5] (fun i wr => ∃ j : Nat, j ≤ n ∧ i = .int .i64 j ∧ Hid (Below w.heap.size w wr)) (fun i _ => n - (intOf i).toNat)
  case atStart => exact ⟨0, Nat.zero_le _, rfl, Lib.hid (Below.refl _ _)⟩
  case round =>
    obtain ⟨j, hj, rfl, HB⟩ := hrel
    by_cases hlt : j < n
    · have hd : decide ((j : Int) < (n : Int)) = true := by simp; omega
      have hd2 : decide (j < n) = true := by simp; omega
      have hjl : j < Ls.length := by have := HH.out.2.2; omega
      have hne : Ls ≠ [] := by intro h; rw [h] at hjl; simp at hjl
      obtain ⟨h1, o1, rfl, hh1, hc1⟩ := HH.out.1.2 hne
      obtain ⟨h2, o2, rfl, hh2, hc2⟩ := HH.out.2.1.2 hne
      obtain ⟨x1, y1, k1, -, b1⟩ := hc1 j hjl
      obtain ⟨x2, y2, k2, -, b2⟩ := hc2 j hjl
      have hb : Below w.heap.size w wr.drew := HB.out.trans ((drew_below wr).mono HB.out.size)
      have q : wr.drew.cell? ⟨h1, o1 + j, none⟩ = some (.slice x1 Ls[j].length y1) ∧ wr.drew.cell? ⟨h2, o2 + j, none⟩ = some (.slice x2 Ls[j].length y2) := ⟨(hb.cell (p := ⟨h1, o1 + j, none⟩) hh1).trans k1, (hb.cell (p := ⟨h2, o2 + j, none⟩) hh2).trans k2⟩
      obtain ⟨L, hL⟩ : ∃ L, Ls[j].length = L := ⟨_, rfl⟩
      have CS := Lib.hid (fun W (hW : Below w.heap.size w W) => same_n' L L x1 x2 Ls[j] y1 y2 W hL hL (b1.below hW) (b2.below hW))
      have HCL := Lib.hid (fun W (hW : Below w.heap.size w W) => show W.cell? ⟨h1, o1 + j, none⟩ = some (.slice x1 L y1) ∧ W.cell? ⟨h2, o2 + j, none⟩ = some (.slice x2 L y2) from by rw [← hL]; exact ⟨(hW.cell (p := ⟨h1, o1 + j, none⟩) hh1).trans k1, (hW.cell (p := ⟨h2, o2 + j, none⟩) hh2).trans k2⟩)
      rw [hL] at q
      have HBD := Lib.hid hb
      clear hc1 hc2 k1 k2 b1 b2 hL hb hne hjl hh1 hh2
      go_wp2_with fail
      go_region_held3 (fun w' => w'.cell? ⟨h1, o1 + j, none⟩ = some (.slice x1 L y1) ∧ w'.cell? ⟨h2, o2 + j, none⟩ = some (.slice x2 L y2)) ((first | exact q | assumption))
        ((go_at_call 27; refine (CS.out _ HBD.out).mono ?_; rintro e w9 ⟨rfl, hb9⟩; have HB9 := Lib.hid (HBD.out.trans (hb9.mono HBD.out.size)); have q9 := HCL.out _ HB9.out; clear hb9))
      clear q q9
      go_wp2_with fail
      go_roundw
      case rel => exact ⟨j + 1, by omega, by go_num, HB9⟩
      case measure => simp [intOf]; omega
    · obtain rfl : j = n := by omega
      have hd : decide ((j : Int) < (j : Int)) = false := by simp
      go_wp2_with fail
      go_ret
      exact ⟨rfl, HB.out⟩
/-- what 'much' adds up, as far as it goes -/
def mucher (Ls : List (List Nat)) (k : Nat) : Nat := Ls.length + ((Ls.take k).map List.length).sum
theorem mucher_succ (Ls : List (List Nat)) (k : Nat) (h : k < Ls.length) : mucher Ls (k + 1) = mucher Ls k + Ls[k].length := by
  unfold mucher
  rw [List.take_succ_eq_append_getElem h]
  simp only [List.map_append, List.sum_append, List.map_cons, List.map_nil, List.sum_cons, List.sum_nil]
  omega
theorem mucher_mono (Ls : List (List Nat)) (k : Nat) : mucher Ls k ≤ mucher Ls Ls.length := by
  unfold mucher
  have h : ∀ (l : List (List Nat)) (k : Nat), ((l.take k).map List.length).sum ≤ (l.map List.length).sum := by
    intro l
    induction l with
    | nil => intro k; simp
    | cons x l ih =>
      intro k
      cases k with
      | zero => simp
      | succ k => simp only [List.take_succ_cons, List.map_cons, List.sum_cons]; have := ih k; omega
  have := h Ls k
  rw [List.take_length]
  omega
set_option maxHeartbeats 4000000 in
theorem much_any (a : Option Addr) (Ls : List (List Nat)) (n cap : Nat) (hn : Ls.length = n) (hn9 : n ≤ 140737488355328) (hl9 : ∀ l ∈ Ls, l.length ≤ 140737488355328) (w : World) (H : Rws w a Ls) :
    Calls Try.prog 17 #[.slice a n cap] w fun e w' => e = .returned (.bool (decide (100000 < mucher Ls Ls.length))) ∧ w' = w := by
  have HH := Lib.hid (And.intro H hn)
  have HL9 := Lib.hid hl9
  have HM0 := Lib.hid (show n = mucher Ls 0 by unfold mucher; simp [hn])
  clear H hl9
  go_enter Try.func17, Try.ntmps17
  go_wp2_with fail
  go_loopw [3, 4] (fun s i wr => ∃ (j m : Nat), j ≤ n ∧ i = .int .i64 j ∧ s = .int .i64 m ∧ Hid (m = mucher Ls j) ∧ m ≤ 1000000000000000 ∧ wr = w) (fun _ i _ => n - (intOf i).toNat)
  case atStart => exact ⟨0, n, Nat.zero_le _, rfl, rfl, HM0, by omega, rfl⟩
  case round =>
    obtain ⟨j, m, hj, rfl, rfl, HM, hm9, rfl⟩ := hrel
    by_cases hlt : j < n
    · have hd : decide ((j : Int) < (n : Int)) = true := by simp; omega
      have hd2 : decide (j < n) = true := by simp; omega
      by_cases hm : m ≤ 100000
      · have hd3 : decide ((m : Int) ≤ 100000) = true := by simp; omega
        have hd4 : decide (m ≤ 100000) = true := by simp; omega
        have hjl : j < Ls.length := by have := HH.out.2; omega
        obtain ⟨h1, o1, rfl, hh1, hc1⟩ := HH.out.1.2 (by intro h; rw [h] at hjl; simp at hjl)
        obtain ⟨x1, y1, k1, -, b1⟩ := hc1 j hjl
        have hll := HL9.out _ (List.getElem_mem hjl)
        have HS := Lib.hid (mucher_succ Ls j hjl)
        obtain ⟨L, hL⟩ : ∃ L, Ls[j].length = L := ⟨_, rfl⟩
        rw [hL] at k1 hll HS
        have HMN : Hid (m + L = mucher Ls (j + 1)) := Lib.hid (by rw [HS.out, ← HM.out])
        clear hc1 hL b1 hjl HS
        go_wp2_with fail
        go_roundw
        case rel => exact ⟨j + 1, m + L, by omega, by go_num, by go_num, HMN, by omega, by trivial⟩
        case measure => simp [intOf]; omega
      · have hd3 : decide ((m : Int) ≤ 100000) = false := by simp; omega
        have hd4 : decide (m ≤ 100000) = false := by simp; omega
        have hd5 : decide ((100000 : Int) < (m : Int)) = true := by simp; omega
        have HR := Lib.hid (show decide (100000 < mucher Ls Ls.length) = true from decide_eq_true (by have := mucher_mono Ls j; have := HM.out; omega))
        go_wp2_with fail
        go_ret
        rw [HR.out]; exact ⟨rfl, rfl⟩
    · obtain rfl : j = n := by omega
      have hd : decide ((j : Int) < (j : Int)) = false := by simp
      have hd5 : decide ((100000 : Int) < (m : Int)) = decide (100000 < mucher Ls Ls.length) := by
        rw [HM.out, hn]
        exact decide_eq_decide.2 (by omega)
      have hd6 : decide (100000 < m) = decide (100000 < mucher Ls Ls.length) := by rw [HM.out, hn]
      obtain ⟨X, hX⟩ : ∃ X, decide (100000 < mucher Ls Ls.length) = X := ⟨_, rfl⟩
      rw [hX] at hd5 hd6
      have HX := Lib.hid hX
      clear hX
      go_wp2_with fail
      go_ret
      rw [HX.out]; exact ⟨rfl, rfl⟩
end Go.Proofs.Ytlegdaoidjpokaa
namespace Go.Proofs.Ytlegdaoidjpokaa
set_option linter.unusedVariables false
set_option linter.unusedSimpArgs false
open Go.RowKit
open B2 (Only Row Lots owns_only)
/-- rows of bytes that came in: a nil one has no room -/
def RwsC (w : World) (a : Option Addr) (Ls : List (List Nat)) : Prop :=
  Ls.length ≤ maxLen ∧ (Ls ≠ [] → ∃ h off, a = some ⟨h, off, none⟩ ∧ h < w.heap.size ∧ ∀ i (hi : i < Ls.length), ∃ ai ci, w.cell? ⟨h, off + i, none⟩ = some (.slice ai Ls[i].length ci) ∧ Ls[i].length ≤ ci ∧ (ai = none → ci = 0) ∧ Bys w ai Ls[i])
theorem RwsC.rws {w : World} {a : Option Addr} {Ls : List (List Nat)} (h : RwsC w a Ls) : Rws w a Ls := by
  obtain ⟨h1, h2⟩ := h
  refine ⟨h1, fun hn => ?_⟩
  obtain ⟨b, off, ha, hlt, hc⟩ := h2 hn
  refine ⟨b, off, ha, hlt, fun i hi => ?_⟩
  obtain ⟨ai, ci, k1, k2, _, k3⟩ := hc i hi
  exact ⟨ai, ci, k1, k2, k3⟩
theorem RwsC.below {w w' : World} {a : Option Addr} {Ls : List (List Nat)} (h : RwsC w a Ls) (hb : Below w.heap.size w w') : RwsC w' a Ls := by
  obtain ⟨h1, h2⟩ := h
  refine ⟨h1, fun hn => ?_⟩
  obtain ⟨b, off, ha, hlt, hc⟩ := h2 hn
  refine ⟨b, off, ha, Nat.lt_of_lt_of_le hlt hb.size, fun i hi => ?_⟩
  obtain ⟨ai, ci, k1, k2, k4, k3⟩ := hc i hi
  exact ⟨ai, ci, (hb.cell (p := ⟨b, off + i, none⟩) hlt).trans k1, k2, k4, k3.below hb⟩
theorem Spt.only {w w' : World} {N h m : Nat} {S : List (List Nat)} (H : Spt w N h m S) {T : List Nat} (ho : Only T w w') (hT : ∀ k ∈ T, k < N) : Spt w' N h m S :=
  ⟨(ho.block h (Array.getElem?_eq_some_iff.1 H.row).1 (fun hm => by have := hT _ hm; have := H.low.1; omega)).trans H.row, H.mem.only ho (fun hm => by have := hT _ hm; have := H.low.2.1; omega), H.len, H.byt, H.low⟩
structure Bk (w0 w : World) (v7 v8 v9 : Value) (A R : List (List Nat)) (B : List Nat) (Q : List (Nat × Nat × List Nat)) (x7 x8 : List Value) : Prop where
  r7 : w.ownsRow w0.heap.size 23 1 v7 A.length x7
  r8 : w.ownsRow w0.heap.size 23 1 v8 R.length x8
  r9 : w.ownsRow w0.heap.size 3 1 v9 B.length (B.map fun b => .int .i64 ((b : Nat) : Int))
  q : ∀ b off s, (b, off, s) ∈ Q → Bys w (some ⟨b, off, none⟩) s ∧ b < w.heap.size ∧ v7.ownBlock ≠ some b ∧ v8.ownBlock ≠ some b ∧ v9.ownBlock ≠ some b
  p7 : ∀ i (hi : i < A.length), A[i].length = 256 ∧ ∃ b off, x7[i]? = some (.slice (some ⟨b, off, none⟩) 256 256) ∧ (b, off, A[i]) ∈ Q
  p8 : ∀ j (hj : j < R.length), ∃ a c, x8[j]? = some (.slice a R[j].length c) ∧ R[j].length ≤ c ∧ Bys w0 a R[j]
  o78 : ∀ k, v7.ownBlock = some k → v8.ownBlock ≠ some k
  o79 : ∀ k, v7.ownBlock = some k → v9.ownBlock ≠ some k
  o89 : ∀ k, v8.ownBlock = some k → v9.ownBlock ≠ some k
  below : Below w0.heap.size w0 w
theorem Bk.start (w : World) : Bk w w (.slice none 0 0) (.slice none 0 0) (.slice none 0 0) [] [] [] [] [] [] :=
  ⟨World.ownsRow_nil w _ 23 1, World.ownsRow_nil w _ 23 1, World.ownsRow_nil w _ 3 1, (fun b off s h => by cases h), (fun i hi => absurd hi (Nat.not_lt_zero _)), (fun i hi => absurd hi (Nat.not_lt_zero _)), fun k h => (by cases h), fun k h => (by cases h), fun k h => (by cases h), Below.refl _ _⟩
theorem only_grown {w w' : World} {v : Value} (hg : w.grownBy w' v.ownBlock) : Only v.ownBlock.toList w w' := (Only.refl _ w).grown hg (fun k hk => .inl (by simp [hk]))
theorem new_blk {v v' : Value} {n b : Nat} (hv : v'.ownBlock = v.ownBlock ∨ v'.ownBlock = some n) (h1 : v.ownBlock ≠ some b) (h2 : b < n) : v'.ownBlock ≠ some b := by
  rcases hv with h | h
  · rw [h]; exact h1
  · rw [h]; intro h3; injection h3 with h3; omega
theorem Bk.down {w0 w w' : World} {v7 v8 v9 : Value} {A R : List (List Nat)} {B : List Nat} {Q : List (Nat × Nat × List Nat)} {x7 x8 : List Value} (H : Bk w0 w v7 v8 v9 A R B Q x7 x8) (hb : Below w.heap.size w w') : Bk w0 w' v7 v8 v9 A R B Q x7 x8 :=
  ⟨owns_only H.r7 (Only.of_below hb []) (fun _ _ => by simp), owns_only H.r8 (Only.of_below hb []) (fun _ _ => by simp), owns_only H.r9 (Only.of_below hb []) (fun _ _ => by simp),
    fun b off s h => ⟨(H.q b off s h).1.below hb, Nat.lt_of_lt_of_le (H.q b off s h).2.1 hb.size, (H.q b off s h).2.2⟩, H.p7, H.p8, H.o78, H.o79, H.o89, H.below.trans (hb.mono H.below.size)⟩
/-- the sectors that a Split gave are kept with the rest -/
theorem Bk.more {w0 w w2 : World} {v7 v8 v9 : Value} {A R S : List (List Nat)} {B : List Nat} {Q : List (Nat × Nat × List Nat)} {x7 x8 : List Value} {h ms : Nat} (H : Bk w0 w v7 v8 v9 A R B Q x7 x8) (hb : Below w.heap.size w w2) (hS : Spt w2 w.heap.size h ms S) :
    Bk w0 w2 v7 v8 v9 A R B (Q ++ (List.range S.length).map fun i => (ms, i * 256, S.getD i [])) x7 x8 := by
  have H2 := H.down hb
  refine ⟨H2.r7, H2.r8, H2.r9, fun b off s hm => ?_, fun i hi => ?_, H2.p8, H2.o78, H2.o79, H2.o89, H2.below⟩
  · rcases List.mem_append.1 hm with hm | hm
    · exact H2.q b off s hm
    · obtain ⟨i, hi, he⟩ := List.mem_map.1 hm
      have hi2 := List.mem_range.1 hi
      simp only [Prod.mk.injEq] at he
      obtain ⟨rfl, rfl, rfl⟩ := he
      have e : S.getD i [] = S[i] := by simp [List.getD, List.getElem?_eq_getElem hi2]
      have hl := hS.low.2.1
      rw [e]
      exact ⟨hS.bys i hi2, hS.mem.lt, fun h => by have := (H.r7.lt _ h).2; omega, fun h => by have := (H.r8.lt _ h).2; omega, fun h => by have := (H.r9.lt _ h).2; omega⟩
  · obtain ⟨k1, b, off, k2, k3⟩ := H2.p7 i hi
    exact ⟨k1, b, off, k2, List.mem_append_left _ k3⟩
theorem Bk.add9 {w0 w3 w4 : World} {v7 v8 v9 v9' : Value} {A R : List (List Nat)} {B : List Nat} {Q : List (Nat × Nat × List Nat)} {x7 x8 : List Value} {t n9 : Nat} (H : Bk w0 w3 v7 v8 v9 A R B Q x7 x8) (hn : B.length = n9)
    (hown : w4.ownsRow w0.heap.size 3 1 v9' (n9 + 1) ((B.map fun b => .int .i64 ((b : Nat) : Int)) ++ [.int .i64 (t : Int)])) (hg : w3.grownBy w4 v9.ownBlock) (hv : v9'.ownBlock = v9.ownBlock ∨ v9'.ownBlock = some w3.heap.size) :
    Bk w0 w4 v7 v8 v9' A R (B ++ [t]) Q x7 x8 ∧ Only v9.ownBlock.toList w3 w4 := by
  subst hn
  have ho := only_grown hg
  refine ⟨⟨owns_only H.r7 ho (fun g hg h => H.o79 g hg (by simpa using h)), owns_only H.r8 ho (fun g hg h => H.o89 g hg (by simpa using h)), ?_, fun b off s hm => ?_, H.p7, H.p8, H.o78, fun k hk => new_blk hv (H.o79 k hk) (H.r7.lt k hk).2, fun k hk => new_blk hv (H.o89 k hk) (H.r8.lt k hk).2, H.below.grown hg H.below.size (fun k hk => (H.r9.lt k hk).1)⟩, ho⟩
  · rw [List.length_append, List.length_singleton, List.map_append]; exact hown
  · obtain ⟨q1, q2, q3, q4, q5⟩ := H.q b off s hm
    exact ⟨q1.only ho (fun x hx h => by injection hx with hx; subst hx; exact q5 (by simpa using h)), Nat.lt_of_lt_of_le q2 ho.size, q3, q4, new_blk hv q5 q2⟩
theorem Bk.add7 {w0 w3 w4 : World} {v7 v8 v9 v7' : Value} {A R S : List (List Nat)} {B : List Nat} {Q : List (Nat × Nat × List Nat)} {x7 x8 ys : List Value} {n7 ns : Nat} (H : Bk w0 w3 v7 v8 v9 A R B Q x7 x8) (hn : A.length = n7) (hns : S.length = ns)
    (hy : ∀ i (hi : i < S.length), S[i].length = 256 ∧ ∃ b off, ys[i]? = some (.slice (some ⟨b, off, none⟩) 256 256) ∧ (b, off, S[i]) ∈ Q)
    (hown : w4.ownsRow w0.heap.size 23 1 v7' (n7 + ns) (x7 ++ ys)) (hg : w3.grownBy w4 v7.ownBlock) (hv : v7'.ownBlock = v7.ownBlock ∨ v7'.ownBlock = some w3.heap.size) :
    Bk w0 w4 v7' v8 v9 (A ++ S) R B Q (x7 ++ ys) x8 ∧ Only v7.ownBlock.toList w3 w4 := by
  subst hn; subst hns
  have ho := only_grown hg
  have hx7 : x7.length = A.length := by have := H.r7.1; omega
  have h78 : ∀ k, v8.ownBlock = some k → v7.ownBlock ≠ some k := fun k hk h => H.o78 k h hk
  have h79 : ∀ k, v9.ownBlock = some k → v7.ownBlock ≠ some k := fun k hk h => H.o79 k h hk
  refine ⟨⟨?_, owns_only H.r8 ho (fun g hg h => h78 g hg (by simpa using h)), owns_only H.r9 ho (fun g hg h => h79 g hg (by simpa using h)), fun b off s hm => ?_, fun i hi => ?_, H.p8, fun k hk h => new_blk hv (h78 k h) (H.r8.lt k h).2 hk, fun k hk h => new_blk hv (h79 k h) (H.r9.lt k h).2 hk, H.o89, H.below.grown hg H.below.size (fun k hk => (H.r7.lt k hk).1)⟩, ho⟩
  · rw [List.length_append]; exact hown
  · obtain ⟨q1, q2, q3, q4, q5⟩ := H.q b off s hm
    exact ⟨q1.only ho (fun x hx h => by injection hx with hx; subst hx; exact q3 (by simpa using h)), Nat.lt_of_lt_of_le q2 ho.size, new_blk hv q3 q2, q4, q5⟩
  · by_cases hi2 : i < A.length
    · obtain ⟨k1, b, off, k2, k3⟩ := H.p7 i hi2
      rw [List.getElem_append_left hi2]
      exact ⟨k1, b, off, by rw [List.getElem?_append_left (by omega)]; exact k2, k3⟩
    · have hi3 : i - A.length < S.length := by rw [List.length_append] at hi; omega
      obtain ⟨k1, b, off, k2, k3⟩ := hy _ hi3
      rw [List.getElem_append_right (by omega)]
      exact ⟨k1, b, off, by rw [List.getElem?_append_right (by omega), hx7]; exact k2, k3⟩
theorem Bk.add8 {w0 w3 w4 : World} {v7 v8 v9 v8' : Value} {A R : List (List Nat)} {B : List Nat} {Q : List (Nat × Nat × List Nat)} {x7 x8 : List Value} {r : List Nat} {a : Option Addr} {c n8 L : Nat} (H : Bk w0 w3 v7 v8 v9 A R B Q x7 x8) (hn : R.length = n8) (hL : r.length = L) (hc : L ≤ c) (hr : Bys w0 a r)
    (hown : w4.ownsRow w0.heap.size 23 1 v8' (n8 + 1) (x8 ++ [.slice a L c])) (hg : w3.grownBy w4 v8.ownBlock) (hv : v8'.ownBlock = v8.ownBlock ∨ v8'.ownBlock = some w3.heap.size) :
    Bk w0 w4 v7 v8' v9 A (R ++ [r]) B Q x7 (x8 ++ [.slice a L c]) := by
  subst hn; subst hL
  have ho := only_grown hg
  have hx8 : x8.length = R.length := by have := H.r8.1; omega
  have h89 : ∀ k, v9.ownBlock = some k → v8.ownBlock ≠ some k := fun k hk h => H.o89 k h hk
  refine ⟨owns_only H.r7 ho (fun g hg h => H.o78 g hg (by simpa using h)), ?_, owns_only H.r9 ho (fun g hg h => h89 g hg (by simpa using h)), fun b off s hm => ?_, H.p7, fun i hi => ?_, fun k hk => new_blk hv (H.o78 k hk) (H.r7.lt k hk).2, H.o79, fun k hk h => new_blk hv (h89 k h) (H.r9.lt k h).2 hk, H.below.grown hg H.below.size (fun k hk => (H.r8.lt k hk).1)⟩
  · rw [List.length_append]; exact hown
  · obtain ⟨q1, q2, q3, q4, q5⟩ := H.q b off s hm
    exact ⟨q1.only ho (fun x hx h => by injection hx with hx; subst hx; exact q4 (by simpa using h)), Nat.lt_of_lt_of_le q2 ho.size, q3, new_blk hv q4 q2, q5⟩
  · by_cases hi2 : i < R.length
    · obtain ⟨a', c', k1, k2, k3⟩ := H.p8 i hi2
      rw [List.getElem_append_left hi2]
      exact ⟨a', c', by rw [List.getElem?_append_left (by omega)]; exact k1, k2, k3⟩
    · have hi3 : i = R.length := by simp at hi; omega
      subst hi3
      have e : (R ++ [r])[R.length] = r := by simp
      rw [e]
      exact ⟨a, c, by rw [← hx8]; simp, hc, hr⟩
/-- the sectors that lie there -/
theorem Bk.rws7 {w0 w : World} {v7 v8 v9 : Value} {A R : List (List Nat)} {B : List Nat} {Q : List (Nat × Nat × List Nat)} {x7 x8 : List Value} (H : Bk w0 w v7 v8 v9 A R B Q x7 x8) (hA : A.length ≤ 1000) : ∃ a c, v7 = .slice a A.length c ∧ Rws w a A ∧ A.length ≤ c := by
  have hx7 : x7.length = A.length := by have := H.r7.1; omega
  rcases H.r7.2 with ⟨hv, h0⟩ | ⟨g, c, cur, hv, _, hh, hc, _, hs, ht⟩
  · rw [List.eq_nil_of_length_eq_zero h0] at hA ⊢
    exact ⟨none, 0, hv, ⟨by simp, fun h => absurd rfl h⟩, Nat.le_refl _⟩
  · refine ⟨_, c, hv, ⟨by unfold maxLen; omega, fun _ => ⟨g, 0, rfl, (Array.getElem?_eq_some_iff.1 hh).1, fun i hi => ?_⟩⟩, hc⟩
    obtain ⟨k1, b, off, k2, k3⟩ := H.p7 i hi
    refine ⟨some ⟨b, off, none⟩, 256, ?_, by omega, (H.q _ _ _ k3).1⟩
    have h2 := congrArg (fun l => l[i]?) ht
    simp only [List.getElem?_take] at h2
    rw [if_pos (by omega)] at h2
    rw [Nat.zero_add, cell_of_row _ _ _ _ _ _ hh, ← Array.getElem?_toList, h2, k2, k1]
/-- the first j records that lie there -/
theorem Bk.rws8 {w0 w : World} {v7 v8 v9 : Value} {A R : List (List Nat)} {B : List Nat} {Q : List (Nat × Nat × List Nat)} {x7 x8 : List Value} (H : Bk w0 w v7 v8 v9 A R B Q x7 x8) (hR : R.length ≤ 1000000000) : ∃ a c, v8 = .slice a R.length c ∧ R.length ≤ c ∧ ∀ j, Rws w a (R.take j) := by
  have hx8 : x8.length = R.length := by have := H.r8.1; omega
  rcases H.r8.2 with ⟨hv, h0⟩ | ⟨g, c, cur, hv, _, hh, hc, _, hs, ht⟩
  · rw [List.eq_nil_of_length_eq_zero h0] at hR ⊢
    exact ⟨none, 0, hv, Nat.le_refl _, fun j => ⟨by simp, fun h => absurd (by simp) h⟩⟩
  · refine ⟨_, c, hv, hc, fun j => ⟨by rw [List.length_take]; unfold maxLen; omega, fun _ => ⟨g, 0, rfl, (Array.getElem?_eq_some_iff.1 hh).1, fun i hi => ?_⟩⟩⟩
    have hi2 : i < R.length := by rw [List.length_take] at hi; omega
    obtain ⟨a, c', k1, k2, k3⟩ := H.p8 i hi2
    rw [List.getElem_take]
    refine ⟨a, c', ?_, k2, k3.below H.below⟩
    have h2 := congrArg (fun l => l[i]?) ht
    simp only [List.getElem?_take] at h2
    rw [if_pos (by omega)] at h2
    rw [Nat.zero_add, cell_of_row _ _ _ _ _ _ hh, ← Array.getElem?_toList, h2, k1]
/-- where each begins -/
theorem Bk.ints {w0 w : World} {v7 v8 v9 : Value} {A R : List (List Nat)} {B : List Nat} {Q : List (Nat × Nat × List Nat)} {x7 x8 : List Value} (H : Bk w0 w v7 v8 v9 A R B Q x7 x8) (h0 : 0 < B.length) : ∃ g c, v9 = .slice (some ⟨g, 0, none⟩) B.length c ∧ g < w.heap.size ∧ ∀ i (hi : i < B.length), w.cell? ⟨g, i, none⟩ = some (.int .i64 ((B[i] : Nat) : Int)) := by
  rcases H.r9.2 with ⟨_, h1⟩ | ⟨g, c, cur, hv, _, hh, hc, _, hs, ht⟩
  · omega
  · refine ⟨g, c, hv, (Array.getElem?_eq_some_iff.1 hh).1, fun i hi => ?_⟩
    have h2 := congrArg (fun l => l[i]?) ht
    simp only [List.getElem?_take] at h2
    rw [if_pos (by omega)] at h2
    rw [cell_of_row _ _ _ _ _ _ hh, ← Array.getElem?_toList, h2]
    simp [hi]
/-- where the records of a row begin -/
def starts (R : List (List Nat)) : List Nat := (List.range R.length).map fun j => Fr.total (R.take j)
theorem starts_snoc (R : List (List Nat)) (r : List Nat) : starts (R ++ [r]) = starts R ++ [Fr.total R] := by
  unfold starts
  rw [List.length_append, List.length_singleton, List.range_succ, List.map_append, List.map_singleton]
  congr 1
  · refine List.map_congr_left fun j hj => ?_
    have := List.mem_range.1 hj
    rw [List.take_append_of_le_length (by omega)]
  · simp
structure Taken (seg : Nat) (A R : List (List Nat)) (B : List Nat) (T rl : Nat) : Prop where
  all : A = Fr.catS seg 0 R
  bg : B = starts R
  tot : Fr.total R = T
  len : R.length = rl
  short : ∀ r ∈ R, r.length ≤ 7680
theorem Taken.start (seg : Nat) : Taken seg [] [] [] 0 0 := ⟨rfl, rfl, rfl, rfl, fun r h => by cases h⟩
theorem Taken.next {seg : Nat} {A R : List (List Nat)} {B : List Nat} {T rl : Nat} (H : Taken seg A R B T rl) (r : List Nat) (hr : r.length ≤ 7680) : Taken seg (A ++ Fr.cutS seg T r) (R ++ [r]) (B ++ [T]) (T + Fr.need r.length) (rl + 1) := by
  obtain ⟨h1, h2, h3, h4, h5⟩ := H
  refine ⟨?_, ?_, ?_, ?_, fun x hx => ?_⟩
  · rw [Fr.catS_snoc, h1, h3, Nat.zero_add]
  · rw [starts_snoc, h2, h3]
  · rw [Fr.total_snoc, h3]
  · rw [List.length_append, h4]; rfl
  · rcases List.mem_append.1 hx with hx | hx
    · exact h5 x hx
    · simp at hx; subst hx; exact hr
theorem Taken.lens {seg : Nat} {A R : List (List Nat)} {B : List Nat} {T rl : Nat} (H : Taken seg A R B T rl) : A.length = T ∧ B.length = rl := by
  obtain ⟨h1, h2, h3, h4, h5⟩ := H
  refine ⟨by rw [h1, Fr.catS_len, h3], by rw [h2]; simp [starts, h4]⟩
theorem starts_get (R : List (List Nat)) (j : Nat) (hj : j < R.length) : (starts R)[j]? = some (Fr.total (R.take j)) := by
  unfold starts
  rw [List.getElem?_map, List.getElem?_range hj]; rfl
end Go.Proofs.Ytlegdaoidjpokaa
namespace Go.Proofs.Ytlegdaoidjpokaa
set_option linter.unusedVariables false
set_option linter.unusedSimpArgs false
open Go.RowKit
open B2 (Only Row Lots owns_only)
theorem OutR.rws {w : World} {N : Nat} {v : Value} {rs : List (List Nat)} {X : Nat → Value} (h : OutR w N v rs X) (h8 : ∀ r ∈ rs, ∀ c ∈ r, c < 256) (hl : rs.length ≤ 1000000000) : ∃ a c, v = .slice a rs.length c ∧ Rws w a rs := by
  obtain ⟨a, c, hv⟩ := h.shape
  refine ⟨a, c, hv, by unfold maxLen; omega, fun hn => ?_⟩
  have h0 : 0 < rs.length := by cases rs with | nil => exact absurd rfl hn | cons x l => simp
  obtain ⟨g, c2, _, _, hv2, hc2, _⟩ := h.cell 0 h0
  rw [hv] at hv2
  injection hv2 with ha _ _
  refine ⟨g, 0, ha, World.block_lt_of_cell? _ _ hc2, fun i hi => ?_⟩
  obtain ⟨g', c3, xa, xc, hv3, hc3, hx⟩ := h.cell i hi
  rw [hv] at hv3
  injection hv3 with ha3 _ _
  have hgg : g' = g := by rw [ha] at ha3; injection ha3 with h5; injection h5 with h6; exact h6.symm
  subst hgg
  have hown := h.lots.own i
  have e : rs.getD i [] = rs[i] := by simp [List.getD, List.getElem?_eq_getElem hi]
  simp only [e] at hown
  obtain ⟨a4, c4, hx4, hb4, hc4⟩ := OwnB.bys (v := X i) (ds := rs[i]) hown (h8 _ (List.getElem_mem hi))
  rw [hx] at hx4
  injection hx4 with e1 _ e2
  subst e1; subst e2
  exact ⟨xa, xc, by rw [Nat.zero_add]; exact hc3, hc4, hb4⟩
theorem Bk.byt {w0 w : World} {v7 v8 v9 : Value} {A R : List (List Nat)} {B : List Nat} {Q : List (Nat × Nat × List Nat)} {x7 x8 : List Value} (H : Bk w0 w v7 v8 v9 A R B Q x7 x8) : ∀ r ∈ R, ∀ c ∈ r, c < 256 := by
  intro r hr
  obtain ⟨i, hi, rfl⟩ := List.getElem_of_mem hr
  obtain ⟨a, c, _, _, hb⟩ := H.p8 i hi
  exact hb.2.1
theorem Bk.src7 {w0 w : World} {v7 v8 v9 : Value} {A R : List (List Nat)} {B : List Nat} {Q : List (Nat × Nat × List Nat)} {x7 x8 : List Value} (H : Bk w0 w v7 v8 v9 A R B Q x7 x8) (h0 : 0 < A.length) :
    x7.length = A.length ∧ (∀ u ∈ x7, u.oneCell' = true) ∧ ∃ g c, v7 = .slice (some ⟨g, 0, none⟩) A.length c ∧ ∀ j u, x7[j]? = some u → w.cell? ((⟨g, 0, none⟩ : Addr).add j) = some u := by
  have hx7 : x7.length = A.length := by have := H.r7.1; omega
  refine ⟨hx7, fun u hu => ?_, ?_⟩
  · obtain ⟨i, hi, rfl⟩ := List.getElem_of_mem hu
    obtain ⟨_, b, off, k, _⟩ := H.p7 i (by omega)
    rw [List.getElem?_eq_getElem hi] at k
    injection k with k
    rw [k]; simp [Value.oneCell']
  · rcases H.r7.2 with ⟨_, h1⟩ | ⟨g, c, cur, hv, _, hh, hc, _, hs, ht⟩
    · omega
    · refine ⟨g, c, hv, fun j u hu => ?_⟩
      have hj : j < x7.length := (List.getElem?_eq_some_iff.1 hu).1
      have h2 := congrArg (fun l => l[j]?) ht
      simp only [List.getElem?_take] at h2
      rw [if_pos (by omega)] at h2
      rw [B2.add_here, cell_of_row _ _ _ _ _ _ hh, ← Array.getElem?_toList, h2, hu]
/-- a row of slices, copied to a row of their own -/
theorem copy_own {wr w5 : World} {n : Nat} {xs : List Value} {v2 : Value} (hown : w5.ownsRow wr.heap.size 23 1 v2 (0 + n) ([] ++ xs)) (h0 : 0 < n) : ∃ g2 c2, v2 = .slice (some ⟨g2, 0, none⟩) n c2 ∧ wr.heap.size ≤ g2 ∧ n ≤ c2 ∧ ∃ cur : Array Value, w5.heap[g2]? = some (.cells cur 23 (0, 0)) ∧ n ≤ cur.size ∧ ∀ i, i < n → cur[i]? = xs[i]? := by
  rw [Nat.zero_add, List.nil_append] at hown
  rcases hown.2 with ⟨_, h1⟩ | ⟨g, c, cur, hv, hN, hh, hc, _, hs, ht⟩
  · omega
  · refine ⟨g, c, hv, hN, hc, cur, hh, by omega, fun i hi => ?_⟩
    have h2 := congrArg (fun l => l[i]?) ht
    simp only [List.getElem?_take] at h2
    rw [if_pos (by omega)] at h2
    rw [← Array.getElem?_toList]
    exact h2
def zeroSec : List Nat := List.replicate 256 0
theorem make256z (W : World) : (Instr.makeSlice 23 (.int .i64 256) (.int .i64 256)).run Try.prog W = .ok (.slice (some ⟨W.heap.size, 0, none⟩) 256 256) (W.alloc (.cells (cellsOf zeroSec).toArray 5)) := make256 W
theorem some_rws {w0 w3 w5 : World} {v7 v8 v9 : Value} {A R : List (List Nat)} {B : List Nat} {Q : List (Nat × Nat × List Nat)} {x7 x8 : List Value} {g2 k nd : Nat} (H : Bk w0 w3 v7 v8 v9 A R B Q x7 x8) (hb : Below w3.heap.size w3 w5) (hg : w3.heap.size ≤ g2) (hn : A.length = nd)
    (hrow : ∃ cur : Array Value, w5.heap[g2]? = some (.cells cur 23 (0, 0)) ∧ nd ≤ cur.size ∧ ∀ i, i < nd → cur[i]? = x7[i]?) (hk : k < nd) (hA : nd ≤ 1000) :
    Below w3.heap.size w3 ((w5.alloc (.cells (cellsOf zeroSec).toArray 5)).setCell ⟨g2, k, none⟩ (.slice (some ⟨w5.heap.size, 0, none⟩) 256 256)) ∧ Rws ((w5.alloc (.cells (cellsOf zeroSec).toArray 5)).setCell ⟨g2, k, none⟩ (.slice (some ⟨w5.heap.size, 0, none⟩) 256 256)) (some ⟨g2, 0, none⟩) (A.set k zeroSec) := by
  subst hn
  obtain ⟨cur, h1, h2, h3⟩ := hrow
  have hglt : g2 < w5.heap.size := (Array.getElem?_eq_some_iff.1 h1).1
  have hA5 := (Below.refl w5.heap.size w5).alloc (Nat.le_refl _) (.cells (cellsOf zeroSec).toArray 5)
  have h1a : (w5.alloc (.cells (cellsOf zeroSec).toArray 5)).heap[g2]? = some (.cells cur 23 (0, 0)) := (hA5.block _ hglt).trans h1
  have hz : Bys (w5.alloc (.cells (cellsOf zeroSec).toArray 5)) (some ⟨w5.heap.size, 0, none⟩) zeroSec := made_bys 256 (by decide) w5
  generalize w5.alloc (.cells (cellsOf zeroSec).toArray 5) = W at *
  have ho : Only [g2] W (W.setCell ⟨g2, k, none⟩ (.slice (some ⟨w5.heap.size, 0, none⟩) 256 256)) := (Only.refl [g2] W).setCell (p := ⟨g2, k, none⟩) (.inl (by simp)) _
  have hbW : Below w3.heap.size w3 (W.setCell ⟨g2, k, none⟩ (.slice (some ⟨w5.heap.size, 0, none⟩) 256 256)) := (hb.trans (hA5.mono hb.size)).setCell hg _
  have hz6 := hz.only ho (fun x hx h => by injection hx with hx; subst hx; simp at h; omega)
  refine ⟨hbW, by rw [List.length_set]; unfold maxLen; omega, fun _ => ⟨g2, 0, rfl, ?_, fun i hi => ?_⟩⟩
  · have := ho.size; have := hA5.size; omega
  have hi2 : i < A.length := by rw [List.length_set] at hi; exact hi
  have hcell : (W.setCell ⟨g2, k, none⟩ (.slice (some ⟨w5.heap.size, 0, none⟩) 256 256)).cell? ⟨g2, i, none⟩ = (cur.setIfInBounds k (.slice (some ⟨w5.heap.size, 0, none⟩) 256 256))[i]? := cell_of_row _ _ _ _ _ _ (heap_setCell_same _ _ _ _ _ _ h1a)
  rw [Nat.zero_add, hcell]
  rw [Array.getElem?_setIfInBounds]
  by_cases e : k = i
  · subst e
    have e1 : (A.set k zeroSec)[k] = zeroSec := by simp
    rw [if_pos rfl, if_pos (by omega), e1]
    exact ⟨_, 256, by unfold zeroSec; rw [List.length_replicate], by unfold zeroSec; rw [List.length_replicate]; exact Nat.le_refl _, hz6⟩
  · have e1 : (A.set k zeroSec)[i] = A[i] := by rw [List.getElem_set, if_neg e]
    obtain ⟨k1, b, off, k2, k3⟩ := H.p7 i hi2
    rw [if_neg e, e1, h3 i hi2, k2, k1]
    exact ⟨_, 256, rfl, Nat.le_refl _, (H.q _ _ _ k3).1.below hbW⟩
/-- which record a sector belongs to -/
theorem find_ahead (R : List (List Nat)) : ∀ k, k < Fr.total R → ∃ al, al < R.length ∧ Fr.total (R.take al) ≤ k ∧ k < Fr.total (R.take (al + 1)) := by
  induction R with
  | nil => intro k h; simp [Fr.total] at h
  | cons r R ih =>
    intro k h
    simp only [Fr.total] at h
    by_cases h1 : k < Fr.need r.length
    · exact ⟨0, by simp, by simp [Fr.total], by simp only [List.take_succ_cons, Fr.total]; omega⟩
    · obtain ⟨al, h2, h3, h4⟩ := ih (k - Fr.need r.length) (by omega)
      exact ⟨al + 1, by simp; omega, by simp only [List.take_succ_cons, Fr.total]; omega, by simp only [List.take_succ_cons, Fr.total] at h4 ⊢; omega⟩
/-- both scans, of what was taken -/
theorem Taken.scan {seg : Nat} {A R : List (List Nat)} {B : List Nat} {T rl : Nat} (H : Taken seg A R B T rl) (hT : T ≤ 32) : Fr.scan seg A = (R, T) := by
  have := H.tot
  rw [H.all, Fr.scan_cat seg R H.short (by omega), this]
theorem Taken.scan_at {seg : Nat} {A R : List (List Nat)} {B : List Nat} {T rl k al : Nat} (H : Taken seg A R B T rl) (hT : T ≤ 32) (hal : al < rl) (h1 : Fr.total (R.take al) ≤ k) (h2 : k < Fr.total (R.take (al + 1))) : Fr.scan seg (A.set k zeroSec) = (R.take al, Fr.total (R.take al)) := by
  have := H.tot
  have := H.len
  rw [H.all]
  exact Fr.scan_hurt seg k al R H.short (by omega) (by omega) h1 h2
end Go.Proofs.Ytlegdaoidjpokaa
namespace Go.Proofs.Ytlegdaoidjpokaa
set_option linter.unusedVariables false
set_option linter.unusedSimpArgs false
open Go.RowKit
open B2 (Only Row Lots owns_only)
theorem list_src (W : World) (l : List Value) (t : TypeId) : ∀ (j : Nat) (x : Value), l[j]? = some x → (W.alloc (.cells l.toArray t)).cell? ((⟨W.heap.size, 0, none⟩ : Addr).add j) = some x := by
  intro j x hx
  rw [B2.add_here, cell_of_row _ _ _ _ _ _ (heap_alloc_new W _), List.getElem?_toArray]
  exact hx
theorem app_four {w W w4 : World} {v v' : Value} {ds ns : List Nat} {n m : Nat} {news : List Value} (h : OwnB W w.heap.size v ds ∧ Below w.heap.size w W) (hn : ds.length = n) (hm : ns.length = m) (e : news = cellsOf ns)
    (hown : w4.ownsRow w.heap.size 5 1 v' (n + m) (cellsOf ds ++ news)) (hg : (W.alloc (.cells news.toArray 5)).grownBy w4 v.ownBlock) : OwnB w4 w.heap.size v' (ds ++ ns) ∧ Below w.heap.size w w4 := by
  subst e
  have hA := (Below.refl W.heap.size W).alloc (Nat.le_refl _) (.cells (cellsOf ns).toArray 5)
  have h1 := h.1.below hA
  have hb : Below w.heap.size w (W.alloc (.cells (cellsOf ns).toArray 5)) := h.2.trans (hA.mono h.2.size)
  exact own_more hb h1 rfl hm (by rw [hn]; exact hown) hg
theorem le4_cells (x : Nat) (h : x < 4294967296) : ([.int .u8 ((x : Int) % 256), .int .u8 ((x : Int) / 256 % 256), .int .u8 ((x : Int) / 65536 % 256), .int .u8 ((x : Int) / 16777216)] : List Value) = cellsOf (Fr.le 4 x) := by
  simp only [cellsOf, Fr.le, List.map_cons, List.map_nil, List.cons.injEq, Value.int.injEq, true_and, and_true]
  refine ⟨?_, ?_, ?_, ?_⟩ <;> omega
theorem le2_cells (x y : Nat) (hx : x < 65536) (hy : y < 65536) : ([.int .u8 ((x : Int) % 256), .int .u8 ((x : Int) / 256), .int .u8 ((y : Int) % 256), .int .u8 ((y : Int) / 256)] : List Value) = cellsOf (Fr.le 2 x ++ Fr.le 2 y) := by
  simp only [cellsOf, Fr.le, List.map_cons, List.map_nil, List.cons_append, List.nil_append, List.cons.injEq, Value.int.injEq, true_and, and_true]
  refine ⟨?_, ?_, ?_, ?_⟩ <;> omega
/-- the head, as far as it stands -/
def hd8 (kind seg : Nat) : List Nat := [66, 76, kind, 0] ++ Fr.le 4 seg
theorem hd8_len (kind seg : Nat) : (hd8 kind seg).length = 8 := rfl
theorem hd12_len (kind seg t n : Nat) : (Fr.head kind seg t n).length = 12 := rfl
theorem hd12 (kind seg t n : Nat) : hd8 kind seg ++ (Fr.le 2 t ++ Fr.le 2 n) = Fr.head kind seg t n := rfl
theorem app_cells {w W w4 : World} {v v' : Value} {ds ns : List Nat} {n m : Nat} (h : OwnB W w.heap.size v ds ∧ Below w.heap.size w W) (hn : ds.length = n) (hm : ns.length = m)
    (hown : w4.ownsRow w.heap.size 5 1 v' (n + m) (cellsOf ds ++ cellsOf ns)) (hg : W.grownBy w4 v.ownBlock) : OwnB w4 w.heap.size v' (ds ++ ns) ∧ Below w.heap.size w w4 :=
  own_more h.2 h.1 rfl hm (by rw [hn]; exact hown) hg
set_option maxHeartbeats 4000000 in
set_option maxRecDepth 100000 in
theorem refsec_some (ad : Addr) (pc : List Nat) (n cap kind seg t : Nat) (hn : pc.length = n) (hn2 : n ≤ 240) (hk : kind < 256) (hs : seg < 4294967296) (ht : t < 65536) (w : World) (H : Bys w (some ad) pc) :
    Calls Try.prog 28 #[.int .i64 kind, .int .u32 seg, .int .i64 t, .slice (some ad) n cap] w fun e w' => ∃ v, e = .returned v ∧ OwnB w' w.heap.size v (Fr.sec kind seg t pc) ∧ Below w.heap.size w w' := by
  obtain ⟨i0, hi, hz0, hz1, hz2⟩ := info_parts info5
  have HI := Lib.hid (And.intro hi (And.intro hz0 (And.intro hz1 hz2)))
  have H0 := Lib.hid (show OwnB w w.heap.size (.slice none 0 0) [] ∧ Below w.heap.size w w from ⟨OwnB.nil _ _, Below.refl _ _⟩)
  have HS := Lib.hid (le4_cells seg hs)
  have HT := Lib.hid (le2_cells t n ht (by omega))
  have HP := Lib.hid (And.intro H hn)
  have hn3 : n < 256 := by omega
  clear hi hz0 hz1 hz2 H hn
  go_enter Try.func28, Try.ntmps28
  go_wp2_with (first
    | (at_builtin; (refine wpList_append_own_at _ rfl (.tmp 11) (.tmp 14) 23 rfl w.heap.size 5 i0 (.int .u8 0) 1 1 Try.underlying23 HI.out.1 HI.out.2.1 HI.out.2.2.1 HI.out.2.2.2 rfl (by decide) (.slice none 0 0) 0 [] rfl (World.ownsRow_nil _ _ _ _) ⟨w.heap.size, 0, none⟩ 4 4 [.int .u8 66, .int .u8 76, .int .u8 kind, .int .u8 0] rfl rfl (list_src w _ 5) (by simp [Value.oneCell']) (by decide) (by decide) (by simp) ?_)
       intro v1 w1 hown1 hgr1 _ _
       have H1 : Hid (OwnB w1 w.heap.size v1 [66, 76, kind, 0] ∧ Below w.heap.size w w1) := Lib.hid (app_four (ns := [66, 76, kind, 0]) H0.out rfl rfl rfl hown1 hgr1)
       obtain ⟨a1, c1, rfl⟩ : ∃ a c, v1 = .slice a 4 c := H1.out.1.shape
       have HO1 := Lib.hid (show (w1.alloc (.cells #[Value.int IntKind.u8 ((seg : Int) % 256), Value.int IntKind.u8 ((seg : Int) / 256 % 256), Value.int IntKind.u8 ((seg : Int) / 65536 % 256), Value.int IntKind.u8 ((seg : Int) / 16777216)] 5)).ownsRow w.heap.size 5 1 (.slice a1 4 c1) 4 (cellsOf [66, 76, kind, 0]) from H1.out.1.below ((Below.refl w1.heap.size w1).alloc (Nat.le_refl _) _))
       clear hown1 hgr1)
    | (at_builtin; (refine wpList_append_own_at _ rfl (.tmp 16) (.tmp 28) 23 rfl w.heap.size 5 i0 (.int .u8 0) 1 1 Try.underlying23 HI.out.1 HI.out.2.1 HI.out.2.2.1 HI.out.2.2.2 rfl (by decide) (.slice a1 4 c1) 4 (cellsOf [66, 76, kind, 0]) rfl HO1.out ⟨w1.heap.size, 0, none⟩ 4 4 [.int .u8 ((seg : Int) % 256), .int .u8 ((seg : Int) / 256 % 256), .int .u8 ((seg : Int) / 65536 % 256), .int .u8 ((seg : Int) / 16777216)] rfl rfl (list_src w1 _ 5) (by simp [Value.oneCell']) (by decide) (by decide) (by have := H1.out.2.size; simp; omega) ?_)
       intro v2 w2 hown2 hgr2 _ _
       have H2 : Hid (OwnB w2 w.heap.size v2 (hd8 kind seg) ∧ Below w.heap.size w w2) := Lib.hid (app_four (ns := Fr.le 4 seg) H1.out rfl (Fr.le_len 4 seg) HS.out hown2 hgr2)
       obtain ⟨a2, c2, rfl⟩ : ∃ a c, v2 = .slice a 8 c := H2.out.1.shape
       have HO2 := Lib.hid (show (w2.alloc (.cells #[Value.int IntKind.u8 ((t : Int) % 256), Value.int IntKind.u8 ((t : Int) / 256), Value.int IntKind.u8 ((n : Int) % 256), Value.int IntKind.u8 ((n : Int) / 256)] 5)).ownsRow w.heap.size 5 1 (.slice a2 8 c2) 8 (cellsOf (hd8 kind seg)) from H2.out.1.below ((Below.refl w2.heap.size w2).alloc (Nat.le_refl _) _))
       clear hown2 hgr2)
    | (at_builtin; (refine wpList_append_own_at _ rfl (.tmp 30) (.tmp 45) 23 rfl w.heap.size 5 i0 (.int .u8 0) 1 1 Try.underlying23 HI.out.1 HI.out.2.1 HI.out.2.2.1 HI.out.2.2.2 rfl (by decide) (.slice a2 8 c2) 8 (cellsOf (hd8 kind seg)) rfl HO2.out ⟨w2.heap.size, 0, none⟩ 4 4 [.int .u8 ((t : Int) % 256), .int .u8 ((t : Int) / 256), .int .u8 ((n : Int) % 256), .int .u8 ((n : Int) / 256)] rfl rfl (list_src w2 _ 5) (by simp [Value.oneCell']) (by decide) (by decide) (by have := H2.out.2.size; simp; omega) ?_)
       intro v3 w3 hown3 hgr3 _ _
       have H3 : Hid (OwnB w3 w.heap.size v3 (Fr.head kind seg t n) ∧ Below w.heap.size w w3) := Lib.hid (app_four (ns := Fr.le 2 t ++ Fr.le 2 n) H2.out rfl rfl HT.out hown3 hgr3)
       obtain ⟨a3, c3, rfl⟩ : ∃ a c, v3 = .slice a 12 c := H3.out.1.shape
       have HO3 := Lib.hid (show w3.ownsRow w.heap.size 5 1 (.slice a3 12 c3) 12 (cellsOf (Fr.head kind seg t n)) from H3.out.1)
       have HSRC := Lib.hid (cellsOf_at (HP.out.1.below H3.out.2))
       have HL := Lib.hid (show (cellsOf pc).length = n * 1 by rw [cellsOf_length, HP.out.2, Nat.mul_one])
       have HMX := Lib.hid (show 12 + n ≤ maxLen ∧ (12 + n) * 1 ≤ 140737488355328 from ⟨by unfold maxLen; omega, by omega⟩)
       clear hown3 hgr3)
    | (at_builtin; (refine wpList_append_own_at _ rfl (.tmp 47) (.tmp 48) 23 rfl w.heap.size 5 i0 (.int .u8 0) 1 1 Try.underlying23 HI.out.1 HI.out.2.1 HI.out.2.2.1 HI.out.2.2.2 rfl (by decide) (.slice a3 12 c3) 12 (cellsOf (Fr.head kind seg t n)) rfl HO3.out ad n cap (cellsOf pc) rfl HL.out HSRC.out (cellsOf_one _) HMX.out.1 HMX.out.2 H3.out.2.size ?_)
       intro v4 w4 hown4 hgr4 _ _
       have H4 : Hid (OwnB w4 w.heap.size v4 (Fr.head kind seg t n ++ pc) ∧ Below w.heap.size w w4) := Lib.hid (app_cells H3.out rfl HP.out.2 hown4 hgr4)
       clear hown4 hgr4))
  have HST : Hid (OwnB w4 w.heap.size v4 (Fr.head kind seg t n ++ (pc ++ List.replicate 0 0)) ∧ Below w.heap.size w w4) := Lib.hid (by rw [List.replicate_zero, List.append_nil]; exact H4.out)
  clear H1 H2 H3 HO1 HO2 HO3 HSRC HL HMX H4 H0
  go_loopw [9] (fun v wr => ∃ m : Nat, m + n ≤ 240 ∧ Hid (OwnB wr w.heap.size v (Fr.head kind seg t n ++ (pc ++ List.replicate m 0)) ∧ Below w.heap.size w wr)) (fun v _ => match v with | .slice _ k _ => 252 - k | _ => 0)
  case atStart => exact ⟨0, by omega, HST⟩
  case round =>
    clear HST
    obtain ⟨m, hm, HB⟩ := hrel
    obtain ⟨va, vc, hv⟩ := HB.out.1.shape
    have hlen : (Fr.head kind seg t n ++ (pc ++ List.replicate m 0)).length = 12 + n + m := by rw [List.length_append, List.length_append, List.length_replicate, HP.out.2, hd12_len]; omega
    rw [hlen] at hv
    subst hv
    obtain ⟨k, hk2⟩ : ∃ k, 12 + n + m = k := ⟨_, rfl⟩
    have HLEN := Lib.hid hlen
    rw [hk2] at HLEN
    rw [hk2] at HB
    rw [hk2]
    by_cases hlt : k < 252
    · have hd : decide ((k : Int) < 252) = true := by simp; omega
      have hd2 : decide (k < 252) = true := by simp; omega
      have HOB := Lib.hid (show (wr.alloc (.cells #[Value.int IntKind.u8 0] 5)).ownsRow w.heap.size 5 1 (.slice va k vc) k (cellsOf (Fr.head kind seg t n ++ (pc ++ List.replicate m 0))) from by
        have h := HB.out.1.below ((Below.refl wr.heap.size wr).alloc (Nat.le_refl _) (.cells #[Value.int IntKind.u8 0] 5))
        unfold OwnB at h
        rw [HLEN.out] at h
        exact h)
      have HMX := Lib.hid (show k + 1 ≤ maxLen ∧ (k + 1) * 1 ≤ 140737488355328 from ⟨by unfold maxLen; omega, by omega⟩)
      go_wp2_with (at_builtin; (refine wpList_append_own_at _ rfl (.tmp 53) (.tmp 54) 23 rfl w.heap.size 5 i0 (.int .u8 0) 1 1 Try.underlying23 HI.out.1 HI.out.2.1 HI.out.2.2.1 HI.out.2.2.2 rfl (by decide) (.slice va k vc) k (cellsOf (Fr.head kind seg t n ++ (pc ++ List.replicate m 0))) rfl HOB.out ⟨wr.heap.size, 0, none⟩ 1 1 [.int .u8 0] rfl rfl (list_src wr _ 5) (by simp [Value.oneCell']) HMX.out.1 HMX.out.2 (by have := HB.out.2.size; simp; omega) ?_)
                   intro v5 w5 hown5 hgr5 _ _
                   have H5 : Hid (OwnB w5 w.heap.size v5 (Fr.head kind seg t n ++ (pc ++ List.replicate (m + 1) 0)) ∧ Below w.heap.size w w5) := Lib.hid (by
                     have h := app_four (ns := [0]) HB.out HLEN.out rfl rfl hown5 hgr5
                     rw [List.append_assoc, List.append_assoc] at h
                     rw [List.replicate_succ']
                     exact h)
                   obtain ⟨a5, c5, rfl⟩ : ∃ a c, v5 = .slice a (k + 1) c := by
                     obtain ⟨a, c, h⟩ := H5.out.1.shape
                     refine ⟨a, c, ?_⟩
                     rw [h, List.length_append, List.length_append, List.length_replicate, HP.out.2, hd12_len, ← hk2]
                     congr 1; omega
                   clear hown5 hgr5)
      go_roundw
      case rel => exact ⟨m + 1, by omega, H5⟩
      case measure => simp; omega
    · have hd : decide ((k : Int) < 252) = false := by simp; omega
      have hd2 : decide (k < 252) = false := by simp; omega
      obtain rfl : k = 252 := by omega
      obtain rfl : m = 240 - n := by omega
      have HB2 := Lib.hid (show OwnB wr w.heap.size (.slice va 252 vc) (Fr.data kind seg t pc) ∧ Below w.heap.size w wr from by have h := HB.out; unfold Fr.data; rw [HP.out.2]; exact h)
      have hdl : (Fr.data kind seg t pc).length = 252 := Fr.data_len _ _ _ _ (by have := HP.out.2; omega)
      have hd8 : ∀ c ∈ Fr.data kind seg t pc, c < 256 := Fr.data_lt _ _ _ _ hk HP.out.1.2.1
      obtain ⟨x9, y9, hv9, hb9, -⟩ := HB2.out.1.bys hd8
      have hx9 : va = x9 := by injection hv9
      clear hv9
      subst hx9
      have CR := Lib.hid (refsum_any va (Fr.data kind seg t pc) vc wr hb9)
      rw [hdl] at CR
      have hml : Crc.More 0 (Fr.data kind seg t pc) < 4294967296 := Crc.C_lt _
      have HDL := Lib.hid hdl
      obtain ⟨D, hD⟩ : ∃ D, Fr.data kind seg t pc = D := ⟨_, rfl⟩
      have HSEC := Lib.hid (show Fr.sec kind seg t pc = D ++ Fr.le 4 (Crc.More 0 D) by unfold Fr.sec; rw [hD])
      rw [hD] at CR hml HB2 HDL
      obtain ⟨s, hs'⟩ : ∃ s, Crc.More 0 D = s := ⟨_, rfl⟩
      rw [hs'] at CR hml HSEC
      have HS4 := Lib.hid (le4_cells s hml)
      clear hb9 hd8 hdl hD hs' HB HLEN HT HS
      go_wp2_with fail
      go_at_call 23
      refine CR.out.mono ?_
      rintro e w6 ⟨rfl, hw6⟩
      obtain rfl : wr = w6 := hw6
      clear CR
      have HO6 := Lib.hid (show (wr.alloc (.cells #[Value.int IntKind.u8 ((s : Int) % 256), Value.int IntKind.u8 ((s : Int) / 256 % 256), Value.int IntKind.u8 ((s : Int) / 65536 % 256), Value.int IntKind.u8 ((s : Int) / 16777216)] 5)).ownsRow w.heap.size 5 1 (.slice va 252 vc) 252 (cellsOf D) from by
        have h := HB2.out.1.below ((Below.refl wr.heap.size wr).alloc (Nat.le_refl _) (.cells #[Value.int IntKind.u8 ((s : Int) % 256), Value.int IntKind.u8 ((s : Int) / 256 % 256), Value.int IntKind.u8 ((s : Int) / 65536 % 256), Value.int IntKind.u8 ((s : Int) / 16777216)] 5))
        unfold OwnB at h
        rw [HDL.out] at h
        exact h)
      go_wp2_with (at_builtin; (refine wpList_append_own_at _ rfl (.tmp 58) (.tmp 70) 23 rfl w.heap.size 5 i0 (.int .u8 0) 1 1 Try.underlying23 HI.out.1 HI.out.2.1 HI.out.2.2.1 HI.out.2.2.2 rfl (by decide) (.slice va 252 vc) 252 (cellsOf D) rfl HO6.out ⟨wr.heap.size, 0, none⟩ 4 4 [.int .u8 ((s : Int) % 256), .int .u8 ((s : Int) / 256 % 256), .int .u8 ((s : Int) / 65536 % 256), .int .u8 ((s : Int) / 16777216)] rfl rfl (list_src wr _ 5) (by simp [Value.oneCell']) (by decide) (by decide) (by have := HB2.out.2.size; simp; omega) ?_)
                   intro v7 w7 hown7 hgr7 _ _
                   have H7 : Hid (OwnB w7 w.heap.size v7 (D ++ Fr.le 4 s) ∧ Below w.heap.size w w7) := Lib.hid (app_four (ns := Fr.le 4 s) HB2.out HDL.out (Fr.le_len 4 s) HS4.out hown7 hgr7)
                   clear hown7 hgr7)
      go_returns
      rw [HSEC.out]
      exact ⟨_, rfl, H7.out⟩
end Go.Proofs.Ytlegdaoidjpokaa
namespace Go.Proofs.Ytlegdaoidjpokaa
set_option linter.unusedVariables false
set_option linter.unusedSimpArgs false
open Go.RowKit
open B2 (Only Row Lots owns_only)
namespace Fr
def plen (s : List Nat) : Nat := s.getD 10 0 + 256 * s.getD 11 0
def ppc (s : List Nat) : List Nat := (s.drop 12).take (plen s)
/-- a sector of this segment and number, its size not asked -/
def pieceS (seg at' : Nat) (s : List Nat) : Option (Nat × List Nat) :=
  if s.length = 256 ∧ at' ≤ 65535 then
    if plen s ≤ 240 then
      if 1 ≤ s.getD 2 0 ∧ s.getD 2 0 ≤ 4 then
        if sec (s.getD 2 0) seg at' (ppc s) = s then some (s.getD 2 0, ppc s) else none
      else none
    else none
  else none
theorem readS_piece (seg at' : Nat) (s : List Nat) : readS seg at' s = match pieceS seg at' s with
    | none => none
    | some (k, pc) => if sizeOk k pc.length = true then some (k, pc) else none := by
  unfold readS pieceS ppc plen
  by_cases h1 : s.length = 256 ∧ at' ≤ 65535
  · rw [if_pos h1]
    by_cases h2 : s.getD 10 0 + 256 * s.getD 11 0 ≤ 240
    · rw [if_pos ⟨h1.1, h1.2, h2⟩, if_pos h2]
      have hl : ((s.drop 12).take (s.getD 10 0 + 256 * s.getD 11 0)).length = s.getD 10 0 + 256 * s.getD 11 0 := by rw [List.length_take, List.length_drop]; omega
      have hs2 : ∀ k seg at' pc, s = sec k seg at' pc → s.getD 2 0 = k := by
        intro k seg at' pc h
        obtain ⟨t, e⟩ := sec_cons k seg at' pc
        rw [h, e]; rfl
      by_cases h3 : 1 ≤ s.getD 2 0 ∧ s.getD 2 0 ≤ 4
      · rw [if_pos h3]
        have hk := kinds_same (s.getD 2 0) (by omega)
        rw [hk]
        by_cases h4 : sec (s.getD 2 0) seg at' ((s.drop 12).take (s.getD 10 0 + 256 * s.getD 11 0)) = s
        · rw [if_pos h4]
          simp only [hl]
          by_cases h5 : sizeOk (s.getD 2 0) (s.getD 10 0 + 256 * s.getD 11 0) = true
          · rw [if_pos ⟨h5, h4.symm⟩, if_pos h5]
          · rw [if_neg (fun h => h5 h.1), if_neg h5]
        · rw [if_neg h4, if_neg (fun h => h4 h.2.symm)]
      · rw [if_neg h3]
        rw [if_neg]
        rintro ⟨-, h⟩
        have h6 := hs2 _ _ _ _ h
        rcases kinds_is (s.getD 2 0) with h7 | h7 | h7 | h7 <;> omega
    · rw [if_neg h2, if_neg (fun h => h2 h.2.2)]
  · rw [if_neg h1, if_neg (fun h => h1 ⟨h.1, h.2.1⟩)]
end Fr
/-- what piece comes to -/
def PiecePost (o : Option (Nat × List Nat)) (w : World) (e : Ending) (w' : World) : Prop :=
  Below w.heap.size w w' ∧ match o with
  | none => e = .returned (.tuple #[.int .i64 0, .slice none 0 0])
  | some (k, pc) => ∃ ad c, e = .returned (.tuple #[.int .i64 ((k : Nat) : Int), .slice (some ad) pc.length c]) ∧ Bys w (some ad) pc
theorem Bys.cut {w : World} {b off : Nat} {s : List Nat} (h : Bys w (some ⟨b, off, none⟩) s) (k m : Nat) : Bys w (some ⟨b, off + k, none⟩) ((s.drop k).take m) := by
  obtain ⟨h1, h2, h3⟩ := h
  refine ⟨by rw [List.length_take, List.length_drop]; omega, fun c hc => h2 c (List.mem_of_mem_drop (List.mem_of_mem_take hc)), fun hn => ?_⟩
  have hk : k < s.length := by
    by_cases hk : k < s.length
    · exact hk
    · rw [List.drop_eq_nil_of_le (by omega)] at hn; simp at hn
  obtain ⟨b', off', he, hb, hc⟩ := h3 (by intro h; rw [h] at hk; simp at hk)
  injection he with he
  injection he with e1 e2
  subst e1; subst e2
  refine ⟨b, off + k, rfl, hb, fun i hi => ?_⟩
  rw [List.length_take, List.length_drop] at hi
  rw [show off + k + i = off + (k + i) by omega, hc (k + i) (by omega), List.getElem_take, List.getElem_drop]
theorem refsec_conv (ad : Addr) (pc SC : List Nat) (n cap kind seg t : Nat) (hn : pc.length = n) (hn2 : n ≤ 240) (hk : kind < 256) (hs : seg < 4294967296) (ht : t < 65536) (hSC : Fr.sec kind seg t pc = SC) (w : World) (H : Bys w (some ad) pc) :
    Calls Try.prog 28 #[.int .i64 kind, .int .u32 seg, .int .i64 t, .slice (some ad) n cap] w fun e w' => ∃ a k c, e = .returned (.slice a k c) ∧ (convert 23 9 (.slice a k c)).run Try.prog w' = .ok (.string (strB SC)) w' ∧ Below w.heap.size w w' := by
  refine (refsec_some ad pc n cap kind seg t hn hn2 hk hs ht w H).mono ?_
  rintro e w' ⟨v, rfl, h1, h2⟩
  have hl : (Fr.sec kind seg t pc).length = 256 := Fr.sec_len _ _ _ _ (by omega)
  have h8 := Fr.sec_lt kind seg t pc hk H.2.1
  obtain ⟨a, c, hv, hb, -⟩ := h1.bys h8
  rw [hl] at hv
  rw [hSC] at hl hb
  exact ⟨a, 256, c, by rw [hv], conv_bys w' a SC 256 c hl (by intro h; rw [h] at hl; simp at hl) hb, h2⟩
theorem refpiece_no (a : Option Addr) (s : List Nat) (n cap seg t : Nat) (hn : s.length = n) (h : ¬ (n = 256 ∧ t ≤ 65535)) (w : World) :
    Calls Try.prog 70 #[.int .u32 seg, .int .i64 t, .slice a n cap] w (PiecePost (Fr.pieceS seg t s) w) := by
  have e : Fr.pieceS seg t s = none := by unfold Fr.pieceS; rw [if_neg (by rw [hn]; exact h)]
  rw [e]
  clear hn e
  by_cases h1 : n = 256
  · subst h1
    have hd : decide ((65535 : Int) < (t : Int)) = true := by simp; omega
    have hd2 : decide (65535 < t) = true := by simp; omega
    clear h
    go_enter Try.func70, Try.ntmps70
    go_wp2_with fail
    go_returns
    exact ⟨Below.refl _ _, rfl⟩
  · have hd : ((n : Int) != 256) = true := by simp; omega
    clear h
    go_enter Try.func70, Try.ntmps70
    go_wp2_with fail
    go_returns
    exact ⟨Below.refl _ _, rfl⟩
set_option maxHeartbeats 4000000 in
set_option maxRecDepth 100000 in
theorem refpiece_yes (b off : Nat) (s : List Nat) (n cap seg t : Nat) (hnn : s.length = n) (h256 : n = 256) (hc : 256 ≤ cap) (hs : seg < 4294967296) (ht : t ≤ 65535) (w : World) (H : Bys w (some ⟨b, off, none⟩) s) :
    Calls Try.prog 70 #[.int .u32 seg, .int .i64 t, .slice (some ⟨b, off, none⟩) n cap] w (PiecePost (Fr.pieceS seg t s) w) := by
  have hn : s.length = 256 := by omega
  have hi256 : ((n : Int) != 256) = false := by simp; omega
  have hi10 : (10 : Int) < (n : Int) := by omega
  have hi11 : (11 : Int) < (n : Int) := by omega
  have hi2 : (2 : Int) < (n : Int) := by omega
  have hcell : ∀ i (hi : i < s.length), w.cell? ⟨b, off + i, none⟩ = some (.int .u8 ((s.getD i 0 : Nat) : Int)) := by
    intro i hi
    obtain ⟨b', off', he, _, hcc⟩ := H.2.2 (by intro h; rw [h] at hn; simp at hn)
    injection he with he
    injection he with e1 e2
    subst e1; subst e2
    rw [hcc i hi]
    simp [List.getD, List.getElem?_eq_getElem hi]
  have q2 := hcell 2 (by omega)
  have q10 := hcell 10 (by omega)
  have q11 := hcell 11 (by omega)
  have l8 : ∀ i, i < 256 → s.getD i 0 < 256 := fun i hi => by
    rw [List.getD_eq_getElem?_getD, List.getElem?_eq_getElem (by omega)]
    exact H.2.1 _ (List.getElem_mem _)
  have l2 := l8 2 (by decide)
  have l10 := l8 10 (by decide)
  have l11 := l8 11 (by decide)
  have hP : Fr.pieceS seg t s = if s.getD 10 0 + 256 * s.getD 11 0 ≤ 240 then
      if 1 ≤ s.getD 2 0 ∧ s.getD 2 0 ≤ 4 then
        if Fr.sec (s.getD 2 0) seg t ((s.drop 12).take (s.getD 10 0 + 256 * s.getD 11 0)) = s then some (s.getD 2 0, (s.drop 12).take (s.getD 10 0 + 256 * s.getD 11 0)) else none
      else none
    else none := by unfold Fr.pieceS Fr.ppc Fr.plen; rw [if_pos ⟨hn, ht⟩]
  obtain ⟨x2, hx2⟩ : ∃ x, s.getD 2 0 = x := ⟨_, rfl⟩
  obtain ⟨x10, hx10⟩ : ∃ x, s.getD 10 0 = x := ⟨_, rfl⟩
  obtain ⟨x11, hx11⟩ : ∃ x, s.getD 11 0 = x := ⟨_, rfl⟩
  rw [hx2, hx10, hx11] at hP
  rw [hx2] at q2 l2
  rw [hx10] at q10 l10
  rw [hx11] at q11 l11
  clear hcell l8 hx2 hx10 hx11
  have hd : decide ((65535 : Int) < (t : Int)) = false := by simp; omega
  have hd2 : decide (65535 < t) = false := by simp; omega
  by_cases h240 : x10 + 256 * x11 ≤ 240
  · have hd3 : decide ((240 : Int) < (x10 : Int) + 256 * (x11 : Int)) = false := by simp; omega
    rw [if_pos h240] at hP
    by_cases hk1 : 1 ≤ x2
    · have hd4 : decide ((x2 : Int) < 1) = false := by simp; omega
      have hd5 : decide (x2 < 1) = false := by simp; omega
      by_cases hk4 : x2 ≤ 4
      · have hd6 : decide ((4 : Int) < (x2 : Int)) = false := by simp; omega
        have hd7 : decide (4 < x2) = false := by simp; omega
        rw [if_pos ⟨hk1, hk4⟩] at hP
        obtain ⟨m, hm⟩ : ∃ m, x10 + 256 * x11 = m := ⟨_, rfl⟩
        have hme : (x10 : Int) + 256 * (x11 : Int) = (m : Int) := by omega
        rw [hm] at hP h240
        have hd8 : decide ((240 : Int) < (m : Int)) = false := by simp; omega
        have hd9 : decide (240 < m) = false := by simp; omega
        obtain ⟨pc, hpc⟩ : ∃ pc, (s.drop 12).take m = pc := ⟨_, rfl⟩
        have hpl : pc.length = m := by rw [← hpc, List.length_take, List.length_drop]; omega
        have hpb : Bys w (some ⟨b, off + 12, none⟩) pc := by rw [← hpc]; exact H.cut 12 m
        rw [hpc] at hP
        have HPB := Lib.hid (And.intro hpb (And.intro hpl H))
        obtain ⟨e12, he12⟩ : ∃ e, 12 + m = e := ⟨_, rfl⟩
        have hse : (12 : Int) + (m : Int) = (e12 : Int) := by omega
        have hs1 : (12 : Int) ≤ (e12 : Int) := by omega
        have hs2 : (e12 : Int) ≤ (cap : Int) := by omega
        have hs3 : e12 ≤ cap := by omega
        have hs4 : 12 ≤ e12 := by omega
        have hs5 : ¬ cap = 12 := by omega
        have hs6 : e12 - 12 = m := by omega
        have hs7 : (12 : Int) ≤ (cap : Int) := by omega
        have hw1 : IntKind.i64.wrap (12 + (m : Int)) = (e12 : Int) := by rw [IntKind.wrap_i64]; omega
        have hw2 : IntKind.i64.wrap (e12 : Int) = (e12 : Int) := by rw [IntKind.wrap_i64]; omega
        have hs8 : (0 : Int) ≤ (e12 : Int) := by omega
        have hwk : IntKind.i64.wrap (x2 : Int) = (x2 : Int) := by rw [IntKind.wrap_i64]; omega
        have hs0 : s ≠ [] := by intro h; rw [h] at hn; simp at hn
        have CV := Lib.hid (fun W (hW : Below w.heap.size w W) => And.intro (cell_below q2 hW) (conv_bys W (some ⟨b, off, none⟩) s n cap hnn hs0 (H.below hW)))
        have hsl : (Fr.sec x2 seg t pc).length = 256 := Fr.sec_len _ _ _ _ (by omega)
        obtain ⟨SC, hSC⟩ : ∃ SC, Fr.sec x2 seg t pc = SC := ⟨_, rfl⟩
        have hs8 : ∀ c ∈ SC, c < 256 := by rw [← hSC]; exact Fr.sec_lt _ _ _ _ l2 hpb.2.1
        have CS := Lib.hid (fun W (hW : Below w.heap.size w W) => refsec_conv ⟨b, off + 12, none⟩ pc SC m (cap - 12) x2 seg t HPB.out.2.1 h240 l2 hs (by omega) hSC W (HPB.out.1.below hW))
        rw [hSC] at hP hsl
        have HSC := Lib.hid (And.intro hsl (And.intro hs8 hs0))
        clear hpc hpb hpl H hs0 hSC hsl hs8 hn hnn h256
        go_enter Try.func70, Try.ntmps70
        go_wp2_with fail
        go_quiet (fail)
        have hb1 := drewN_below w nq
        have q2' := cell_below q2 hb1
        have HB1 := Lib.hid hb1
        clear q2 q10 q11 hb1
        generalize w.drewN nq = W1 at *
        go_wp2_with fail
        have hb2 := HB1.out.trans ((drew_below W1).mono HB1.out.size)
        have HB2 := Lib.hid hb2
        have q := CV.out _ hb2
        clear q2' hb2
        go_region_with (go_at_call 28; refine (CS.out _ HB2.out).mono ?_; rintro e' W3 ⟨a3, k3, c3, rfl, kk3, hb3⟩; have HB3 := Lib.hid (HB2.out.trans (hb3.mono HB2.out.size)); have q9 := CV.out _ HB3.out; clear hb3)
        all_goals (
          have hq2 := q9.1
          have HS8 := Lib.hid HPB.out.2.2.2.1
          by_cases hE : SC = s
          · have he1 : ((strB SC).toList == (strB s).toList) = true := by rw [hE]; exact beq_self_eq_true _
            have he2 : (!(strB SC).toList == (strB s).toList) = false := by rw [he1]; rfl
            rw [if_pos hE] at hP
            clear hE q9
            go_wp2_with fail
            · exact Bool.noConfusion (show false = true from he2.symm.trans (by assumption))
            go_quiet (fail)
            have HB4 := Lib.hid (HB3.out.trans ((drewN_below W3 nq).mono HB3.out.size))
            have HPC := Lib.hid (HPB.out.1.below HB4.out)
            go_wp2_with fail
            go_returns
            refine ⟨HB4.out, ?_⟩
            rw [hP]
            exact ⟨⟨b, off + 12, none⟩, cap - 12, by rw [HPB.out.2.1]; rfl, HPB.out.1⟩
          · have he1 : ((strB SC).toList == (strB s).toList) = false := by
              rw [toList_eqb]
              exact decide_eq_false fun h => hE (strB_inj SC s HSC.out.2.1 HS8.out h)
            have he2 : (!(strB SC).toList == (strB s).toList) = true := by rw [he1]; rfl
            rw [if_neg hE] at hP
            clear hE q9
            go_wp2_with fail
            · go_returns
              refine ⟨HB3.out, ?_⟩
              rw [hP]
              rfl
            · exact Bool.noConfusion (show true = false from he2.symm.trans (by assumption)))
      · have hd6 : decide ((4 : Int) < (x2 : Int)) = true := by simp; omega
        have hd7 : decide (4 < x2) = true := by simp; omega
        have hd8 : decide ((240 : Int) < (x10 : Int) + 256 * (x11 : Int)) = false := by simp; omega
        rw [hP, if_neg (fun h => hk4 h.2)]
        clear hP H hn hnn h256
        go_enter Try.func70, Try.ntmps70
        go_wp2_with fail
        go_quiet (fail)
        have hb1 := drewN_below w nq
        have q2' := cell_below q2 hb1
        have HB1 := Lib.hid hb1
        clear q2 q10 q11 hb1
        generalize w.drewN nq = W1 at *
        go_wp2_with fail
        go_returns
        exact ⟨HB1.out, rfl⟩
    · have hd4 : decide ((x2 : Int) < 1) = true := by simp; omega
      have hd5 : decide (x2 < 1) = true := by simp; omega
      rw [hP, if_neg (fun h => hk1 h.1)]
      clear hP H hn hnn h256
      go_enter Try.func70, Try.ntmps70
      go_wp2_with fail
      go_quiet (fail)
      have hb1 := drewN_below w nq
      have q2' := cell_below q2 hb1
      have HB1 := Lib.hid hb1
      clear q2 q10 q11 hb1
      generalize w.drewN nq = W1 at *
      go_wp2_with fail
      go_returns
      exact ⟨HB1.out, rfl⟩
  · rw [hP, if_neg h240]
    have hd3 : decide ((240 : Int) < (x10 : Int) + 256 * (x11 : Int)) = true := by simp; omega
    clear hP H hn hnn h256
    go_enter Try.func70, Try.ntmps70
    go_wp2_with fail
    go_quiet (fail)
    go_wp2_with fail
    go_returns
    exact ⟨drewN_below _ _, rfl⟩
end Go.Proofs.Ytlegdaoidjpokaa
namespace Go.Proofs.Ytlegdaoidjpokaa
set_option linter.unusedVariables false
set_option linter.unusedSimpArgs false
open Go.RowKit
open B2 (Only Row Lots owns_only)
theorem refpiece_any (a : Option Addr) (s : List Nat) (n cap seg t : Nat) (hn : s.length = n) (hc : n ≤ cap) (hs : seg < 4294967296) (w : World) (H : Bys w a s) :
    Calls Try.prog 70 #[.int .u32 seg, .int .i64 t, .slice a n cap] w (PiecePost (Fr.pieceS seg t s) w) := by
  by_cases h : n = 256 ∧ t ≤ 65535
  · obtain ⟨b, off, rfl, _, _⟩ := H.2.2 (by intro h2; rw [h2] at hn; simp at hn; omega)
    exact refpiece_yes b off s n cap seg t hn h.1 (by omega) hs h.2 w H
  · exact refpiece_no a s n cap seg t hn h w
theorem pieceS_kind {seg t : Nat} {s : List Nat} {k : Nat} {pc : List Nat} (h : Fr.pieceS seg t s = some (k, pc)) : 1 ≤ k ∧ k ≤ 4 ∧ pc.length ≤ 240 := by
  unfold Fr.pieceS at h
  split at h
  · split at h
    · split at h
      · split at h
        · rename_i h2 h3 h4
          injection h with h
          injection h with h5 h6
          subst h5; subst h6
          refine ⟨h3.1, h3.2, ?_⟩
          unfold Fr.ppc
          rw [List.length_take]; omega
        · cases h
      · cases h
    · cases h
  · cases h
theorem one_step {seg j : Nat} {Ls : List (List Nat)} {S : List Nat} {first : Bool} {acc pc : List Nat} {k : Nat} (h : Fr.pieceS seg j S = some (k, pc)) : (match (match Fr.pieceS seg j S with
      | none => none
      | some (k, pc) => if Fr.sizeOk k pc.length = true then some (k, pc) else none) with
    | none => none
    | some (k, pc) => if (decide (k = 1 ∨ k = 2)) ≠ first ∨ 7680 < acc.length + pc.length then none
      else if k = 1 ∨ k = 4 then some (acc ++ pc, 1) else (Fr.recS seg (Ls.drop (j + 1)) (j + 1) false (acc ++ pc)).map fun x => (x.1, x.2 + 1)) =
    if Fr.sizeOk k pc.length = true then (if (decide (k = 1 ∨ k = 2)) ≠ first ∨ 7680 < acc.length + pc.length then none
      else if k = 1 ∨ k = 4 then some (acc ++ pc, 1) else (Fr.recS seg (Ls.drop (j + 1)) (j + 1) false (acc ++ pc)).map fun x => (x.1, x.2 + 1)) else none := by
  rw [h]
  by_cases h2 : Fr.sizeOk k pc.length = true
  · simp only [if_pos h2]
  · simp only [if_neg h2]
set_option maxHeartbeats 8000000 in
set_option maxRecDepth 100000 in
theorem refone_any (a : Option Addr) (Ls : List (List Nat)) (n cap seg t : Nat) (hn : Ls.length = n) (hn9 : n ≤ 1000000000) (ht : t ≤ n) (hs : seg < 4294967296) (w : World) (H : Rws w a Ls) :
    Calls Try.prog 63 #[.int .u32 seg, .slice a n cap, .int .i64 t] w (RecPost (Fr.recS seg (Ls.drop t) t true []) w) := by
  obtain ⟨i0, hi, hz0, hz1, hz2⟩ := info_parts info5
  have HI := Lib.hid (And.intro hi (And.intro hz0 (And.intro hz1 hz2)))
  have HR := Lib.hid H
  have HN := Lib.hid hn
  obtain ⟨R, hR⟩ : ∃ R, Fr.recS seg (Ls.drop t) t true [] = R := ⟨_, rfl⟩
  have HST : Hid (R = (Fr.recS seg (Ls.drop (t + 0)) (t + 0) (frst 0 0) []).map fun x => (x.1, x.2 + 0)) := Lib.hid (by
    rw [Nat.add_zero, ← hR, show frst 0 0 = true from rfl]
    cases Fr.recS seg (Ls.drop t) t true [] with
    | none => rfl
    | some y => rfl)
  rw [hR]
  clear H hn hR hi hz0 hz1 hz2
  go_enter Try.func63, Try.ntmps63
  go_wp2_with fail
  go_loopw [8, 9] (fun rv i wr => ∃ (i' : Nat) (acc : List Nat), t + i' ≤ n ∧ acc.length ≤ 7680 ∧ i = .int .i64 i' ∧ Hid (R = (Fr.recS seg (Ls.drop (t + i')) (t + i') (frst i' 0) acc).map fun x => (x.1, x.2 + i')) ∧ Hid (OwnB wr w.heap.size rv acc ∧ Below w.heap.size w wr)) (fun _ i _ => n - t - (intOf i).toNat)
  case atStart => exact ⟨0, [], by omega, by simp, rfl, HST, Lib.hid ⟨OwnB.nil _ _, Below.refl _ _⟩⟩
  case round =>
    clear HST
    obtain ⟨i, acc, hjn, hacc, rfl, HE, HO⟩ := hrel
    obtain ⟨j, hj⟩ : ∃ j, t + i = j := ⟨_, rfl⟩
    have hje : (t : Int) + (i : Int) = (j : Int) := by omega
    rw [hj] at HE hjn
    obtain ⟨al, hal⟩ : ∃ al, acc.length = al := ⟨_, rfl⟩
    have HAL := Lib.hid hal
    rw [hal] at hacc
    obtain ⟨ra, rc, hrv⟩ := HO.out.1.shape
    rw [hal] at hrv
    subst hrv
    clear hal
    by_cases hlt : j < n
    · have hd : decide ((j : Int) < (n : Int)) = true := by simp; omega
      have hd2 : decide (j < n) = true := by simp; omega
      have hjl : j < Ls.length := by have := HN.out; omega
      obtain ⟨h, off, rfl, hh, hcs⟩ := HR.out.2 (by intro h; rw [h] at hjl; simp at hjl)
      obtain ⟨ai, ci, k1w, k2, k3⟩ := hcs j hjl
      have k1 : wr.cell? ⟨h, off + j, none⟩ = some (.slice ai Ls[j].length ci) := (HO.out.2.cell (p := ⟨h, off + j, none⟩) hh).trans k1w
      have k3r := k3.below HO.out.2
      have hstep := recS_step seg Ls j (frst i 0) acc hjl
      obtain ⟨S, hS⟩ : ∃ S, Ls[j] = S := ⟨_, rfl⟩
      rw [hS] at k1 k2 k3r hstep
      have HE2 := HE.out
      rw [hstep, Fr.readS_piece] at HE2
      obtain ⟨m, hm⟩ : ∃ m, S.length = m := ⟨_, rfl⟩
      rw [hm] at k1 k2
      have CR := Lib.hid (refpiece_any ai S m ci seg j hm k2 hs wr k3r)
      clear hcs k1w k2 k3 k3r hstep hS hm hjl hh HE
      obtain ⟨i1, hi1⟩ : ∃ i1, i + 1 = i1 := ⟨_, rfl⟩
      have hie : (i : Int) + 1 = (i1 : Int) := by omega
      have hbig0 : decide ((7680 : Int) < (al : Int)) = false := by simp; omega
      have hbig1 : decide (7680 < al) = false := by simp; omega
      cases hrs : Fr.pieceS seg j S with
      | none =>
        rw [hrs] at CR HE2
        have hRn : R = none := HE2
        have HRN := Lib.hid hRn
        clear hrs hRn HE2
        by_cases h0 : i = 0
        · have hi0 : ((i : Int) == 0) = true := by simp; omega
          have hi9 : decide ((0 : Int) < (i : Int)) = false := by simp; omega
          have hi8 : decide (0 < i) = false := by simp; omega
          clear h0
          go_wp2_with fail
          go_at_call 70
          refine CR.out.mono ?_
          rintro e w2 ⟨hb2, rfl⟩
          have HO3 := Lib.hid (And.intro (HO.out.1.below hb2) (HO.out.2.trans (hb2.mono HO.out.2.size)))
          have HOW := Lib.hid (show w2.ownsRow w.heap.size 5 1 (.slice ra al rc) al (cellsOf acc) from by have h := HO3.out.1; unfold OwnB at h; rw [HAL.out] at h; exact h)
          clear hb2 CR
          go_wp2_with (at_builtin; refine wpList_append_own_none rfl (.tmp 34) (.tmp 35) 23 rfl w.heap.size 5 i0 1 Try.underlying23 HI.out.1 (.slice ra al rc) al (cellsOf acc) rfl HOW.out rfl ?_)
          go_returns
          rw [HRN.out]
          exact ⟨HO3.out.2, rfl⟩
        · have hi0 : ((i : Int) == 0) = false := by simp; omega
          have hi9 : decide ((0 : Int) < (i : Int)) = true := by simp; omega
          have hi8 : decide (0 < i) = true := by simp; omega
          go_wp2_with fail
          go_at_call 70
          refine CR.out.mono ?_
          rintro e w2 ⟨hb2, rfl⟩
          have HO3 := Lib.hid (And.intro (HO.out.1.below hb2) (HO.out.2.trans (hb2.mono HO.out.2.size)))
          have HOW := Lib.hid (show w2.ownsRow w.heap.size 5 1 (.slice ra al rc) al (cellsOf acc) from by have h := HO3.out.1; unfold OwnB at h; rw [HAL.out] at h; exact h)
          clear hb2 CR
          go_wp2_with (at_builtin; refine wpList_append_own_none rfl (.tmp 34) (.tmp 35) 23 rfl w.heap.size 5 i0 1 Try.underlying23 HI.out.1 (.slice ra al rc) al (cellsOf acc) rfl HOW.out rfl ?_)
          go_returns
          rw [HRN.out]
          exact ⟨HO3.out.2, rfl⟩
      | some kp =>
        obtain ⟨k, pc⟩ := kp
        rw [hrs] at CR
        obtain ⟨hk1, hk4, hpc⟩ := pieceS_kind hrs
        have HE2 := HE2.trans (congrArg (Option.map fun (x : List Nat × Nat) => (x.1, x.2 + i)) (one_step (Ls := Ls) (first := frst i 0) (acc := acc) hrs))
        obtain ⟨pl, hpl⟩ : ∃ pl, pc.length = pl := ⟨_, rfl⟩
        have HPL := Lib.hid hpl
        rw [hpl] at hpc
        have hap : (acc ++ pc).length = al + pl := by rw [List.length_append, HAL.out, hpl]
        rw [hpl, HAL.out] at HE2
        clear hrs hpl
        obtain ⟨sm, hsm⟩ : ∃ sm, al + pl = sm := ⟨_, rfl⟩
        rw [hsm] at HE2 hap
        have hsum : (al : Int) + (pl : Int) = (sm : Int) := by omega
        have HSM := Lib.hid (And.intro hsm hap)
        have HLN := Lib.hid (show (cellsOf pc).length = pl * 1 from by rw [cellsOf_length, HPL.out, Nat.mul_one])
        have HMX := Lib.hid (show al + pl ≤ maxLen ∧ (al + pl) * 1 ≤ 140737488355328 from ⟨by unfold maxLen; omega, by omega⟩)
        have HFR := Lib.hid HE2
        clear hbig0 hbig1 hap hsm HE2
        by_cases c2 : 7680 < sm
        · have hbig : decide ((7680 : Int) < (sm : Int)) = true := by simp; omega
          have hbig2 : decide (7680 < sm) = true := by simp; omega
          have hRn : R = none := by
            rw [HFR.out]
            by_cases hz : Fr.sizeOk k pl = true
            · rw [if_pos hz, if_pos (.inr c2)]; rfl
            · rw [if_neg hz]; rfl
          have HRN := Lib.hid hRn
          clear hRn HFR
          go_wp2_with fail
          go_at_call 70
          refine CR.out.mono ?_
          rintro e w2 ⟨hb2, ad, c', rfl, hbp⟩
          simp only [HPL.out]
          have HO3 := Lib.hid (And.intro (HO.out.1.below hb2) (HO.out.2.trans (hb2.mono HO.out.2.size)))
          have HOW := Lib.hid (show w2.ownsRow w.heap.size 5 1 (.slice ra al rc) al (cellsOf acc) from by have h := HO3.out.1; unfold OwnB at h; rw [HAL.out] at h; exact h)
          have HSRC := Lib.hid (cellsOf_at (hbp.below hb2))
          clear hb2 hbp CR
          go_wp2_with (at_builtin; refine wpList_append_own_at _ rfl (.tmp 34) (.tmp 35) 23 rfl w.heap.size 5 i0 (.int .u8 0) 1 1 Try.underlying23 HI.out.1 HI.out.2.1 HI.out.2.2.1 HI.out.2.2.2 rfl (by decide) (.slice ra al rc) al (cellsOf acc) rfl HOW.out ad pl c' (cellsOf pc) rfl HLN.out HSRC.out (cellsOf_one _) HMX.out.1 HMX.out.2 HO3.out.2.size ?_; intro v' w4 hown hgr _ _; have HO4 : Hid (OwnB w4 w.heap.size v' (acc ++ pc) ∧ Below w.heap.size w w4) := Lib.hid (own_more HO3.out.2 HOW.out HAL.out HPL.out hown hgr); obtain ⟨r4, c4, rfl⟩ : ∃ r c, v' = .slice r sm c := (by obtain ⟨r, c, h⟩ := HO4.out.1.shape; rw [HSM.out.2] at h; exact ⟨r, c, h⟩); clear hown hgr)
          go_returns
          rw [HRN.out]
          exact ⟨HO4.out.2, rfl⟩
        · have hbig : decide ((7680 : Int) < (sm : Int)) = false := by simp; omega
          have hbig2 : decide (7680 < sm) = false := by simp; omega
          have hsm9 : sm ≤ 7680 := by omega
          by_cases h0 : i = 0
          · rcases (show k = 1 ∨ k = 2 ∨ k = 3 ∨ k = 4 by omega) with hk | hk | hk | hk
            · have hfr : frst i 0 = true := decide_eq_true h0
              have hRn : R = some (acc ++ pc, 1) := by
                rw [HFR.out]
                simp [Fr.sizeOk, hfr, hk, c2]
                omega
              have HRN := Lib.hid hRn
              have hi0 : ((i : Int) == 0) = true := by simp; omega
              have hi9 : decide ((0 : Int) < (i : Int)) = false := by simp; omega
              have hi8 : decide (0 < i) = false := by simp; omega
              have hkb1 : ((k : Int) == 1) = true := by simp; omega
              have hkb2 : ((k : Int) == 2) = false := by simp; omega
              have hkb3 : ((k : Int) == 3) = false := by simp; omega
              have hkb4 : ((k : Int) == 4) = false := by simp; omega
              clear hRn HFR hfr h0 hk
              go_wp2_with fail
              go_at_call 70
              refine CR.out.mono ?_
              rintro e w2 ⟨hb2, ad, c', rfl, hbp⟩
              simp only [HPL.out]
              have HO3 := Lib.hid (And.intro (HO.out.1.below hb2) (HO.out.2.trans (hb2.mono HO.out.2.size)))
              have HOW := Lib.hid (show w2.ownsRow w.heap.size 5 1 (.slice ra al rc) al (cellsOf acc) from by have h := HO3.out.1; unfold OwnB at h; rw [HAL.out] at h; exact h)
              have HSRC := Lib.hid (cellsOf_at (hbp.below hb2))
              clear hb2 hbp CR
              go_wp2_with (at_builtin; refine wpList_append_own_at _ rfl (.tmp 34) (.tmp 35) 23 rfl w.heap.size 5 i0 (.int .u8 0) 1 1 Try.underlying23 HI.out.1 HI.out.2.1 HI.out.2.2.1 HI.out.2.2.2 rfl (by decide) (.slice ra al rc) al (cellsOf acc) rfl HOW.out ad pl c' (cellsOf pc) rfl HLN.out HSRC.out (cellsOf_one _) HMX.out.1 HMX.out.2 HO3.out.2.size ?_; intro v' w4 hown hgr _ _; have HO4 : Hid (OwnB w4 w.heap.size v' (acc ++ pc) ∧ Below w.heap.size w w4) := Lib.hid (own_more HO3.out.2 HOW.out HAL.out HPL.out hown hgr); obtain ⟨r4, c4, rfl⟩ : ∃ r c, v' = .slice r sm c := (by obtain ⟨r, c, h⟩ := HO4.out.1.shape; rw [HSM.out.2] at h; exact ⟨r, c, h⟩); clear hown hgr)
              go_returns
              rw [HRN.out]
              exact ⟨HO4.out.2, _, rfl, HO4.out.1⟩
            · by_cases hl : pl = 240
              · have hfr : frst i 0 = true := decide_eq_true h0
                have hl1 : ((pl : Int) == 240) = true := by simp; omega
                have hl2 : (pl == 240) = true := by simp; omega
                have hRn : R = (Fr.recS seg (Ls.drop (t + i1)) (t + i1) (frst i1 0) (acc ++ pc)).map fun x => (x.1, x.2 + i1) := by
                  rw [HFR.out, show frst i1 0 = false from decide_eq_false (by omega), show t + i1 = j + 1 by omega]
                  simp [Fr.sizeOk, hfr, hk, hl2, c2]
                  congr 1
                  funext x
                  simp; omega
                have HRN := Lib.hid hRn
                have hi0 : ((i : Int) == 0) = true := by simp; omega
                have hi9 : decide ((0 : Int) < (i : Int)) = false := by simp; omega
                have hi8 : decide (0 < i) = false := by simp; omega
                have hkb1 : ((k : Int) == 1) = false := by simp; omega
                have hkb2 : ((k : Int) == 2) = true := by simp; omega
                have hkb3 : ((k : Int) == 3) = false := by simp; omega
                have hkb4 : ((k : Int) == 4) = false := by simp; omega
                clear hRn HFR hfr h0 hk hl
                go_wp2_with fail
                go_at_call 70
                refine CR.out.mono ?_
                rintro e w2 ⟨hb2, ad, c', rfl, hbp⟩
                simp only [HPL.out]
                have HO3 := Lib.hid (And.intro (HO.out.1.below hb2) (HO.out.2.trans (hb2.mono HO.out.2.size)))
                have HOW := Lib.hid (show w2.ownsRow w.heap.size 5 1 (.slice ra al rc) al (cellsOf acc) from by have h := HO3.out.1; unfold OwnB at h; rw [HAL.out] at h; exact h)
                have HSRC := Lib.hid (cellsOf_at (hbp.below hb2))
                clear hb2 hbp CR
                go_wp2_with (at_builtin; refine wpList_append_own_at _ rfl (.tmp 34) (.tmp 35) 23 rfl w.heap.size 5 i0 (.int .u8 0) 1 1 Try.underlying23 HI.out.1 HI.out.2.1 HI.out.2.2.1 HI.out.2.2.2 rfl (by decide) (.slice ra al rc) al (cellsOf acc) rfl HOW.out ad pl c' (cellsOf pc) rfl HLN.out HSRC.out (cellsOf_one _) HMX.out.1 HMX.out.2 HO3.out.2.size ?_; intro v' w4 hown hgr _ _; have HO4 : Hid (OwnB w4 w.heap.size v' (acc ++ pc) ∧ Below w.heap.size w w4) := Lib.hid (own_more HO3.out.2 HOW.out HAL.out HPL.out hown hgr); obtain ⟨r4, c4, rfl⟩ : ∃ r c, v' = .slice r sm c := (by obtain ⟨r, c, h⟩ := HO4.out.1.shape; rw [HSM.out.2] at h; exact ⟨r, c, h⟩); clear hown hgr)
                go_roundw
                case rel => exact ⟨i1, acc ++ pc, by omega, by rw [HSM.out.2]; omega, by go_num, HRN, HO4⟩
                case measure => simp [intOf]; omega
              · have hfr : frst i 0 = true := decide_eq_true h0
                have hl1 : ((pl : Int) == 240) = false := by simp; omega
                have hl2 : (pl == 240) = false := by simp; omega
                have hRn : R = none := by
                  rw [HFR.out]
                  simp [Fr.sizeOk, hfr, hk, hl2]
                have HRN := Lib.hid hRn
                have hi0 : ((i : Int) == 0) = true := by simp; omega
                have hi9 : decide ((0 : Int) < (i : Int)) = false := by simp; omega
                have hi8 : decide (0 < i) = false := by simp; omega
                have hkb1 : ((k : Int) == 1) = false := by simp; omega
                have hkb2 : ((k : Int) == 2) = true := by simp; omega
                have hkb3 : ((k : Int) == 3) = false := by simp; omega
                have hkb4 : ((k : Int) == 4) = false := by simp; omega
                clear hRn HFR hfr h0 hk hl
                go_wp2_with fail
                go_at_call 70
                refine CR.out.mono ?_
                rintro e w2 ⟨hb2, ad, c', rfl, hbp⟩
                simp only [HPL.out]
                have HO3 := Lib.hid (And.intro (HO.out.1.below hb2) (HO.out.2.trans (hb2.mono HO.out.2.size)))
                have HOW := Lib.hid (show w2.ownsRow w.heap.size 5 1 (.slice ra al rc) al (cellsOf acc) from by have h := HO3.out.1; unfold OwnB at h; rw [HAL.out] at h; exact h)
                have HSRC := Lib.hid (cellsOf_at (hbp.below hb2))
                clear hb2 hbp CR
                go_wp2_with (at_builtin; refine wpList_append_own_at _ rfl (.tmp 34) (.tmp 35) 23 rfl w.heap.size 5 i0 (.int .u8 0) 1 1 Try.underlying23 HI.out.1 HI.out.2.1 HI.out.2.2.1 HI.out.2.2.2 rfl (by decide) (.slice ra al rc) al (cellsOf acc) rfl HOW.out ad pl c' (cellsOf pc) rfl HLN.out HSRC.out (cellsOf_one _) HMX.out.1 HMX.out.2 HO3.out.2.size ?_; intro v' w4 hown hgr _ _; have HO4 : Hid (OwnB w4 w.heap.size v' (acc ++ pc) ∧ Below w.heap.size w w4) := Lib.hid (own_more HO3.out.2 HOW.out HAL.out HPL.out hown hgr); obtain ⟨r4, c4, rfl⟩ : ∃ r c, v' = .slice r sm c := (by obtain ⟨r, c, h⟩ := HO4.out.1.shape; rw [HSM.out.2] at h; exact ⟨r, c, h⟩); clear hown hgr)
                go_returns
                rw [HRN.out]
                exact ⟨HO4.out.2, rfl⟩
            · have hfr : frst i 0 = true := decide_eq_true h0
              have hRn : R = none := by
                rw [HFR.out]
                simp [Fr.sizeOk, hfr, hk]
              have HRN := Lib.hid hRn
              have hi0 : ((i : Int) == 0) = true := by simp; omega
              have hi9 : decide ((0 : Int) < (i : Int)) = false := by simp; omega
              have hi8 : decide (0 < i) = false := by simp; omega
              have hkb1 : ((k : Int) == 1) = false := by simp; omega
              have hkb2 : ((k : Int) == 2) = false := by simp; omega
              have hkb3 : ((k : Int) == 3) = true := by simp; omega
              have hkb4 : ((k : Int) == 4) = false := by simp; omega
              clear hRn HFR hfr h0 hk
              go_wp2_with fail
              go_at_call 70
              refine CR.out.mono ?_
              rintro e w2 ⟨hb2, ad, c', rfl, hbp⟩
              simp only [HPL.out]
              have HO3 := Lib.hid (And.intro (HO.out.1.below hb2) (HO.out.2.trans (hb2.mono HO.out.2.size)))
              have HOW := Lib.hid (show w2.ownsRow w.heap.size 5 1 (.slice ra al rc) al (cellsOf acc) from by have h := HO3.out.1; unfold OwnB at h; rw [HAL.out] at h; exact h)
              have HSRC := Lib.hid (cellsOf_at (hbp.below hb2))
              clear hb2 hbp CR
              go_wp2_with (at_builtin; refine wpList_append_own_at _ rfl (.tmp 34) (.tmp 35) 23 rfl w.heap.size 5 i0 (.int .u8 0) 1 1 Try.underlying23 HI.out.1 HI.out.2.1 HI.out.2.2.1 HI.out.2.2.2 rfl (by decide) (.slice ra al rc) al (cellsOf acc) rfl HOW.out ad pl c' (cellsOf pc) rfl HLN.out HSRC.out (cellsOf_one _) HMX.out.1 HMX.out.2 HO3.out.2.size ?_; intro v' w4 hown hgr _ _; have HO4 : Hid (OwnB w4 w.heap.size v' (acc ++ pc) ∧ Below w.heap.size w w4) := Lib.hid (own_more HO3.out.2 HOW.out HAL.out HPL.out hown hgr); obtain ⟨r4, c4, rfl⟩ : ∃ r c, v' = .slice r sm c := (by obtain ⟨r, c, h⟩ := HO4.out.1.shape; rw [HSM.out.2] at h; exact ⟨r, c, h⟩); clear hown hgr)
              go_returns
              rw [HRN.out]
              exact ⟨HO4.out.2, rfl⟩
            · have hfr : frst i 0 = true := decide_eq_true h0
              have hRn : R = none := by
                rw [HFR.out]
                simp [Fr.sizeOk, hfr, hk]
              have HRN := Lib.hid hRn
              have hi0 : ((i : Int) == 0) = true := by simp; omega
              have hi9 : decide ((0 : Int) < (i : Int)) = false := by simp; omega
              have hi8 : decide (0 < i) = false := by simp; omega
              have hkb1 : ((k : Int) == 1) = false := by simp; omega
              have hkb2 : ((k : Int) == 2) = false := by simp; omega
              have hkb3 : ((k : Int) == 3) = false := by simp; omega
              have hkb4 : ((k : Int) == 4) = true := by simp; omega
              clear hRn HFR hfr h0 hk
              go_wp2_with fail
              go_at_call 70
              refine CR.out.mono ?_
              rintro e w2 ⟨hb2, ad, c', rfl, hbp⟩
              simp only [HPL.out]
              have HO3 := Lib.hid (And.intro (HO.out.1.below hb2) (HO.out.2.trans (hb2.mono HO.out.2.size)))
              have HOW := Lib.hid (show w2.ownsRow w.heap.size 5 1 (.slice ra al rc) al (cellsOf acc) from by have h := HO3.out.1; unfold OwnB at h; rw [HAL.out] at h; exact h)
              have HSRC := Lib.hid (cellsOf_at (hbp.below hb2))
              clear hb2 hbp CR
              go_wp2_with (at_builtin; refine wpList_append_own_at _ rfl (.tmp 34) (.tmp 35) 23 rfl w.heap.size 5 i0 (.int .u8 0) 1 1 Try.underlying23 HI.out.1 HI.out.2.1 HI.out.2.2.1 HI.out.2.2.2 rfl (by decide) (.slice ra al rc) al (cellsOf acc) rfl HOW.out ad pl c' (cellsOf pc) rfl HLN.out HSRC.out (cellsOf_one _) HMX.out.1 HMX.out.2 HO3.out.2.size ?_; intro v' w4 hown hgr _ _; have HO4 : Hid (OwnB w4 w.heap.size v' (acc ++ pc) ∧ Below w.heap.size w w4) := Lib.hid (own_more HO3.out.2 HOW.out HAL.out HPL.out hown hgr); obtain ⟨r4, c4, rfl⟩ : ∃ r c, v' = .slice r sm c := (by obtain ⟨r, c, h⟩ := HO4.out.1.shape; rw [HSM.out.2] at h; exact ⟨r, c, h⟩); clear hown hgr)
              go_returns
              rw [HRN.out]
              exact ⟨HO4.out.2, rfl⟩
          · rcases (show k = 1 ∨ k = 2 ∨ k = 3 ∨ k = 4 by omega) with hk | hk | hk | hk
            · have hfr : frst i 0 = false := decide_eq_false h0
              have hRn : R = none := by
                rw [HFR.out]
                simp [Fr.sizeOk, hfr, hk]
              have HRN := Lib.hid hRn
              have hi0 : ((i : Int) == 0) = false := by simp; omega
              have hi9 : decide ((0 : Int) < (i : Int)) = true := by simp; omega
              have hi8 : decide (0 < i) = true := by simp; omega
              have hkb1 : ((k : Int) == 1) = true := by simp; omega
              have hkb2 : ((k : Int) == 2) = false := by simp; omega
              have hkb3 : ((k : Int) == 3) = false := by simp; omega
              have hkb4 : ((k : Int) == 4) = false := by simp; omega
              clear hRn HFR hfr h0 hk
              go_wp2_with fail
              go_at_call 70
              refine CR.out.mono ?_
              rintro e w2 ⟨hb2, ad, c', rfl, hbp⟩
              simp only [HPL.out]
              have HO3 := Lib.hid (And.intro (HO.out.1.below hb2) (HO.out.2.trans (hb2.mono HO.out.2.size)))
              have HOW := Lib.hid (show w2.ownsRow w.heap.size 5 1 (.slice ra al rc) al (cellsOf acc) from by have h := HO3.out.1; unfold OwnB at h; rw [HAL.out] at h; exact h)
              have HSRC := Lib.hid (cellsOf_at (hbp.below hb2))
              clear hb2 hbp CR
              go_wp2_with (at_builtin; refine wpList_append_own_at _ rfl (.tmp 34) (.tmp 35) 23 rfl w.heap.size 5 i0 (.int .u8 0) 1 1 Try.underlying23 HI.out.1 HI.out.2.1 HI.out.2.2.1 HI.out.2.2.2 rfl (by decide) (.slice ra al rc) al (cellsOf acc) rfl HOW.out ad pl c' (cellsOf pc) rfl HLN.out HSRC.out (cellsOf_one _) HMX.out.1 HMX.out.2 HO3.out.2.size ?_; intro v' w4 hown hgr _ _; have HO4 : Hid (OwnB w4 w.heap.size v' (acc ++ pc) ∧ Below w.heap.size w w4) := Lib.hid (own_more HO3.out.2 HOW.out HAL.out HPL.out hown hgr); obtain ⟨r4, c4, rfl⟩ : ∃ r c, v' = .slice r sm c := (by obtain ⟨r, c, h⟩ := HO4.out.1.shape; rw [HSM.out.2] at h; exact ⟨r, c, h⟩); clear hown hgr)
              go_returns
              rw [HRN.out]
              exact ⟨HO4.out.2, rfl⟩
            · have hfr : frst i 0 = false := decide_eq_false h0
              have hRn : R = none := by
                rw [HFR.out]
                simp [Fr.sizeOk, hfr, hk]
              have HRN := Lib.hid hRn
              have hi0 : ((i : Int) == 0) = false := by simp; omega
              have hi9 : decide ((0 : Int) < (i : Int)) = true := by simp; omega
              have hi8 : decide (0 < i) = true := by simp; omega
              have hkb1 : ((k : Int) == 1) = false := by simp; omega
              have hkb2 : ((k : Int) == 2) = true := by simp; omega
              have hkb3 : ((k : Int) == 3) = false := by simp; omega
              have hkb4 : ((k : Int) == 4) = false := by simp; omega
              clear hRn HFR hfr h0 hk
              go_wp2_with fail
              go_at_call 70
              refine CR.out.mono ?_
              rintro e w2 ⟨hb2, ad, c', rfl, hbp⟩
              simp only [HPL.out]
              have HO3 := Lib.hid (And.intro (HO.out.1.below hb2) (HO.out.2.trans (hb2.mono HO.out.2.size)))
              have HOW := Lib.hid (show w2.ownsRow w.heap.size 5 1 (.slice ra al rc) al (cellsOf acc) from by have h := HO3.out.1; unfold OwnB at h; rw [HAL.out] at h; exact h)
              have HSRC := Lib.hid (cellsOf_at (hbp.below hb2))
              clear hb2 hbp CR
              go_wp2_with (at_builtin; refine wpList_append_own_at _ rfl (.tmp 34) (.tmp 35) 23 rfl w.heap.size 5 i0 (.int .u8 0) 1 1 Try.underlying23 HI.out.1 HI.out.2.1 HI.out.2.2.1 HI.out.2.2.2 rfl (by decide) (.slice ra al rc) al (cellsOf acc) rfl HOW.out ad pl c' (cellsOf pc) rfl HLN.out HSRC.out (cellsOf_one _) HMX.out.1 HMX.out.2 HO3.out.2.size ?_; intro v' w4 hown hgr _ _; have HO4 : Hid (OwnB w4 w.heap.size v' (acc ++ pc) ∧ Below w.heap.size w w4) := Lib.hid (own_more HO3.out.2 HOW.out HAL.out HPL.out hown hgr); obtain ⟨r4, c4, rfl⟩ : ∃ r c, v' = .slice r sm c := (by obtain ⟨r, c, h⟩ := HO4.out.1.shape; rw [HSM.out.2] at h; exact ⟨r, c, h⟩); clear hown hgr)
              go_returns
              rw [HRN.out]
              exact ⟨HO4.out.2, rfl⟩
            · by_cases hl : pl = 240
              · have hfr : frst i 0 = false := decide_eq_false h0
                have hl1 : ((pl : Int) == 240) = true := by simp; omega
                have hl2 : (pl == 240) = true := by simp; omega
                have hRn : R = (Fr.recS seg (Ls.drop (t + i1)) (t + i1) (frst i1 0) (acc ++ pc)).map fun x => (x.1, x.2 + i1) := by
                  rw [HFR.out, show frst i1 0 = false from decide_eq_false (by omega), show t + i1 = j + 1 by omega]
                  simp [Fr.sizeOk, hfr, hk, hl2, c2]
                  congr 1
                  funext x
                  simp; omega
                have HRN := Lib.hid hRn
                have hi0 : ((i : Int) == 0) = false := by simp; omega
                have hi9 : decide ((0 : Int) < (i : Int)) = true := by simp; omega
                have hi8 : decide (0 < i) = true := by simp; omega
                have hkb1 : ((k : Int) == 1) = false := by simp; omega
                have hkb2 : ((k : Int) == 2) = false := by simp; omega
                have hkb3 : ((k : Int) == 3) = true := by simp; omega
                have hkb4 : ((k : Int) == 4) = false := by simp; omega
                clear hRn HFR hfr h0 hk hl
                go_wp2_with fail
                go_at_call 70
                refine CR.out.mono ?_
                rintro e w2 ⟨hb2, ad, c', rfl, hbp⟩
                simp only [HPL.out]
                have HO3 := Lib.hid (And.intro (HO.out.1.below hb2) (HO.out.2.trans (hb2.mono HO.out.2.size)))
                have HOW := Lib.hid (show w2.ownsRow w.heap.size 5 1 (.slice ra al rc) al (cellsOf acc) from by have h := HO3.out.1; unfold OwnB at h; rw [HAL.out] at h; exact h)
                have HSRC := Lib.hid (cellsOf_at (hbp.below hb2))
                clear hb2 hbp CR
                go_wp2_with (at_builtin; refine wpList_append_own_at _ rfl (.tmp 34) (.tmp 35) 23 rfl w.heap.size 5 i0 (.int .u8 0) 1 1 Try.underlying23 HI.out.1 HI.out.2.1 HI.out.2.2.1 HI.out.2.2.2 rfl (by decide) (.slice ra al rc) al (cellsOf acc) rfl HOW.out ad pl c' (cellsOf pc) rfl HLN.out HSRC.out (cellsOf_one _) HMX.out.1 HMX.out.2 HO3.out.2.size ?_; intro v' w4 hown hgr _ _; have HO4 : Hid (OwnB w4 w.heap.size v' (acc ++ pc) ∧ Below w.heap.size w w4) := Lib.hid (own_more HO3.out.2 HOW.out HAL.out HPL.out hown hgr); obtain ⟨r4, c4, rfl⟩ : ∃ r c, v' = .slice r sm c := (by obtain ⟨r, c, h⟩ := HO4.out.1.shape; rw [HSM.out.2] at h; exact ⟨r, c, h⟩); clear hown hgr)
                go_roundw
                case rel => exact ⟨i1, acc ++ pc, by omega, by rw [HSM.out.2]; omega, by go_num, HRN, HO4⟩
                case measure => simp [intOf]; omega
              · have hfr : frst i 0 = false := decide_eq_false h0
                have hl1 : ((pl : Int) == 240) = false := by simp; omega
                have hl2 : (pl == 240) = false := by simp; omega
                have hRn : R = none := by
                  rw [HFR.out]
                  simp [Fr.sizeOk, hfr, hk, hl2]
                have HRN := Lib.hid hRn
                have hi0 : ((i : Int) == 0) = false := by simp; omega
                have hi9 : decide ((0 : Int) < (i : Int)) = true := by simp; omega
                have hi8 : decide (0 < i) = true := by simp; omega
                have hkb1 : ((k : Int) == 1) = false := by simp; omega
                have hkb2 : ((k : Int) == 2) = false := by simp; omega
                have hkb3 : ((k : Int) == 3) = true := by simp; omega
                have hkb4 : ((k : Int) == 4) = false := by simp; omega
                clear hRn HFR hfr h0 hk hl
                go_wp2_with fail
                go_at_call 70
                refine CR.out.mono ?_
                rintro e w2 ⟨hb2, ad, c', rfl, hbp⟩
                simp only [HPL.out]
                have HO3 := Lib.hid (And.intro (HO.out.1.below hb2) (HO.out.2.trans (hb2.mono HO.out.2.size)))
                have HOW := Lib.hid (show w2.ownsRow w.heap.size 5 1 (.slice ra al rc) al (cellsOf acc) from by have h := HO3.out.1; unfold OwnB at h; rw [HAL.out] at h; exact h)
                have HSRC := Lib.hid (cellsOf_at (hbp.below hb2))
                clear hb2 hbp CR
                go_wp2_with (at_builtin; refine wpList_append_own_at _ rfl (.tmp 34) (.tmp 35) 23 rfl w.heap.size 5 i0 (.int .u8 0) 1 1 Try.underlying23 HI.out.1 HI.out.2.1 HI.out.2.2.1 HI.out.2.2.2 rfl (by decide) (.slice ra al rc) al (cellsOf acc) rfl HOW.out ad pl c' (cellsOf pc) rfl HLN.out HSRC.out (cellsOf_one _) HMX.out.1 HMX.out.2 HO3.out.2.size ?_; intro v' w4 hown hgr _ _; have HO4 : Hid (OwnB w4 w.heap.size v' (acc ++ pc) ∧ Below w.heap.size w w4) := Lib.hid (own_more HO3.out.2 HOW.out HAL.out HPL.out hown hgr); obtain ⟨r4, c4, rfl⟩ : ∃ r c, v' = .slice r sm c := (by obtain ⟨r, c, h⟩ := HO4.out.1.shape; rw [HSM.out.2] at h; exact ⟨r, c, h⟩); clear hown hgr)
                go_returns
                rw [HRN.out]
                exact ⟨HO4.out.2, rfl⟩
            · by_cases hl : 0 < pl
              · have hfr : frst i 0 = false := decide_eq_false h0
                have hl3 : decide ((0 : Int) < (pl : Int)) = true := by simp; omega
                have hl4 : decide (0 < pl) = true := by simp; omega
                have hRn : R = some (acc ++ pc, i1) := by
                  rw [HFR.out]
                  simp [Fr.sizeOk, hfr, hk, hl4, c2]
                  omega
                have HRN := Lib.hid hRn
                have hi0 : ((i : Int) == 0) = false := by simp; omega
                have hi9 : decide ((0 : Int) < (i : Int)) = true := by simp; omega
                have hi8 : decide (0 < i) = true := by simp; omega
                have hkb1 : ((k : Int) == 1) = false := by simp; omega
                have hkb2 : ((k : Int) == 2) = false := by simp; omega
                have hkb3 : ((k : Int) == 3) = false := by simp; omega
                have hkb4 : ((k : Int) == 4) = true := by simp; omega
                clear hRn HFR hfr h0 hk hl
                go_wp2_with fail
                go_at_call 70
                refine CR.out.mono ?_
                rintro e w2 ⟨hb2, ad, c', rfl, hbp⟩
                simp only [HPL.out]
                have HO3 := Lib.hid (And.intro (HO.out.1.below hb2) (HO.out.2.trans (hb2.mono HO.out.2.size)))
                have HOW := Lib.hid (show w2.ownsRow w.heap.size 5 1 (.slice ra al rc) al (cellsOf acc) from by have h := HO3.out.1; unfold OwnB at h; rw [HAL.out] at h; exact h)
                have HSRC := Lib.hid (cellsOf_at (hbp.below hb2))
                clear hb2 hbp CR
                go_wp2_with (at_builtin; refine wpList_append_own_at _ rfl (.tmp 34) (.tmp 35) 23 rfl w.heap.size 5 i0 (.int .u8 0) 1 1 Try.underlying23 HI.out.1 HI.out.2.1 HI.out.2.2.1 HI.out.2.2.2 rfl (by decide) (.slice ra al rc) al (cellsOf acc) rfl HOW.out ad pl c' (cellsOf pc) rfl HLN.out HSRC.out (cellsOf_one _) HMX.out.1 HMX.out.2 HO3.out.2.size ?_; intro v' w4 hown hgr _ _; have HO4 : Hid (OwnB w4 w.heap.size v' (acc ++ pc) ∧ Below w.heap.size w w4) := Lib.hid (own_more HO3.out.2 HOW.out HAL.out HPL.out hown hgr); obtain ⟨r4, c4, rfl⟩ : ∃ r c, v' = .slice r sm c := (by obtain ⟨r, c, h⟩ := HO4.out.1.shape; rw [HSM.out.2] at h; exact ⟨r, c, h⟩); clear hown hgr)
                go_returns
                rw [HRN.out]
                exact ⟨HO4.out.2, _, rfl, HO4.out.1⟩
              · have hfr : frst i 0 = false := decide_eq_false h0
                have hl3 : decide ((0 : Int) < (pl : Int)) = false := by simp; omega
                have hl4 : decide (0 < pl) = false := by simp; omega
                have hRn : R = none := by
                  rw [HFR.out]
                  simp [Fr.sizeOk, hfr, hk, hl4]
                have HRN := Lib.hid hRn
                have hi0 : ((i : Int) == 0) = false := by simp; omega
                have hi9 : decide ((0 : Int) < (i : Int)) = true := by simp; omega
                have hi8 : decide (0 < i) = true := by simp; omega
                have hkb1 : ((k : Int) == 1) = false := by simp; omega
                have hkb2 : ((k : Int) == 2) = false := by simp; omega
                have hkb3 : ((k : Int) == 3) = false := by simp; omega
                have hkb4 : ((k : Int) == 4) = true := by simp; omega
                clear hRn HFR hfr h0 hk hl
                go_wp2_with fail
                go_at_call 70
                refine CR.out.mono ?_
                rintro e w2 ⟨hb2, ad, c', rfl, hbp⟩
                simp only [HPL.out]
                have HO3 := Lib.hid (And.intro (HO.out.1.below hb2) (HO.out.2.trans (hb2.mono HO.out.2.size)))
                have HOW := Lib.hid (show w2.ownsRow w.heap.size 5 1 (.slice ra al rc) al (cellsOf acc) from by have h := HO3.out.1; unfold OwnB at h; rw [HAL.out] at h; exact h)
                have HSRC := Lib.hid (cellsOf_at (hbp.below hb2))
                clear hb2 hbp CR
                go_wp2_with (at_builtin; refine wpList_append_own_at _ rfl (.tmp 34) (.tmp 35) 23 rfl w.heap.size 5 i0 (.int .u8 0) 1 1 Try.underlying23 HI.out.1 HI.out.2.1 HI.out.2.2.1 HI.out.2.2.2 rfl (by decide) (.slice ra al rc) al (cellsOf acc) rfl HOW.out ad pl c' (cellsOf pc) rfl HLN.out HSRC.out (cellsOf_one _) HMX.out.1 HMX.out.2 HO3.out.2.size ?_; intro v' w4 hown hgr _ _; have HO4 : Hid (OwnB w4 w.heap.size v' (acc ++ pc) ∧ Below w.heap.size w w4) := Lib.hid (own_more HO3.out.2 HOW.out HAL.out HPL.out hown hgr); obtain ⟨r4, c4, rfl⟩ : ∃ r c, v' = .slice r sm c := (by obtain ⟨r, c, h⟩ := HO4.out.1.shape; rw [HSM.out.2] at h; exact ⟨r, c, h⟩); clear hown hgr)
                go_returns
                rw [HRN.out]
                exact ⟨HO4.out.2, rfl⟩
    · have hd : decide ((j : Int) < (n : Int)) = false := by simp; omega
      have hd2 : decide (j < n) = false := by simp; omega
      have hjn2 : j = n := by omega
      have hRn : R = none := by
        rw [HE.out, List.drop_of_length_le (by have := HN.out; omega)]
        rfl
      have HRN := Lib.hid hRn
      clear hRn
      go_wp2_with fail
      go_returns
      rw [HRN.out]
      exact ⟨HO.out.2, rfl⟩
end Go.Proofs.Ytlegdaoidjpokaa
namespace Go.Proofs.Ytlegdaoidjpokaa
set_option linter.unusedVariables false
set_option linter.unusedSimpArgs false
open Go.RowKit
open B2 (Only Row Lots owns_only)
set_option maxHeartbeats 8000000 in
set_option maxRecDepth 100000 in
theorem refscan_any (a : Option Addr) (Ls : List (List Nat)) (n cap seg : Nat) (hn : Ls.length = n) (hn9 : n ≤ 1000000000) (hs : seg < 4294967296) (w : World) (H : Rws w a Ls) :
    Calls Try.prog 22 #[.int .u32 seg, .slice a n cap] w (ScanPost (Fr.scan seg Ls) w) := by
  obtain ⟨i1, hi1, hy0, hy1, hy2⟩ := info_parts B2.info27
  have HI := Lib.hid (And.intro hi1 (And.intro hy0 (And.intro hy1 hy2)))
  have HR := Lib.hid H
  have HN := Lib.hid hn
  have HST : Hid (ScanAt seg n Ls 0 []) := Lib.hid (by rw [← hn]; exact ScanAt.start seg Ls)
  obtain ⟨R, hR⟩ : ∃ R, Fr.scan seg Ls = R := ⟨_, rfl⟩
  have HRR := Lib.hid hR
  rw [hR]
  clear H hn hR hi1 hy0 hy1 hy2
  go_enter Try.func22, Try.ntmps22
  go_wp2_with fail
  go_loopw [6, 7] (fun v i wr => ∃ (j : Nat) (rs : List (List Nat)) (X : Nat → Value), j ≤ n ∧ rs.length ≤ j ∧ i = .int .i64 j ∧ Hid (ScanAt seg n Ls j rs) ∧ Hid (OutR wr w.heap.size v rs X ∧ Below w.heap.size w wr)) (fun _ i _ => n - (intOf i).toNat)
  case atStart => exact ⟨0, [], fun _ => .slice none 0 0, Nat.zero_le _, Nat.le_refl _, rfl, HST, Lib.hid ⟨OutR.nil _ _, Below.refl _ _⟩⟩
  case round =>
    clear HST
    obtain ⟨j, rs, X, hjn, hrl, rfl, HE, HO⟩ := hrel
    have CR := Lib.hid (refone_any a Ls n cap seg j HN.out hn9 hjn hs wr (HR.out.below HO.out.2))
    cases hrec : Fr.recS seg (Ls.drop j) j true [] with
    | none =>
      rw [hrec] at CR
      have HST := Lib.hid (HE.out.stop hjn hrec)
      rw [HRR.out] at HST
      clear hrec HE
      go_wp2_with fail
      go_at_call 63
      refine CR.out.mono ?_
      rintro e w2 ⟨hb2, rfl⟩
      have HB2 := Lib.hid (HO.out.2.trans (hb2.mono HO.out.2.size))
      have HO2 := Lib.hid (HO.out.1.below hb2)
      clear hb2 CR
      go_wp2_with fail
      go_returns
      rw [HST.out]
      exact ⟨HB2.out, _, X, rfl, HO2.out⟩
    | some y =>
      obtain ⟨r, m⟩ := y
      rw [hrec] at CR
      obtain ⟨hsn, hjm, hm0⟩ := HE.out.next HN.out hjn hrec
      have HSN := Lib.hid hsn
      have hme : ((m : Int) == 0) = false := by simp; omega
      have hm1 : ¬ m = 0 := by omega
      obtain ⟨jm, hjm2⟩ : ∃ jm, j + m = jm := ⟨_, rfl⟩
      have hje : (j : Int) + (m : Int) = (jm : Int) := by omega
      rw [hjm2] at HSN hjm
      have hjj : j < jm := by omega
      obtain ⟨va, vc, hv⟩ : ∃ va vc, u6 = Value.slice va rs.length vc := by
        rcases HO.out.1.row.2 with ⟨hv, h0⟩ | ⟨g, c, _, hv, _⟩
        · exact ⟨none, 0, by rw [hv, h0]⟩
        · exact ⟨_, c, hv⟩
      obtain ⟨rl, hrl2⟩ : ∃ rl, rs.length = rl := ⟨_, rfl⟩
      have HRL := Lib.hid hrl2
      rw [hrl2] at hv hrl
      subst hv
      clear hrec HE hsn hjm2 hrl2 hm0
      go_wp2_with fail
      go_at_call 63
      refine CR.out.mono ?_
      rintro e w2 ⟨hb2, x, rfl, hx⟩
      obtain ⟨xa, xc, hxs⟩ := hx.shape
      subst hxs
      obtain ⟨rlen, hrlen⟩ : ∃ rlen, r.length = rlen := ⟨_, rfl⟩
      rw [hrlen] at hx ⊢
      have hA := (Below.refl w2.heap.size w2).alloc (Nat.le_refl _) (.cells #[.slice xa rlen xc] 23)
      have hb3 := hb2.trans (hA.mono hb2.size)
      have HB3 := Lib.hid (And.intro hb3 (HO.out.2.trans (hb3.mono HO.out.2.size)))
      have HX := Lib.hid (hx.below hA)
      have HOW := Lib.hid (show (w2.alloc (.cells #[.slice xa rlen xc] 23)).ownsRow w.heap.size 23 1 (.slice va rl vc) rl ((List.range rl).map X) from by have h := (HO.out.1.below hb3).row; rw [HRL.out] at h; exact h)
      have HMX := Lib.hid (show rl + 1 ≤ maxLen ∧ (rl + 1) * 24 ≤ 140737488355328 from ⟨by unfold maxLen; omega, by omega⟩)
      have HSRC := Lib.hid (B2.one_any w2 (.slice xa rlen xc) 23)
      have HONE := Lib.hid (show ∀ u ∈ ([.slice xa rlen xc] : List Value), u.oneCell' = true by simp [Value.oneCell'])
      clear hb2 hb3 hA CR hx hrlen
      go_wp2_with (at_builtin; refine wpList_append_own_at _ rfl (.tmp 21) (.tmp 23) 25 rfl w.heap.size 23 i1 (.slice none 0 0) 1 24 Try.underlying25 HI.out.1 HI.out.2.1 HI.out.2.2.1 HI.out.2.2.2 rfl (by decide) (.slice va rl vc) rl ((List.range rl).map X) rfl HOW.out ⟨w2.heap.size, 0, none⟩ 1 1 [.slice xa rlen xc] rfl rfl HSRC.out HONE.out HMX.out.1 HMX.out.2 HB3.out.2.size ?_; intro v' w4 hown hgr _ hpl; have HO4 := Lib.hid (scan_more HO.out HB3.out.1 HX.out HRL.out hown hgr hpl); clear hown hgr hpl)
      go_roundw
      case rel => exact ⟨jm, rs ++ [r], _, hjm, by rw [List.length_append, HRL.out, List.length_singleton]; omega, rfl, HSN, HO4⟩
      case measure => simp [intOf]; omega
end Go.Proofs.Ytlegdaoidjpokaa
namespace Go.Proofs.Ytlegdaoidjpokaa
set_option linter.unusedVariables false
set_option linter.unusedSimpArgs false
open Go.RowKit
open B2 (Only Row Lots owns_only)
/-- the value of a lent row -/
def lv (G : Nat → Nat) (Ls : List (List Nat)) (i : Nat) : Value := .slice (some ⟨G i, 0, none⟩) (Ls.getD i []).length ((Ls.getD i []).length + 2)
structure LentAt (w wr : World) (g n j : Nat) (G : Nat → Nat) (Ls : List (List Nat)) : Prop where
  row : wr.ownsRow w.heap.size 23 1 (.slice (some ⟨g, 0, none⟩) j (n + 1)) j ((List.range j).map (lv G Ls))
  each : ∀ i, i < j → Lent wr (G i) (Ls.getD i []) ∧ g < G i
  apart : ∀ i k, i < j → k < j → i ≠ k → G i ≠ G k
  low : w.heap.size ≤ g
  below : Below w.heap.size w wr
theorem LentAt.next {w wr w2 w3 : World} {g n j g' L : Nat} {G : Nat → Nat} {Ls : List (List Nat)} {r : List Nat} (H : LentAt w wr g n j G Ls) (hr : Ls.getD j [] = r) (hL : r.length = L) (hg' : wr.heap.size ≤ g') (hl : Lent w2 g' r) (hb : Below wr.heap.size wr w2)
    (hown : w3.ownsRow w.heap.size 23 1 (.slice (some ⟨g, 0, none⟩) (j + 1) (n + 1)) (j + 1) ((List.range j).map (lv G Ls) ++ [.slice (some ⟨g', 0, none⟩) L (L + 2)]))
    (hg : (w2.alloc (.cells #[.slice (some ⟨g', 0, none⟩) L (L + 2)] 23)).grownBy w3 (some g)) : LentAt w w3 g n (j + 1) (fun i => if i = j then g' else G i) Ls := by
  subst hL
  have hA := (Below.refl w2.heap.size w2).alloc (Nat.le_refl _) (.cells #[.slice (some ⟨g', 0, none⟩) r.length (r.length + 2)] 23)
  have hbA : Below wr.heap.size wr (w2.alloc (.cells #[.slice (some ⟨g', 0, none⟩) r.length (r.length + 2)] 23)) := hb.trans (hA.mono hb.size)
  have hlA := hl.below hA
  generalize w2.alloc (.cells #[.slice (some ⟨g', 0, none⟩) r.length (r.length + 2)] 23) = W at *
  have ho : Only [g] W w3 := (Only.refl _ W).grown hg (fun k hk => .inl (by injection hk with hk; simp [hk]))
  have hglt : g < wr.heap.size := (H.row.lt g rfl).2
  have key : ∀ i bs, i ≠ g → Lent W i bs → Lent w3 i bs := fun i bs hi h => (ho.block i (Array.getElem?_eq_some_iff.1 h).1 (by simpa using hi)).trans h
  refine ⟨?_, fun i hi => ?_, fun i k hi hk hik => ?_, H.low, (H.below.trans (hbA.mono H.below.size)).grown hg (by have := hbA.size; have := H.below.size; omega) (fun k hk => by injection hk with hk; subst hk; exact H.low)⟩
  · have e : (List.range (j + 1)).map (lv (fun i => if i = j then g' else G i) Ls) = (List.range j).map (lv G Ls) ++ [.slice (some ⟨g', 0, none⟩) r.length (r.length + 2)] := by
      rw [List.range_succ, List.map_append, List.map_singleton]
      congr 1
      · refine List.map_congr_left fun i hi => ?_
        have := List.mem_range.1 hi
        simp [lv, show i ≠ j by omega]
      · show [Value.slice (some ⟨if j = j then g' else G j, 0, none⟩) (Ls.getD j []).length ((Ls.getD j []).length + 2)] = _
        rw [if_pos rfl, hr]
    rw [e]; exact hown
  · by_cases e : i = j
    · subst e
      simp only [if_true]
      rw [hr]
      exact ⟨key g' r (by omega) hlA, by omega⟩
    · simp only [if_neg e]
      have h1 := H.each i (by omega)
      exact ⟨key _ _ (by omega) (h1.1.below hbA), h1.2⟩
  · have hlt : ∀ i, i < j → G i < wr.heap.size := fun i hi => (Array.getElem?_eq_some_iff.1 (H.each i hi).1).1
    by_cases e : i = j
    · have e2 : k ≠ j := fun h => hik (by omega)
      simp only [if_pos e, if_neg e2]
      have := hlt k (by omega)
      omega
    · by_cases e2 : k = j
      · simp only [if_neg e, if_pos e2]
        have := hlt i (by omega)
        omega
      · simp only [if_neg e, if_neg e2]
        exact H.apart i k (by omega) (by omega) hik
/-- the rows lent, a nil behind them -/
structure LentR (w0 w : World) (g : Nat) (G : Nat → Nat) (Ls : List (List Nat)) : Prop where
  row : w.heap[g]? = some (.cells ((List.range Ls.length).map (lv G Ls) ++ [Value.slice none 0 0]).toArray 23 (0, 0))
  each : ∀ i, i < Ls.length → Lent w (G i) (Ls.getD i []) ∧ g < G i
  apart : ∀ i k, i < Ls.length → k < Ls.length → i ≠ k → G i ≠ G k
  low : w0.heap.size ≤ g
theorem LentR.below {w0 w w' : World} {g : Nat} {G : Nat → Nat} {Ls : List (List Nat)} (H : LentR w0 w g G Ls) (hb : Below w.heap.size w w') : LentR w0 w' g G Ls :=
  ⟨(hb.block g (Array.getElem?_eq_some_iff.1 H.row).1).trans H.row, fun i hi => ⟨(H.each i hi).1.below hb, (H.each i hi).2⟩, H.apart, H.low⟩
theorem row_of_owns {w : World} {base g n : Nat} {xs : List Value} (h : w.ownsRow base 23 1 (.slice (some ⟨g, 0, none⟩) n n) n xs) : w.heap[g]? = some (.cells xs.toArray 23 (0, 0)) := by
  obtain ⟨hl, h2⟩ := h
  rcases h2 with ⟨h0, _⟩ | ⟨g', cap, cur, hv, _, hg, _, _, hcs, ht⟩
  · cases h0
  · cases hv
    rw [hg]
    have : cur.toList = xs := by rw [← ht, List.take_of_length_le (by simp; omega)]
    rw [← this]
theorem LentAt.done {w wr w3 : World} {g n : Nat} {G : Nat → Nat} {Ls : List (List Nat)} (H : LentAt w wr g n n G Ls) (hn : Ls.length = n)
    (hown : w3.ownsRow w.heap.size 23 1 (.slice (some ⟨g, 0, none⟩) (n + 1) (n + 1)) (n + 1) ((List.range n).map (lv G Ls) ++ [.slice none 0 0]))
    (hg : (wr.alloc (.cells #[.slice none 0 0] 23)).grownBy w3 (some g)) : LentR w w3 g G Ls ∧ Below w.heap.size w w3 := by
  subst hn
  have hA := (Below.refl wr.heap.size wr).alloc (Nat.le_refl _) (.cells #[.slice none 0 0] 23)
  have he : ∀ i, i < Ls.length → Lent (wr.alloc (.cells #[.slice none 0 0] 23)) (G i) (Ls.getD i []) := fun i hi => (H.each i hi).1.below hA
  have hbA := H.below.trans (hA.mono H.below.size)
  generalize wr.alloc (.cells #[.slice none 0 0] 23) = W at *
  have ho : Only [g] W w3 := (Only.refl _ W).grown hg (fun k hk => .inl (by injection hk with hk; simp [hk]))
  refine ⟨⟨row_of_owns hown, fun i hi => ⟨?_, (H.each i hi).2⟩, H.apart, H.low⟩, hbA.grown hg hbA.size (fun k hk => by injection hk with hk; subst hk; exact H.low)⟩
  have h := he i hi
  exact (ho.block _ (Array.getElem?_eq_some_iff.1 h).1 (by have := (H.each i hi).2; simp; omega)).trans h
theorem lent_n (a : Option Addr) (bs : List Nat) (n cap : Nat) (w : World) (hn : bs.length = n) (H : Bys w a bs) (hc0 : a = none → cap = 0) (hsm : n ≤ 100000) :
    Calls Try.prog 8 #[.slice a n cap] w fun e w' => ∃ g, w.heap.size ≤ g ∧ e = .returned (.slice (some ⟨g, 0, none⟩) n (n + 2)) ∧ Lent w' g bs ∧ Below w.heap.size w w' := by
  subst hn; exact lent_any a bs cap w H hc0 hsm
set_option maxHeartbeats 4000000 in
theorem lentrows_any (a : Option Addr) (Ls : List (List Nat)) (n cap : Nat) (hn : Ls.length = n) (hn9 : n ≤ 100000) (hl9 : ∀ l ∈ Ls, l.length ≤ 100000) (w : World) (H : RwsC w a Ls) :
    Calls Try.prog 18 #[.slice a n cap] w fun e w' => ∃ g G, e = .returned (.slice (some ⟨g, 0, none⟩) n (n + 1)) ∧ LentR w w' g G Ls ∧ Below w.heap.size w w' := by
  obtain ⟨i1, hi1, hy0, hy1, hy2⟩ := info_parts B2.info27
  have HI := Lib.hid (And.intro hi1 (And.intro hy0 (And.intro hy1 hy2)))
  have HR := Lib.hid H
  have HN := Lib.hid (And.intro hn hl9)
  have hn1 : (n : Int) + 1 = ((n + 1 : Nat) : Int) := by omega
  obtain ⟨n1, hn2⟩ : ∃ n1, n + 1 = n1 := ⟨_, rfl⟩
  rw [hn2] at hn1
  clear hn H hl9 hi1 hy0 hy1
  go_enter Try.func18, Try.ntmps18
  go_wp2_with (at_make; refine wpList_make_own _ rfl _ _ 25 rfl w.heap.size 23 i1 (.slice none 0 0) 1 Try.underlying25 HI.out.1 HI.out.2.1 HI.out.2.2.1 .i64 .i64 _ n1 rfl rfl (by rfl) (by rw [hy2]; omega) (by unfold maxLen; omega) (Nat.le_refl _) ?_; intro w1 hown1 hgr1)
  have HST := Lib.hid (show LentAt w w1 w.heap.size n 0 (fun _ => 0) Ls from ⟨by rw [hn2]; exact hown1, fun i hi => by omega, fun i k hi => by omega, Nat.le_refl _, grown_below0 (Below.refl _ _) hgr1 (Nat.le_refl _)⟩)
  clear hown1 hgr1 hy2
  go_loopw [3, 4] (fun v i wr => ∃ (j : Nat) (G : Nat → Nat), j ≤ n ∧ i = .int .i64 j ∧ v = .slice (some ⟨w.heap.size, 0, none⟩) j n1 ∧ Hid (LentAt w wr w.heap.size n j G Ls)) (fun _ i _ => n - (intOf i).toNat)
  case atStart => exact ⟨0, fun _ => 0, Nat.zero_le _, rfl, rfl, HST⟩
  case round =>
    clear HST
    obtain ⟨j, G, hj, rfl, rfl, HS⟩ := hrel
    by_cases hlt : j < n
    · have hd : decide ((j : Int) < (n : Int)) = true := by simp; omega
      have hd2 : decide (j < n) = true := by simp; omega
      have hjl : j < Ls.length := by have := HN.out.1; omega
      obtain ⟨hb, ho, rfl, hhb, hcc⟩ := HR.out.2 (by intro h; rw [h] at hjl; simp at hjl)
      obtain ⟨x1, y1, k1, k2, k3, b1⟩ := hcc j hjl
      have hl := HN.out.2 _ (List.getElem_mem hjl)
      have hgd : Ls.getD j [] = Ls[j] := by simp [List.getD, List.getElem?_eq_getElem hjl]
      obtain ⟨r, hr⟩ : ∃ r, Ls[j] = r := ⟨_, rfl⟩
      rw [hr] at k1 k2 b1 hl hgd
      obtain ⟨L, hL⟩ : ∃ L, r.length = L := ⟨_, rfl⟩
      rw [hL] at k1 k2 hl
      have q := (HS.out.below.cell (p := ⟨hb, ho + j, none⟩) hhb).trans k1
      have CL := Lib.hid (lent_n x1 r L y1 wr hL (b1.below HS.out.below) k3 hl)
      have HB1 := Lib.hid (And.intro hgd hL)
      clear hcc k1 k2 k3 b1 hr hjl hhb hgd hl hL
      go_wp2_with fail
      go_at_call 8
      refine CL.out.mono ?_
      rintro e w2 ⟨g', hg', rfl, hlent, hb2⟩
      have HB2 := Lib.hid (And.intro hg' (And.intro hlent hb2))
      have hA := (Below.refl w2.heap.size w2).alloc (Nat.le_refl _) (.cells #[.slice (some ⟨g', 0, none⟩) L (L + 2)] 23)
      have HOW := Lib.hid (show (w2.alloc (.cells #[.slice (some ⟨g', 0, none⟩) L (L + 2)] 23)).ownsRow w.heap.size 23 1 (.slice (some ⟨w.heap.size, 0, none⟩) j n1) j ((List.range j).map (lv G Ls)) from by
        have h := HS.out.row
        rw [hn2] at h
        exact owns_only (owns_only h (Only.of_below hb2 []) (fun _ _ => by simp)) (Only.of_below hA []) (fun _ _ => by simp))
      have HSRC := Lib.hid (B2.one_any w2 (.slice (some ⟨g', 0, none⟩) L (L + 2)) 23)
      have HONE := Lib.hid (show ∀ u ∈ ([.slice (some ⟨g', 0, none⟩) L (L + 2)] : List Value), u.oneCell' = true by simp [Value.oneCell'])
      clear hg' hlent hb2 hA CL q
      go_wp2_with (at_builtin; refine wpList_append_own_spare _ rfl (.tmp 16) (.tmp 22) 25 rfl w.heap.size 23 i1 1 Try.underlying25 HI.out.1 HI.out.2.2.1 w.heap.size j n1 ((List.range j).map (lv G Ls)) rfl HOW.out ⟨w2.heap.size, 0, none⟩ 1 1 [.slice (some ⟨g', 0, none⟩) L (L + 2)] rfl rfl HSRC.out HONE.out (by omega) ?_; intro w3 hown3 hgr3; have HS3 := Lib.hid (HS.out.next HB1.out.1 HB1.out.2 HB2.out.1 HB2.out.2.1 HB2.out.2.2 (by rw [hn2]; exact hown3) hgr3); clear hown3 hgr3)
      go_roundw
      case rel => exact ⟨j + 1, _, by omega, by go_num, rfl, HS3⟩
      case measure => simp [intOf]; omega
    · obtain rfl : j = n := by omega
      have hd : decide ((j : Int) < (j : Int)) = false := by simp
      have hjn : (j : Int) ≤ (n1 : Int) := by omega
      have hj0 : (0 : Int) ≤ (j : Int) := by omega
      have HOW := Lib.hid (show (wr.alloc (.cells #[.slice none 0 0] 23)).ownsRow w.heap.size 23 1 (.slice (some ⟨w.heap.size, 0, none⟩) j n1) j ((List.range j).map (lv G Ls)) from by
        have h := HS.out.row
        rw [hn2] at h
        exact owns_only h (Only.of_below ((Below.refl wr.heap.size wr).alloc (Nat.le_refl _) (.cells #[.slice none 0 0] 23)) []) (fun _ _ => by simp))
      have HSRC := Lib.hid (B2.one_any wr (.slice none 0 0) 23)
      have HONE := Lib.hid (show ∀ u ∈ ([.slice none 0 0] : List Value), u.oneCell' = true by simp [Value.oneCell'])
      go_wp2_with (at_builtin; refine wpList_append_own_spare _ rfl (.tmp 24) (.tmp 25) 25 rfl w.heap.size 23 i1 1 Try.underlying25 HI.out.1 HI.out.2.2.1 w.heap.size j n1 ((List.range j).map (lv G Ls)) rfl HOW.out ⟨wr.heap.size, 0, none⟩ 1 1 [.slice none 0 0] rfl rfl HSRC.out HONE.out (by omega) ?_; intro w3 hown3 hgr3; have HD := Lib.hid (HS.out.done HN.out.1 (by rw [hn2] at hown3 ⊢; exact hown3) hgr3); clear hown3 hgr3)
      go_ret
      rw [hn2]
      exact ⟨w.heap.size, G, rfl, HD.out⟩
end Go.Proofs.Ytlegdaoidjpokaa
namespace Go.Proofs.Ytlegdaoidjpokaa
set_option linter.unusedVariables false
set_option linter.unusedSimpArgs false
open Go.RowKit
open B2 (Only Row Lots owns_only)
theorem LentR.cell {w0 w : World} {g : Nat} {G : Nat → Nat} {Ls : List (List Nat)} (H : LentR w0 w g G Ls) (i : Nat) (hi : i < Ls.length) : w.cell? ⟨g, i, none⟩ = some (.slice (some ⟨G i, 0, none⟩) Ls[i].length (Ls[i].length + 2)) := by
  rw [cell_of_row _ _ _ _ _ _ H.row, List.getElem?_toArray, List.getElem?_append_left (by simpa using hi)]
  have e : Ls.getD i [] = Ls[i] := by simp [List.getD, List.getElem?_eq_getElem hi]
  rw [List.getElem?_map, List.getElem?_range hi]
  simp only [Option.map_some, lv, e]
theorem LentR.last {w0 w : World} {g : Nat} {G : Nat → Nat} {Ls : List (List Nat)} (H : LentR w0 w g G Ls) : w.cell? ⟨g, Ls.length, none⟩ = some (.slice none 0 0) := by
  rw [cell_of_row _ _ _ _ _ _ H.row, List.getElem?_toArray, List.getElem?_append_right (by simp)]
  simp
theorem LentR.rws {w0 w : World} {g : Nat} {G : Nat → Nat} {Ls : List (List Nat)} (H : LentR w0 w g G Ls) (hl9 : ∀ l ∈ Ls, l.length ≤ 100000) (h8 : ∀ l ∈ Ls, ∀ c ∈ l, c < 256) (hn9 : Ls.length ≤ 100000) : Rws w (some ⟨g, 0, none⟩) Ls := by
  refine ⟨by unfold maxLen; omega, fun _ => ⟨g, 0, rfl, (Array.getElem?_eq_some_iff.1 H.row).1, fun i hi => ⟨_, _, by rw [Nat.zero_add]; exact H.cell i hi, by omega, ?_⟩⟩⟩
  have e : Ls.getD i [] = Ls[i] := by simp [List.getD, List.getElem?_eq_getElem hi]
  have h := (H.each i hi).1
  rw [e] at h
  exact h.bytes (by have := hl9 _ (List.getElem_mem hi); unfold maxLen; omega) (h8 _ (List.getElem_mem hi))
theorem whole_n (g : Nat) (a : Option Addr) (bs : List Nat) (n cap : Nat) (w : World) (hn : bs.length = n) (L : Lent w g bs) (H : Bys w a bs) (hsm : n ≤ 100000) :
    Calls Try.prog 10 #[.slice (some ⟨g, 0, none⟩) n (n + 2), .slice a n cap] w fun e w' => e = .returned (.bool true) ∧ Below w.heap.size w w' := by
  subst hn; exact whole_any g a bs cap w L H hsm
set_option maxHeartbeats 4000000 in
set_option maxRecDepth 100000 in
theorem wholerows_any (g : Nat) (G : Nat → Nat) (a : Option Addr) (Ls : List (List Nat)) (n cap : Nat) (hn : Ls.length = n) (hn9 : n ≤ 100000) (hl9 : ∀ l ∈ Ls, l.length ≤ 100000) (w0 w : World) (H : LentR w0 w g G Ls) (H2 : Rws w a Ls) :
    Calls Try.prog 20 #[.slice (some ⟨g, 0, none⟩) n (n + 1), .slice a n cap] w fun e w' => e = .returned (.bool true) ∧ Below w.heap.size w w' := by
  have HH := Lib.hid (And.intro H (And.intro H2 (And.intro hn hl9)))
  have hd0 : ((n : Int) != (n : Int)) = false := by simp
  obtain ⟨n1, hn2⟩ : ∃ n1, n + 1 = n1 := ⟨_, rfl⟩
  have hn1 : (n : Int) + 1 = (n1 : Int) := by omega
  have hd1 : decide ((n1 : Int) < (n1 : Int)) = false := by simp
  have hw1 : IntKind.i64.wrap ((n : Int) + 1) = (n1 : Int) := by rw [IntKind.wrap_i64]; omega
  have hb1 : (n : Int) < (n1 : Int) := by omega
  have hb2 : (0 : Int) ≤ (n1 : Int) := by omega
  have q := H.last
  rw [hn] at q
  rw [hn2]
  clear H H2 hn hl9
  go_enter Try.func20, Try.ntmps20
  go_wp2_with fail
  clear q
  go_loopw [5] (fun i wr => ∃ j : Nat, j ≤ n ∧ i = .int .i64 j ∧ Hid (Below w.heap.size w wr)) (fun i _ => n - (intOf i).toNat)
  case atStart => exact ⟨0, Nat.zero_le _, rfl, Lib.hid (Below.refl _ _)⟩
  case round =>
    obtain ⟨j, hj, rfl, HB⟩ := hrel
    by_cases hlt : j < n
    · have hd : decide ((j : Int) < (n : Int)) = true := by simp; omega
      have hd2 : decide (j < n) = true := by simp; omega
      have hjl : j < Ls.length := by have := HH.out.2.2.1; omega
      have hne : Ls ≠ [] := by intro h; rw [h] at hjl; simp at hjl
      obtain ⟨h2, o2, rfl, hh2, hc2⟩ := HH.out.2.1.2 hne
      obtain ⟨x2, y2, k2, -, b2⟩ := hc2 j hjl
      have k1 := HH.out.1.cell j hjl
      have l1 := (HH.out.1.each j hjl).1
      have e : Ls.getD j [] = Ls[j] := by simp [List.getD, List.getElem?_eq_getElem hjl]
      rw [e] at l1
      have hl := HH.out.2.2.2 _ (List.getElem_mem hjl)
      have hb : Below w.heap.size w wr.drew := HB.out.trans ((drew_below wr).mono HB.out.size)
      obtain ⟨r, hr⟩ : ∃ r, Ls[j] = r := ⟨_, rfl⟩
      rw [hr] at k1 k2 b2 l1 hl
      obtain ⟨L, hL⟩ : ∃ L, r.length = L := ⟨_, rfl⟩
      rw [hL] at k1 k2 hl
      have q : wr.drew.cell? ⟨g, j, none⟩ = some (.slice (some ⟨G j, 0, none⟩) L (L + 2)) ∧ wr.drew.cell? ⟨h2, o2 + j, none⟩ = some (.slice x2 L y2) := ⟨cell_below k1 hb, (hb.cell (p := ⟨h2, o2 + j, none⟩) hh2).trans k2⟩
      have CS := Lib.hid (fun W (hW : Below w.heap.size w W) => whole_n (G j) x2 r L y2 W hL (l1.below hW) (b2.below hW) hl)
      have HCL := Lib.hid (fun W (hW : Below w.heap.size w W) => show W.cell? ⟨g, j, none⟩ = some (.slice (some ⟨G j, 0, none⟩) L (L + 2)) ∧ W.cell? ⟨h2, o2 + j, none⟩ = some (.slice x2 L y2) from ⟨cell_below k1 hW, (hW.cell (p := ⟨h2, o2 + j, none⟩) hh2).trans k2⟩)
      have HBD := Lib.hid hb
      clear hc2 k1 k2 l1 b2 hr hL hb hne hjl hh2 e hl
      go_wp2_with fail
      go_region_held3 (fun w' => w'.cell? ⟨g, j, none⟩ = some (.slice (some ⟨G j, 0, none⟩) L (L + 2)) ∧ w'.cell? ⟨h2, o2 + j, none⟩ = some (.slice x2 L y2)) ((first | (with_reducible exact q) | (with_reducible assumption)))
        ((go_at_call 10; refine (CS.out _ HBD.out).mono ?_; rintro e w9 ⟨rfl, hb9⟩; have HB9 := Lib.hid (HBD.out.trans (hb9.mono HBD.out.size)); have q9 := HCL.out _ HB9.out; clear hb9))
      clear q q9
      go_wp2_with fail
      go_roundw
      case rel => exact ⟨j + 1, by omega, by go_num, HB9⟩
      case measure => simp [intOf]; omega
    · obtain rfl : j = n := by omega
      have hd : decide ((j : Int) < (j : Int)) = false := by simp
      go_wp2_with fail
      go_ret
      exact ⟨rfl, HB.out⟩
end Go.Proofs.Ytlegdaoidjpokaa
namespace Go.Proofs.Ytlegdaoidjpokaa
set_option linter.unusedVariables false
set_option linter.unusedSimpArgs false
open Go.RowKit
open B2 (Only Row Lots owns_only)
/-- while it is written over -/
def Spoilt (w : World) (g L : Nat) (wr : World) : Prop := (∃ cur, wr.heap[g]? = some (.cells cur 5 (0, 0)) ∧ cur.size = L) ∧ Only [g] w wr
theorem Spoilt.cell {w wr : World} {g L k : Nat} (h : Spoilt w g L wr) (hk : k < L) : (∃ u, wr.cell? ⟨g, k, none⟩ = some u) ∧ wr.frozen? ⟨g, k, none⟩ = false ∧ ∀ u, Spoilt w g L (wr.setCell ⟨g, k, none⟩ u) := by
  obtain ⟨⟨cur, h1, h2⟩, h3⟩ := h
  refine ⟨⟨cur[k]'(by omega), ?_⟩, frozen_of_row _ _ _ _ _ h1, fun u => ⟨⟨_, heap_setCell_same _ _ _ _ _ _ h1, by simpa using h2⟩, h3.setCell (p := ⟨g, k, none⟩) (.inl (by simp)) u⟩⟩
  rw [cell_of_row _ _ _ _ _ _ h1, Array.getElem?_eq_getElem (by omega)]
set_option maxHeartbeats 400000 in
theorem spoil_any (g n L : Nat) (w : World) (hnL : n ≤ L) (hL : L ≤ 1000000) (cur : Array Value) (h1 : w.heap[g]? = some (.cells cur 5 (0, 0))) (h2 : cur.size = L) :
    Calls Try.prog 11 #[.slice (some ⟨g, 0, none⟩) n L] w fun e w' => e = .returned (.tuple #[]) ∧ Only [g] w w' := by
  have H0 := Lib.hid (show Spoilt w g L w from ⟨⟨cur, h1, h2⟩, Only.refl _ _⟩)
  clear h1 h2
  go_enter Try.func11, Try.ntmps11
  go_wp2
  go_loopw [3] (fun i wr => ∃ k : Nat, k ≤ L ∧ i = .int .i64 (k : Nat) ∧ Hid (Spoilt w g L wr)) (fun i _ => L - (intOf i).toNat)
  case atStart => exact ⟨0, Nat.zero_le _, rfl, H0⟩
  case round =>
    obtain ⟨k, hk, rfl, HS⟩ := hrel
    by_cases hlt : k < L
    · obtain ⟨⟨u, hc⟩, hf, hset⟩ := HS.out.cell hlt
      have HN := Lib.hid (hset (.int .u8 238))
      have hi : (k : Int) < (L : Int) := by omega
      have hd : decide ((k : Int) < (L : Int)) = true := by simp; omega
      clear hset
      go_wp2
      go_roundw
      case rel => exact ⟨k + 1, by omega, by go_num, HN⟩
      case measure => simp [intOf]; omega
    · obtain rfl : k = L := by omega
      go_wp2
      go_end0
      exact ⟨rfl, HS.out.2⟩
theorem spoil_n (g n L : Nat) (bs : List Nat) (w : World) (hn : bs.length = n) (hL : n + 2 = L) (hs : n ≤ 100000) (H : Lent w g bs) :
    Calls Try.prog 11 #[.slice (some ⟨g, 0, none⟩) n L] w fun e w' => e = .returned (.tuple #[]) ∧ Only [g] w w' :=
  spoil_any g n L w (by omega) (by omega) _ H (by simp [cellsOf_length, hn]; omega)
/-- while the rows are written over with nil -/
def SpoiltR (w : World) (g L : Nat) (S : List Nat) (wr : World) : Prop := (∃ cur, wr.heap[g]? = some (.cells cur 23 (0, 0)) ∧ cur.size = L) ∧ Only (g :: S) w wr
theorem SpoiltR.cell {w wr : World} {g L k : Nat} {S : List Nat} (h : SpoiltR w g L S wr) (hk : k < L) : (∃ u, wr.cell? ⟨g, k, none⟩ = some u) ∧ wr.frozen? ⟨g, k, none⟩ = false ∧ ∀ u, SpoiltR w g L S (wr.setCell ⟨g, k, none⟩ u) := by
  obtain ⟨⟨cur, h1, h2⟩, h3⟩ := h
  refine ⟨⟨cur[k]'(by omega), ?_⟩, frozen_of_row _ _ _ _ _ h1, fun u => ⟨⟨_, heap_setCell_same _ _ _ _ _ _ h1, by simpa using h2⟩, h3.setCell (p := ⟨g, k, none⟩) (.inl (by simp)) u⟩⟩
  rw [cell_of_row _ _ _ _ _ _ h1, Array.getElem?_eq_getElem (by omega)]
set_option maxHeartbeats 4000000 in
set_option maxRecDepth 100000 in
theorem spoilrows_any (g : Nat) (G : Nat → Nat) (Ls : List (List Nat)) (n : Nat) (hn : Ls.length = n) (hn9 : n ≤ 100000) (hl9 : ∀ l ∈ Ls, l.length ≤ 100000) (w0 w : World) (H : LentR w0 w g G Ls) :
    Calls Try.prog 21 #[.slice (some ⟨g, 0, none⟩) n (n + 1)] w fun e w' => e = .returned (.tuple #[]) ∧ Only (g :: (List.range n).map G) w w' := by
  have HH := Lib.hid (And.intro H (And.intro hn hl9))
  obtain ⟨n1, hn2⟩ : ∃ n1, n + 1 = n1 := ⟨_, rfl⟩
  have hnn : (n : Int) ≤ (n1 : Int) := by omega
  have hb2 : (0 : Int) ≤ (n1 : Int) := by omega
  rw [hn2]
  clear H hn hl9
  go_enter Try.func21, Try.ntmps21
  go_wp2_with fail
  go_loopw [2] (fun i wr => ∃ j : Nat, j ≤ n ∧ i = .int .i64 j ∧ Hid (Only ((List.range j).map G) w wr)) (fun i _ => n - (intOf i).toNat)
  case atStart => exact ⟨0, Nat.zero_le _, rfl, Lib.hid (Only.refl _ _)⟩
  case round =>
    obtain ⟨j, hj, rfl, HB⟩ := hrel
    by_cases hlt : j < n
    · have hd : decide ((j : Int) < (n : Int)) = true := by simp; omega
      have hd2 : decide (j < n) = true := by simp; omega
      have hjl : j < Ls.length := by have := HH.out.2.1; omega
      have k1 := HH.out.1.cell j hjl
      have l1 := (HH.out.1.each j hjl).1
      have e : Ls.getD j [] = Ls[j] := by simp [List.getD, List.getElem?_eq_getElem hjl]
      rw [e] at l1
      have hl := HH.out.2.2 _ (List.getElem_mem hjl)
      have hgn : g ∉ (List.range j).map G := by
        intro h
        obtain ⟨i, hi, he⟩ := List.mem_map.1 h
        have := List.mem_range.1 hi
        have := (HH.out.1.each i (by omega)).2
        omega
      have hGn : G j ∉ (List.range j).map G := by
        intro h
        obtain ⟨i, hi, he⟩ := List.mem_map.1 h
        have := List.mem_range.1 hi
        exact HH.out.1.apart i j (by omega) hjl (by omega) he
      obtain ⟨r, hr⟩ : ∃ r, Ls[j] = r := ⟨_, rfl⟩
      rw [hr] at k1 l1 hl
      obtain ⟨L, hL⟩ : ∃ L, r.length = L := ⟨_, rfl⟩
      rw [hL] at k1 hl
      have q := Only_cell HB.out k1 hgn
      have l2 : Lent wr (G j) r := (HB.out.block _ (Array.getElem?_eq_some_iff.1 l1).1 hGn).trans l1
      have CS := Lib.hid (spoil_n (G j) L (L + 2) r wr hL rfl hl l2)
      clear k1 l1 e hgn hGn hr hL l2 hjl hl
      go_wp2_with fail
      go_at_call 11
      refine CS.out.mono ?_
      rintro e w2 ⟨rfl, ho⟩
      have HB2 := Lib.hid (show Only ((List.range (j + 1)).map G) w w2 from (HB.out.mono (fun x hx => by rw [List.range_succ, List.map_append]; exact List.mem_append_left _ hx)).trans ho (fun x hx => .inl (by rw [List.range_succ, List.map_append]; exact List.mem_append_right _ (by simpa using hx))))
      clear ho CS
      go_wp2_with fail
      go_roundw
      case rel => exact ⟨j + 1, by omega, by go_num, HB2⟩
      case measure => simp [intOf]; omega
    · obtain rfl : j = n := by omega
      have hd : decide ((j : Int) < (j : Int)) = false := by simp
      have hgn : g ∉ (List.range j).map G := by
        intro h
        obtain ⟨i, hi, he⟩ := List.mem_map.1 h
        have := List.mem_range.1 hi
        have := (HH.out.1.each i (by have := HH.out.2.1; omega)).2
        omega
      have HST := Lib.hid (show SpoiltR w g n1 ((List.range j).map G) wr from ⟨⟨_, (HB.out.block g (Array.getElem?_eq_some_iff.1 HH.out.1.row).1 hgn).trans HH.out.1.row, by simp [HH.out.2.1]; omega⟩, HB.out.mono (fun x hx => List.mem_cons_of_mem _ hx)⟩)
      clear hgn
      go_wp2_with fail
      go_loopw [4] (fun i wx => ∃ k : Nat, k ≤ n1 ∧ i = .int .i64 k ∧ Hid (SpoiltR w g n1 ((List.range j).map G) wx)) (fun i _ => n1 - (intOf i).toNat)
      case atStart => exact ⟨0, Nat.zero_le _, rfl, HST⟩
      case round =>
        clear HST
        obtain ⟨k, hk, rfl, HS⟩ := hrel
        by_cases hlt : k < n1
        · obtain ⟨⟨u, hc⟩, hf, hset⟩ := HS.out.cell hlt
          have HN := Lib.hid (hset (.slice none 0 0))
          have hi : (k : Int) < (n1 : Int) := by omega
          have hd : decide ((k : Int) < (n1 : Int)) = true := by simp; omega
          clear hset
          go_wp2_with fail
          go_roundw
          case rel => exact ⟨k + 1, by omega, by go_num, HN⟩
          case measure => simp [intOf]; omega
        · obtain rfl : k = n1 := by omega
          have hd : decide ((k : Int) < (k : Int)) = false := by simp
          go_wp2_with fail
          go_end0
          exact ⟨rfl, HS.out.2⟩
end Go.Proofs.Ytlegdaoidjpokaa
namespace Go.Proofs.Ytlegdaoidjpokaa
end Go.Proofs.Ytlegdaoidjpokaa
