/-
  PROVED: a sector in which a run of at most 32 bits has changed is never taken; for every segment, record, sector, place and change; the record reads afterwards as it read before. Conditions: none.
-/
import Derived.Test.YtlegdaoidjpokaaK05
import Derived.Test.YtlegdaoidjpokaaRows
import Derived.OwnWalk
import Derived.WalkKit
import Derived.ProofKit
import Derived.OpenShut
import Derived.ShutString
import Derived.ChangeOld
import Derived.Below
namespace Go.Proofs.Ytlegdaoidjpokaa
set_option linter.unusedVariables false
set_option linter.unusedSimpArgs false
open Go.RowKit
open B2 (Only Row Lots owns_only)
theorem turned_much (seg n cap which : Nat) (a : Option Addr) (x : Int) (c : Nat) (hn : 7680 < n) (w : World) :
    Calls Try.prog 6 #[.int .u32 seg, .slice a n cap, .int .u8 which, .int .i64 x, .int .u32 c] w fun e w' => e = .returned (.bool true) ∧ Below w.heap.size w w' := by
  have d1 : decide ((7680 : Int) < (n : Int)) = true := by simp; omega
  have CK := Lib.hid (known_any w)
  go_enter Try.func6, Try.ntmps6
  go_wp2_with fail
  go_at_call 14
  refine CK.out.mono ?_
  rintro e w1 ⟨rfl, hb⟩
  have HB := Lib.hid hb
  clear hb
  go_wp2_with fail
  go_ret
  exact ⟨rfl, HB.out⟩
/-- the same sectors with one of them another row -/
structure Some1 (w : World) (N g2 ms nd k : Nat) (S : List (List Nat)) (x : Value) : Prop where
  row : ∃ cur : Array Value, w.heap[g2]? = some (.cells cur 23 (0, 0)) ∧ nd ≤ cur.size ∧ ∀ i, i < nd → cur[i]? = some (if i = k then x else .slice (some ⟨ms, i * 256, none⟩) 256 256)
  mem : Mem w ms 5 S.flatten
  len : ∀ s ∈ S, s.length = 256
  byt : ∀ s ∈ S, ∀ c ∈ s, c < 256
  nd : S.length = nd ∧ nd ≤ 1000
theorem Some1.rws {w : World} {N g2 ms nd k g cp : Nat} {S : List (List Nat)} {m : List Nat} (H : Some1 w N g2 ms nd k S (.slice (some ⟨g, 0, none⟩) 256 cp)) (hk : k < nd) (hm : Bys w (some ⟨g, 0, none⟩) m) (hml : m.length = 256) (hc : 256 ≤ cp) : Rws w (some ⟨g2, 0, none⟩) (S.set k m) := by
  obtain ⟨cur, h1, h2, h3⟩ := H.row
  obtain ⟨hn, hn9⟩ := H.nd
  refine ⟨by rw [List.length_set, hn]; unfold maxLen; omega, fun _ => ⟨g2, 0, rfl, (Array.getElem?_eq_some_iff.1 h1).1, fun i hi => ?_⟩⟩
  have hi2 : i < nd := by rw [List.length_set, hn] at hi; exact hi
  have hc1 : w.cell? ⟨g2, 0 + i, none⟩ = some (if i = k then .slice (some ⟨g, 0, none⟩) 256 cp else .slice (some ⟨ms, i * 256, none⟩) 256 256) := by
    rw [Nat.zero_add, cell_of_row _ _ _ _ _ _ h1, h3 i hi2]
  by_cases e : i = k
  · subst e
    have e1 : (S.set i m)[i] = m := by simp
    rw [if_pos rfl] at hc1
    rw [e1, hml]
    exact ⟨_, cp, hc1, hc, hm⟩
  · have e1 : (S.set k m)[i] = S[i]'(by omega) := by rw [List.getElem_set, if_neg (fun h => e h.symm)]
    rw [if_neg e] at hc1
    have hmem : S[i]'(by omega) ∈ S := List.getElem_mem (by omega)
    rw [e1, H.len _ hmem]
    exact ⟨_, 256, hc1, Nat.le_refl _, H.mem.bys (i * 256) _ (fun j hj => flat_get S H.len i j (by omega) hj) (H.byt _ hmem) (by rw [H.len _ hmem]; decide)⟩
/-- the sectors' slices, copied to a row of their own -/
theorem copy_row {wr w5 : World} {nd ms : Nat} {v2 : Value} (hown : w5.ownsRow wr.heap.size 23 1 v2 (0 + nd) ([] ++ secs ms nd nd)) (h0 : 0 < nd) : ∃ g2 c2, v2 = .slice (some ⟨g2, 0, none⟩) nd c2 ∧ wr.heap.size ≤ g2 ∧ nd ≤ c2 ∧ ∃ cur : Array Value, w5.heap[g2]? = some (.cells cur 23 (0, 0)) ∧ nd ≤ cur.size ∧ ∀ i, i < nd → cur[i]? = some (.slice (some ⟨ms, i * 256, none⟩) 256 256) := by
  rw [Nat.zero_add, List.nil_append] at hown
  rcases hown.2 with ⟨_, h1⟩ | ⟨g, c, cur, hv, hN, hh, hc, _, hs, ht⟩
  · omega
  · refine ⟨g, c, hv, hN, hc, cur, hh, by omega, fun i hi => ?_⟩
    have h2 := congrArg (fun l => l[i]?) ht
    simp only [List.getElem?_take] at h2
    rw [if_pos (by omega), secs_get _ _ _ _ hi, if_pos hi] at h2
    rw [← Array.getElem?_toList]
    exact h2
theorem Some1.of_set {w5 : World} {N h g2 ms nd k : Nat} {S : List (List Nat)} {x : Value} (hS : Spt w5 N h ms S) (hl : S.length = nd) (hrow : ∃ cur : Array Value, w5.heap[g2]? = some (.cells cur 23 (0, 0)) ∧ nd ≤ cur.size ∧ ∀ i, i < nd → cur[i]? = some (.slice (some ⟨ms, i * 256, none⟩) 256 256)) (hk : k < nd) (hne : ms ≠ g2) : Some1 (w5.setCell ⟨g2, k, none⟩ x) N g2 ms nd k S x ∧ Only [g2] w5 (w5.setCell ⟨g2, k, none⟩ x) := by
  obtain ⟨cur, h1, h2, h3⟩ := hrow
  have ho : Only [g2] w5 (w5.setCell ⟨g2, k, none⟩ x) := (Only.refl [g2] w5).setCell (p := ⟨g2, k, none⟩) (.inl (by simp)) _
  refine ⟨⟨⟨cur.setIfInBounds k x, heap_setCell_same _ _ _ _ _ _ h1, by rw [Array.size_setIfInBounds]; exact h2, fun i hi => ?_⟩, hS.mem.only ho (by simpa using hne), hS.len, hS.byt, hl, by have := hS.low.2.2; omega⟩, ho⟩
  rw [Array.getElem?_setIfInBounds]
  by_cases e : k = i
  · subst e
    rw [if_pos rfl, if_pos (by omega), if_pos rfl]
  · rw [if_neg e, if_neg (fun h => e h.symm)]
    exact h3 i hi
theorem Spt.src {w : World} {N h m nd : Nat} {S : List (List Nat)} (H : Spt w N h m S) (hl : S.length = nd) : ∀ j u, (secs m nd nd)[j]? = some u → w.cell? ((⟨h, 0, none⟩ : Addr).add j) = some u := by
  intro j u hu
  have hj : j < nd := by
    have := (List.getElem?_eq_some_iff.1 hu).1
    rwa [secs_len] at this
  rw [secs_get _ _ _ _ hj, if_pos hj] at hu
  rw [B2.add_here, H.cell j (by omega)]
  exact hu
theorem secs_one (m n k : Nat) : ∀ u ∈ secs m n k, u.oneCell' = true := by
  intro u hu
  unfold secs at hu
  obtain ⟨i, _, rfl⟩ := List.mem_map.1 hu
  split <;> simp [Value.oneCell']
set_option maxHeartbeats 8000000 in
set_option maxRecDepth 100000 in
theorem turned_law (seg n cap which : Nat) (a : Option Addr) (at' : Int) (c : Nat) (bs : List Nat) (hn : bs.length = n) (hn2 : n ≤ 7680) (hs : seg < 4294967296) (h8 : which < 256) (hcc : c < 4294967296) (hc : n ≤ cap) (hc0 : a = none → cap = 0) (w : World) (H : Bys w a bs) (hold : ∀ x, a = some x → x.block < w.heap.size ∨ bs = []) :
    Calls Try.prog 6 #[.int .u32 seg, .slice a n cap, .int .u8 which, .int .i64 at', .int .u32 c] w fun e w' => e = .returned (.bool true) ∧ Below w.heap.size w w' := by
  obtain ⟨i0, hi, hz0, hz1, hz2⟩ := info_parts info5
  obtain ⟨i1, hi1, hy0, hy1, hy2⟩ := info_parts B2.info27
  have HI := Lib.hid (And.intro hi (And.intro hz0 (And.intro hz1 hz2)))
  have HI1 := Lib.hid (And.intro hi1 (And.intro hy0 (And.intro hy1 hy2)))
  have d1 : decide ((7680 : Int) < (n : Int)) = false := by simp; omega
  have d9 : ¬ 7680 < n := by omega
  have CK := Lib.hid (known_any w)
  have hnd : Fr.need n ≤ 32 := by unfold Fr.need; omega
  have hnp := Fr.need_pos n
  have CS := Lib.hid (fun W hB hO => spl_ok a bs n cap seg 0 hn hc hc0 hn2 hs (by omega) W hB hO)
  have HBY := Lib.hid (And.intro H hold)
  have hSl : (Fr.cutS seg 0 bs).length = Fr.need n := by rw [Fr.cutS_len, hn]
  have hone := Fr.scan_one seg bs (by omega)
  have hbrk := fun k x hk h => Fr.scan_broken seg k bs x (by omega) hk h
  have hget : ∀ k, k < Fr.need n → (Fr.cutS seg 0 bs)[k]? = some (Fr.sec (Fr.kindOf k (Fr.need n)) seg k (Fr.part bs k)) := by
    intro k hk
    unfold Fr.cutS
    rw [hn, List.getElem?_map, List.getElem?_range hk]
    simp
  obtain ⟨nd, hnd2⟩ : ∃ nd, Fr.need n = nd := ⟨_, rfl⟩
  obtain ⟨S, hS⟩ : ∃ S, Fr.cutS seg 0 bs = S := ⟨_, rfl⟩
  rw [hn, hnd2] at hone hbrk
  rw [hnd2] at CS hnd hnp hSl hget
  rw [hS] at CS hone hbrk hSl hget
  have HSL := Lib.hid hSl
  have HSC := Lib.hid (And.intro hone (And.intro hbrk hget))
  obtain ⟨k, hk⟩ : ∃ k : Nat, which % nd = k := ⟨_, rfl⟩
  have hknd : k < nd := by rw [← hk]; exact Nat.mod_lt _ hnp
  have hkm : (which : Int) % (nd : Int) = (k : Int) := by rw [← hk]; exact (Int.natCast_emod which nd).symm
  have hkt : (which : Int).tmod (nd : Int) = (k : Int) := by rw [Int.tmod_eq_emod_of_nonneg (by omega)]; exact hkm
  have hne0 : ((nd : Int) == 0) = false := by simp; omega
  have hnd0 : ¬ nd = 0 := by omega
  obtain ⟨f, hf, hcs⟩ := from_cases at' 256 (by decide)
  rw [show (8 : Int) * ((256 : Nat) : Int) = 2048 by rfl] at hcs
  have hd3 : decide ((f : Int) < 0) = false := by simp
  clear hn hc hc0 H hold hnd2 hS hone hbrk hget hSl hk hi hz0 hz1 hz2 hi1 hy0 hy1 hy2
  rcases hcs with ⟨hp, hr⟩ | ⟨hp, hr⟩ | ⟨t, hp, ht, hr, hs2⟩
  case inl =>
    go_enter Try.func6, Try.ntmps6
    go_wp2_with fail
    go_at_call 14
    refine CK.out.mono ?_
    rintro e w1 ⟨rfl, hb1⟩
    have HB1 := Lib.hid hb1
    clear hb1 CK
    go_wp2_with fail
    go_at_call 9
    refine (CS.out w1 (HBY.out.1.below HB1.out) (fun x hx => (HBY.out.2 x hx).imp (fun h => Nat.lt_of_lt_of_le h HB1.out.size) id)).mono ?_
    rintro e w2 ⟨h, ms, rfl, hSp, hb2⟩
    have HS2 := Lib.hid (And.intro hSp (HB1.out.trans (hb2.mono HB1.out.size)))
    have hck := hSp.cell k (by rw [HSL.out]; exact hknd)
    have hbk := hSp.bys k (by rw [HSL.out]; exact hknd)
    have hlk := hSp.len _ (List.getElem_mem (show k < S.length by rw [HSL.out]; exact hknd))
    have hkl : k < S.length := by rw [HSL.out]; exact hknd
    have hQ : S[k]? = some S[k] := List.getElem?_eq_getElem hkl
    have h8k := hSp.byt _ (List.getElem_mem hkl)
    generalize S[k] = Q at hbk hlk hQ h8k
    have HSRC := Lib.hid (cellsOf_at hbk)
    have HLK := Lib.hid (show (cellsOf Q).length = 256 * 1 by rw [cellsOf_length, hlk])
    have HQ := Lib.hid (And.intro hQ (And.intro hlk h8k))
    clear hSp hb2 HB1 CS hlk hbk hkl hQ h8k
    go_wp2_with (at_builtin; refine wpList_append_own _ rfl (.tmp 54) (.tmp 58) 23 rfl w2.heap.size 5 i0 (.int .u8 0) 1 1 Try.underlying23 HI.out.1 HI.out.2.1 HI.out.2.2.1 HI.out.2.2.2 rfl (by decide) _ 0 [] rfl (World.ownsRow_nil _ _ _ _) ⟨ms, k * 256, none⟩ 256 256 (cellsOf Q) rfl HLK.out HSRC.out (cellsOf_one _) (by decide) (by decide) (Nat.le_refl _) ?_; intro v' w3 hown3 hgr3 _; have HB3 := Lib.hid ((Below.refl w2.heap.size w2).grown hgr3 (Nat.le_refl _) (fun k hk => by cases hk)); have HX3 := Lib.hid (owns_xat (show 0 + 256 = Q.length by rw [HQ.out.2.1]) hown3 (by intro h; have := HQ.out.2.1; rw [h] at this; simp at this)); clear hown3 hgr3)
    obtain ⟨g, cp, rfl, hg, hcp, hX⟩ := HX3.out
    have HX := Lib.hid (turned_start HQ.out.2.2 hX HB3.out : Turned w2 g Q c f 0 w3 false)
    have HGL := Lib.hid (And.intro hg hcp)
    have hcp2 : 256 ≤ cp := by omega
    clear hX HX3 hck hcp
    go_loopw [16, 17] (fun tb i wr => ∃ (k : Nat) (y : Bool), k ≤ 32 ∧ i = .int .i64 k ∧ tb = .bool y ∧ Hid (Turned w2 g Q c f k wr y)) (fun _ i _ => 32 - (intOf i).toNat)
    case atStart => exact ⟨0, false, Nat.zero_le _, rfl, rfl, HX⟩
    case round =>
      obtain ⟨j, y, hj, rfl, rfl, HT⟩ := hrel
      by_cases hlt : j < 32
      · by_cases hbit : c.testBit j = true
        · by_cases hin : f + j < 8 * Q.length
          · obtain ⟨hfz, x, hx8, hcell⟩ := turned_at HT.out ((f + j) / 8) (by omega)
            have hb1 := bit_yes hcc hbit
            have HN := Lib.hid (turned_yes HT.out hg hbit hin hx8 hcell)
            have hbit' := Lib.hid hbit
            rw [HQ.out.2.1] at hin
            clear hbit
            go_wp2
            go_roundw
            case rel => exact ⟨j + 1, true, by omega, by go_num, rfl, HN⟩
            case measure => simp [intOf]; omega
          · have hb1 := bit_yes hcc hbit
            have HN := Lib.hid (turned_no HT.out (fun hh => hin hh.2))
            rw [HQ.out.2.1] at hin
            clear hbit
            go_wp2
            go_roundw
            case rel => exact ⟨j + 1, y, by omega, by go_num, rfl, HN⟩
            case measure => simp [intOf]; omega
        · have hb1 := bit_no hcc hbit
          have HN := Lib.hid (turned_no HT.out (fun hh => hbit hh.1))
          clear hbit
          go_wp2
          go_roundw
          case rel => exact ⟨j + 1, y, by omega, by go_num, rfl, HN⟩
          case measure => simp [intOf]; omega
      · obtain rfl : j = 32 := by omega
        clear hlt hj
        obtain ⟨m, hml, hm8, hmR, hmX, hmB, hmy, hm0⟩ := HT.out
        have hSr := HS2.out.1.below hmB
        have HSr := Lib.hid (And.intro hSr (HS2.out.2.trans (hmB.mono HS2.out.2.size)))
        have HSRC2 := Lib.hid (hSr.src HSL.out)
        have HONE2 := Lib.hid (secs_one ms nd nd)
        have HSLN := Lib.hid (show (secs ms nd nd).length = nd * 1 by rw [secs_len, Nat.mul_one])
        have HMX2 := Lib.hid (show 0 + nd ≤ maxLen ∧ (0 + nd) * 24 ≤ 140737488355328 from ⟨by unfold maxLen; omega, by omega⟩)
        rw [HQ.out.2.1] at hml
        have hmbys := hmX.bytes (by rw [hml]; decide) hm8
        have hglt : g < wr.heap.size := by obtain ⟨cur, hcur, _⟩ := hmX; exact (Array.getElem?_eq_some_iff.1 hcur).1
        have hmslt : ms < wr.heap.size := hSr.mem.lt
        have HM := Lib.hid (And.intro hml (And.intro hm8 (And.intro hmR (And.intro hmy (And.intro hm0 (And.intro hmbys (And.intro hglt hmslt)))))))
        clear hml hm8 hmR hmX hmB hmy hm0 hSr hmbys hglt hmslt HT HS2 HSRC HLK
        go_wp2_with (at_builtin; refine wpList_append_own _ rfl (.tmp 94) (.tmp 95) 25 rfl wr.heap.size 23 i1 (.slice none 0 0) 1 24 Try.underlying25 HI1.out.1 HI1.out.2.1 HI1.out.2.2.1 HI1.out.2.2.2 rfl (by decide) _ 0 [] rfl (World.ownsRow_nil _ _ _ _) ⟨h, 0, none⟩ nd nd (secs ms nd nd) rfl HSLN.out HSRC2.out HONE2.out HMX2.out.1 HMX2.out.2 (Nat.le_refl _) ?_; intro v2 w5 hown5 hgr5 _; have hb5 := (Below.refl wr.heap.size wr).grown hgr5 (Nat.le_refl _) (fun k hk => by cases hk); obtain ⟨g2, c2, rfl, hg2, hc2, hrow5⟩ := copy_row hown5 hnp; have H5 := Lib.hid (And.intro (HSr.out.1.below hb5) (And.intro (HSr.out.2.trans (hb5.mono HSr.out.2.size)) (HM.out.2.2.2.2.2.1.below hb5))); have HW5 := Lib.hid (And.intro hrow5 (And.intro hg2 hb5.size)); obtain ⟨cur, hcur, hcsz, hcget⟩ := hrow5; have hcell5 : w5.cell? ⟨g2, k, none⟩ = some (.slice (some ⟨ms, k * 256, none⟩) 256 256) := (cell_of_row _ _ _ _ _ _ hcur).trans (hcget k hknd); have hfz5 : w5.frozen? ⟨g2, k, none⟩ = false := frozen_of_row _ _ _ _ _ hcur; clear hown5 hgr5 hb5 hg2 hcur hcsz hcget)
        obtain ⟨hsome, ho6⟩ := Some1.of_set (x := .slice (some ⟨g, 0, none⟩) 256 cp) H5.out.1 HSL.out HW5.out.1 hknd (by have := HM.out.2.2.2.2.2.2.2; have := HW5.out.2.1; omega)
        have hbm := H5.out.2.2.only ho6 (fun x hx => by injection hx with hx; subst hx; have := HM.out.2.2.2.2.2.2.1; have := HW5.out.2.1; simp; omega)
        have hrws := hsome.rws hknd hbm HM.out.1 hcp2
        have HB6 := Lib.hid (H5.out.2.1.trans (ho6.below H5.out.2.1.size (by have h1 := HSr.out.2.size; have h2 := HW5.out.2.1; intro x hx; simp at hx; omega)))
        have C9 := Lib.hid (scan_any (some ⟨g2, 0, none⟩) (S.set k m) nd c2 seg (by rw [List.length_set]; exact HSL.out) (by omega) hs _ hrws)
        have hQS : Q = Fr.sec (Fr.kindOf k nd) seg k (Fr.part bs k) := Option.some.inj (HQ.out.1.symm.trans (HSC.out.2.2 k hknd))
        have hsc : (y = true → Fr.scan seg (S.set k m) = ([], 0)) ∧ (y = false → Fr.scan seg (S.set k m) = ([bs], nd)) := by
          refine ⟨fun hy => HSC.out.2.1 k m hknd ?_, fun hy => ?_⟩
          · have hW := HM.out.2.2.2.1.1 hy
            have hR := HM.out.2.2.1
            have hlt := Nat.lt_of_lt_of_le (Crc.Wm_lt c f (8 * Q.length) 32) (show (2 : Nat) ^ 32 ≤ 4294967296 from Nat.le_refl _)
            generalize Crc.Wm c f (8 * Q.length) 32 = W9 at hW hR hlt
            rw [hQS] at hR
            exact Fr.readS_turned (by rcases Fr.kindOf_is k nd with h | h | h | h <;> omega) (fun x hx => HBY.out.1.2.1 x (by unfold Fr.part at hx; exact List.mem_of_mem_drop (List.mem_of_mem_take hx))) (by rw [Fr.part_len]; omega) HM.out.2.1 hR hlt hW k
          · have hm := HM.out.2.2.2.2.1 hy
            rw [hm]
            have : S.set k Q = S := by
              apply List.ext_getElem?
              intro i
              rw [List.getElem?_set]
              by_cases e : k = i
              · subst e
                rw [if_pos rfl, if_pos (by rw [HSL.out]; exact hknd), HQ.out.1]
              · rw [if_neg e]
            rw [this]
            exact HSC.out.1
        have HSCN := Lib.hid hsc
        clear hsc hQS hsome hbm hrws hcell5 hfz5 H5 HW5 HM HSr
        generalize w5.setCell ⟨g2, k, none⟩ (.slice (some ⟨g, 0, none⟩) 256 cp) = W6 at *
        go_at_call 19
        refine C9.out.mono ?_
        rintro e w7 ⟨hb7, v7, X7, rfl, hO7⟩
        obtain ⟨a7, c7, rfl⟩ := hO7.shape
        have HB7 := Lib.hid (HB6.out.trans (hb7.mono HB6.out.size))
        clear hb7 hO7 C9 HB6
        cases y
        · rw [HSCN.out.2 rfl]
          have hl1 : ([bs] : List (List Nat)).length = 1 := rfl
          rw [hl1]
          clear HSCN hl1
          go_wp2_with fail
          go_ret
          exact ⟨rfl, HB7.out⟩
        · rw [HSCN.out.1 rfl]
          have hl1 : ([] : List (List Nat)).length = 0 := rfl
          rw [hl1]
          clear HSCN hl1
          go_wp2_with fail
          go_ret
          exact ⟨rfl, HB7.out⟩
  case inr.inl =>
    go_enter Try.func6, Try.ntmps6
    go_wp2_with fail
    go_at_call 14
    refine CK.out.mono ?_
    rintro e w1 ⟨rfl, hb1⟩
    have HB1 := Lib.hid hb1
    clear hb1 CK
    go_wp2_with fail
    go_at_call 9
    refine (CS.out w1 (HBY.out.1.below HB1.out) (fun x hx => (HBY.out.2 x hx).imp (fun h => Nat.lt_of_lt_of_le h HB1.out.size) id)).mono ?_
    rintro e w2 ⟨h, ms, rfl, hSp, hb2⟩
    have HS2 := Lib.hid (And.intro hSp (HB1.out.trans (hb2.mono HB1.out.size)))
    have hck := hSp.cell k (by rw [HSL.out]; exact hknd)
    have hbk := hSp.bys k (by rw [HSL.out]; exact hknd)
    have hlk := hSp.len _ (List.getElem_mem (show k < S.length by rw [HSL.out]; exact hknd))
    have hkl : k < S.length := by rw [HSL.out]; exact hknd
    have hQ : S[k]? = some S[k] := List.getElem?_eq_getElem hkl
    have h8k := hSp.byt _ (List.getElem_mem hkl)
    generalize S[k] = Q at hbk hlk hQ h8k
    have HSRC := Lib.hid (cellsOf_at hbk)
    have HLK := Lib.hid (show (cellsOf Q).length = 256 * 1 by rw [cellsOf_length, hlk])
    have HQ := Lib.hid (And.intro hQ (And.intro hlk h8k))
    clear hSp hb2 HB1 CS hlk hbk hkl hQ h8k
    go_wp2_with (at_builtin; refine wpList_append_own _ rfl (.tmp 54) (.tmp 58) 23 rfl w2.heap.size 5 i0 (.int .u8 0) 1 1 Try.underlying23 HI.out.1 HI.out.2.1 HI.out.2.2.1 HI.out.2.2.2 rfl (by decide) _ 0 [] rfl (World.ownsRow_nil _ _ _ _) ⟨ms, k * 256, none⟩ 256 256 (cellsOf Q) rfl HLK.out HSRC.out (cellsOf_one _) (by decide) (by decide) (Nat.le_refl _) ?_; intro v' w3 hown3 hgr3 _; have HB3 := Lib.hid ((Below.refl w2.heap.size w2).grown hgr3 (Nat.le_refl _) (fun k hk => by cases hk)); have HX3 := Lib.hid (owns_xat (show 0 + 256 = Q.length by rw [HQ.out.2.1]) hown3 (by intro h; have := HQ.out.2.1; rw [h] at this; simp at this)); clear hown3 hgr3)
    obtain ⟨g, cp, rfl, hg, hcp, hX⟩ := HX3.out
    have HX := Lib.hid (turned_start HQ.out.2.2 hX HB3.out : Turned w2 g Q c f 0 w3 false)
    have HGL := Lib.hid (And.intro hg hcp)
    have hcp2 : 256 ≤ cp := by omega
    clear hX HX3 hck hcp
    go_loopw [16, 17] (fun tb i wr => ∃ (k : Nat) (y : Bool), k ≤ 32 ∧ i = .int .i64 k ∧ tb = .bool y ∧ Hid (Turned w2 g Q c f k wr y)) (fun _ i _ => 32 - (intOf i).toNat)
    case atStart => exact ⟨0, false, Nat.zero_le _, rfl, rfl, HX⟩
    case round =>
      obtain ⟨j, y, hj, rfl, rfl, HT⟩ := hrel
      by_cases hlt : j < 32
      · by_cases hbit : c.testBit j = true
        · by_cases hin : f + j < 8 * Q.length
          · obtain ⟨hfz, x, hx8, hcell⟩ := turned_at HT.out ((f + j) / 8) (by omega)
            have hb1 := bit_yes hcc hbit
            have HN := Lib.hid (turned_yes HT.out hg hbit hin hx8 hcell)
            have hbit' := Lib.hid hbit
            rw [HQ.out.2.1] at hin
            clear hbit
            go_wp2
            go_roundw
            case rel => exact ⟨j + 1, true, by omega, by go_num, rfl, HN⟩
            case measure => simp [intOf]; omega
          · have hb1 := bit_yes hcc hbit
            have HN := Lib.hid (turned_no HT.out (fun hh => hin hh.2))
            rw [HQ.out.2.1] at hin
            clear hbit
            go_wp2
            go_roundw
            case rel => exact ⟨j + 1, y, by omega, by go_num, rfl, HN⟩
            case measure => simp [intOf]; omega
        · have hb1 := bit_no hcc hbit
          have HN := Lib.hid (turned_no HT.out (fun hh => hbit hh.1))
          clear hbit
          go_wp2
          go_roundw
          case rel => exact ⟨j + 1, y, by omega, by go_num, rfl, HN⟩
          case measure => simp [intOf]; omega
      · obtain rfl : j = 32 := by omega
        clear hlt hj
        obtain ⟨m, hml, hm8, hmR, hmX, hmB, hmy, hm0⟩ := HT.out
        have hSr := HS2.out.1.below hmB
        have HSr := Lib.hid (And.intro hSr (HS2.out.2.trans (hmB.mono HS2.out.2.size)))
        have HSRC2 := Lib.hid (hSr.src HSL.out)
        have HONE2 := Lib.hid (secs_one ms nd nd)
        have HSLN := Lib.hid (show (secs ms nd nd).length = nd * 1 by rw [secs_len, Nat.mul_one])
        have HMX2 := Lib.hid (show 0 + nd ≤ maxLen ∧ (0 + nd) * 24 ≤ 140737488355328 from ⟨by unfold maxLen; omega, by omega⟩)
        rw [HQ.out.2.1] at hml
        have hmbys := hmX.bytes (by rw [hml]; decide) hm8
        have hglt : g < wr.heap.size := by obtain ⟨cur, hcur, _⟩ := hmX; exact (Array.getElem?_eq_some_iff.1 hcur).1
        have hmslt : ms < wr.heap.size := hSr.mem.lt
        have HM := Lib.hid (And.intro hml (And.intro hm8 (And.intro hmR (And.intro hmy (And.intro hm0 (And.intro hmbys (And.intro hglt hmslt)))))))
        clear hml hm8 hmR hmX hmB hmy hm0 hSr hmbys hglt hmslt HT HS2 HSRC HLK
        go_wp2_with (at_builtin; refine wpList_append_own _ rfl (.tmp 94) (.tmp 95) 25 rfl wr.heap.size 23 i1 (.slice none 0 0) 1 24 Try.underlying25 HI1.out.1 HI1.out.2.1 HI1.out.2.2.1 HI1.out.2.2.2 rfl (by decide) _ 0 [] rfl (World.ownsRow_nil _ _ _ _) ⟨h, 0, none⟩ nd nd (secs ms nd nd) rfl HSLN.out HSRC2.out HONE2.out HMX2.out.1 HMX2.out.2 (Nat.le_refl _) ?_; intro v2 w5 hown5 hgr5 _; have hb5 := (Below.refl wr.heap.size wr).grown hgr5 (Nat.le_refl _) (fun k hk => by cases hk); obtain ⟨g2, c2, rfl, hg2, hc2, hrow5⟩ := copy_row hown5 hnp; have H5 := Lib.hid (And.intro (HSr.out.1.below hb5) (And.intro (HSr.out.2.trans (hb5.mono HSr.out.2.size)) (HM.out.2.2.2.2.2.1.below hb5))); have HW5 := Lib.hid (And.intro hrow5 (And.intro hg2 hb5.size)); obtain ⟨cur, hcur, hcsz, hcget⟩ := hrow5; have hcell5 : w5.cell? ⟨g2, k, none⟩ = some (.slice (some ⟨ms, k * 256, none⟩) 256 256) := (cell_of_row _ _ _ _ _ _ hcur).trans (hcget k hknd); have hfz5 : w5.frozen? ⟨g2, k, none⟩ = false := frozen_of_row _ _ _ _ _ hcur; clear hown5 hgr5 hb5 hg2 hcur hcsz hcget)
        obtain ⟨hsome, ho6⟩ := Some1.of_set (x := .slice (some ⟨g, 0, none⟩) 256 cp) H5.out.1 HSL.out HW5.out.1 hknd (by have := HM.out.2.2.2.2.2.2.2; have := HW5.out.2.1; omega)
        have hbm := H5.out.2.2.only ho6 (fun x hx => by injection hx with hx; subst hx; have := HM.out.2.2.2.2.2.2.1; have := HW5.out.2.1; simp; omega)
        have hrws := hsome.rws hknd hbm HM.out.1 hcp2
        have HB6 := Lib.hid (H5.out.2.1.trans (ho6.below H5.out.2.1.size (by have h1 := HSr.out.2.size; have h2 := HW5.out.2.1; intro x hx; simp at hx; omega)))
        have C9 := Lib.hid (scan_any (some ⟨g2, 0, none⟩) (S.set k m) nd c2 seg (by rw [List.length_set]; exact HSL.out) (by omega) hs _ hrws)
        have hQS : Q = Fr.sec (Fr.kindOf k nd) seg k (Fr.part bs k) := Option.some.inj (HQ.out.1.symm.trans (HSC.out.2.2 k hknd))
        have hsc : (y = true → Fr.scan seg (S.set k m) = ([], 0)) ∧ (y = false → Fr.scan seg (S.set k m) = ([bs], nd)) := by
          refine ⟨fun hy => HSC.out.2.1 k m hknd ?_, fun hy => ?_⟩
          · have hW := HM.out.2.2.2.1.1 hy
            have hR := HM.out.2.2.1
            have hlt := Nat.lt_of_lt_of_le (Crc.Wm_lt c f (8 * Q.length) 32) (show (2 : Nat) ^ 32 ≤ 4294967296 from Nat.le_refl _)
            generalize Crc.Wm c f (8 * Q.length) 32 = W9 at hW hR hlt
            rw [hQS] at hR
            exact Fr.readS_turned (by rcases Fr.kindOf_is k nd with h | h | h | h <;> omega) (fun x hx => HBY.out.1.2.1 x (by unfold Fr.part at hx; exact List.mem_of_mem_drop (List.mem_of_mem_take hx))) (by rw [Fr.part_len]; omega) HM.out.2.1 hR hlt hW k
          · have hm := HM.out.2.2.2.2.1 hy
            rw [hm]
            have : S.set k Q = S := by
              apply List.ext_getElem?
              intro i
              rw [List.getElem?_set]
              by_cases e : k = i
              · subst e
                rw [if_pos rfl, if_pos (by rw [HSL.out]; exact hknd), HQ.out.1]
              · rw [if_neg e]
            rw [this]
            exact HSC.out.1
        have HSCN := Lib.hid hsc
        clear hsc hQS hsome hbm hrws hcell5 hfz5 H5 HW5 HM HSr
        generalize w5.setCell ⟨g2, k, none⟩ (.slice (some ⟨g, 0, none⟩) 256 cp) = W6 at *
        go_at_call 19
        refine C9.out.mono ?_
        rintro e w7 ⟨hb7, v7, X7, rfl, hO7⟩
        obtain ⟨a7, c7, rfl⟩ := hO7.shape
        have HB7 := Lib.hid (HB6.out.trans (hb7.mono HB6.out.size))
        clear hb7 hO7 C9 HB6
        cases y
        · rw [HSCN.out.2 rfl]
          have hl1 : ([bs] : List (List Nat)).length = 1 := rfl
          rw [hl1]
          clear HSCN hl1
          go_wp2_with fail
          go_ret
          exact ⟨rfl, HB7.out⟩
        · rw [HSCN.out.1 rfl]
          have hl1 : ([] : List (List Nat)).length = 0 := rfl
          rw [hl1]
          clear HSCN hl1
          go_wp2_with fail
          go_ret
          exact ⟨rfl, HB7.out⟩
  case inr.inr =>
    go_enter Try.func6, Try.ntmps6
    go_wp2_with fail
    go_at_call 14
    refine CK.out.mono ?_
    rintro e w1 ⟨rfl, hb1⟩
    have HB1 := Lib.hid hb1
    clear hb1 CK
    go_wp2_with fail
    go_at_call 9
    refine (CS.out w1 (HBY.out.1.below HB1.out) (fun x hx => (HBY.out.2 x hx).imp (fun h => Nat.lt_of_lt_of_le h HB1.out.size) id)).mono ?_
    rintro e w2 ⟨h, ms, rfl, hSp, hb2⟩
    have HS2 := Lib.hid (And.intro hSp (HB1.out.trans (hb2.mono HB1.out.size)))
    have hck := hSp.cell k (by rw [HSL.out]; exact hknd)
    have hbk := hSp.bys k (by rw [HSL.out]; exact hknd)
    have hlk := hSp.len _ (List.getElem_mem (show k < S.length by rw [HSL.out]; exact hknd))
    have hkl : k < S.length := by rw [HSL.out]; exact hknd
    have hQ : S[k]? = some S[k] := List.getElem?_eq_getElem hkl
    have h8k := hSp.byt _ (List.getElem_mem hkl)
    generalize S[k] = Q at hbk hlk hQ h8k
    have HSRC := Lib.hid (cellsOf_at hbk)
    have HLK := Lib.hid (show (cellsOf Q).length = 256 * 1 by rw [cellsOf_length, hlk])
    have HQ := Lib.hid (And.intro hQ (And.intro hlk h8k))
    clear hSp hb2 HB1 CS hlk hbk hkl hQ h8k
    go_wp2_with (at_builtin; refine wpList_append_own _ rfl (.tmp 54) (.tmp 58) 23 rfl w2.heap.size 5 i0 (.int .u8 0) 1 1 Try.underlying23 HI.out.1 HI.out.2.1 HI.out.2.2.1 HI.out.2.2.2 rfl (by decide) _ 0 [] rfl (World.ownsRow_nil _ _ _ _) ⟨ms, k * 256, none⟩ 256 256 (cellsOf Q) rfl HLK.out HSRC.out (cellsOf_one _) (by decide) (by decide) (Nat.le_refl _) ?_; intro v' w3 hown3 hgr3 _; have HB3 := Lib.hid ((Below.refl w2.heap.size w2).grown hgr3 (Nat.le_refl _) (fun k hk => by cases hk)); have HX3 := Lib.hid (owns_xat (show 0 + 256 = Q.length by rw [HQ.out.2.1]) hown3 (by intro h; have := HQ.out.2.1; rw [h] at this; simp at this)); clear hown3 hgr3)
    obtain ⟨g, cp, rfl, hg, hcp, hX⟩ := HX3.out
    have HX := Lib.hid (turned_start HQ.out.2.2 hX HB3.out : Turned w2 g Q c f 0 w3 false)
    have HGL := Lib.hid (And.intro hg hcp)
    have hcp2 : 256 ≤ cp := by omega
    clear hX HX3 hck hcp
    go_loopw [16, 17] (fun tb i wr => ∃ (k : Nat) (y : Bool), k ≤ 32 ∧ i = .int .i64 k ∧ tb = .bool y ∧ Hid (Turned w2 g Q c f k wr y)) (fun _ i _ => 32 - (intOf i).toNat)
    case atStart => exact ⟨0, false, Nat.zero_le _, rfl, rfl, HX⟩
    case round =>
      obtain ⟨j, y, hj, rfl, rfl, HT⟩ := hrel
      by_cases hlt : j < 32
      · by_cases hbit : c.testBit j = true
        · by_cases hin : f + j < 8 * Q.length
          · obtain ⟨hfz, x, hx8, hcell⟩ := turned_at HT.out ((f + j) / 8) (by omega)
            have hb1 := bit_yes hcc hbit
            have HN := Lib.hid (turned_yes HT.out hg hbit hin hx8 hcell)
            have hbit' := Lib.hid hbit
            rw [HQ.out.2.1] at hin
            clear hbit
            go_wp2
            go_roundw
            case rel => exact ⟨j + 1, true, by omega, by go_num, rfl, HN⟩
            case measure => simp [intOf]; omega
          · have hb1 := bit_yes hcc hbit
            have HN := Lib.hid (turned_no HT.out (fun hh => hin hh.2))
            rw [HQ.out.2.1] at hin
            clear hbit
            go_wp2
            go_roundw
            case rel => exact ⟨j + 1, y, by omega, by go_num, rfl, HN⟩
            case measure => simp [intOf]; omega
        · have hb1 := bit_no hcc hbit
          have HN := Lib.hid (turned_no HT.out (fun hh => hbit hh.1))
          clear hbit
          go_wp2
          go_roundw
          case rel => exact ⟨j + 1, y, by omega, by go_num, rfl, HN⟩
          case measure => simp [intOf]; omega
      · obtain rfl : j = 32 := by omega
        clear hlt hj
        obtain ⟨m, hml, hm8, hmR, hmX, hmB, hmy, hm0⟩ := HT.out
        have hSr := HS2.out.1.below hmB
        have HSr := Lib.hid (And.intro hSr (HS2.out.2.trans (hmB.mono HS2.out.2.size)))
        have HSRC2 := Lib.hid (hSr.src HSL.out)
        have HONE2 := Lib.hid (secs_one ms nd nd)
        have HSLN := Lib.hid (show (secs ms nd nd).length = nd * 1 by rw [secs_len, Nat.mul_one])
        have HMX2 := Lib.hid (show 0 + nd ≤ maxLen ∧ (0 + nd) * 24 ≤ 140737488355328 from ⟨by unfold maxLen; omega, by omega⟩)
        rw [HQ.out.2.1] at hml
        have hmbys := hmX.bytes (by rw [hml]; decide) hm8
        have hglt : g < wr.heap.size := by obtain ⟨cur, hcur, _⟩ := hmX; exact (Array.getElem?_eq_some_iff.1 hcur).1
        have hmslt : ms < wr.heap.size := hSr.mem.lt
        have HM := Lib.hid (And.intro hml (And.intro hm8 (And.intro hmR (And.intro hmy (And.intro hm0 (And.intro hmbys (And.intro hglt hmslt)))))))
        clear hml hm8 hmR hmX hmB hmy hm0 hSr hmbys hglt hmslt HT HS2 HSRC HLK
        go_wp2_with (at_builtin; refine wpList_append_own _ rfl (.tmp 94) (.tmp 95) 25 rfl wr.heap.size 23 i1 (.slice none 0 0) 1 24 Try.underlying25 HI1.out.1 HI1.out.2.1 HI1.out.2.2.1 HI1.out.2.2.2 rfl (by decide) _ 0 [] rfl (World.ownsRow_nil _ _ _ _) ⟨h, 0, none⟩ nd nd (secs ms nd nd) rfl HSLN.out HSRC2.out HONE2.out HMX2.out.1 HMX2.out.2 (Nat.le_refl _) ?_; intro v2 w5 hown5 hgr5 _; have hb5 := (Below.refl wr.heap.size wr).grown hgr5 (Nat.le_refl _) (fun k hk => by cases hk); obtain ⟨g2, c2, rfl, hg2, hc2, hrow5⟩ := copy_row hown5 hnp; have H5 := Lib.hid (And.intro (HSr.out.1.below hb5) (And.intro (HSr.out.2.trans (hb5.mono HSr.out.2.size)) (HM.out.2.2.2.2.2.1.below hb5))); have HW5 := Lib.hid (And.intro hrow5 (And.intro hg2 hb5.size)); obtain ⟨cur, hcur, hcsz, hcget⟩ := hrow5; have hcell5 : w5.cell? ⟨g2, k, none⟩ = some (.slice (some ⟨ms, k * 256, none⟩) 256 256) := (cell_of_row _ _ _ _ _ _ hcur).trans (hcget k hknd); have hfz5 : w5.frozen? ⟨g2, k, none⟩ = false := frozen_of_row _ _ _ _ _ hcur; clear hown5 hgr5 hb5 hg2 hcur hcsz hcget)
        obtain ⟨hsome, ho6⟩ := Some1.of_set (x := .slice (some ⟨g, 0, none⟩) 256 cp) H5.out.1 HSL.out HW5.out.1 hknd (by have := HM.out.2.2.2.2.2.2.2; have := HW5.out.2.1; omega)
        have hbm := H5.out.2.2.only ho6 (fun x hx => by injection hx with hx; subst hx; have := HM.out.2.2.2.2.2.2.1; have := HW5.out.2.1; simp; omega)
        have hrws := hsome.rws hknd hbm HM.out.1 hcp2
        have HB6 := Lib.hid (H5.out.2.1.trans (ho6.below H5.out.2.1.size (by have h1 := HSr.out.2.size; have h2 := HW5.out.2.1; intro x hx; simp at hx; omega)))
        have C9 := Lib.hid (scan_any (some ⟨g2, 0, none⟩) (S.set k m) nd c2 seg (by rw [List.length_set]; exact HSL.out) (by omega) hs _ hrws)
        have hQS : Q = Fr.sec (Fr.kindOf k nd) seg k (Fr.part bs k) := Option.some.inj (HQ.out.1.symm.trans (HSC.out.2.2 k hknd))
        have hsc : (y = true → Fr.scan seg (S.set k m) = ([], 0)) ∧ (y = false → Fr.scan seg (S.set k m) = ([bs], nd)) := by
          refine ⟨fun hy => HSC.out.2.1 k m hknd ?_, fun hy => ?_⟩
          · have hW := HM.out.2.2.2.1.1 hy
            have hR := HM.out.2.2.1
            have hlt := Nat.lt_of_lt_of_le (Crc.Wm_lt c f (8 * Q.length) 32) (show (2 : Nat) ^ 32 ≤ 4294967296 from Nat.le_refl _)
            generalize Crc.Wm c f (8 * Q.length) 32 = W9 at hW hR hlt
            rw [hQS] at hR
            exact Fr.readS_turned (by rcases Fr.kindOf_is k nd with h | h | h | h <;> omega) (fun x hx => HBY.out.1.2.1 x (by unfold Fr.part at hx; exact List.mem_of_mem_drop (List.mem_of_mem_take hx))) (by rw [Fr.part_len]; omega) HM.out.2.1 hR hlt hW k
          · have hm := HM.out.2.2.2.2.1 hy
            rw [hm]
            have : S.set k Q = S := by
              apply List.ext_getElem?
              intro i
              rw [List.getElem?_set]
              by_cases e : k = i
              · subst e
                rw [if_pos rfl, if_pos (by rw [HSL.out]; exact hknd), HQ.out.1]
              · rw [if_neg e]
            rw [this]
            exact HSC.out.1
        have HSCN := Lib.hid hsc
        clear hsc hQS hsome hbm hrws hcell5 hfz5 H5 HW5 HM HSr
        generalize w5.setCell ⟨g2, k, none⟩ (.slice (some ⟨g, 0, none⟩) 256 cp) = W6 at *
        go_at_call 19
        refine C9.out.mono ?_
        rintro e w7 ⟨hb7, v7, X7, rfl, hO7⟩
        obtain ⟨a7, c7, rfl⟩ := hO7.shape
        have HB7 := Lib.hid (HB6.out.trans (hb7.mono HB6.out.size))
        clear hb7 hO7 C9 HB6
        cases y
        · rw [HSCN.out.2 rfl]
          have hl1 : ([bs] : List (List Nat)).length = 1 := rfl
          rw [hl1]
          clear HSCN hl1
          go_wp2_with fail
          go_ret
          exact ⟨rfl, HB7.out⟩
        · rw [HSCN.out.1 rfl]
          have hl1 : ([] : List (List Nat)).length = 0 := rfl
          rw [hl1]
          clear HSCN hl1
          go_wp2_with fail
          go_ret
          exact ⟨rfl, HB7.out⟩
/- LAWFT2 -/
end Go.Proofs.Ytlegdaoidjpokaa
namespace Go.Proofs.Ytlegdaoidjpokaa.frameTurned
open Go.ChangeShapes Go.WideShapes Go.ChangeAt Go.RowKit
open Go.ChangeMaps (open_string shut_string)
set_option linter.unusedVariables false

theorem own : ownKnob Try.prog.godebug = none := by kernel_rfl
theorem laidOut : laidOutB Try.prog = true := by kernel_rfl

theorem walk (a0 : Int) (a1 : Option Addr) (len1 cap1 : Nat) (z1 : List Int) (a2 : Int) (a3 : Int) (a4 : Int) (w : World) (w0 : (Lit.int .u32 a0).wf = true) (w1 : IsRow .u8 w a1 len1 cap1 z1) (w2 : (Lit.int .u8 a2).wf = true) (w3 : (Lit.int .i64 a3).wf = true) (w4 : (Lit.int .u32 a4).wf = true) :
    Calls Try.prog 6 #[.int .u32 a0, .slice a1 len1 cap1, .int .u8 a2, .int .i64 a3, .int .u32 a4] w fun e w' => e = .returned (.bool true) ∧ Below w.heap.size w w' := by
  obtain ⟨seg, rfl⟩ := Int.eq_ofNat_of_zero_le (bounds_u32 w0).1
  have hs : seg < 4294967296 := by have := (bounds_u32 w0).2; omega
  obtain ⟨k, rfl, hk⟩ := byte_nat w2
  obtain ⟨c, rfl⟩ := Int.eq_ofNat_of_zero_le (bounds_u32 w4).1
  have hcc : c < 4294967296 := by have := (bounds_u32 w4).2; omega
  have hc : len1 ≤ cap1 := by rcases w1 with ⟨_, rfl, rfl, _⟩ | ⟨_, _, h, _⟩
                              · exact Nat.le_refl _
                              · exact h
  obtain ⟨bs, hl, hB, hc0⟩ := bys_of_row w1
  by_cases hn : len1 ≤ 7680
  · exact turned_law seg len1 cap1 k a1 a3 c bs hl hn hs hk hcc hc hc0 w hB (bys_old hB)
  · exact turned_much seg len1 cap1 k a1 a3 c (by omega) w

set_option maxRecDepth 100000 in
theorem lifted (os : Os) (started : os.Started) (H : Type) (enc : TypeId × Value → H) :
    ReturnsInHanded {} Try.checked os 6 .any (Rows.frameTurnedSpec.pre6 enc Try.prog Try.f6 Rows.frameTurnedRow.domain false) (Rows.frameTurnedSpec.post enc Try.prog Try.f6 false true false false) := by
  refine returnsInHanded_of_change (C := Try.checked) own started (by kernel_rfl) Try.func6
    (ChangeSpec.witness6 (enc := enc) (C := Try.checked) false ⟨#[], #[.int .u32 0, .slice none 0 0, .int .u8 0, .int .i64 0, .int .u32 0], []⟩ 8 (by kernel_rfl) (by kernel_rfl) (by kernel_rfl) (by kernel_rfl)) ?_
  intro W base args ds gs before hval0 hW hcnd _
  have hval : ∀ (j : Nat) t v, Try.f6.params[j]? = some t → args[j]? = some v → Value.okWide Try.prog W .any base t v := hval0
  have hW' := hW
  obtain ⟨p, q, hA0, hV, rfl, hfz, hnd⟩ := hW
  have hA : DataW.TrodAll enc Try.prog W 0 (fun _ => true) true Try.f6.params.toList args.toList ds p := hA0
  rw [Try.params6] at hA hval
  obtain ⟨v0, vs0, d0, ds0, p0, q0, hargs, rfl, rfl, h0, r0⟩ := trodAll_cons hA
  obtain ⟨v1, vs1, d1, ds1, p1, q1, rfl, rfl, rfl, h1, r1⟩ := trodAll_cons r0
  obtain ⟨v2, vs2, d2, ds2, p2, q2, rfl, rfl, rfl, h2, r2⟩ := trodAll_cons r1
  obtain ⟨v3, vs3, d3, ds3, p3, q3, rfl, rfl, rfl, h3, r3⟩ := trodAll_cons r2
  obtain ⟨v4, vs4, d4, ds4, p4, q4, rfl, rfl, rfl, h4, r4⟩ := trodAll_cons r3
  obtain ⟨rfl, rfl, rfl⟩ := trodAll_nil r4
  obtain rfl : args = #[v0, v1, v2, v3, v4] := by cases args; simp_all
  obtain ⟨rfl, rfl⟩ := trodVars_none hV
  obtain ⟨a0, rfl, rfl, rfl, w0⟩ := open_int Try.underlying22 (hval 0 22 v0 rfl rfl) h0
  obtain ⟨a1, len1, cap1, rfl⟩ := okWide_slice Try.underlying23 (hval 1 23 v1 rfl rfl)
  have k1 := h1
  have lt1 : ∀ x ∈ p1, x.block < W.heap.size := by obtain ⟨m, hm⟩ := k1; exact DataW.trod_lt m _ _ _ hm
  obtain ⟨z1, w1⟩ : ∃ zs, IsRow .u8 W a1 len1 cap1 zs := by
    obtain ⟨fuel, hf⟩ := h1
    rcases open_ints Try.underlying23 Try.underlying5 (by kernel_rfl) hf with ⟨hcs, _⟩ | ⟨x, l, c, zs, hcs, _, hl, hm, hz, _, hcell, hwz⟩
    · simp [Value.cells] at hcs
      obtain ⟨rfl, rfl, rfl⟩ := hcs
      exact ⟨[], .inl ⟨rfl, rfl, rfl, rfl⟩⟩
    · simp [Value.cells] at hcs
      obtain ⟨rfl, rfl, rfl⟩ := hcs
      exact ⟨zs, .inr ⟨_, rfl, hl, hm, by simpa using hz, hcell, hwz⟩⟩
  obtain ⟨a2, rfl, rfl, rfl, w2⟩ := open_int Try.underlying5 (hval 2 5 v2 rfl rfl) h2
  obtain ⟨a3, rfl, rfl, rfl, w3⟩ := open_int Try.underlying3 (hval 3 3 v3 rfl rfl) h3
  obtain ⟨a4, rfl, rfl, rfl, w4⟩ := open_int Try.underlying22 (hval 4 22 v4 rfl rfl) h4
  clear hA0 hval0
  refine (walk a0 a1 len1 cap1 z1 a2 a3 a4 W w0 w1 w2 w3 w4).mono fun e W' ⟨he, bel⟩ => ?_
  subst he
  exact ⟨_, rfl, _, _, _, [], _, [], hW', trodAll_mk1 (shut_bool Try.underlying4 _), (trodAll_cons_mk (shut_int Try.underlying22 w0) (trodAll_cons_mk (Below.trod laidOut (by kernel_rfl) (of_decide_eq_true (by kernel_rfl)) k1 bel lt1) (trodAll_cons_mk (shut_int Try.underlying5 w2) (trodAll_cons_mk (shut_int Try.underlying3 w3) (trodAll_cons_mk (shut_int Try.underlying22 w4) trodAll_mk0))))), rfl, bel.frame _, fun h => by cases h⟩

theorem over : Rows.frameTurnedRow.holds Try.pinned (OpenSpec.ofChange Rows.frameTurnedSpec) :=
  OpenClaim.holds_of_wide 6 Try.f6 rfl rfl rfl rfl rfl rfl rfl ⟨rfl, rfl, rfl, rfl, rfl⟩ rfl rfl rfl rfl rfl (by kernel_rfl) Try.func6 (by kernel_rfl)
    (of_decide_eq_true (by kernel_rfl)) (by unfold Func.isWrapper; first | (rw [if_pos (by decide +kernel)]; kernel_rfl) | (rw [if_neg (by decide +kernel)]; exact ⟨rfl, rfl⟩))
    (fun os started H enc _ => lifted os started H enc)

theorem proved : Rows.FrameTurnedSaid := over
#print axioms proved
end Go.Proofs.Ytlegdaoidjpokaa.frameTurned
