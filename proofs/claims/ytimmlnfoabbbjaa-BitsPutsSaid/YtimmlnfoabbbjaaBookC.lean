/-
  THE WALK of 'ownBytes'.
-/
import Derived.Test.YtimmlnfoabbbjaaBookB
namespace Go.Proofs.Ytimmlnfoabbbjaa
open Go.RowKit
theorem info27 : (Try.prog.info? 27).map (fun i => (i.zero, i.size, i.bytes)) = some (some (.slice none 0 0), 1, 24) := by kernel_rfl
theorem one_any (W : World) (u : Value) (t : TypeId) : ∀ (j : Nat) (x : Value), [u][j]? = some x → (W.alloc (.cells #[u] t)).cell? ((⟨W.heap.size, 0, none⟩ : Addr).add j) = some x := by
  intro j x hx
  rw [add_here, cell_of_row _ _ _ _ _ _ (heap_alloc_new W _)]
  rw [show (#[u] : Array Value) = [u].toArray from rfl, List.getElem?_toArray]
  exact hx
set_option maxRecDepth 100000 in
set_option maxHeartbeats 2000000 in
theorem ownbytes_any (a : Option Addr) (h n cap N : Nat) (X : Nat → Value) (L : Nat → Nat) (w : World) (P : Places N w.heap.size h X) (hO : Outer w a h n X) (hR : ∃ C, Lots w N X C ∧ ∀ j, (C j).length = L j) (hn : n ≤ 1000) (hL : ∀ j, L j ≤ 1000000) (hz : ∀ j, n ≤ j → L j = 0) :
    Calls Try.prog 39 #[.slice a n cap] w fun e w' => e = .returned (.bool true) ∧ Below N w w' := by
  obtain ⟨i0, hi0, hz0, hz1, hz2⟩ := info_parts info5
  obtain ⟨i1, hi1, hy0, hy1, hy2⟩ := info_parts info27
  obtain ⟨C, hC, hlen⟩ := hR
  have M0 := Lib.hid (show Marked w N X L a h n 0 0 w from ⟨⟨C, hC, hlen, fun j k' hj => by omega⟩, hO, Below.refl _ _⟩)
  have HH := Lib.hid P.ne
  have HP := Lib.hid P
  have HL := Lib.hid hL
  have HZ := Lib.hid hz
  clear hO hC hlen hL P hz
  go_enter Try.func39, Try.ntmps39
  go_wp2
  go_loopw [3] (fun ii wr => ∃ i : Nat, i ≤ n ∧ ii = .int .i64 (i : Nat) ∧ Hid (Marked w N X L a h n i 0 wr)) (fun ii _ => n - (intOf ii).toNat)
  case atStart => exact ⟨0, Nat.zero_le _, rfl, M0⟩
  case round =>
    obtain ⟨i, hi, rfl, HM⟩ := hrel
    by_cases hlt : i < n
    · have hd : decide (i < n) = true := by simpa using hlt
      have hix : (i : Int) < (n : Int) := by omega
      go_wp2
      go_loopw [4] (fun kk wr2 => ∃ k : Nat, k ≤ L i ∧ kk = .int .i64 (k : Nat) ∧ Hid (Marked w N X L a h n i k wr2)) (fun kk _ => L i - (intOf kk).toNat)
      case atStart => exact ⟨0, Nat.zero_le _, rfl, HM⟩
      case round =>
        obtain ⟨k, hk, rfl, HM2⟩ := hrel
        have hLi := HL.out i
        obtain ⟨rfl, hhl, hcs⟩ := HM2.out.outer (by omega)
        have hci := hcs i hlt
        by_cases hlt2 : k < L i
        · obtain ⟨g, cp, u, hX, hc, hf, hst⟩ := HM2.out.cell hlt2 HH.out
          rw [hX] at hci
          have HST := Lib.hid hst
          obtain ⟨Li, hLe⟩ : ∃ Li, L i = Li := ⟨_, rfl⟩
          rw [hLe] at hci hlt2 hLi hk ⊢
          have hd2 : decide (k < Li) = true := by simpa using hlt2
          have hkx : (k : Int) < (Li : Int) := by omega
          have HMS := Lib.hid (mark1_spell i k)
          clear hst hX hLe hcs
          go_wp2
          rw [HMS.out]
          go_roundw
          case rel => exact ⟨k + 1, by omega, by go_num, HST⟩
          case measure => simp [intOf]; omega
        · obtain ⟨a', cp, hX⟩ := HM2.out.shape i
          rw [hX] at hci
          have HN := Lib.hid (HM2.out.next (by omega))
          obtain ⟨Li, hLe⟩ : ∃ Li, L i = Li := ⟨_, rfl⟩
          rw [hLe] at hci hlt2 hLi hk ⊢
          have hd2 : decide (k < Li) = false := by simpa using hlt2
          clear hX hLe hcs
          go_wp2
          go_roundw
          case rel => exact ⟨i + 1, by omega, by go_num, HN⟩
          case measure => simp [intOf]; omega
    · obtain rfl : i = n := by omega
      have hd : decide (i < i) = false := by simp
      have G0 := Lib.hid (show Long w N X L a h i w.heap.size 0 (.slice none 0 0) (fun _ => .slice none 0 0) wr from ⟨HM.out.all HZ.out, HM.out.outer, HM.out.below, World.ownsRow_nil _ _ _ _, fun j hj => by omega, fun g hg => (by cases hg), HM.out.below.size⟩)
      obtain ⟨M, hM⟩ : ∃ M, w.heap.size = M := ⟨_, rfl⟩
      rw [hM] at G0 HP
      clear hM hlt
      go_wp2
      go_loopw [5, 6] (fun vl ii wr => ∃ (j : Nat) (Y : Nat → Value), j ≤ i ∧ ii = .int .i64 (j : Nat) ∧ Hid (Long w N X L a h i M j vl Y wr)) (fun _ ii _ => i - (intOf ii).toNat)
      case atStart => exact ⟨0, _, Nat.zero_le _, rfl, G0⟩
      case round =>
        obtain ⟨j, Y, hj, rfl, HG⟩ := hrel
        by_cases hlt : j < i
        · have hd2 : decide (j < i) = true := by simpa using hlt
          have hjx : (j : Int) < (i : Int) := by omega
          obtain ⟨rfl, hhl, hcs⟩ := HG.out.outer (by omega)
          have hcj := hcs j hlt
          have hXs : ∃ a' cap', X j = .slice a' (L j) cap' := by
            rcases (HG.out.rows.own j).2 with ⟨hv, h0⟩ | ⟨g, cp, _, hv, _⟩
            · rw [Cm_length] at h0; rw [hv, h0]; exact ⟨_, _, rfl⟩
            · rw [Cm_length] at hv; exact ⟨_, _, hv⟩
          obtain ⟨aj, cj, hXj⟩ := hXs
          have hLj := HL.out j
          have E0 := Lib.hid (show Ext wr N X L j 0 (X j) wr from ⟨by
            have h1 := HG.out.rows.own j
            have h2 : wr.ownsRow 0 5 1 (X j) (L j) (cellsOf (Cm L j)) := by
              rw [Cm_length] at h1
              refine ⟨h1.1, ?_⟩
              rcases h1.2 with h3 | ⟨g, c2, cur, e1, _, r⟩
              · exact .inl h3
              · exact .inr ⟨g, c2, cur, e1, Nat.zero_le _, r⟩
            simpa [Dm] using h2, .inr (.inl ⟨rfl, rfl⟩), by have h1 := HG.out.rows.own j; rw [Cm_length] at h1; exact h1, Only.refl _ _⟩)
          rw [hXj] at hcj E0
          obtain ⟨av, cv, rfl⟩ := HG.out.shape
          clear hcs hXj
          obtain ⟨wo, hwo⟩ : ∃ wo, wo = wr := ⟨_, rfl⟩
          subst hwo
          go_wp2
          go_loopw [7, 8] (fun xv kk wr2 => ∃ k : Nat, k ≤ 16 ∧ kk = .int .i64 (k : Nat) ∧ Hid (Ext wo N X L j k xv wr2)) (fun _ kk _ => 16 - (intOf kk).toNat)
          case atStart => exact ⟨0, Nat.zero_le _, rfl, E0⟩
          case round =>
            obtain ⟨k, hk, rfl, HE⟩ := hrel
            by_cases hlt2 : k < 16
            · have hd3 : decide ((k : Int) < 16) = true := by simp; omega
              obtain ⟨ax, cx, rfl⟩ := HE.out.shape
              have HSP := Lib.hid (mark2_spell j k)
              have HXL := Lib.hid (show ∀ g, (X j).ownBlock = some g → g < wo.heap.size ∧ N ≤ g from fun g hg => ⟨by have h1 := (HP.out.lt j g hg).1; have h2 := HG.out.size; omega, (HP.out.lt j g hg).2⟩)
              go_wp2_with (at_builtin; refine wpList_append_goes _ rfl (.tmp 54) (.tmp 62) 27 rfl 5 i0 (.int .u8 0) 1 1 Try.underlying27 hi0 hz0 hz1 hz2 rfl (by decide) (.slice ax (L j + k) cx) (L j + k) (cellsOf (Dm L j k)) rfl (HE.out.own.alloc _) ⟨wr.heap.size, 0, none⟩ 1 1 [Value.int .u8 (((-1 - (j : Int)) * 97 + (k : Int) * 13) % 256)] rfl rfl (one_any wr _ 5) (by simp [Value.oneCell']) (by unfold maxLen; omega) (by omega) (by decide) ?_)
              intro v2 w2 hown2 hgo2
              rw [HSP.out] at hown2
              have HN := Lib.hid (HE.out.step hown2 hgo2 HXL.out)
              obtain ⟨a2, c2, rfl⟩ := HN.out.shape
              clear hown2 hgo2
              go_wp2
              go_roundw
              case rel => exact ⟨k + 1, by omega, by go_num, HN⟩
              case measure => simp [intOf]; omega
            · obtain rfl : k = 16 := by omega
              obtain ⟨ax, cx, rfl⟩ := HE.out.shape
              have HOW := Lib.hid (show wr.ownsRow 0 27 1 (.slice av j cv) j ((List.range j).map Y) from owns_only HG.out.own HE.out.only (fun g hg hm => by
                have h1 := (HG.out.pos g hg).1
                have h2 := (HP.out.lt j g (by simpa using hm)).1
                omega))
              go_wp2_with (at_builtin; refine wpList_append_goes _ rfl (.tmp 64) (.tmp 66) 31 rfl 27 i1 (.slice none 0 0) 1 24 Try.underlying31 hi1 hy0 hy1 hy2 rfl (by decide) (.slice av j cv) j ((List.range j).map Y) rfl (HOW.out.alloc _) ⟨wr.heap.size, 0, none⟩ 1 1 [Value.slice ax (L j + 16) cx] rfl rfl (one_any wr _ 27) (by simp [Value.oneCell']) (by unfold maxLen; omega) (by omega) (by decide) ?_)
              intro v2 w2 hown2 hgo2
              have HN := Lib.hid (HG.out.step HP.out HE.out hown2 hgo2)
              obtain ⟨a2, c2, rfl⟩ := HN.out.shape
              clear hown2 hgo2
              go_wp2
              go_roundw
              case rel => exact ⟨j + 1, _, by omega, by go_num, HN⟩
              case measure => simp [intOf]; omega
        · obtain rfl : j = i := by omega
          have hd2 : decide (j < j) = false := by simp
          obtain ⟨av, cv, rfl⟩ := HG.out.shape
          clear G0 hlt
          go_wp2
          go_loop [9] (fun ii => ∃ t : Nat, t ≤ j ∧ ii = .int .i64 (t : Nat)) (fun ii => j - (intOf ii).toNat)
          case atStart => exact ⟨0, Nat.zero_le _, rfl⟩
          case round =>
            obtain ⟨t, ht, rfl⟩ := hrel
            by_cases hlt3 : t < j
            · have hd4 : decide (t < j) = true := by simpa using hlt3
              have htx : (t : Int) < (j : Int) := by omega
              obtain ⟨rfl, hhl, hcs⟩ := HG.out.outer (by omega)
              have hct := hcs t hlt3
              obtain ⟨gl, cl, gy, cy, hvl, hlc, hy1, hy2, hx1⟩ := HG.out.look t hlt3
              have hXs : ∃ a' cap', X t = .slice a' (L t) cap' := by
                rcases (HG.out.rows.own t).2 with ⟨hv, h0⟩ | ⟨g, cp, _, hv, _⟩
                · rw [Cm_length] at h0; rw [hv, h0]; exact ⟨_, _, rfl⟩
                · rw [Cm_length] at hv; exact ⟨_, _, hv⟩
              obtain ⟨aj, cj, hXj⟩ := hXs
              have hLt := HL.out t
              rw [hXj] at hct hx1
              cases hvl
              have HY1 := Lib.hid hy1
              have HY2 := Lib.hid hy2
              have HX1 := Lib.hid hx1
              obtain ⟨Lt, hLe⟩ : ∃ Lt, L t = Lt := ⟨_, rfl⟩
              rw [hLe] at hct hlc HY1 HY2 HX1 hLt
              clear hXj hcs hy1 hy2 hx1 hLe
              go_wp2
              go_loop [11] (fun kk => ∃ k : Nat, k ≤ Lt ∧ kk = .int .i64 (k : Nat)) (fun kk => Lt - (intOf kk).toNat)
              case atStart => exact ⟨0, Nat.zero_le _, rfl⟩
              case round =>
                obtain ⟨k, hk, rfl⟩ := hrel
                by_cases hlt4 : k < Lt
                · have hd5 : decide (k < Lt) = true := by simpa using hlt4
                  have hkx : (k : Int) < (Lt : Int) := by omega
                  have hkx2 : (k : Int) < (Lt : Int) + 16 := by omega
                  obtain ⟨g, cp, hXe, hc1⟩ := HX1.out k hlt4
                  cases hXe
                  have hc2 := HY1.out k hlt4
                  have hms := mark1_spell t k
                  go_wp2
                  go_round
                  case rel => exact ⟨k + 1, by omega, by go_num⟩
                  case measure => simp [intOf]; omega
                · obtain rfl : k = Lt := by omega
                  have hd5 : decide (k < k) = false := by simp
                  go_wp2
                  go_loop [12] (fun kk => ∃ q : Nat, q ≤ 16 ∧ kk = .int .i64 (q : Nat)) (fun kk => 16 - (intOf kk).toNat)
                  case atStart => exact ⟨0, by omega, rfl⟩
                  case round =>
                    obtain ⟨q, hq, rfl⟩ := hrel
                    by_cases hlt5 : q < 16
                    · have hd6 : decide ((q : Int) < 16) = true := by simp; omega
                      have hqx : (k : Int) + (q : Int) < (k : Int) + 16 := by omega
                      have hqx0 : (0 : Int) ≤ (k : Int) + (q : Int) := by omega
                      have hqx2 : (q : Int) < 16 := by omega
                      have hc3 := HY2.out q hlt5
                      have hms2 := mark2_spell t q
                      go_wp2
                      go_round
                      case rel => exact ⟨q + 1, by omega, by go_num⟩
                      case measure => simp [intOf]; omega
                    · obtain rfl : q = 16 := by omega
                      go_wp2
                      go_round
                      case rel => exact ⟨t + 1, by omega, by go_num⟩
                      case measure => simp [intOf]; omega
            · obtain rfl : t = j := by omega
              have hd4 : decide (t < t) = false := by simp
              go_wp2
              go_ret
              exact ⟨rfl, HG.out.below⟩
end Go.Proofs.Ytimmlnfoabbbjaa
