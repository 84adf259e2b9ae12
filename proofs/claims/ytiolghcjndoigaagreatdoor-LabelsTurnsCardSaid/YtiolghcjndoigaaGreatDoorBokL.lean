/-
  THE WALK of the book's look at rows of labels.
-/
import Derived.Test.YtiolghcjndoigaaGreatDoorBok
import Derived.Test.YtiolghcjndoigaaGreatDoorMrk
import Derived.Test.YtiolghcjndoigaaGreatDoorSam
namespace Go.Proofs.YtiolghcjndoigaaGreatDoor
set_option linter.unusedVariables false
set_option linter.unusedSimpArgs false
open Go.RowKit Go.PlainAid
/-- the marks, as cells -/
def mk1 (i k : Nat) : List Value := [.string (strOf (markL i k)), .string ⟨#[]⟩]
def mk2 (i k : Nat) : List Value := [.string (strOf (45 :: markL i k)), .string ⟨#[]⟩]
theorem mk1_len (i k : Nat) : (mk1 i k).length = 2 := rfl
theorem mk2_len (i k : Nat) : (mk2 i k).length = 2 := rfl
theorem infoLb : (Tryz.prog.info? 94).map (fun i => (i.zero, i.size, i.bytes)) = some (some (.agg #[.string ⟨#[]⟩, .string ⟨#[]⟩]), 2, 32) := by kernel_rfl
theorem info22 : (Tryz.prog.info? 22).map (fun i => (i.zero, i.size, i.bytes)) = some (some (.slice none 0 0), 1, 24) := by kernel_rfl
theorem one_any (W : World) (u : Value) (t : TypeId) : ∀ (j : Nat) (x : Value), [u][j]? = some x → (W.alloc (.cells #[u] t)).cell? ((⟨W.heap.size, 0, none⟩ : Addr).add j) = some x := by
  intro j x hx
  rw [add_here, cell_of_row _ _ _ _ _ _ (heap_alloc_new W _)]
  rw [show (#[u] : Array Value) = [u].toArray from rfl, List.getElem?_toArray]
  exact hx
theorem two_any (W : World) (u v : Value) (t : TypeId) : ∀ (j : Nat) (x : Value), [u, v][j]? = some x → (W.alloc (.cells #[u, v] t)).cell? ((⟨W.heap.size, 0, none⟩ : Addr).add j) = some x := by
  intro j x hx
  rw [add_here, cell_of_row _ _ _ _ _ _ (heap_alloc_new W _)]
  rw [show (#[u, v] : Array Value) = [u, v].toArray from rfl, List.getElem?_toArray]
  exact hx
structure Since (a b : World) : Prop where
  out : Below a.heap.size a b
theorem Since.start (a : World) : Since a a.drew := ⟨(Below.refl _ _).drew⟩
theorem Since.next {a b c : World} (h : Since a b) (k : Below b.heap.size b c) : Since a c := ⟨h.out.trans (k.mono h.out.size)⟩
theorem Since.alloc {a b : World} (h : Since a b) (o : Obj) : Since a (b.alloc o) := ⟨h.out.alloc h.out.size o⟩
theorem sumW (k q : Nat) (h1 : k ≤ 1000000) (h2 : q ≤ 16) : wrap64 ((k : Int) + (q : Int)) = ((k + q : Nat) : Int) ∧ IntKind.i64.wrap ((k : Int) + (q : Int)) = ((k + q : Nat) : Int) := ⟨by rw [wrap64_small (by omega) (by omega)]; omega, by rw [IntKind.wrap_i64]; omega⟩
theorem negW (t : Nat) (h1 : t ≤ 1000) : wrap64 (-1 - (t : Int)) = -1 - (t : Int) ∧ IntKind.i64.wrap (-1 - (t : Int)) = -1 - (t : Int) := ⟨wrap64_small (by omega) (by omega), by rw [IntKind.wrap_i64]; omega⟩
theorem sumL {k q kq : Nat} (h : k + q = kq) (h2 : q < 16) : (kq : Int) < (k : Int) + 16 ∧ (0 : Int) ≤ (kq : Int) := by omega
/-- what the store of a mark asks and gives -/
theorem marked_two {S : List Nat} {w wr : World} {N h n i k : Nat} {X : Nat → Value} {L : Nat → Nat} {a : Option Addr} (H : Bk.Marked 94 2 mk1 S w N X L a h n i k wr) (hk : k < L i) (hh : ∀ j g, (X j).ownBlock = some g → g ≠ h) (hS : ∀ j g, (X j).ownBlock = some g → g ∈ S) :
    ∃ g cap u0 u1, X i = .slice (some ⟨g, 0, none⟩) (L i) cap ∧
      ∀ w1, Since wr w1 → (w1.cell? ⟨g, k * 2, none⟩ = some u0 ∧ w1.frozen? ⟨g, k * 2, none⟩ = false ∧ w1.cell? ⟨g, k * 2 + 1, none⟩ = some u1 ∧ w1.frozen? ⟨g, k * 2 + 1, none⟩ = false ∧
        (w1.setCell ⟨g, k * 2, none⟩ (.string (strOf (markL i k)))).cell? ⟨g, k * 2 + 1, none⟩ = some u1 ∧ (w1.setCell ⟨g, k * 2, none⟩ (.string (strOf (markL i k)))).frozen? ⟨g, k * 2 + 1, none⟩ = false) ∧
        Bk.Marked 94 2 mk1 S w N X L a h n i (k + 1) ((w1.setCell ⟨g, k * 2, none⟩ (.string (strOf (markL i k)))).setCell ⟨g, k * 2 + 1, none⟩ (.string ⟨#[]⟩)) := by
  obtain ⟨g, cap, xs, hX, hg, hgl, hb, hown, _⟩ := H.cell mk1_len (by decide) hk hh hS
  have hlen := hown.1
  refine ⟨g, cap, xs[k * 2]'(by omega), xs[k * 2 + 1]'(by omega), hX, fun w1 hw1 => ?_⟩
  have hown1 : w1.ownsRow N 94 2 (.slice (some ⟨g, 0, none⟩) (L i) cap) (L i) xs := Bk.owns_only hown (Only.of_below hw1.out []) (fun _ _ => by simp)
  have c0 := hown1.cellAt (k * 2) (by omega)
  have c1 := hown1.cellAt (k * 2 + 1) (by omega)
  have f0 := hown1.frozenAt (k * 2)
  have f1 := hown1.frozenAt (k * 2 + 1)
  rw [List.getElem?_eq_getElem (by omega)] at c0 c1
  have hs := (hown1.stored (k * 2) (.string (strOf (markL i k)))).1
  have c2 := hs.cellAt (k * 2 + 1) (by omega)
  rw [List.getElem?_set_ne (by omega), List.getElem?_eq_getElem (by omega)] at c2
  refine ⟨⟨c0, f0, c1, f1, c2, hs.frozenAt _⟩, ?_⟩
  obtain ⟨g2, cap2, xs2, hX2, _, _, _, _, hM⟩ := (H.stay hw1.out).cell mk1_len (by decide) hk hh hS
  rw [hX] at hX2
  cases hX2
  exact hM
theorem keepS {A : World → Prop} {wr b c : World} (F : ∀ w', Since wr w' → A w') (h : A b ∧ Since wr b) (k : Below b.heap.size b c) : A c ∧ Since wr c := ⟨F _ (h.2.next k), h.2.next k⟩
theorem keepA {A : World → Prop} {wr b : World} (F : ∀ w', Since wr w' → A w') (h : A b ∧ Since wr b) (o : Obj) : A (b.alloc o) ∧ Since wr (b.alloc o) := ⟨F _ (h.2.alloc o), h.2.alloc o⟩
theorem keepOut {A : Prop} {wr b : World} (h : A ∧ Since wr b) : Since wr b := h.2
set_option maxRecDepth 100000 in
set_option maxHeartbeats 8000000 in
theorem ownlabels_any (S : List Nat) (a : Option Addr) (h n cap N : Nat) (X : Nat → Value) (L : Nat → Nat) (w : World) (P : Bk.Places N w.heap.size h X) (hO : Bk.Outer w a h n X) (hR : ∃ C, Bk.Lots 94 2 w N X L C) (hn : n ≤ 1000) (hL : ∀ j, L j ≤ 1000000) (hz : ∀ j, n ≤ j → L j = 0) (hS : ∀ j g, (X j).ownBlock = some g → g ∈ S) :
    Calls Tryz.prog 67 #[.slice a n cap] w fun e w' => e = .returned (.bool true) ∧ Only S w w' := by
  obtain ⟨i0, hi0, hz0, hz1, hz2⟩ := info_parts infoLb
  obtain ⟨i1, hi1, hy0, hy1, hy2⟩ := info_parts info22
  obtain ⟨C, hC⟩ := hR
  have HSS := Lib.hid hS
  have M0 := Lib.hid (Bk.Marked.zero (m1 := mk1) (S := S) hC hO)
  have HH := Lib.hid P.ne
  have HP := Lib.hid P
  have HL := Lib.hid hL
  have HZ := Lib.hid hz
  clear hO hC hL P hz hS
  go_enter Tryz.func67, Tryz.ntmps67
  go_wp2
  go_loopw [3] (fun ii wr => ∃ i : Nat, i ≤ n ∧ ii = .int .i64 (i : Nat) ∧ Hid (Bk.Marked 94 2 mk1 S w N X L a h n i 0 wr) ∧ Hid (w.heap.size ≤ wr.heap.size)) (fun ii _ => n - (intOf ii).toNat)
  case atStart => exact ⟨0, Nat.zero_le _, rfl, M0, Lib.hid (Nat.le_refl _)⟩
  case round =>
    obtain ⟨i, hi, rfl, HM, HS⟩ := hrel
    by_cases hlt : i < n
    · have hd : decide (i < n) = true := by simpa using hlt
      have hix : (i : Int) < (n : Int) := by omega
      go_wp2
      go_loopw [4] (fun kk wr2 => ∃ k : Nat, k ≤ L i ∧ kk = .int .i64 (k : Nat) ∧ Hid (Bk.Marked 94 2 mk1 S w N X L a h n i k wr2) ∧ Hid (w.heap.size ≤ wr2.heap.size)) (fun kk _ => L i - (intOf kk).toNat)
      case atStart => exact ⟨0, Nat.zero_le _, rfl, HM, HS⟩
      case round =>
        obtain ⟨k, hk, rfl, HM2, HS2⟩ := hrel
        have hLi := HL.out i
        obtain ⟨rfl, hhl, hcs⟩ := HM2.out.outer (by omega)
        have hci := hcs i hlt
        by_cases hlt2 : k < L i
        · obtain ⟨g, cp, u0, u1, hX, hst⟩ := marked_two HM2.out hlt2 HH.out HSS.out
          rw [hX] at hci
          have HST := Lib.hid hst
          have CM := Lib.hid (fun w => mark_pos i k (by omega) (by omega) w)
          obtain ⟨MS, hMS⟩ : ∃ s, strOf (markL i k) = s := ⟨_, rfl⟩
          rw [hMS] at CM
          simp only [hMS] at HST
          obtain ⟨Li, hLe⟩ : ∃ Li, L i = Li := ⟨_, rfl⟩
          rw [hLe] at hci hlt2 hLi hk ⊢
          have hd2 : decide (k < Li) = true := by simpa using hlt2
          have hkx : (k : Int) < (Li : Int) := by omega
          have HCI := Lib.hid hci
          clear hst hX hLe hcs hMS
          have HCW := Lib.hid (show ∀ w', Since wr w' → (w'.cell? ⟨h, i, none⟩ = some (.slice (some ⟨g, 0, none⟩) Li cp) ∧ w'.cell? ⟨g, k * 2, none⟩ = some u0 ∧ w'.frozen? ⟨g, k * 2, none⟩ = false ∧ w'.cell? ⟨g, k * 2 + 1, none⟩ = some u1 ∧ w'.frozen? ⟨g, k * 2 + 1, none⟩ = false ∧ (w'.setCell ⟨g, k * 2, none⟩ (.string MS)).cell? ⟨g, k * 2 + 1, none⟩ = some u1 ∧ (w'.setCell ⟨g, k * 2, none⟩ (.string MS)).frozen? ⟨g, k * 2 + 1, none⟩ = false) from fun w' hs => ⟨(hs.out.cell (p := ⟨h, i, none⟩) hhl).trans HCI.out, (HST.out w' hs).1⟩)
          skip
          go_wp2_with fail
          go_region_with (go_at_call 112; refine (CM.out _).mono ?_; rintro e w' ⟨rfl, hb⟩; have HSN := Lib.hid ((Since.start _).next hb); obtain ⟨q0, q1, q2, q3, q4, q5, q6⟩ := HCW.out _ HSN.out; clear hb)
          all_goals
            have HN := Lib.hid (HST.out _ HSN.out).2
            have HN2 := Lib.hid (show w.heap.size ≤ ((w'.setCell ⟨g, k * 2, none⟩ (.string MS)).setCell ⟨g, k * 2 + 1, none⟩ (.string ⟨#[]⟩)).heap.size by have h1 := HSN.out.out.size; have h2 := HS2.out; simp; omega)
            clear q0 q1 q2 q3 q4 q5 q6
            go_wp2
            go_roundw
            case rel => exact ⟨k + 1, by omega, by go_num, HN, HN2⟩
            case measure => simp [intOf]; omega
        · obtain ⟨a', cp, hX⟩ := HM2.out.shape i
          rw [hX] at hci
          have HN := Lib.hid (HM2.out.next (by omega))
          obtain ⟨Li, hLe⟩ : ∃ Li, L i = Li := ⟨_, rfl⟩
          rw [hLe] at hci hlt2 hLi hk ⊢
          have hd2 : decide (k < Li) = false := by simpa using hlt2
          clear hX hLe hcs
          go_wp2
          go_roundw
          case rel => exact ⟨i + 1, by omega, by go_num, HN, HS2⟩
          case measure => simp [intOf]; omega
    · obtain rfl : i = n := by omega
      have hd : decide (i < i) = false := by simp
      have G0 := Lib.hid (show Bk.Long 22 94 2 mk1 mk2 S w N X L a h i w.heap.size 0 (.slice none 0 0) (fun _ => .slice none 0 0) wr from ⟨HM.out.all HZ.out, HM.out.outer, HM.out.only, World.ownsRow_nil _ _ _ _, fun j hj => by omega, fun g hg => (by cases hg), HS.out⟩)
      obtain ⟨M, hM⟩ : ∃ M, w.heap.size = M := ⟨_, rfl⟩
      have HMW := Lib.hid (show w.heap.size ≤ M by omega)
      rw [hM] at G0 HP
      clear hM hlt
      go_wp2
      go_loopw [5, 6] (fun vl ii wr => ∃ (j : Nat) (Y : Nat → Value), j ≤ i ∧ ii = .int .i64 (j : Nat) ∧ Hid (Bk.Long 22 94 2 mk1 mk2 S w N X L a h i M j vl Y wr)) (fun _ ii _ => i - (intOf ii).toNat)
      case atStart => exact ⟨0, _, Nat.zero_le _, rfl, G0⟩
      case round =>
        obtain ⟨j, Y, hj, rfl, HG⟩ := hrel
        by_cases hlt : j < i
        · have hd2 : decide (j < i) = true := by simpa using hlt
          have hjx : (j : Int) < (i : Int) := by omega
          obtain ⟨rfl, hhl, hcs⟩ := HG.out.outer (by omega)
          have hcj := hcs j hlt
          have E0 := Lib.hid (Bk.Ext.zero (m2 := mk2) (HG.out.rows.own j))
          obtain ⟨aj, cj, hXj⟩ := Bk.owns_shape (HG.out.rows.own j)
          have hLj := HL.out j
          rw [hXj] at hcj E0
          obtain ⟨av, cv, rfl⟩ := HG.out.shape
          have HXL := Lib.hid (show ∀ g, (X j).ownBlock = some g → g < wr.heap.size ∧ N ≤ g from fun g hg => ⟨by have h1 := (HP.out.lt j g hg).1; have h2 := HG.out.size; omega, (HP.out.lt j g hg).2⟩)
          clear hcs hXj
          obtain ⟨wo, hwo⟩ : ∃ wo, wo = wr := ⟨_, rfl⟩
          subst hwo
          go_wp2
          go_loopw [7, 8] (fun xv kk wr2 => ∃ k : Nat, k ≤ 16 ∧ kk = .int .i64 (k : Nat) ∧ Hid (Bk.Ext 94 2 mk1 mk2 wo N X L j k xv wr2)) (fun _ kk _ => 16 - (intOf kk).toNat)
          case atStart => exact ⟨0, Nat.zero_le _, rfl, E0⟩
          case round =>
            obtain ⟨k, hk, rfl, HE⟩ := hrel
            by_cases hlt2 : k < 16
            · have hd3 : decide ((k : Int) < 16) = true := by simp; omega
              obtain ⟨ax, cx, rfl⟩ := HE.out.shape
              have CM := Lib.hid (fun w => mark_neg j k (by omega) (by omega) w)
              have HM2 := Lib.hid (show mk2 j k = [.string (strOf (45 :: markL j k)), .string ⟨#[]⟩] from rfl)
              obtain ⟨MS, hMS⟩ : ∃ s, strOf (45 :: markL j k) = s := ⟨_, rfl⟩
              rw [hMS] at CM HM2
              obtain ⟨e1, e2⟩ := negW j (by omega)
              clear hMS
              go_wp2_with fail
              refine (CM.out _).mono ?_
              rintro e w' ⟨rfl, hb⟩
              have HE2 := Lib.hid (HE.out.stay hb)
              clear hb
              go_wp2_with (at_builtin; refine Bk.wpList_append_goes _ rfl (.tmp 52) (.tmp 58) 22 rfl 94 i0 (.agg #[.string ⟨#[]⟩, .string ⟨#[]⟩]) 2 32 Tryz.underlying22 hi0 hz0 hz1 hz2 rfl (by decide) (.slice ax (L j + k) cx) (L j + k) (Bk.Dm mk1 mk2 L j k) rfl (HE2.out.own.alloc _) ⟨w'.heap.size, 0, none⟩ 1 1 [.string MS, .string ⟨#[]⟩] rfl rfl (two_any w' _ _ 94) (by simp [Value.oneCell']) (by unfold maxLen; omega) (by omega) (by decide) ?_)
              intro v2 w2 hown2 hgo2
              rw [← HM2.out] at hown2
              have HN := Lib.hid (HE2.out.step mk1_len hown2 hgo2 HXL.out)
              obtain ⟨a2, c2, rfl⟩ := HN.out.shape
              clear hown2 hgo2
              go_wp2
              go_roundw
              case rel => exact ⟨k + 1, by omega, by go_num, HN⟩
              case measure => simp [intOf]; omega
            · obtain rfl : k = 16 := by omega
              obtain ⟨ax, cx, rfl⟩ := HE.out.shape
              have HOW := Lib.hid (show wr.ownsRow 0 22 1 (.slice av j cv) j ((List.range j).map Y) from Bk.owns_only HG.out.own HE.out.only (fun g hg hm => by
                have h1 := (HG.out.pos g hg).1
                have h2 := (HP.out.lt j g (by simpa using hm)).1
                omega))
              go_wp2_with (at_builtin; refine Bk.wpList_append_goes _ rfl (.tmp 60) (.tmp 62) 43 rfl 22 i1 (.slice none 0 0) 1 24 Tryz.underlying43 hi1 hy0 hy1 hy2 rfl (by decide) (.slice av j cv) j ((List.range j).map Y) rfl (HOW.out.alloc _) ⟨wr.heap.size, 0, none⟩ 1 1 [Value.slice ax (L j + 16) cx] rfl rfl (one_any wr _ 22) (by simp [Value.oneCell']) (by unfold maxLen; omega) (by omega) (by decide) ?_)
              intro v2 w2 hown2 hgo2
              have HN := Lib.hid (HG.out.step HP.out HE.out hown2 hgo2 HSS.out HMW.out)
              obtain ⟨a2, c2, rfl⟩ := HN.out.shape
              clear hown2 hgo2
              go_wp2
              go_roundw
              case rel => exact ⟨j + 1, _, by omega, by go_num, HN⟩
              case measure => simp [intOf]; omega
        · obtain rfl : j = i := by omega
          have hd2 : decide (j < j) = false := by simp
          obtain ⟨av, cv, rfl⟩ := HG.out.shape
          clear G0 hlt
          go_wp2
          go_loopw [9] (fun ii wr => ∃ t : Nat, t ≤ j ∧ ii = .int .i64 (t : Nat) ∧ Hid (Bk.Long 22 94 2 mk1 mk2 S w N X L a h j M j (.slice av j cv) Y wr)) (fun ii _ => j - (intOf ii).toNat)
          case atStart => exact ⟨0, Nat.zero_le _, rfl, HG⟩
          case round =>
            obtain ⟨t, ht, rfl, HG2⟩ := hrel
            clear HG
            by_cases hlt3 : t < j
            · have hd4 : decide (t < j) = true := by simpa using hlt3
              have htx : (t : Int) < (j : Int) := by omega
              obtain ⟨rfl, hhl, hcs⟩ := HG2.out.outer (by omega)
              have hct := hcs t hlt3
              obtain ⟨aj, cj, hXj⟩ := Bk.owns_shape (HG2.out.rows.own t)
              have hLt := HL.out t
              rw [hXj] at hct
              obtain ⟨Lt, hLe⟩ : ∃ Lt, L t = Lt := ⟨_, rfl⟩
              have HLE := Lib.hid hLe
              rw [hLe] at hct hLt
              have HXJ := Lib.hid hXj
              rw [hLe] at HXJ
              clear hXj hcs hLe
              go_wp2
              go_loopw [11] (fun kk wr => ∃ k : Nat, k ≤ Lt ∧ kk = .int .i64 (k : Nat) ∧ Hid (Bk.Long 22 94 2 mk1 mk2 S w N X L (some ⟨h, 0, none⟩) h j M j (.slice av j cv) Y wr)) (fun kk _ => Lt - (intOf kk).toNat)
              case atStart => exact ⟨0, Nat.zero_le _, rfl, HG2⟩
              case round =>
                obtain ⟨k, hk, rfl, HG3⟩ := hrel
                clear HG2 hct
                by_cases hlt4 : k < Lt
                · have hd5 : decide (k < Lt) = true := by simpa using hlt4
                  have hkx : (k : Int) < (Lt : Int) := by omega
                  have hkx2 : (k : Int) < (Lt : Int) + 16 := by omega
                  obtain ⟨_, hhl3, hcs3⟩ := HG3.out.outer (by omega)
                  have hct3 := hcs3 t hlt3
                  rw [HXJ.out] at hct3
                  obtain ⟨gl, cl, gy, cy, hvl, hlc, hy1, hy2, hx1⟩ := HG3.out.look mk1_len mk2_len t hlt3
                  cases hvl
                  rw [HLE.out] at hlc hy1 hx1
                  have p0 := hy1 k 0 _ hlt4 (by decide) rfl
                  have p1 := hy1 k 1 _ hlt4 (by decide) rfl
                  obtain ⟨gx, cpx, hX0, r0⟩ := hx1 k 0 _ hlt4 (by decide) rfl
                  obtain ⟨gx2, cpx2, hX1, r1⟩ := hx1 k 1 _ hlt4 (by decide) rfl
                  rw [HXJ.out] at hX0 hX1
                  cases hX0
                  cases hX1
                  rw [Nat.add_zero] at p0 r0
                  have CM := Lib.hid (fun w => mark_pos t k (by omega) (by omega) w)
                  obtain ⟨MS, hMS⟩ : ∃ s, strOf (markL t k) = s := ⟨_, rfl⟩
                  rw [hMS] at CM p0 r0
                  have hne := fun W => neq94 (MS, ⟨#[]⟩) (MS, ⟨#[]⟩) W
                  rw [decide_eq_true rfl] at hne
                  simp only [Bool.not_true] at hne
                  have lt1 := World.block_lt_of_cell? _ _ hct3
                  have lt2 := World.block_lt_of_cell? _ _ hlc
                  have lt3 := World.block_lt_of_cell? _ _ p0
                  have lt4 := World.block_lt_of_cell? _ _ r0
                  have HCW := Lib.hid (show ∀ w', Since wr w' → (w'.cell? ⟨h, t, none⟩ = some (.slice (some ⟨gx, 0, none⟩) Lt cj) ∧ w'.cell? ⟨gx, k * 2, none⟩ = some (.string MS) ∧ w'.cell? ⟨gx, k * 2 + 1, none⟩ = some (.string ⟨#[]⟩) ∧ w'.cell? ⟨gl, t, none⟩ = some (.slice (some ⟨gy, 0, none⟩) (Lt + 16) cy) ∧ w'.cell? ⟨gy, k * 2, none⟩ = some (.string MS) ∧ w'.cell? ⟨gy, k * 2 + 1, none⟩ = some (.string ⟨#[]⟩)) from fun w' hs => ⟨(hs.out.cell (p := ⟨h, t, none⟩) lt1).trans hct3, (hs.out.cell (p := ⟨gx, k * 2, none⟩) lt4).trans r0, (hs.out.cell (p := ⟨gx, k * 2 + 1, none⟩) lt4).trans r1, (hs.out.cell (p := ⟨gl, t, none⟩) lt2).trans hlc, (hs.out.cell (p := ⟨gy, k * 2, none⟩) lt3).trans p0, (hs.out.cell (p := ⟨gy, k * 2 + 1, none⟩) lt3).trans p1⟩)
                  clear hy1 hy2 hx1 hcs3 hMS lt1 lt2 lt3 lt4 hct3 hlc p0 p1 r0 r1
                  go_wp2_with fail
                  go_region_held3 (fun w' => (w'.cell? ⟨h, t, none⟩ = some (.slice (some ⟨gx, 0, none⟩) Lt cj) ∧ w'.cell? ⟨gx, k * 2, none⟩ = some (.string MS) ∧ w'.cell? ⟨gx, k * 2 + 1, none⟩ = some (.string ⟨#[]⟩) ∧ w'.cell? ⟨gl, t, none⟩ = some (.slice (some ⟨gy, 0, none⟩) (Lt + 16) cy) ∧ w'.cell? ⟨gy, k * 2, none⟩ = some (.string MS) ∧ w'.cell? ⟨gy, k * 2 + 1, none⟩ = some (.string ⟨#[]⟩)) ∧ Since wr w')
                    ((first | exact ⟨HCW.out _ (Since.start _), Since.start _⟩ | (refine keepS (A := fun w' => (w'.cell? ⟨h, t, none⟩ = some (.slice (some ⟨gx, 0, none⟩) Lt cj) ∧ w'.cell? ⟨gx, k * 2, none⟩ = some (.string MS) ∧ w'.cell? ⟨gx, k * 2 + 1, none⟩ = some (.string ⟨#[]⟩) ∧ w'.cell? ⟨gl, t, none⟩ = some (.slice (some ⟨gy, 0, none⟩) (Lt + 16) cy) ∧ w'.cell? ⟨gy, k * 2, none⟩ = some (.string MS) ∧ w'.cell? ⟨gy, k * 2 + 1, none⟩ = some (.string ⟨#[]⟩))) HCW.out ?_ (by assumption); assumption)))
                    ((go_at_call 112; refine (CM.out _).mono ?_; rintro e w' ⟨rfl, hb⟩))
                  all_goals
                    have HSN := Lib.hid (keepOut (wr := wr) (by assumption))
                    have HN := Lib.hid (HG3.out.stay HSN.out.out)
                    go_wp2
                    go_roundw
                    case rel => exact ⟨k + 1, by omega, by go_num, HN⟩
                    case measure => simp [intOf]; omega
                · obtain rfl : k = Lt := by omega
                  have hd5 : decide (k < k) = false := by simp
                  go_wp2
                  go_loopw [12] (fun kk wr => ∃ q : Nat, q ≤ 16 ∧ kk = .int .i64 (q : Nat) ∧ Hid (Bk.Long 22 94 2 mk1 mk2 S w N X L (some ⟨h, 0, none⟩) h j M j (.slice av j cv) Y wr)) (fun kk _ => 16 - (intOf kk).toNat)
                  case atStart => exact ⟨0, by omega, rfl, HG3⟩
                  case round =>
                    obtain ⟨q, hq, rfl, HG4⟩ := hrel
                    clear HG3
                    by_cases hlt5 : q < 16
                    · have hd6 : decide ((q : Int) < 16) = true := by simp; omega
                      obtain ⟨z1, z2⟩ := sumW k q (by omega) (by omega)
                      obtain ⟨z3, z4⟩ := negW t (by omega)
                      obtain ⟨gl, cl, gy, cy, hvl, hlc, hy1, hy2, hx1⟩ := HG4.out.look mk1_len mk2_len t hlt3
                      cases hvl
                      rw [HLE.out] at hlc hy2
                      have p0 := hy2 q 0 _ hlt5 (by decide) rfl
                      have p1 := hy2 q 1 _ hlt5 (by decide) rfl
                      rw [Nat.add_zero] at p0
                      obtain ⟨kq, hkq⟩ : ∃ kq, k + q = kq := ⟨_, rfl⟩
                      rw [hkq] at p0 p1 z1 z2
                      obtain ⟨hkqx, hkqx0⟩ := sumL hkq hlt5
                      have CM := Lib.hid (fun w => mark_neg t q (by omega) (by omega) w)
                      obtain ⟨MS, hMS⟩ : ∃ s, strOf (45 :: markL t q) = s := ⟨_, rfl⟩
                      rw [hMS] at CM p0
                      have hne := fun W => neq94 (MS, ⟨#[]⟩) (MS, ⟨#[]⟩) W
                      rw [decide_eq_true rfl] at hne
                      simp only [Bool.not_true] at hne
                      have lt2 := World.block_lt_of_cell? _ _ hlc
                      have lt3 := World.block_lt_of_cell? _ _ p0
                      have HCW := Lib.hid (show ∀ w', Since wr w' → (w'.cell? ⟨gl, t, none⟩ = some (.slice (some ⟨gy, 0, none⟩) (k + 16) cy) ∧ w'.cell? ⟨gy, kq * 2, none⟩ = some (.string MS) ∧ w'.cell? ⟨gy, kq * 2 + 1, none⟩ = some (.string ⟨#[]⟩)) from fun w' hs => ⟨(hs.out.cell (p := ⟨gl, t, none⟩) lt2).trans hlc, (hs.out.cell (p := ⟨gy, kq * 2, none⟩) lt3).trans p0, (hs.out.cell (p := ⟨gy, kq * 2 + 1, none⟩) lt3).trans p1⟩)
                      clear hy1 hy2 hx1 hMS lt2 lt3 hlc p0 p1 hkq
                      go_wp2_with fail
                      go_region_held3 (fun w' => (w'.cell? ⟨gl, t, none⟩ = some (.slice (some ⟨gy, 0, none⟩) (k + 16) cy) ∧ w'.cell? ⟨gy, kq * 2, none⟩ = some (.string MS) ∧ w'.cell? ⟨gy, kq * 2 + 1, none⟩ = some (.string ⟨#[]⟩)) ∧ Since wr w')
                        ((first | exact ⟨HCW.out _ (Since.start _), Since.start _⟩ | (refine keepS (A := fun w' => (w'.cell? ⟨gl, t, none⟩ = some (.slice (some ⟨gy, 0, none⟩) (k + 16) cy) ∧ w'.cell? ⟨gy, kq * 2, none⟩ = some (.string MS) ∧ w'.cell? ⟨gy, kq * 2 + 1, none⟩ = some (.string ⟨#[]⟩))) HCW.out ?_ (by assumption); assumption)))
                        ((go_at_call 112; refine (CM.out _).mono ?_; rintro e w' ⟨rfl, hb⟩))
                      all_goals
                        have HSN := Lib.hid (keepOut (wr := wr) (by assumption))
                        have HN := Lib.hid (HG4.out.stay HSN.out.out)
                        go_wp2
                        go_roundw
                        case rel => exact ⟨q + 1, by omega, by go_num, HN⟩
                        case measure => simp [intOf]; omega
                    · obtain rfl : q = 16 := by omega
                      go_wp2
                      go_roundw
                      case rel => exact ⟨t + 1, by omega, by go_num, HG4⟩
                      case measure => simp [intOf]; omega
            · obtain rfl : t = j := by omega
              have hd4 : decide (t < t) = false := by simp
              go_wp2
              go_ret
              exact ⟨rfl, HG2.out.only⟩
end Go.Proofs.YtiolghcjndoigaaGreatDoor
