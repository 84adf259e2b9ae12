/-
  WALKS: Quote, the code's and the document's.
-/
import Derived.Test.YtiolghcjndoigaaGreatDoorBase
import Derived.Deep.AppendLies
import Derived.BigRegion
namespace Go.Proofs.YtiolghcjndoigaaGreatDoor
set_option linter.unusedVariables false
set_option linter.unusedSimpArgs false
open Go.RowKit Go.PlainAid
theorem conv_own {w : World} {base : Nat} {v : Value} {ds : List Nat} (h : Own w base v ds) (hB : IsB ds) : (convert 83 9 v).run Tryz.prog w = .ok (.string (strOf ds)) w := by
  obtain ⟨a, cap, rfl, hc, hcell⟩ := h.cells
  by_cases hd : ds = []
  · subst hd
    obtain ⟨_, h2⟩ := h
    rcases h2 with ⟨hv, _⟩ | ⟨g, cap2, cur, hv, _⟩
    · cases hv
      exact run_convert_bytes_nil w 83 5 Tryz.underlying83 Tryz.underlying5 _ _ 9 Tryz.underlying9
    · cases hv
      have := run_convert_bytes_arg (P := Tryz.prog) w 83 5 Tryz.underlying83 Tryz.underlying5 g 0 0 cap [] rfl (fun i hi => by omega) 9 Tryz.underlying9
      exact this
  · have hp : 0 < ds.length := List.length_pos_iff.2 hd
    obtain ⟨b, rfl, _⟩ := hcell 0 hp
    have := run_convert_bytes_arg (P := Tryz.prog) w 83 5 Tryz.underlying83 Tryz.underlying5 b 0 ds.length cap (ds.map fun (c : Nat) => (c : Int)) (by simp) (fun i hi => by
      obtain ⟨b', hb', hc'⟩ := hcell i hi
      cases hb'
      rw [Nat.zero_add, hc']
      simp [List.getD, List.getElem?_map, List.getElem?_eq_getElem hi]) 9 Tryz.underlying9
    rw [this]
    have e : strOfNums (ds.map fun (c : Nat) => (c : Int)) = strOf ds := by
      unfold strOfNums strOf
      rw [List.map_map]
      rfl
    rw [e]
theorem conv_row {w : World} {base n : Nat} {v : Value} {ds es R : List Nat} (h : w.ownsRow base 5 1 v n (cellsOf ds ++ cellsOf es)) (hn : n = ds.length + es.length) (hR : ds ++ es = R) (hB : IsB R) : (convert 83 9 v).run Tryz.prog w = .ok (.string (strOf R)) w := by
  subst hR
  refine conv_own (base := base) ?_ hB
  unfold Own
  rw [List.length_append, cellsOf_append, ← hn]
  exact h
theorem strCells_of (bs : List Nat) (h : IsB bs) : Lib.strCells (strOf bs) = cellsOf bs := by
  unfold Lib.strCells strOf cellsOf
  simp only [List.map_map]
  apply List.map_congr_left
  intro c hc
  have := h c hc
  show Value.int .u8 ((UInt8.ofNat c).toNat : Int) = _
  rw [UInt8.toNat_ofNat', Nat.mod_eq_of_lt this]
def hexd (n : Nat) : Nat := if n < 10 then 48 + n else 87 + n
def qB (c : Nat) : List Nat :=
  if c = 34 ∨ c = 92 then [92, c] else if c = 10 then [92, 110] else if c = 13 then [92, 114] else if c = 9 then [92, 116]
  else if c < 32 ∨ 126 < c then [92, 120, hexd (c / 16), hexd (c % 16)] else [c]
def qPre (bs : List Nat) (k : Nat) : List Nat := 34 :: (bs.take k).flatMap qB
def quoteL (bs : List Nat) : List Nat := 34 :: bs.flatMap qB ++ [34]
theorem hexd_lt {n : Nat} (h : n < 16) : hexd n < 256 := by unfold hexd; split <;> omega
theorem qB_isB {c : Nat} (h : c < 256) : IsB (qB c) := by
  have h1 : hexd (c / 16) < 256 := hexd_lt (by omega)
  have h2 : hexd (c % 16) < 256 := hexd_lt (by omega)
  unfold qB
  repeat' split
  all_goals (intro x hx; simp at hx; omega)
theorem qB_len (c : Nat) : (qB c).length ≤ 4 ∧ 1 ≤ (qB c).length := by
  unfold qB
  repeat' split
  all_goals simp
theorem isB_flat {bs : List Nat} (h : IsB bs) : IsB (bs.flatMap qB) := fun x hx => by
  obtain ⟨c, hc, hx⟩ := List.mem_flatMap.1 hx
  exact qB_isB (h c hc) x hx
theorem isB_take {bs : List Nat} (h : IsB bs) (k : Nat) : IsB (bs.take k) := fun x hx => h x (List.mem_of_mem_take hx)
theorem qPre_isB {bs : List Nat} (h : IsB bs) (k : Nat) : IsB (qPre bs k) := IsB.cons (by decide) (isB_flat (isB_take h k))
theorem flat_len (bs : List Nat) : (bs.flatMap qB).length ≤ 4 * bs.length := by
  induction bs with
  | nil => simp
  | cons c bs ih =>
    rw [List.flatMap_cons, List.length_append, List.length_cons]
    have := (qB_len c).1
    omega
theorem qPre_len (bs : List Nat) (k : Nat) : (qPre bs k).length ≤ 1 + 4 * k := by
  unfold qPre
  rw [List.length_cons]
  have := flat_len (bs.take k)
  rw [List.length_take] at this
  omega
theorem qPre_succ {bs : List Nat} {k : Nat} (h : k < bs.length) : qPre bs (k + 1) = qPre bs k ++ qB bs[k] := by
  unfold qPre
  rw [List.take_succ_eq_append_getElem h, List.flatMap_append, List.cons_append]
  simp
theorem qPre_all (bs : List Nat) : qPre bs bs.length ++ [34] = quoteL bs := by
  unfold qPre quoteL
  rw [List.take_length]
theorem quoteL_isB {bs : List Nat} (h : IsB bs) : IsB (quoteL bs) := IsB.app (IsB.cons (by decide) (isB_flat h)) (IsB.cons (by decide) IsB.nil)
def hexS : ByteArray := { data := #[48, 49, 50, 51, 52, 53, 54, 55, 56, 57, 97, 98, 99, 100, 101, 102] }
theorem hexS_bt (n : Nat) (h : n < 16) : bt { data := #[48, 49, 50, 51, 52, 53, 54, 55, 56, 57, 97, 98, 99, 100, 101, 102] } n = (hexd n : Nat) := by
  have hall : ∀ k : Fin 16, bt { data := #[48, 49, 50, 51, 52, 53, 54, 55, 56, 57, 97, 98, 99, 100, 101, 102] } k.val = (hexd k.val : Nat) := by decide
  exact hall ⟨n, h⟩
theorem and15 (c : Nat) (h : c < 256) : bits .and .u8 (c : Int) 15 = ((c % 16 : Nat) : Int) := by
  have hall : ∀ k : Fin 256, bits .and .u8 ((k.val : Nat) : Int) 15 = ((k.val % 16 : Nat) : Int) := by decide +kernel
  exact hall ⟨c, h⟩
set_option maxRecDepth 100000 in
set_option maxHeartbeats 4000000 in
theorem quote_any (bs : List Nat) (hB : IsB bs) (hl : bs.length ≤ 20000) (w : World) : Calls Tryz.prog 101 #[.string (strOf bs)] w (Gives w (.string (strOf (quoteL bs)))) := by
  obtain ⟨i0, hi, hz0, hz1, hz2⟩ := info_parts info5
  have hsz := strOf_size bs
  have hbt := get_bt (strOf bs)
  have hbx := get_bt { data := #[48, 49, 50, 51, 52, 53, 54, 55, 56, 57, 97, 98, 99, 100, 101, 102] }
  have B0 := Lib.hid (Below.refl w.heap.size w)
  have QA := Lib.hid (qPre_all bs)
  have HS := Lib.hid (strOf_bt bs hB)
  obtain ⟨L, hL⟩ : ∃ L, bs.length = L := ⟨_, rfl⟩
  rw [hL] at hsz hl QA
  have HL := Lib.hid hL
  have HB := Lib.hid hB
  clear hL hB
  go_enter Tryz.func101, Tryz.ntmps101
  go_wp2
  go_loopw [3, 9] (fun b i wr => ∃ (k : Nat), k ≤ L ∧ i = .int .i64 k ∧ Hid (Own wr w.heap.size b (qPre bs k)) ∧ Hid (Below w.heap.size w wr)) (fun _ i _ => (L - intOf i).toNat)
  case atStart => exact ⟨0, by omega, rfl, Lib.hid (Own.laid w [34] (by simp [maxLen]) _ (Nat.le_refl _)), Lib.hid (B0.out.alloc (Nat.le_refl _) _)⟩
  case round =>
    obtain ⟨k, hk, rfl, HO, HB2⟩ := hrel
    obtain ⟨ao, co, rfl⟩ := own_shape HO.out
    have HW := Lib.hid (Below.size HB2.out)
    have hlen := qPre_len bs k
    obtain ⟨n, hn⟩ : ∃ n, (qPre bs k).length = n := ⟨_, rfl⟩
    have HN := Lib.hid hn
    rw [hn] at hlen HO ⊢
    clear hn
    by_cases hkL : k < L
    · have da : decide ((k : Int) < (L : Int)) = true := decide_eq_true (by omega)
      have da2 : decide (k < L) = true := decide_eq_true hkL
      have hkb := HS.out k (by rw [HL.out]; exact hkL)
      have hc256 := HB.out.at k (by rw [HL.out]; exact hkL)
      have hsucc := qPre_succ (bs := bs) (k := k) (by rw [HL.out]; exact hkL)
      obtain ⟨c, hc⟩ : ∃ c, bs[k]'(by rw [HL.out]; exact hkL) = c := ⟨_, rfl⟩
      rw [hc] at hkb hc256 hsucc
      clear hc
      have HO1 : Hid (wr.ownsRow w.heap.size 5 1 (.slice ao n co) n (cellsOf (qPre bs k))) := Lib.hid (by have h := HO.out; unfold Own at h; rw [HN.out] at h; exact h)
      have HOA : Hid (∀ o, (wr.alloc o).ownsRow w.heap.size 5 1 (.slice ao n co) n (cellsOf (qPre bs k))) := Lib.hid (fun o => by
        have h := HO.out.below ((Below.refl wr.heap.size wr).alloc (Nat.le_refl _) o)
        unfold Own at h
        rw [HN.out] at h
        exact h)
      have SUC := Lib.hid hsucc
      clear hsucc
      by_cases h34 : c = 34
      · subst h34
        have SU : Hid (qPre bs (k + 1) = qPre bs k ++ [92, 34]) := Lib.hid (by rw [SUC.out]; congr 1)
        go_wp2_with (at_builtin; refine wpList_append_own _ rfl (.tmp 26) (.tmp 28) 83 rfl w.heap.size 5 i0 (.int .u8 0) 1 1 Tryz.underlying83 hi hz0 hz1 hz2 rfl (by decide) (.slice ao n co) n (cellsOf (qPre bs k)) rfl (HOA.out _) ⟨wr.heap.size, 0, none⟩ 2 2 (cellsOf [92, 34]) rfl rfl (alloc_row _ [92, 34]) (cellsOf_one _) (by unfold maxLen; omega) (by omega) (by have := HW.out; simp; omega) ?_; intro v2 w2 hown2 hgr2 hne2)
        obtain ⟨g1, g2⟩ := own_grow (ds := qPre bs k) (es := [92, 34]) hown2 (by rw [HN.out]; rfl) (own_block HO.out) hgr2 (HB2.out.alloc HW.out _) (by have := HW.out; simp; omega)
        rw [← SU.out] at g1
        have G1 := Lib.hid g1
        have G2 := Lib.hid g2
        clear hown2 hgr2 hne2 g1 g2
        go_wp2
        go_roundw
        case rel => exact ⟨k + 1, by omega, rfl, G1, G2⟩
        case measure => simp [intOf]; omega
      have n34 : ((c : Int) == 34) = false := by simp; omega
      by_cases h92 : c = 92
      · subst h92
        have SU : Hid (qPre bs (k + 1) = qPre bs k ++ [92, 92]) := Lib.hid (by rw [SUC.out]; congr 1)
        go_wp2_with (at_builtin; refine wpList_append_own _ rfl (.tmp 26) (.tmp 28) 83 rfl w.heap.size 5 i0 (.int .u8 0) 1 1 Tryz.underlying83 hi hz0 hz1 hz2 rfl (by decide) (.slice ao n co) n (cellsOf (qPre bs k)) rfl (HOA.out _) ⟨wr.heap.size, 0, none⟩ 2 2 (cellsOf [92, 92]) rfl rfl (alloc_row _ [92, 92]) (cellsOf_one _) (by unfold maxLen; omega) (by omega) (by have := HW.out; simp; omega) ?_; intro v2 w2 hown2 hgr2 hne2)
        obtain ⟨g1, g2⟩ := own_grow (ds := qPre bs k) (es := [92, 92]) hown2 (by rw [HN.out]; rfl) (own_block HO.out) hgr2 (HB2.out.alloc HW.out _) (by have := HW.out; simp; omega)
        rw [← SU.out] at g1
        have G1 := Lib.hid g1
        have G2 := Lib.hid g2
        clear hown2 hgr2 hne2 g1 g2
        go_wp2
        go_roundw
        case rel => exact ⟨k + 1, by omega, rfl, G1, G2⟩
        case measure => simp [intOf]; omega
      have n92 : ((c : Int) == 92) = false := by simp; omega
      by_cases h10 : c = 10
      · subst h10
        have SU : Hid (qPre bs (k + 1) = qPre bs k ++ [92, 110]) := Lib.hid (by rw [SUC.out]; congr 1)
        go_wp2_with (at_builtin; refine Lib.wpList_append_own_string _ rfl (.tmp 33) (.const (.string { data := #[92, 110] })) 83 9 rfl w.heap.size 5 i0 Tryz.underlying83 Tryz.underlying9 hi hz0 hz1 hz2 (.slice ao n co) n (cellsOf (qPre bs k)) rfl (HO1.out) { data := #[92, 110] } rfl (by unfold maxLen; simp [ByteArray.size]; omega) (by simp [ByteArray.size]; omega) HW.out ?_; intro v2 w2 hown2 hgr2 hne2)
        rw [show Lib.strCells { data := #[92, 110] } = cellsOf [92, 110] from rfl] at hown2
        rw [show n + ByteArray.size { data := #[92, 110] } = n + 2 from rfl] at hown2
        obtain ⟨g1, g2⟩ := own_grow (ds := qPre bs k) (es := [92, 110]) hown2 (by rw [HN.out]; rfl) (own_block HO.out) hgr2 HB2.out HW.out
        rw [← SU.out] at g1
        have G1 := Lib.hid g1
        have G2 := Lib.hid g2
        clear hown2 hgr2 hne2 g1 g2
        go_wp2
        go_roundw
        case rel => exact ⟨k + 1, by omega, rfl, G1, G2⟩
        case measure => simp [intOf]; omega
      have n10 : ((c : Int) == 10) = false := by simp; omega
      by_cases h13 : c = 13
      · subst h13
        have SU : Hid (qPre bs (k + 1) = qPre bs k ++ [92, 114]) := Lib.hid (by rw [SUC.out]; congr 1)
        go_wp2_with (at_builtin; refine Lib.wpList_append_own_string _ rfl (.tmp 38) (.const (.string { data := #[92, 114] })) 83 9 rfl w.heap.size 5 i0 Tryz.underlying83 Tryz.underlying9 hi hz0 hz1 hz2 (.slice ao n co) n (cellsOf (qPre bs k)) rfl (HO1.out) { data := #[92, 114] } rfl (by unfold maxLen; simp [ByteArray.size]; omega) (by simp [ByteArray.size]; omega) HW.out ?_; intro v2 w2 hown2 hgr2 hne2)
        rw [show Lib.strCells { data := #[92, 114] } = cellsOf [92, 114] from rfl] at hown2
        rw [show n + ByteArray.size { data := #[92, 114] } = n + 2 from rfl] at hown2
        obtain ⟨g1, g2⟩ := own_grow (ds := qPre bs k) (es := [92, 114]) hown2 (by rw [HN.out]; rfl) (own_block HO.out) hgr2 HB2.out HW.out
        rw [← SU.out] at g1
        have G1 := Lib.hid g1
        have G2 := Lib.hid g2
        clear hown2 hgr2 hne2 g1 g2
        go_wp2
        go_roundw
        case rel => exact ⟨k + 1, by omega, rfl, G1, G2⟩
        case measure => simp [intOf]; omega
      have n13 : ((c : Int) == 13) = false := by simp; omega
      by_cases h9 : c = 9
      · subst h9
        have SU : Hid (qPre bs (k + 1) = qPre bs k ++ [92, 116]) := Lib.hid (by rw [SUC.out]; congr 1)
        go_wp2_with (at_builtin; refine Lib.wpList_append_own_string _ rfl (.tmp 43) (.const (.string { data := #[92, 116] })) 83 9 rfl w.heap.size 5 i0 Tryz.underlying83 Tryz.underlying9 hi hz0 hz1 hz2 (.slice ao n co) n (cellsOf (qPre bs k)) rfl (HO1.out) { data := #[92, 116] } rfl (by unfold maxLen; simp [ByteArray.size]; omega) (by simp [ByteArray.size]; omega) HW.out ?_; intro v2 w2 hown2 hgr2 hne2)
        rw [show Lib.strCells { data := #[92, 116] } = cellsOf [92, 116] from rfl] at hown2
        rw [show n + ByteArray.size { data := #[92, 116] } = n + 2 from rfl] at hown2
        obtain ⟨g1, g2⟩ := own_grow (ds := qPre bs k) (es := [92, 116]) hown2 (by rw [HN.out]; rfl) (own_block HO.out) hgr2 HB2.out HW.out
        rw [← SU.out] at g1
        have G1 := Lib.hid g1
        have G2 := Lib.hid g2
        clear hown2 hgr2 hne2 g1 g2
        go_wp2
        go_roundw
        case rel => exact ⟨k + 1, by omega, rfl, G1, G2⟩
        case measure => simp [intOf]; omega
      have n9 : ((c : Int) == 9) = false := by simp; omega
      by_cases hlo : c < 32
      · have l1 : decide ((c : Int) < 32) = true := decide_eq_true (by omega)
        have l2 : decide (c < 32) = true := decide_eq_true hlo
        obtain ⟨H1, hH1⟩ : ∃ H, hexd (c / 16) = H := ⟨_, rfl⟩
        obtain ⟨H2, hH2⟩ : ∃ H, hexd (c % 16) = H := ⟨_, rfl⟩
        have x1 := hexS_bt (c / 16) (by omega)
        have x2 := hexS_bt (c % 16) (by omega)
        have y1 : (c : Int) / 16 = ((c / 16 : Nat) : Int) := by omega
        have y2 := and15 c hc256
        have y3 : (c : Int) % 16 = ((c % 16 : Nat) : Int) := by omega
        have y4 : (c : Int).tmod 16 = ((c % 16 : Nat) : Int) := by rw [Int.tmod_eq_emod_of_nonneg (by omega)]; exact y3
        have y5 : (c : Int).tdiv 16 = ((c / 16 : Nat) : Int) := by rw [Int.tdiv_eq_ediv_of_nonneg (by omega)]; exact y1
        rw [hH1] at x1
        rw [hH2] at x2
        have hP : c / 16 < 16 := by omega
        have hR : c % 16 < 16 := by omega
        obtain ⟨P1, hP1⟩ : ∃ P, c / 16 = P := ⟨_, rfl⟩
        obtain ⟨P2, hP2⟩ : ∃ P, c % 16 = P := ⟨_, rfl⟩
        rw [hP1] at x1 y1 y5 hP
        rw [hP2] at x2 y2 y3 y4 hR
        clear hP1 hP2
        have hP' : ((P1 : Nat) : Int) < 16 := by omega
        have hR' : ((P2 : Nat) : Int) < 16 := by omega
        have hPw : IntKind.u8.wrap (P1 : Int) = (P1 : Int) := by rw [IntKind.wrap_u8]; omega
        have hRw : IntKind.u8.wrap (P2 : Int) = (P2 : Int) := by rw [IntKind.wrap_u8]; omega
        have hu8 : IntKind.u8.signed = false := rfl
        have HOD : Hid (∀ o, (wr.drew.alloc o).ownsRow w.heap.size 5 1 (.slice ao n co) n (cellsOf (qPre bs k))) := Lib.hid (fun o => HOA.out o)
        have SU : Hid (qPre bs (k + 1) = qPre bs k ++ [92, 120, H1, H2]) := Lib.hid (by rw [SUC.out, show qB c = [92, 120, H1, H2] from by unfold qB; rw [if_neg (by omega), if_neg (by omega), if_neg (by omega), if_neg (by omega), if_pos (by omega), hH1, hH2]])
        clear hH1 hH2
        go_wp2
        go_region_law (refine step_append_lies _ rfl (.tmp 52) (.tmp 59) 83 rfl w.heap.size 5 i0 (.int .u8 0) 1 1 Tryz.underlying83 hi hz0 hz1 hz2 rfl (by decide) (.slice ao n co) n (cellsOf (qPre bs k)) (by simp [Act.eval, Act.put]) (HOA.out (.cells (cellsOf [92, 120, H1, H2]).toArray 5)) ⟨wr.heap.size, 0, none⟩ 4 4 (cellsOf [92, 120, H1, H2]) (by simp [Act.eval, Act.put]) rfl (alloc_row wr [92, 120, H1, H2]) (cellsOf_one _) (by decide) (by unfold maxLen; omega) (by omega) (by have := HW.out; simp; omega) (wr.heap.size + 1) (by simp) ?_; intro g cap w2 hown2 hgr2 hlie hglt)
        all_goals
          obtain ⟨g1, g2⟩ := own_grow (ds := qPre bs k) (es := [92, 120, H1, H2]) hown2 (by rw [HN.out]; rfl) (own_block HO.out) hgr2 (HB2.out.alloc HW.out _).drew (by have := HW.out; simp; omega)
          rw [← SU.out] at g1
          have G1 := Lib.hid g1
          have G2 := Lib.hid g2
          clear hown2 hgr2 hlie hglt g1 g2
          go_wp2
          go_roundw
          case rel => exact ⟨k + 1, by omega, rfl, G1, G2⟩
          case measure => simp [intOf]; omega
      have l1 : decide ((c : Int) < 32) = false := decide_eq_false (by omega)
      have l2 : decide (c < 32) = false := decide_eq_false hlo
      by_cases hhi : 126 < c
      · have l3 : decide ((c : Int) > 126) = true := decide_eq_true (by omega)
        have l4 : decide ((126 : Int) < (c : Int)) = true := decide_eq_true (by omega)
        have l5 : decide (126 < c) = true := decide_eq_true hhi
        obtain ⟨H1, hH1⟩ : ∃ H, hexd (c / 16) = H := ⟨_, rfl⟩
        obtain ⟨H2, hH2⟩ : ∃ H, hexd (c % 16) = H := ⟨_, rfl⟩
        have x1 := hexS_bt (c / 16) (by omega)
        have x2 := hexS_bt (c % 16) (by omega)
        have y1 : (c : Int) / 16 = ((c / 16 : Nat) : Int) := by omega
        have y2 := and15 c hc256
        have y3 : (c : Int) % 16 = ((c % 16 : Nat) : Int) := by omega
        have y4 : (c : Int).tmod 16 = ((c % 16 : Nat) : Int) := by rw [Int.tmod_eq_emod_of_nonneg (by omega)]; exact y3
        have y5 : (c : Int).tdiv 16 = ((c / 16 : Nat) : Int) := by rw [Int.tdiv_eq_ediv_of_nonneg (by omega)]; exact y1
        rw [hH1] at x1
        rw [hH2] at x2
        have hP : c / 16 < 16 := by omega
        have hR : c % 16 < 16 := by omega
        obtain ⟨P1, hP1⟩ : ∃ P, c / 16 = P := ⟨_, rfl⟩
        obtain ⟨P2, hP2⟩ : ∃ P, c % 16 = P := ⟨_, rfl⟩
        rw [hP1] at x1 y1 y5 hP
        rw [hP2] at x2 y2 y3 y4 hR
        clear hP1 hP2
        have hP' : ((P1 : Nat) : Int) < 16 := by omega
        have hR' : ((P2 : Nat) : Int) < 16 := by omega
        have hPw : IntKind.u8.wrap (P1 : Int) = (P1 : Int) := by rw [IntKind.wrap_u8]; omega
        have hRw : IntKind.u8.wrap (P2 : Int) = (P2 : Int) := by rw [IntKind.wrap_u8]; omega
        have hu8 : IntKind.u8.signed = false := rfl
        have HOD : Hid (∀ o, (wr.drew.alloc o).ownsRow w.heap.size 5 1 (.slice ao n co) n (cellsOf (qPre bs k))) := Lib.hid (fun o => HOA.out o)
        have SU : Hid (qPre bs (k + 1) = qPre bs k ++ [92, 120, H1, H2]) := Lib.hid (by rw [SUC.out, show qB c = [92, 120, H1, H2] from by unfold qB; rw [if_neg (by omega), if_neg (by omega), if_neg (by omega), if_neg (by omega), if_pos (by omega), hH1, hH2]])
        clear hH1 hH2
        go_wp2
        go_region_law (refine step_append_lies _ rfl (.tmp 52) (.tmp 59) 83 rfl w.heap.size 5 i0 (.int .u8 0) 1 1 Tryz.underlying83 hi hz0 hz1 hz2 rfl (by decide) (.slice ao n co) n (cellsOf (qPre bs k)) (by simp [Act.eval, Act.put]) (HOA.out (.cells (cellsOf [92, 120, H1, H2]).toArray 5)) ⟨wr.heap.size, 0, none⟩ 4 4 (cellsOf [92, 120, H1, H2]) (by simp [Act.eval, Act.put]) rfl (alloc_row wr [92, 120, H1, H2]) (cellsOf_one _) (by decide) (by unfold maxLen; omega) (by omega) (by have := HW.out; simp; omega) (wr.heap.size + 1) (by simp) ?_; intro g cap w2 hown2 hgr2 hlie hglt)
        all_goals
          obtain ⟨g1, g2⟩ := own_grow (ds := qPre bs k) (es := [92, 120, H1, H2]) hown2 (by rw [HN.out]; rfl) (own_block HO.out) hgr2 (HB2.out.alloc HW.out _).drew (by have := HW.out; simp; omega)
          rw [← SU.out] at g1
          have G1 := Lib.hid g1
          have G2 := Lib.hid g2
          clear hown2 hgr2 hlie hglt g1 g2
          go_wp2
          go_roundw
          case rel => exact ⟨k + 1, by omega, rfl, G1, G2⟩
          case measure => simp [intOf]; omega
      have l3 : decide ((c : Int) > 126) = false := decide_eq_false (by omega)
      have l4 : decide ((126 : Int) < (c : Int)) = false := decide_eq_false (by omega)
      have l5 : decide (126 < c) = false := decide_eq_false hhi
      have SU : Hid (qPre bs (k + 1) = qPre bs k ++ [c]) := Lib.hid (by rw [SUC.out, show qB c = [c] from by unfold qB; rw [if_neg (by omega), if_neg (by omega), if_neg (by omega), if_neg (by omega), if_neg (by omega)]])
      go_wp2_with (at_builtin; refine wpList_append_own _ rfl (.tmp 15) (.tmp 17) 83 rfl w.heap.size 5 i0 (.int .u8 0) 1 1 Tryz.underlying83 hi hz0 hz1 hz2 rfl (by decide) (.slice ao n co) n (cellsOf (qPre bs k)) rfl (HOA.out _) ⟨wr.heap.size, 0, none⟩ 1 1 (cellsOf [c]) rfl rfl (alloc_row _ [c]) (cellsOf_one _) (by unfold maxLen; omega) (by omega) (by have := HW.out; simp; omega) ?_; intro v2 w2 hown2 hgr2 hne2)
      obtain ⟨g1, g2⟩ := own_grow (ds := qPre bs k) (es := [c]) hown2 (by rw [HN.out]; rfl) (own_block HO.out) hgr2 (HB2.out.alloc HW.out _) (by have := HW.out; simp; omega)
      rw [← SU.out] at g1
      have G1 := Lib.hid g1
      have G2 := Lib.hid g2
      clear hown2 hgr2 hne2 g1 g2
      go_wp2
      go_roundw
      case rel => exact ⟨k + 1, by omega, rfl, G1, G2⟩
      case measure => simp [intOf]; omega
    · obtain rfl : k = L := by omega
      have da : decide ((k : Int) < (k : Int)) = false := decide_eq_false (by omega)
      have da2 : decide (k < k) = false := decide_eq_false hkL
      have HO1 : Hid (wr.ownsRow w.heap.size 5 1 (.slice ao n co) n (cellsOf (qPre bs k))) := Lib.hid (by have h := HO.out; unfold Own at h; rw [HN.out] at h; exact h)
      have HOA : Hid (∀ o, (wr.alloc o).ownsRow w.heap.size 5 1 (.slice ao n co) n (cellsOf (qPre bs k))) := Lib.hid (fun o => by
        have h := HO.out.below ((Below.refl wr.heap.size wr).alloc (Nat.le_refl _) o)
        unfold Own at h
        rw [HN.out] at h
        exact h)
      go_wp2_with (at_builtin; refine wpList_append_own _ rfl (.tmp 62) (.tmp 63) 83 rfl w.heap.size 5 i0 (.int .u8 0) 1 1 Tryz.underlying83 hi hz0 hz1 hz2 rfl (by decide) (.slice ao n co) n (cellsOf (qPre bs k)) rfl (HOA.out _) ⟨wr.heap.size, 0, none⟩ 1 1 (cellsOf [34]) rfl rfl (alloc_row _ [34]) (cellsOf_one _) (by unfold maxLen; omega) (by omega) (by have := HW.out; simp; omega) ?_; intro v2 w2 hown2 hgr2 hne2; have hcv := conv_row hown2 (by rw [HN.out]; rfl) QA.out (quoteL_isB HB.out))
      obtain ⟨g1, g2⟩ := own_grow (ds := qPre bs k) (es := [34]) hown2 (by rw [HN.out]; rfl) (own_block HO.out) hgr2 (HB2.out.alloc HW.out _) (by have := HW.out; simp; omega)
      have G2 := Lib.hid g2
      clear hown2 hgr2 hne2 g1 g2
      go_wp2
      go_ret
      exact ⟨rfl, G2.out⟩
set_option maxRecDepth 100000 in
set_option maxHeartbeats 4000000 in
theorem rquote_any (bs : List Nat) (hB : IsB bs) (hl : bs.length ≤ 20000) (w : World) : Calls Tryz.prog 103 #[.string (strOf bs)] w (Gives w (.string (strOf (quoteL bs)))) := by
  obtain ⟨i0, hi, hz0, hz1, hz2⟩ := info_parts info5
  have hsz := strOf_size bs
  have hbt := get_bt (strOf bs)
  have hbx := get_bt { data := #[48, 49, 50, 51, 52, 53, 54, 55, 56, 57, 97, 98, 99, 100, 101, 102] }
  have B0 := Lib.hid (Below.refl w.heap.size w)
  have QA := Lib.hid (qPre_all bs)
  have HS := Lib.hid (strOf_bt bs hB)
  obtain ⟨L, hL⟩ : ∃ L, bs.length = L := ⟨_, rfl⟩
  rw [hL] at hsz hl QA
  have HL := Lib.hid hL
  have HB := Lib.hid hB
  clear hL hB
  go_enter Tryz.func103, Tryz.ntmps103
  go_wp2_with (at_builtin; refine wpList_append_own _ rfl (.tmp 6) (.tmp 7) 83 rfl w.heap.size 5 i0 (.int .u8 0) 1 1 Tryz.underlying83 hi hz0 hz1 hz2 rfl (by decide) (.slice none 0 0) 0 [] rfl (World.ownsRow_nil _ _ 5 1) ⟨w.heap.size, 0, none⟩ 1 1 (cellsOf [34]) rfl rfl (alloc_row w [34]) (cellsOf_one _) (by unfold maxLen; omega) (by omega) (by simp) ?_; intro v2 w2 hown2 hgr2 hne2)
  obtain ⟨g1, g2⟩ := own_grow (ds := []) (es := [34]) hown2 rfl (fun k hk => by cases hk) hgr2 ((Below.refl w.heap.size w).alloc (Nat.le_refl _) _) (by simp)
  have G1 := Lib.hid g1
  have G2 := Lib.hid g2
  clear hown2 hgr2 hne2 g1 g2
  go_wp2
  go_loopw [3, 4] (fun b i wr => ∃ (k : Nat), k ≤ L ∧ i = .int .i64 k ∧ Hid (Own wr w.heap.size b (qPre bs k)) ∧ Hid (Below w.heap.size w wr)) (fun _ i _ => (L - intOf i).toNat)
  case atStart => exact ⟨0, by omega, rfl, G1, G2⟩
  case round =>
    obtain ⟨k, hk, rfl, HO, HB2⟩ := hrel
    obtain ⟨ao, co, rfl⟩ := own_shape HO.out
    have HW := Lib.hid (Below.size HB2.out)
    have hlen := qPre_len bs k
    obtain ⟨n, hn⟩ : ∃ n, (qPre bs k).length = n := ⟨_, rfl⟩
    have HN := Lib.hid hn
    rw [hn] at hlen HO ⊢
    clear hn
    by_cases hkL : k < L
    · have da : decide ((k : Int) < (L : Int)) = true := decide_eq_true (by omega)
      have da2 : decide (k < L) = true := decide_eq_true hkL
      have hkb := HS.out k (by rw [HL.out]; exact hkL)
      have hc256 := HB.out.at k (by rw [HL.out]; exact hkL)
      have hsucc := qPre_succ (bs := bs) (k := k) (by rw [HL.out]; exact hkL)
      obtain ⟨c, hc⟩ : ∃ c, bs[k]'(by rw [HL.out]; exact hkL) = c := ⟨_, rfl⟩
      rw [hc] at hkb hc256 hsucc
      clear hc
      have HO1 : Hid (wr.ownsRow w.heap.size 5 1 (.slice ao n co) n (cellsOf (qPre bs k))) := Lib.hid (by have h := HO.out; unfold Own at h; rw [HN.out] at h; exact h)
      have HOA : Hid (∀ o, (wr.alloc o).ownsRow w.heap.size 5 1 (.slice ao n co) n (cellsOf (qPre bs k))) := Lib.hid (fun o => by
        have h := HO.out.below ((Below.refl wr.heap.size wr).alloc (Nat.le_refl _) o)
        unfold Own at h
        rw [HN.out] at h
        exact h)
      have SUC := Lib.hid hsucc
      clear hsucc
      by_cases h34 : c = 34
      · subst h34
        have SU : Hid (qPre bs (k + 1) = qPre bs k ++ [92, 34]) := Lib.hid (by rw [SUC.out]; congr 1)
        go_wp2_with (at_builtin; refine wpList_append_own _ rfl (.tmp 29) (.tmp 31) 83 rfl w.heap.size 5 i0 (.int .u8 0) 1 1 Tryz.underlying83 hi hz0 hz1 hz2 rfl (by decide) (.slice ao n co) n (cellsOf (qPre bs k)) rfl (HOA.out _) ⟨wr.heap.size, 0, none⟩ 2 2 (cellsOf [92, 34]) rfl rfl (alloc_row _ [92, 34]) (cellsOf_one _) (by unfold maxLen; omega) (by omega) (by have := HW.out; simp; omega) ?_; intro v2 w2 hown2 hgr2 hne2)
        obtain ⟨g1, g2⟩ := own_grow (ds := qPre bs k) (es := [92, 34]) hown2 (by rw [HN.out]; rfl) (own_block HO.out) hgr2 (HB2.out.alloc HW.out _) (by have := HW.out; simp; omega)
        rw [← SU.out] at g1
        have G1 := Lib.hid g1
        have G2 := Lib.hid g2
        clear hown2 hgr2 hne2 g1 g2
        go_wp2
        go_roundw
        case rel => exact ⟨k + 1, by omega, rfl, G1, G2⟩
        case measure => simp [intOf]; omega
      have n34 : ((c : Int) == 34) = false := by simp; omega
      by_cases h92 : c = 92
      · subst h92
        have SU : Hid (qPre bs (k + 1) = qPre bs k ++ [92, 92]) := Lib.hid (by rw [SUC.out]; congr 1)
        go_wp2_with (at_builtin; refine wpList_append_own _ rfl (.tmp 29) (.tmp 31) 83 rfl w.heap.size 5 i0 (.int .u8 0) 1 1 Tryz.underlying83 hi hz0 hz1 hz2 rfl (by decide) (.slice ao n co) n (cellsOf (qPre bs k)) rfl (HOA.out _) ⟨wr.heap.size, 0, none⟩ 2 2 (cellsOf [92, 92]) rfl rfl (alloc_row _ [92, 92]) (cellsOf_one _) (by unfold maxLen; omega) (by omega) (by have := HW.out; simp; omega) ?_; intro v2 w2 hown2 hgr2 hne2)
        obtain ⟨g1, g2⟩ := own_grow (ds := qPre bs k) (es := [92, 92]) hown2 (by rw [HN.out]; rfl) (own_block HO.out) hgr2 (HB2.out.alloc HW.out _) (by have := HW.out; simp; omega)
        rw [← SU.out] at g1
        have G1 := Lib.hid g1
        have G2 := Lib.hid g2
        clear hown2 hgr2 hne2 g1 g2
        go_wp2
        go_roundw
        case rel => exact ⟨k + 1, by omega, rfl, G1, G2⟩
        case measure => simp [intOf]; omega
      have n92 : ((c : Int) == 92) = false := by simp; omega
      by_cases h10 : c = 10
      · subst h10
        have SU : Hid (qPre bs (k + 1) = qPre bs k ++ [92, 110]) := Lib.hid (by rw [SUC.out]; congr 1)
        go_wp2_with (at_builtin; refine wpList_append_own _ rfl (.tmp 36) (.tmp 37) 83 rfl w.heap.size 5 i0 (.int .u8 0) 1 1 Tryz.underlying83 hi hz0 hz1 hz2 rfl (by decide) (.slice ao n co) n (cellsOf (qPre bs k)) rfl (HOA.out _) ⟨wr.heap.size, 0, none⟩ 2 2 (cellsOf [92, 110]) rfl rfl (alloc_row _ [92, 110]) (cellsOf_one _) (by unfold maxLen; omega) (by omega) (by have := HW.out; simp; omega) ?_; intro v2 w2 hown2 hgr2 hne2)
        obtain ⟨g1, g2⟩ := own_grow (ds := qPre bs k) (es := [92, 110]) hown2 (by rw [HN.out]; rfl) (own_block HO.out) hgr2 (HB2.out.alloc HW.out _) (by have := HW.out; simp; omega)
        rw [← SU.out] at g1
        have G1 := Lib.hid g1
        have G2 := Lib.hid g2
        clear hown2 hgr2 hne2 g1 g2
        go_wp2
        go_roundw
        case rel => exact ⟨k + 1, by omega, rfl, G1, G2⟩
        case measure => simp [intOf]; omega
      have n10 : ((c : Int) == 10) = false := by simp; omega
      by_cases h13 : c = 13
      · subst h13
        have SU : Hid (qPre bs (k + 1) = qPre bs k ++ [92, 114]) := Lib.hid (by rw [SUC.out]; congr 1)
        go_wp2_with (at_builtin; refine wpList_append_own _ rfl (.tmp 42) (.tmp 43) 83 rfl w.heap.size 5 i0 (.int .u8 0) 1 1 Tryz.underlying83 hi hz0 hz1 hz2 rfl (by decide) (.slice ao n co) n (cellsOf (qPre bs k)) rfl (HOA.out _) ⟨wr.heap.size, 0, none⟩ 2 2 (cellsOf [92, 114]) rfl rfl (alloc_row _ [92, 114]) (cellsOf_one _) (by unfold maxLen; omega) (by omega) (by have := HW.out; simp; omega) ?_; intro v2 w2 hown2 hgr2 hne2)
        obtain ⟨g1, g2⟩ := own_grow (ds := qPre bs k) (es := [92, 114]) hown2 (by rw [HN.out]; rfl) (own_block HO.out) hgr2 (HB2.out.alloc HW.out _) (by have := HW.out; simp; omega)
        rw [← SU.out] at g1
        have G1 := Lib.hid g1
        have G2 := Lib.hid g2
        clear hown2 hgr2 hne2 g1 g2
        go_wp2
        go_roundw
        case rel => exact ⟨k + 1, by omega, rfl, G1, G2⟩
        case measure => simp [intOf]; omega
      have n13 : ((c : Int) == 13) = false := by simp; omega
      by_cases h9 : c = 9
      · subst h9
        have SU : Hid (qPre bs (k + 1) = qPre bs k ++ [92, 116]) := Lib.hid (by rw [SUC.out]; congr 1)
        go_wp2_with (at_builtin; refine wpList_append_own _ rfl (.tmp 48) (.tmp 49) 83 rfl w.heap.size 5 i0 (.int .u8 0) 1 1 Tryz.underlying83 hi hz0 hz1 hz2 rfl (by decide) (.slice ao n co) n (cellsOf (qPre bs k)) rfl (HOA.out _) ⟨wr.heap.size, 0, none⟩ 2 2 (cellsOf [92, 116]) rfl rfl (alloc_row _ [92, 116]) (cellsOf_one _) (by unfold maxLen; omega) (by omega) (by have := HW.out; simp; omega) ?_; intro v2 w2 hown2 hgr2 hne2)
        obtain ⟨g1, g2⟩ := own_grow (ds := qPre bs k) (es := [92, 116]) hown2 (by rw [HN.out]; rfl) (own_block HO.out) hgr2 (HB2.out.alloc HW.out _) (by have := HW.out; simp; omega)
        rw [← SU.out] at g1
        have G1 := Lib.hid g1
        have G2 := Lib.hid g2
        clear hown2 hgr2 hne2 g1 g2
        go_wp2
        go_roundw
        case rel => exact ⟨k + 1, by omega, rfl, G1, G2⟩
        case measure => simp [intOf]; omega
      have n9 : ((c : Int) == 9) = false := by simp; omega
      by_cases hlo : c < 32
      · have l1 : decide ((c : Int) < 32) = true := decide_eq_true (by omega)
        have l2 : decide (c < 32) = true := decide_eq_true hlo
        obtain ⟨H1, hH1⟩ : ∃ H, hexd (c / 16) = H := ⟨_, rfl⟩
        obtain ⟨H2, hH2⟩ : ∃ H, hexd (c % 16) = H := ⟨_, rfl⟩
        have x1 := hexS_bt (c / 16) (by omega)
        have x2 := hexS_bt (c % 16) (by omega)
        have y1 : (c : Int) / 16 = ((c / 16 : Nat) : Int) := by omega
        have y2 := and15 c hc256
        have y3 : (c : Int) % 16 = ((c % 16 : Nat) : Int) := by omega
        have y4 : (c : Int).tmod 16 = ((c % 16 : Nat) : Int) := by rw [Int.tmod_eq_emod_of_nonneg (by omega)]; exact y3
        have y5 : (c : Int).tdiv 16 = ((c / 16 : Nat) : Int) := by rw [Int.tdiv_eq_ediv_of_nonneg (by omega)]; exact y1
        rw [hH1] at x1
        rw [hH2] at x2
        have hP : c / 16 < 16 := by omega
        have hR : c % 16 < 16 := by omega
        obtain ⟨P1, hP1⟩ : ∃ P, c / 16 = P := ⟨_, rfl⟩
        obtain ⟨P2, hP2⟩ : ∃ P, c % 16 = P := ⟨_, rfl⟩
        rw [hP1] at x1 y1 y5 hP
        rw [hP2] at x2 y2 y3 y4 hR
        clear hP1 hP2
        have hP' : ((P1 : Nat) : Int) < 16 := by omega
        have hR' : ((P2 : Nat) : Int) < 16 := by omega
        have hPw : IntKind.u8.wrap (P1 : Int) = (P1 : Int) := by rw [IntKind.wrap_u8]; omega
        have hRw : IntKind.u8.wrap (P2 : Int) = (P2 : Int) := by rw [IntKind.wrap_u8]; omega
        have hu8 : IntKind.u8.signed = false := rfl
        have HOD : Hid (∀ o, (wr.drew.alloc o).ownsRow w.heap.size 5 1 (.slice ao n co) n (cellsOf (qPre bs k))) := Lib.hid (fun o => HOA.out o)
        have SU : Hid (qPre bs (k + 1) = qPre bs k ++ [92, 120, H1, H2]) := Lib.hid (by rw [SUC.out, show qB c = [92, 120, H1, H2] from by unfold qB; rw [if_neg (by omega), if_neg (by omega), if_neg (by omega), if_neg (by omega), if_pos (by omega), hH1, hH2]])
        clear hH1 hH2
        go_wp2
        go_region_law (refine step_append_lies _ rfl (.tmp 58) (.tmp 65) 83 rfl w.heap.size 5 i0 (.int .u8 0) 1 1 Tryz.underlying83 hi hz0 hz1 hz2 rfl (by decide) (.slice ao n co) n (cellsOf (qPre bs k)) (by simp [Act.eval, Act.put]) (HOA.out (.cells (cellsOf [92, 120, H1, H2]).toArray 5)) ⟨wr.heap.size, 0, none⟩ 4 4 (cellsOf [92, 120, H1, H2]) (by simp [Act.eval, Act.put]) rfl (alloc_row wr [92, 120, H1, H2]) (cellsOf_one _) (by decide) (by unfold maxLen; omega) (by omega) (by have := HW.out; simp; omega) (wr.heap.size + 1) (by simp) ?_; intro g cap w2 hown2 hgr2 hlie hglt)
        all_goals
          obtain ⟨g1, g2⟩ := own_grow (ds := qPre bs k) (es := [92, 120, H1, H2]) hown2 (by rw [HN.out]; rfl) (own_block HO.out) hgr2 (HB2.out.alloc HW.out _).drew (by have := HW.out; simp; omega)
          rw [← SU.out] at g1
          have G1 := Lib.hid g1
          have G2 := Lib.hid g2
          clear hown2 hgr2 hlie hglt g1 g2
          go_wp2
          go_roundw
          case rel => exact ⟨k + 1, by omega, rfl, G1, G2⟩
          case measure => simp [intOf]; omega
      have l1 : decide ((c : Int) < 32) = false := decide_eq_false (by omega)
      have l2 : decide (c < 32) = false := decide_eq_false hlo
      by_cases hhi : 126 < c
      · have l3 : decide ((c : Int) > 126) = true := decide_eq_true (by omega)
        have l4 : decide ((126 : Int) < (c : Int)) = true := decide_eq_true (by omega)
        have l5 : decide (126 < c) = true := decide_eq_true hhi
        obtain ⟨H1, hH1⟩ : ∃ H, hexd (c / 16) = H := ⟨_, rfl⟩
        obtain ⟨H2, hH2⟩ : ∃ H, hexd (c % 16) = H := ⟨_, rfl⟩
        have x1 := hexS_bt (c / 16) (by omega)
        have x2 := hexS_bt (c % 16) (by omega)
        have y1 : (c : Int) / 16 = ((c / 16 : Nat) : Int) := by omega
        have y2 := and15 c hc256
        have y3 : (c : Int) % 16 = ((c % 16 : Nat) : Int) := by omega
        have y4 : (c : Int).tmod 16 = ((c % 16 : Nat) : Int) := by rw [Int.tmod_eq_emod_of_nonneg (by omega)]; exact y3
        have y5 : (c : Int).tdiv 16 = ((c / 16 : Nat) : Int) := by rw [Int.tdiv_eq_ediv_of_nonneg (by omega)]; exact y1
        rw [hH1] at x1
        rw [hH2] at x2
        have hP : c / 16 < 16 := by omega
        have hR : c % 16 < 16 := by omega
        obtain ⟨P1, hP1⟩ : ∃ P, c / 16 = P := ⟨_, rfl⟩
        obtain ⟨P2, hP2⟩ : ∃ P, c % 16 = P := ⟨_, rfl⟩
        rw [hP1] at x1 y1 y5 hP
        rw [hP2] at x2 y2 y3 y4 hR
        clear hP1 hP2
        have hP' : ((P1 : Nat) : Int) < 16 := by omega
        have hR' : ((P2 : Nat) : Int) < 16 := by omega
        have hPw : IntKind.u8.wrap (P1 : Int) = (P1 : Int) := by rw [IntKind.wrap_u8]; omega
        have hRw : IntKind.u8.wrap (P2 : Int) = (P2 : Int) := by rw [IntKind.wrap_u8]; omega
        have hu8 : IntKind.u8.signed = false := rfl
        have HOD : Hid (∀ o, (wr.drew.alloc o).ownsRow w.heap.size 5 1 (.slice ao n co) n (cellsOf (qPre bs k))) := Lib.hid (fun o => HOA.out o)
        have SU : Hid (qPre bs (k + 1) = qPre bs k ++ [92, 120, H1, H2]) := Lib.hid (by rw [SUC.out, show qB c = [92, 120, H1, H2] from by unfold qB; rw [if_neg (by omega), if_neg (by omega), if_neg (by omega), if_neg (by omega), if_pos (by omega), hH1, hH2]])
        clear hH1 hH2
        go_wp2
        go_region_law (refine step_append_lies _ rfl (.tmp 58) (.tmp 65) 83 rfl w.heap.size 5 i0 (.int .u8 0) 1 1 Tryz.underlying83 hi hz0 hz1 hz2 rfl (by decide) (.slice ao n co) n (cellsOf (qPre bs k)) (by simp [Act.eval, Act.put]) (HOA.out (.cells (cellsOf [92, 120, H1, H2]).toArray 5)) ⟨wr.heap.size, 0, none⟩ 4 4 (cellsOf [92, 120, H1, H2]) (by simp [Act.eval, Act.put]) rfl (alloc_row wr [92, 120, H1, H2]) (cellsOf_one _) (by decide) (by unfold maxLen; omega) (by omega) (by have := HW.out; simp; omega) (wr.heap.size + 1) (by simp) ?_; intro g cap w2 hown2 hgr2 hlie hglt)
        all_goals
          obtain ⟨g1, g2⟩ := own_grow (ds := qPre bs k) (es := [92, 120, H1, H2]) hown2 (by rw [HN.out]; rfl) (own_block HO.out) hgr2 (HB2.out.alloc HW.out _).drew (by have := HW.out; simp; omega)
          rw [← SU.out] at g1
          have G1 := Lib.hid g1
          have G2 := Lib.hid g2
          clear hown2 hgr2 hlie hglt g1 g2
          go_wp2
          go_roundw
          case rel => exact ⟨k + 1, by omega, rfl, G1, G2⟩
          case measure => simp [intOf]; omega
      have l3 : decide ((c : Int) > 126) = false := decide_eq_false (by omega)
      have l4 : decide ((126 : Int) < (c : Int)) = false := decide_eq_false (by omega)
      have l5 : decide (126 < c) = false := decide_eq_false hhi
      have SU : Hid (qPre bs (k + 1) = qPre bs k ++ [c]) := Lib.hid (by rw [SUC.out, show qB c = [c] from by unfold qB; rw [if_neg (by omega), if_neg (by omega), if_neg (by omega), if_neg (by omega), if_neg (by omega)]])
      go_wp2_with (at_builtin; refine wpList_append_own _ rfl (.tmp 18) (.tmp 20) 83 rfl w.heap.size 5 i0 (.int .u8 0) 1 1 Tryz.underlying83 hi hz0 hz1 hz2 rfl (by decide) (.slice ao n co) n (cellsOf (qPre bs k)) rfl (HOA.out _) ⟨wr.heap.size, 0, none⟩ 1 1 (cellsOf [c]) rfl rfl (alloc_row _ [c]) (cellsOf_one _) (by unfold maxLen; omega) (by omega) (by have := HW.out; simp; omega) ?_; intro v2 w2 hown2 hgr2 hne2)
      obtain ⟨g1, g2⟩ := own_grow (ds := qPre bs k) (es := [c]) hown2 (by rw [HN.out]; rfl) (own_block HO.out) hgr2 (HB2.out.alloc HW.out _) (by have := HW.out; simp; omega)
      rw [← SU.out] at g1
      have G1 := Lib.hid g1
      have G2 := Lib.hid g2
      clear hown2 hgr2 hne2 g1 g2
      go_wp2
      go_roundw
      case rel => exact ⟨k + 1, by omega, rfl, G1, G2⟩
      case measure => simp [intOf]; omega
    · obtain rfl : k = L := by omega
      have da : decide ((k : Int) < (k : Int)) = false := decide_eq_false (by omega)
      have da2 : decide (k < k) = false := decide_eq_false hkL
      have HO1 : Hid (wr.ownsRow w.heap.size 5 1 (.slice ao n co) n (cellsOf (qPre bs k))) := Lib.hid (by have h := HO.out; unfold Own at h; rw [HN.out] at h; exact h)
      have HOA : Hid (∀ o, (wr.alloc o).ownsRow w.heap.size 5 1 (.slice ao n co) n (cellsOf (qPre bs k))) := Lib.hid (fun o => by
        have h := HO.out.below ((Below.refl wr.heap.size wr).alloc (Nat.le_refl _) o)
        unfold Own at h
        rw [HN.out] at h
        exact h)
      go_wp2_with (at_builtin; refine wpList_append_own _ rfl (.tmp 67) (.tmp 68) 83 rfl w.heap.size 5 i0 (.int .u8 0) 1 1 Tryz.underlying83 hi hz0 hz1 hz2 rfl (by decide) (.slice ao n co) n (cellsOf (qPre bs k)) rfl (HOA.out _) ⟨wr.heap.size, 0, none⟩ 1 1 (cellsOf [34]) rfl rfl (alloc_row _ [34]) (cellsOf_one _) (by unfold maxLen; omega) (by omega) (by have := HW.out; simp; omega) ?_; intro v2 w2 hown2 hgr2 hne2; have hcv := conv_row hown2 (by rw [HN.out]; rfl) QA.out (quoteL_isB HB.out))
      obtain ⟨g1, g2⟩ := own_grow (ds := qPre bs k) (es := [34]) hown2 (by rw [HN.out]; rfl) (own_block HO.out) hgr2 (HB2.out.alloc HW.out _) (by have := HW.out; simp; omega)
      have G2 := Lib.hid g2
      clear hown2 hgr2 hne2 g1 g2
      go_wp2
      go_ret
      exact ⟨rfl, G2.out⟩
end Go.Proofs.YtiolghcjndoigaaGreatDoor
