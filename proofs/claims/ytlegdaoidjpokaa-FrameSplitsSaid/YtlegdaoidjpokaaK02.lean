/-
  PACKED: FrMathB, FrA, FrB, FrC, FrD, FrE, FrF, FrG, FrH, FrI
-/
import Derived.Test.YtlegdaoidjpokaaK01
import Derived.Laws.CopyOwn
import Derived.BigRegion
import Derived.BigQuiet
import Derived.Deep.RegionLaw
import Derived.Deep.Cut
import Derived.Deep.RegionHeld3
import Derived.StillTailTactics
import Derived.Deep.OwnRows
import Derived.Handy
import Derived.Laws.BytesArg
namespace Go.Proofs.Ytlegdaoidjpokaa.Fr
open Crc (R It More C B S)
set_option linter.unusedVariables false
set_option linter.unusedSimpArgs false
/-- a record that goes on beyond A ends at a sector that is none -/
theorem recS_stop {seg : Nat} {bad : List Nat} {rest Bt : List (List Nat)} (A : List (List Nat)) : ∀ (at' : Nat) (first : Bool) (acc r : List Nat) (n : Nat), recS seg (A ++ Bt) at' first acc = some (r, n) → A.length < n → readS seg (at' + A.length) bad = none → recS seg (A ++ bad :: rest) at' first acc = none := by
  induction A with
  | nil =>
    intro at' first acc r n h hn hb
    simp only [List.nil_append, List.length_nil, Nat.add_zero] at hb ⊢
    unfold recS
    rw [hb]
  | cons s A ih =>
    intro at' first acc r n h hn hb
    rw [List.cons_append] at h ⊢
    unfold recS at h ⊢
    cases hr : readS seg at' s with
    | none => rfl
    | some y =>
      obtain ⟨k, pc⟩ := y
      rw [hr] at h
      simp only at h ⊢
      split
      · rfl
      · rename_i h1
        rw [if_neg h1] at h
        split
        · rename_i h2
          rw [if_pos h2] at h
          injection h with h; injection h with h3 h4
          simp at hn; omega
        · rename_i h2
          rw [if_neg h2] at h
          cases he : recS seg (A ++ Bt) (at' + 1) false (acc ++ pc) with
          | none => rw [he] at h; cases h
          | some z =>
            obtain ⟨a, b⟩ := z
            rw [he] at h
            simp only [Option.map_some, Option.some.injEq, Prod.mk.injEq] at h
            rw [ih (at' + 1) false (acc ++ pc) a b he (by simp at hn; omega) (by rw [show at' + 1 + A.length = at' + (s :: A).length by simp; omega]; exact hb)]
            rfl
theorem readS_zeros (seg at' : Nat) : readS seg at' (List.replicate 256 0) = none := by
  cases h : readS seg at' (List.replicate 256 0) with
  | none => rfl
  | some y =>
    obtain ⟨k, pc⟩ := y
    have h1 := (readS_some h).1
    obtain ⟨t, e⟩ := sec_cons k seg at' pc
    have h2 : (List.replicate 256 0 : List Nat)[0]? = some 66 := by rw [h1, e]; rfl
    rw [List.getElem?_replicate] at h2
    exact absurd h2 (by decide)
theorem readS_other {seg other at' k kd : Nat} {pc : List Nat} (hs : seg < 4294967296) (ho : other < 4294967296) (hk : k < 65536) (hp : pc.length ≤ 240) (hne : ¬ (seg = other ∧ at' = k)) : readS seg at' (sec kd other k pc) = none := by
  cases h : readS seg at' (sec kd other k pc) with
  | none => rfl
  | some y =>
    obtain ⟨k2, pc2⟩ := y
    obtain ⟨h1, h2, _, h4, _⟩ := readS_some h
    obtain ⟨_, h5, h6, _⟩ := sec_inj ho hs hk (by omega) hp h2 h1
    exact absurd ⟨h5.symm, h6.symm⟩ hne
/-- a sector with a run of 32 bits turned -/
theorem readS_turned {seg at' kd : Nat} {pc x : List Nat} (hkd : kd < 256) (hp : ∀ c ∈ pc, c < 256) (hl : pc.length ≤ 240) (hx : ∀ c ∈ x, c < 256) {f w : Nat}
    (h : ∀ r, R r x = R r (sec kd seg at' pc) ^^^ It (8 * (sec kd seg at' pc).length - f) w) (hw : w < 4294967296) (hw0 : w ≠ 0) (at2 : Nat) : readS seg at2 x = none := by
  cases hr : readS seg at2 x with
  | none => rfl
  | some y =>
    obtain ⟨k2, pc2⟩ := y
    obtain ⟨h1, h2, _, h4, h5⟩ := readS_some hr
    have h6 : ∀ c ∈ pc2, c < 256 := by
      intro c hc
      refine hx c ?_
      rw [h1]
      obtain ⟨t, e⟩ := sec_cons k2 seg at2 pc2
      rw [e]
      simp [hc]
    have e1 := sec_res kd seg at' pc hkd hp
    have e2 := sec_res k2 seg at2 pc2 (by omega) h6
    rw [← h1] at e2
    have h7 := (Crc.told (sec kd seg at' pc) x f w (fun c hc => by have := sec_lt kd seg at' pc hkd hp c hc; omega) (fun c hc => by have := hx c hc; omega) h hw).1 (by rw [e2, e1])
    exact absurd h7 hw0
/-! records one behind the other -/
def catS (seg : Nat) : Nat → List (List Nat) → List (List Nat)
  | _, [] => []
  | at', r :: rs => cutS seg at' r ++ catS seg (at' + need r.length) rs
def total : List (List Nat) → Nat
  | [] => 0
  | r :: rs => need r.length + total rs
theorem catS_len (seg : Nat) (rs : List (List Nat)) : ∀ at', (catS seg at' rs).length = total rs := by
  induction rs with
  | nil => intro at'; rfl
  | cons r rs ih => intro at'; simp only [catS, total, List.length_append, cutS_len, ih]
theorem catS_snoc (seg : Nat) (rs : List (List Nat)) (r : List Nat) : ∀ at', catS seg at' (rs ++ [r]) = catS seg at' rs ++ cutS seg (at' + total rs) r := by
  induction rs with
  | nil => intro at'; simp [catS, total]
  | cons q rs ih => intro at'; simp only [List.cons_append, catS, total, ih, List.append_assoc]; rw [show at' + need q.length + total rs = at' + (need q.length + total rs) by omega]
theorem total_snoc (rs : List (List Nat)) (r : List Nat) : total (rs ++ [r]) = total rs + need r.length := by
  induction rs with
  | nil => simp [total]
  | cons q rs ih => simp only [List.cons_append, total, ih]; omega
theorem total_take_le (rs : List (List Nat)) (a b : Nat) (h : a ≤ b) : total (rs.take a) ≤ total (rs.take b) := by
  induction rs generalizing a b with
  | nil => simp
  | cons r rs ih =>
    cases a with
    | zero => simp [total]
    | succ a =>
      cases b with
      | zero => omega
      | succ b => simp only [List.take_succ_cons, total]; have := ih a b (by omega); omega
theorem need_pos (n : Nat) : 0 < need n := by unfold need; omega
theorem scanS_nil (seg fuel at' : Nat) : scanS seg fuel [] at' = ([], 0) := by
  cases fuel with
  | zero => rfl
  | succ f => rfl
theorem scanS_cat (seg : Nat) (rs : List (List Nat)) (hr : ∀ r ∈ rs, r.length ≤ 7680) : ∀ at' fuel, at' + total rs ≤ 65536 → total rs < fuel → scanS seg fuel (catS seg at' rs) at' = (rs, total rs) := by
  induction rs with
  | nil => intro at' fuel _ _; exact scanS_nil _ _ _
  | cons r rs ih =>
    intro at' fuel ha hf
    cases fuel with
    | zero => omega
    | succ f =>
      have hn := need_pos r.length
      simp only [total] at ha hf
      unfold scanS
      simp only [catS]
      rw [recS_split seg at' r (hr r List.mem_cons_self) _ (by omega)]
      simp only
      rw [show (cutS seg at' r ++ catS seg (at' + need r.length) rs).drop (need r.length) = catS seg (at' + need r.length) rs by rw [← cutS_len seg at' r, List.drop_left]]
      rw [ih (fun x hx => hr x (List.mem_cons_of_mem _ hx)) _ f (by omega) (by omega)]
      rfl
theorem scan_cat (seg : Nat) (rs : List (List Nat)) (hr : ∀ r ∈ rs, r.length ≤ 7680) (ha : total rs ≤ 65536) : scan seg (catS seg 0 rs) = (rs, total rs) :=
  scanS_cat seg rs hr 0 _ (by omega) (by rw [catS_len]; omega)
/-- one sector turned to noughts -/
theorem scanS_hurt (seg : Nat) (z : List Nat) (hz : ∀ at', readS seg at' z = none) (rs : List (List Nat)) (hr : ∀ r ∈ rs, r.length ≤ 7680) : ∀ at' fuel k a, at' + total rs ≤ 65536 → total rs < fuel → a < rs.length → total (rs.take a) ≤ k → k < total (rs.take (a + 1)) → scanS seg fuel ((catS seg at' rs).set k z) at' = (rs.take a, total (rs.take a)) := by
  induction rs with
  | nil => intro at' fuel k a _ _ h; simp at h
  | cons r rs ih =>
    intro at' fuel k a ha hf hal h1 h2
    have hn := need_pos r.length
    simp only [total] at ha hf
    cases fuel with
    | zero => omega
    | succ f =>
      have hsplit := recS_split seg at' r (hr r List.mem_cons_self)
      cases a with
      | zero =>
        simp only [List.take_succ_cons, List.take_zero, total, Nat.add_zero] at h2
        have hkl : k < (cutS seg at' r).length := by rw [cutS_len]; exact h2
        have e : (catS seg at' (r :: rs)).set k z = (cutS seg at' r).take k ++ z :: ((cutS seg at' r).drop (k + 1) ++ catS seg (at' + need r.length) rs) := by
          simp only [catS]
          rw [List.set_append_left _ _ hkl, List.set_eq_take_append_cons_drop, if_pos hkl, List.append_assoc, List.cons_append]
        unfold scanS
        rw [e, recS_stop ((cutS seg at' r).take k) at' true [] r (need r.length) (Bt := (cutS seg at' r).drop k ++ []) (by rw [← List.append_assoc, List.take_append_drop]; exact hsplit [] (by omega)) (by rw [List.length_take]; omega) (hz _)]
        rfl
      | succ a =>
        simp only [List.take_succ_cons, total] at h1 h2 ⊢
        have e : (catS seg at' (r :: rs)).set k z = cutS seg at' r ++ (catS seg (at' + need r.length) rs).set (k - need r.length) z := by
          simp only [catS]
          rw [List.set_append_right _ _ (by rw [cutS_len]; omega), cutS_len]
        unfold scanS
        rw [e, hsplit _ (by omega)]
        simp only
        rw [show (cutS seg at' r ++ (catS seg (at' + need r.length) rs).set (k - need r.length) z).drop (need r.length) = (catS seg (at' + need r.length) rs).set (k - need r.length) z by rw [← cutS_len seg at' r, List.drop_left, cutS_len]]
        rw [ih (fun x hx => hr x (List.mem_cons_of_mem _ hx)) _ f (k - need r.length) a (by omega) (by omega) (by simpa using hal) (by omega) (by omega)]
theorem scan_hurt (seg k a : Nat) (rs : List (List Nat)) (hr : ∀ r ∈ rs, r.length ≤ 7680) (ht : total rs ≤ 65536) (ha : a < rs.length) (h1 : total (rs.take a) ≤ k) (h2 : k < total (rs.take (a + 1))) :
    scan seg ((catS seg 0 rs).set k (List.replicate 256 0)) = (rs.take a, total (rs.take a)) :=
  scanS_hurt seg _ (fun at' => readS_zeros seg at') rs hr 0 _ k a (by omega) (by rw [List.length_set, catS_len]; omega) ha h1 h2
/-- a whole record alone -/
theorem scan_one (seg : Nat) (r : List Nat) (hr : r.length ≤ 7680) : scan seg (cutS seg 0 r) = ([r], need r.length) := by
  have h := scan_cat seg [r] (by simpa using hr) (by simp only [total]; unfold need; omega)
  simpa [catS, total] using h
/-- one that begins with a sector that is none -/
theorem scan_bad {seg : Nat} {l : List (List Nat)} {s : List Nat} (h0 : l[0]? = some s) (h : readS seg 0 s = none) : scan seg l = ([], 0) := by
  cases l with
  | nil => cases h0
  | cons q l =>
    simp only [List.getElem?_cons_zero, Option.some.injEq] at h0
    subst h0
    unfold scan scanS recS
    rw [h]
/-- one with a sector that is none -/
theorem scan_broken (seg k : Nat) (r x : List Nat) (hr : r.length ≤ 7680) (hk : k < need r.length) (h : readS seg k x = none) : scan seg ((cutS seg 0 r).set k x) = ([], 0) := by
  have hkl : k < (cutS seg 0 r).length := by rw [cutS_len]; exact hk
  have hn : need r.length ≤ 65536 := by unfold need; omega
  unfold scan
  rw [List.length_set]
  unfold scanS
  rw [List.set_eq_take_append_cons_drop, if_pos hkl, recS_stop ((cutS seg 0 r).take k) 0 true [] r (need r.length) (Bt := (cutS seg 0 r).drop k ++ []) (by rw [← List.append_assoc, List.take_append_drop]; exact recS_split seg 0 r hr [] (by omega)) (by rw [List.length_take]; omega) (by rw [List.length_take, Nat.min_eq_left (by omega), Nat.zero_add]; exact h)]
/-- of another segment, or from another place -/
theorem scan_other (seg other k : Nat) (r : List Nat) (hs : seg < 4294967296) (ho : other < 4294967296) (hk : k < 65536) (hne : ¬ (seg = other ∧ k = 0)) : scan seg (cutS other k r) = ([], 0) := by
  refine scan_bad (s := sec (kindOf 0 (need r.length)) other (k + 0) (part r 0)) ?_ ?_
  · unfold cutS
    rw [List.getElem?_map, List.getElem?_range (need_pos _)]
    rfl
  · rw [Nat.add_zero]
    exact readS_other hs ho hk (by rw [part_len]; omega) (fun h => hne ⟨h.1, h.2.symm⟩)
end Go.Proofs.Ytlegdaoidjpokaa.Fr
namespace Go.Proofs.Ytlegdaoidjpokaa
set_option linter.unusedVariables false
set_option linter.unusedSimpArgs false
open Go.RowKit
open B2 (Only Row)
abbrev pt (b : Nat) : Value := .pointer (some ⟨b, 0, none⟩)
/-- a block of bytes -/
def Mem (w : World) (m : Nat) (T : TypeId) (L : List Nat) : Prop := w.heap[m]? = some (.cells (cellsOf L).toArray T (0, 0))
theorem Mem.lt {w : World} {m : Nat} {T : TypeId} {L : List Nat} (h : Mem w m T L) : m < w.heap.size := (Array.getElem?_eq_some_iff.1 h).1
theorem Mem.cell {w : World} {m : Nat} {T : TypeId} {L : List Nat} (h : Mem w m T L) (i : Nat) (hi : i < L.length) : w.cell? ⟨m, i, none⟩ = some (.int .u8 ((L[i] : Nat) : Int)) := by
  rw [cell_of_row _ _ _ _ _ _ h, List.getElem?_toArray]
  simp [cellsOf, hi]
theorem Mem.frozen {w : World} {m : Nat} {T : TypeId} {L : List Nat} (h : Mem w m T L) (i : Nat) : w.frozen? ⟨m, i, none⟩ = false := frozen_of_row _ _ _ _ _ h
theorem Mem.only {w w' : World} {m : Nat} {T : TypeId} {L : List Nat} (h : Mem w m T L) {S : List Nat} (ho : Only S w w') (hm : m ∉ S) : Mem w' m T L := (ho.block m h.lt hm).trans h
theorem Mem.below {w w' : World} {m : Nat} {T : TypeId} {L : List Nat} (h : Mem w m T L) (hb : Below w.heap.size w w') : Mem w' m T L := (hb.block m h.lt).trans h
theorem Mem.set {w : World} {m : Nat} {T : TypeId} {L : List Nat} (h : Mem w m T L) (i c : Nat) : Mem (w.setCell ⟨m, i, none⟩ (.int .u8 ((c : Nat) : Int))) m T (L.set i c) := by
  unfold Mem
  rw [heap_setCell_same _ _ _ _ _ _ h]
  congr 2
  simp [cellsOf, List.map_set]
theorem Mem.bys {w : World} {m : Nat} {T : TypeId} {L : List Nat} (h : Mem w m T L) (o : Nat) (bs : List Nat) (hb : ∀ i (hi : i < bs.length), L[o + i]? = some bs[i]) (h8 : ∀ c ∈ bs, c < 256) (hl : bs.length ≤ maxLen) : Bys w (some ⟨m, o, none⟩) bs :=
  ⟨hl, h8, fun _ => ⟨m, o, rfl, h.lt, fun i hi => by
    have h1 := hb i hi
    obtain ⟨h2, h3⟩ := List.getElem?_eq_some_iff.1 h1
    rw [h.cell (o + i) h2, h3]⟩⟩
theorem splice_snoc (L : List Nat) (o : Nat) (xs : List Nat) (c : Nat) (h : o + xs.length < L.length) : (splice L o xs).set (o + xs.length) c = splice L o (xs ++ [c]) := by
  have ht : (L.take o).length = o := by simp; omega
  unfold splice
  rw [List.drop_eq_getElem_cons h, List.set_append_right _ _ (by omega), ht, show o + xs.length - o = xs.length by omega, List.set_append_right _ _ (Nat.le_refl _), Nat.sub_self, List.set_cons_zero, List.append_assoc, List.singleton_append, List.length_append, List.length_singleton, ← Nat.add_assoc]
theorem splice_nil (L : List Nat) (o : Nat) : splice L o [] = L := by simp [splice]
theorem splice_len (L : List Nat) (o : Nat) (xs : List Nat) (h : o + xs.length ≤ L.length) : (splice L o xs).length = L.length := length_splice L o xs h
theorem cellsOf_splice (L : List Nat) (o : Nat) (xs : List Nat) : cellsOf (splice L o xs) = splice (cellsOf L) o (cellsOf xs) := by
  simp [cellsOf, splice, List.map_take, List.map_drop]
theorem le_get (k n i : Nat) (h : i < k) : (Fr.le k n)[i]? = some (n / 256 ^ i % 256) := by
  induction k generalizing n i with
  | zero => omega
  | succ k ih =>
    cases i with
    | zero => simp [Fr.le]
    | succ i =>
      rw [Fr.le, List.getElem?_cons_succ, ih (n / 256) i (by omega), Nat.div_div_eq_div_mul, Nat.pow_succ, Nat.mul_comm 256]
theorem le_take (k n i : Nat) (h : i < k) : (Fr.le k n).take (i + 1) = (Fr.le k n).take i ++ [n / 256 ^ i % 256] := by
  have hl : i < (Fr.le k n).length := by rw [Fr.le_len]; exact h
  rw [List.take_succ_eq_append_getElem hl]
  have := le_get k n i h
  rw [List.getElem?_eq_getElem hl] at this
  injection this with this
  rw [this]
set_option maxHeartbeats 2000000 in
set_option maxRecDepth 100000 in
theorem putnum_any (m T o k cap n : Nat) (L : List Nat) (hk : k ≤ 4) (ho : o + k ≤ L.length) (hL : L.length ≤ 1000000) (hn : n < 4294967296) (w : World) (H : Mem w m T L) :
    Calls Try.prog 66 #[.slice (some ⟨m, o, none⟩) k cap, .int .u32 n] w fun e w' => e = .returned (.tuple #[]) ∧ Mem w' m T (splice L o (Fr.le k n)) ∧ Only [m] w w' := by
  have HM : Hid (Mem w m T (splice L o ((Fr.le k n).take 0)) ∧ Only [m] w w) := Lib.hid ⟨by rw [List.take_zero, splice_nil]; exact H, Only.refl _ _⟩
  clear H
  go_enter Try.func66, Try.ntmps66
  go_wp2_with fail
  go_loopw [7] (fun i wr => ∃ j : Nat, j ≤ k ∧ i = .int .i64 j ∧ Hid (Mem wr m T (splice L o ((Fr.le k n).take j)) ∧ Only [m] w wr)) (fun i _ => k - (intOf i).toNat)
  case atStart => exact ⟨0, Nat.zero_le _, rfl, HM⟩
  case round =>
    clear HM
    obtain ⟨j, hj, rfl, HM⟩ := hrel
    by_cases hlt : j < k
    · have hd : decide ((j : Int) < (k : Int)) = true := by simp; omega
      have hd2 : decide (j < k) = true := by simp; omega
      have hl : ((Fr.le k n).take j).length = j := by rw [List.length_take, Fr.le_len]; omega
      have hol : o + j < (splice L o ((Fr.le k n).take j)).length := by rw [splice_len _ _ _ (by rw [hl]; omega)]; omega
      obtain ⟨cv, hc⟩ : ∃ cv : Int, wr.cell? ⟨m, o + j, none⟩ = some (.int .u8 cv) := ⟨_, HM.out.1.cell (o + j) hol⟩
      have hf := HM.out.1.frozen (o + j)
      have HN := Lib.hid (show Mem (wr.setCell ⟨m, o + j, none⟩ (.int .u8 ((n / 256 ^ j % 256 : Nat) : Int))) m T (splice L o ((Fr.le k n).take (j + 1))) ∧ Only [m] w (wr.setCell ⟨m, o + j, none⟩ (.int .u8 ((n / 256 ^ j % 256 : Nat) : Int))) from ⟨by
        have h1 := HM.out.1.set (o + j) (n / 256 ^ j % 256)
        have h2 := splice_snoc L o ((Fr.le k n).take j) (n / 256 ^ j % 256) (by rw [hl]; omega)
        rw [hl] at h2
        rw [h2, ← le_take k n j hlt] at h1
        exact h1, HM.out.2.setCell (.inl (by simp)) _⟩)
      have h4 : j = 0 ∨ j = 1 ∨ j = 2 ∨ j = 3 := by omega
      clear hl hol HM
      rcases h4 with rfl | rfl | rfl | rfl
      · try simp only [Nat.add_zero, Nat.zero_add] at *
        have he : ((n / 256 ^ 0 % 256 : Nat) : Int) = (n : Int) % 256 := by omega
        rw [he] at HN
        clear he
        go_wp2_with fail
        go_roundw
        case rel => exact ⟨1, by omega, rfl, HN⟩
        case measure => simp [intOf]; omega
      · try simp only [Nat.add_zero, Nat.zero_add] at *
        have he : ((n / 256 ^ 1 % 256 : Nat) : Int) = (n : Int) / 256 % 256 := by omega
        rw [he] at HN
        clear he
        go_wp2_with fail
        go_roundw
        case rel => exact ⟨2, by omega, rfl, HN⟩
        case measure => simp [intOf]; omega
      · try simp only [Nat.add_zero, Nat.zero_add] at *
        have he : ((n / 256 ^ 2 % 256 : Nat) : Int) = (n : Int) / 65536 % 256 := by omega
        rw [he] at HN
        clear he
        go_wp2_with fail
        go_roundw
        case rel => exact ⟨3, by omega, rfl, HN⟩
        case measure => simp [intOf]; omega
      · try simp only [Nat.add_zero, Nat.zero_add] at *
        have he : ((n / 256 ^ 3 % 256 : Nat) : Int) = (n : Int) / 16777216 := by omega
        rw [he] at HN
        clear he
        go_wp2_with fail
        go_roundw
        case rel => exact ⟨4, by omega, rfl, HN⟩
        case measure => simp [intOf]; omega
    · obtain rfl : j = k := by omega
      have hd : decide ((j : Int) < (j : Int)) = false := by simp
      have hlk : (Fr.le j n).take j = Fr.le j n := List.take_of_length_le (by rw [Fr.le_len]; omega)
      rw [hlk] at HM
      go_wp2_with fail
      refine bodyPost_end (results_none rfl _ _ _) rfl ?_
      exact ⟨rfl, HM.out.1, HM.out.2⟩
end Go.Proofs.Ytlegdaoidjpokaa
namespace Go.Proofs.Ytlegdaoidjpokaa
set_option linter.unusedVariables false
set_option linter.unusedSimpArgs false
open Go.RowKit
open B2 (Only Row)
def kd (b e : Bool) : Nat := if b = true ∧ e = true then 1 else if b = true then 2 else if e = true then 4 else 3
def pcV (b e : Bool) (v : Value) : Value := .agg #[.bool b, .bool e, v]
theorem kind_any (b e : Bool) (a : Option Addr) (n c : Nat) (w : World) : Calls Try.prog 65 #[pcV b e (.slice a n c)] w fun r w' => r = .returned (.int .u8 ((kd b e : Nat) : Int)) ∧ Below w.heap.size w w' := by
  have HA := Lib.hid ((Below.refl w.heap.size w).alloc (Nat.le_refl _) (.cells #[.bool b, .bool e, .slice a n c] 84))
  unfold pcV
  cases b <;> cases e <;>
  · go_enter Try.func65, Try.ntmps65
    go_wp2_with fail
    go_ret
    exact ⟨rfl, HA.out⟩
theorem needs_any (n : Nat) (hn : n ≤ 1000000) (w : World) : Calls Try.prog 24 #[.int .i64 n] w fun e w' => e = .returned (.int .i64 ((Fr.need n : Nat) : Int)) ∧ w' = w := by
  obtain ⟨p, hp⟩ : ∃ p : Nat, (n + 239) / 240 = p := ⟨_, rfl⟩
  obtain ⟨q, hq⟩ : ∃ q : Nat, n + 240 = q := ⟨_, rfl⟩
  obtain ⟨r, hr⟩ : ∃ r : Nat, n + 239 = r := ⟨_, rfl⟩
  obtain ⟨x, hx⟩ : ∃ x : Nat, Fr.need n = x := ⟨_, rfl⟩
  have h1 : (n : Int) + 240 = (q : Int) := by omega
  have h0 : (q : Int) - 1 = (r : Int) := by omega
  have h2 : Int.tdiv (r : Int) 240 = (p : Int) := by rw [Int.tdiv_eq_ediv_of_nonneg (by omega)]; omega
  have h3 : (r : Int) / 240 = (p : Int) := by omega
  have hm : (if (1 : Int) < (p : Int) then (p : Int) else 1) = (x : Int) := by subst hx; unfold Fr.need; split <;> omega
  have hm2 : (if (p : Int) ≤ 1 then (1 : Int) else (p : Int)) = (x : Int) := by subst hx; unfold Fr.need; split <;> omega
  have hp2 : p ≤ 1000000 := by omega
  rw [hx]
  clear hp hq hr hx
  go_enter Try.func24, Try.ntmps24
  go_wp2_with fail
  go_ret
  exact ⟨rfl, rfl⟩
theorem cut_some (m o i s n cap : Nat) (hn : n ≤ 1000000) (hi : i ≤ 1000) (hs : s ≤ 1000) (hs0 : 0 < s) (hf : i * s < n) (hc : n ≤ cap) (w : World) :
    Calls Try.prog 25 #[.slice (some ⟨m, o, none⟩) n cap, .int .i64 i, .int .i64 s] w fun e w' => e = .returned (.slice (some ⟨m, o + i * s, none⟩) (min (i * s + s) n - i * s) (min (i * s + s) n - i * s)) ∧ w' = w := by
  obtain ⟨f, hF⟩ : ∃ f, i * s = f := ⟨_, rfl⟩
  obtain ⟨u, hU⟩ : ∃ u, f + s = u := ⟨_, rfl⟩
  obtain ⟨t, hT⟩ : ∃ t, min u n = t := ⟨_, rfl⟩
  have h1 : (i : Int) * (s : Int) = (f : Int) := by rw [← hF]; simp
  have h2 : (f : Int) + (s : Int) = (u : Int) := by omega
  have hm : (if n < u then (n : Int) else (u : Int)) = (t : Int) := by subst hT; split <;> omega
  have hm2 : (if u ≤ n then (u : Int) else (n : Int)) = (t : Int) := by subst hT; split <;> omega
  rw [hF, hU, hT]
  rw [hF] at hf
  have ht1 : f ≤ t := by omega
  have ht3 : ¬ t = f := by omega
  have ht2 : t ≤ n := by omega
  clear hF hU hT
  go_enter Try.func25, Try.ntmps25
  go_wp2_with fail
  all_goals
    go_ret
    exact ⟨rfl, rfl⟩
theorem cut_nil (a : Option Addr) (cap : Nat) (hc : a = none → cap = 0) (w : World) :
    Calls Try.prog 25 #[.slice a 0 cap, .int .i64 0, .int .i64 240] w fun e w' => e = .returned (.slice a 0 0) ∧ w' = w := by
  cases a with
  | none =>
    obtain rfl := hc rfl
    clear hc
    go_enter Try.func25, Try.ntmps25
    go_wp2_with fail
    all_goals
      go_ret
      exact ⟨rfl, rfl⟩
  | some x =>
    clear hc
    go_enter Try.func25, Try.ntmps25
    go_wp2_with fail
    all_goals
      go_ret
      exact ⟨rfl, rfl⟩
end Go.Proofs.Ytlegdaoidjpokaa
namespace Go.Proofs.Ytlegdaoidjpokaa
set_option linter.unusedVariables false
set_option linter.unusedSimpArgs false
open Go.RowKit
open B2 (Only Row)
/-- what stands ahead, what is written of the sector, the zeros that are left of it, what stands behind -/
def zz (A Pre : List Nat) (n : Nat) (D : List Nat) : List Nat := A ++ (Pre ++ (List.replicate n 0 ++ D))
theorem zz_len (A Pre : List Nat) (n : Nat) (D : List Nat) : (zz A Pre n D).length = A.length + Pre.length + n + D.length := by simp [zz]; omega
theorem zz_splice (A Pre : List Nat) (n q : Nat) (D xs : List Nat) (hq : A.length + Pre.length = q) (hx : xs.length ≤ n) : splice (zz A Pre n D) q xs = zz A (Pre ++ xs) (n - xs.length) D := by
  subst hq
  have h1 : (zz A Pre n D).take (A.length + Pre.length) = A ++ Pre := by
    unfold zz
    rw [← List.append_assoc, List.take_left' (by simp)]
  have h2 : (zz A Pre n D).drop (A.length + Pre.length + xs.length) = List.replicate (n - xs.length) 0 ++ D := by
    unfold zz
    rw [← List.append_assoc, ← List.drop_drop, List.drop_left' (by simp), List.drop_append, List.drop_replicate, List.length_replicate, show xs.length - n = 0 by omega, List.drop_zero]
  unfold splice
  rw [h1, h2]
  simp [zz]
theorem zz_skip (A Pre : List Nat) (n : Nat) (D : List Nat) : zz A Pre (n + 1) D = zz A (Pre ++ [0]) n D := by
  simp [zz, List.replicate_succ]
theorem zz_zeros (A Pre : List Nat) (n k : Nat) (D : List Nat) (h : k ≤ n) : zz A Pre n D = zz A (Pre ++ List.replicate k 0) (n - k) D := by
  unfold zz
  have : List.replicate n 0 = List.replicate k 0 ++ List.replicate (n - k) 0 := by rw [List.replicate_append_replicate]; congr 1; omega
  rw [this]
  simp only [List.append_assoc]
theorem zz_get (A Pre : List Nat) (n q : Nat) (D : List Nat) (hq : A.length = q) (i : Nat) (hi : i < Pre.length) : (zz A Pre n D)[q + i]? = some Pre[i] := by
  subst hq
  unfold zz
  rw [List.getElem?_append_right (by omega), show A.length + i - A.length = i by omega, List.getElem?_append_left hi, List.getElem?_eq_getElem hi]
theorem putz_any (m T q k cap v n : Nat) (A Pre D : List Nat) (hq : A.length + Pre.length = q) (hk : k ≤ 4) (hkn : k ≤ n) (hL : (zz A Pre n D).length ≤ 1000000) (hv : v < 4294967296) (w : World) (H : Mem w m T (zz A Pre n D)) :
    Calls Try.prog 66 #[.slice (some ⟨m, q, none⟩) k cap, .int .u32 v] w fun e w' => e = .returned (.tuple #[]) ∧ Mem w' m T (zz A (Pre ++ Fr.le k v) (n - k) D) ∧ Only [m] w w' := by
  refine (putnum_any m T q k cap v _ hk (by rw [zz_len]; omega) hL hv w H).mono ?_
  rintro e w' ⟨rfl, h1, h2⟩
  rw [zz_splice A Pre n q D _ hq (by rw [Fr.le_len]; exact hkn), Fr.le_len] at h1
  exact ⟨rfl, h1, h2⟩
theorem only_setRow (w : World) (g : Nat) (cs : Array Value) : Only [g] w (w.setRow g cs) :=
  ⟨rfl, rfl, rfl, by simp [World.setRow], fun k hk hn => setRow_other w g k cs (by simpa using hn)⟩
theorem Mem.setRow {w : World} {m : Nat} {T : TypeId} {L : List Nat} (h : Mem w m T L) (o : Nat) (xs : List Nat) : Mem (w.setRow m ((cellsOf L).toArray.toList.take o ++ cellsOf xs ++ (cellsOf L).toArray.toList.drop (o + (cellsOf xs).length)).toArray) m T (splice L o xs) := by
  unfold Mem
  rw [setRow_heap w m _ _ T _ h, cellsOf_splice]
  unfold splice
  rw [List.append_assoc]
section
variable {P : Program}
/-- a copy of two letters into memory -/
theorem wpList_copy_two {w : World} {ops : Array Oper} {rest : List Oper} {o : Oper} {a : Act} {Q : Exit → Act → World → Prop} (hgd : o.guard = none) (d s : Operand) (dT sT : TypeId)
    (ho : o.op = .call { callee := .builtin .copy, args := #[d, s], argTypes := #[dT, sT] }) (elem : TypeId) (hu : P.underlying dT = some (.slice elem)) (hsz : (P.info? elem).map (·.size) = some 1)
    (m q dLen dCap x y : Nat) (T : TypeId) (L : List Nat) (hd : a.eval d = .slice (some ⟨m, q, none⟩) dLen dCap) (b : ByteArray) (hs : a.eval s = .string b) (hb : (b.data.map fun c => Value.int .u8 c.toNat) = (cellsOf [x, y]).toArray) (h2 : 2 ≤ dLen)
    (hg : Mem w m T L) (hfit : q + 2 ≤ L.length)
    (h : ∀ w', Hid (Mem w' m T (splice L q [x, y]) ∧ Only [m] w w') → wpList P ops Q rest (a.put o.dst (goInt 2)) w') : wpList P ops Q (o :: rest) a w := by
  refine wpList_plain hgd fun K hK => ?_
  have hsize : b.size = 2 := by
    have := congrArg Array.size hb
    simpa [cellsOf] using this
  have hst := run_storeCells_at P m q T (cellsOf [x, y]) 0 (cellsOf L).toArray w hg (by simp [cellsOf]; omega) (cellsOf_one _)
  have hex : b.extract 0 2 = b := by rw [← hsize]; exact ByteArray.extract_zero_size
  have hrun : (Builtin.copy_ #[dT, sT] o.type #[.slice (some ⟨m, q, none⟩) dLen dCap, .string b]).run P w = .ok (goInt 2) (w.setRow m ((cellsOf L).toArray.toList.take q ++ cellsOf [x, y] ++ (cellsOf L).toArray.toList.drop (q + (cellsOf [x, y]).length)).toArray) := by
    cases hq : P.info? elem with
    | none => simp [hq] at hsz
    | some i =>
      have hi : i.size = 1 := by simpa [hq] using hsz
      have hm : Nat.min b.size dLen = 2 := by rw [hsize]; exact Nat.min_eq_left h2
      simp only [Nat.add_zero] at hst
      have ht : (cellsOf [x, y]).take 2 = cellsOf [x, y] := rfl
      simp [Builtin.copy_, run_underlying hu, Builtin.lenOf, Builtin.firstCells, sizeOf, typeInfo, hq, hi, hm, hex, hb, ht, hst]
  unfold Oper.wp
  simp only [execOp, ho, resolve, invoke, builtin, List.map_cons]
  simp [hd, hs, hrun, Result.andThen]
  exact hK _ _ (h _ ⟨by simpa using hg.setRow q [x, y], only_setRow _ _ _⟩)
/-- a copy of bytes into memory, as one step of a region that draws its order -/
theorem step_copy_mem {ops : Array Oper} {o : Oper} {a : Act} {w : World} {K : Act → World → Prop} {Q : Exit → Act → World → Prop} {E : Prop} (hgd : o.guard = none) (d s : Operand) (dT sT : TypeId)
    (ho : o.op = .call { callee := .builtin .copy, args := #[d, s], argTypes := #[dT, sT] }) (elem : TypeId) (hu : P.underlying dT = some (.slice elem)) (hsz : (P.info? elem).map (·.size) = some 1)
    (m q dLen dCap sCap n : Nat) (sp : Option Addr) (T : TypeId) (L pc : List Nat) (hpn : pc.length = n) (hd : a.eval d = .slice (some ⟨m, q, none⟩) dLen dCap) (hs : a.eval s = .slice sp n sCap) (hB : Bys w sp pc) (hle : pc.length ≤ dLen)
    (hg : Mem w m T L) (hfit : q + pc.length ≤ L.length)
    (h : ∀ w', Hid (Mem w' m T (splice L q pc) ∧ Only [m] w w') → K (a.put o.dst (goInt n)) w') :
    if Region.wanted o (yielded ops a.tmps) = true then Oper.wp P o a w K Q else E := by
  subst hpn
  have hw : Region.wanted o (yielded ops a.tmps) = true := by simp [Region.wanted, hgd]
  rw [if_pos hw]
  by_cases h0 : pc = []
  · subst h0
    have hrun := run_copy_none (P := P) w dT sT o.type elem (some ⟨m, q, none⟩) sp dLen dCap 0 sCap hu hsz (by simp)
    unfold Oper.wp
    simp only [execOp, ho, resolve, invoke, builtin]
    simp [hd, hs, hrun, Result.andThen]
    exact h w ⟨by rw [splice_nil]; exact hg, Only.refl _ _⟩
  · obtain ⟨b, off, rfl, hlt, hc⟩ := hB.2.2 h0
    have hrun := run_copy_row (P := P) w dT sT o.type elem m q dLen dCap ⟨b, off, none⟩ pc.length sCap (cellsOf L).toArray T (cellsOf pc) hu hsz hg (by rw [cellsOf_length]; exact (Nat.min_eq_left hle).symm) (cellsOf_at hB) (by rw [cellsOf_length]; simpa [cellsOf] using hfit) (cellsOf_one _)
    unfold Oper.wp
    simp only [execOp, ho, resolve, invoke, builtin]
    simp [hd, hs, hrun, Result.andThen, cellsOf_length]
    exact h _ ⟨by simpa [cellsOf_length] using hg.setRow q pc, only_setRow _ _ _⟩
end
end Go.Proofs.Ytlegdaoidjpokaa
namespace Go.Proofs.Ytlegdaoidjpokaa
set_option linter.unusedVariables false
set_option linter.unusedSimpArgs false
open Go.RowKit
open B2 (Only Row)
theorem info5s : (Try.prog.info? 5).map (·.size) = some 1 := by kernel_rfl
theorem Bys.only {w w' : World} {a : Option Addr} {bs : List Nat} (h : Bys w a bs) {S : List Nat} (ho : Only S w w') (hn : ∀ x, a = some x → x.block ∉ S) : Bys w' a bs := by
  obtain ⟨h1, h2, h3⟩ := h
  refine ⟨h1, h2, fun hne => ?_⟩
  obtain ⟨b, off, ha, hlt, hc⟩ := h3 hne
  have hb : b ∉ S := hn _ ha
  exact ⟨b, off, ha, Nat.lt_of_lt_of_le hlt ho.size, fun i hi => (ho.cell (p := ⟨b, off + i, none⟩) hlt hb).trans (hc i hi)⟩
theorem Only_cell {S : List Nat} {w w' : World} (h : Only S w w') {b i : Nat} {v : Value} (hc : w.cell? ⟨b, i, none⟩ = some v) (hn : b ∉ S) : w'.cell? ⟨b, i, none⟩ = some v := (h.cell (p := ⟨b, i, none⟩) (World.block_lt_of_cell? _ _ hc) hn).trans hc
theorem cell_below {w w' : World} {p : Addr} {v : Value} (h : w.cell? p = some v) (hb : Below w.heap.size w w') : w'.cell? p = some v := (hb.cell (World.block_lt_of_cell? _ _ h)).trans h
theorem drew_below (w : World) : Below w.heap.size w w.drew := ⟨rfl, rfl, rfl, Nat.le_refl _, fun _ _ => rfl⟩
/-- all that a writing holds: the memory, the piece's box, the piece -/
structure Wri (w0 w : World) (m T p : Nat) (L : List Nat) (b e : Bool) (a : Option Addr) (pc : List Nat) (c : Nat) : Prop where
  mem : Mem w m T L
  b0 : w.cell? ⟨p, 0, none⟩ = some (.bool b)
  b1 : w.cell? ⟨p, 1, none⟩ = some (.bool e)
  b2 : w.cell? ⟨p, 2, none⟩ = some (.slice a pc.length c)
  bys : Bys w a pc
  only : Only [m] w0 w
  apart : m ≠ p ∧ ((∀ x, a = some x → x.block ≠ m) ∨ pc = [])
  lt : m < w0.heap.size
theorem Wri.below {w0 w w' : World} {m T p : Nat} {L : List Nat} {b e : Bool} {a : Option Addr} {pc : List Nat} {c : Nat} (h : Wri w0 w m T p L b e a pc c) (hb : Below w.heap.size w w') : Wri w0 w' m T p L b e a pc c :=
  ⟨h.mem.below hb, cell_below h.b0 hb, cell_below h.b1 hb, cell_below h.b2 hb, h.bys.below hb, h.only.trans (Only.of_below hb []) (by simp), h.apart, h.lt⟩
theorem Wri.put {w0 w w' : World} {m T p : Nat} {L L' : List Nat} {b e : Bool} {a : Option Addr} {pc : List Nat} {c : Nat} (h : Wri w0 w m T p L b e a pc c) (hm : Mem w' m T L') (ho : Only [m] w w') : Wri w0 w' m T p L' b e a pc c :=
  ⟨hm, Only_cell ho h.b0 (by have := h.apart.1; simp; omega), Only_cell ho h.b1 (by have := h.apart.1; simp; omega), Only_cell ho h.b2 (by have := h.apart.1; simp; omega), (by rcases h.apart.2 with h1 | h1; exact h.bys.only ho (fun x hx => by have := h1 x hx; simpa using this); subst h1; exact nil_bytes _ _), h.only.trans ho (fun x hx => .inl hx), h.apart, h.lt⟩
theorem Wri.start {w : World} {m T : Nat} {L : List Nat} {b e : Bool} {a : Option Addr} {pc : List Nat} {c : Nat} (hm : Mem w m T L) (hB : Bys w a pc) (ha : (∀ x, a = some x → x.block ≠ m) ∨ pc = []) :
    Wri w (w.alloc (.cells #[.bool b, .bool e, .slice a pc.length c] 84)) m T w.heap.size L b e a pc c := by
  have hA := (Below.refl w.heap.size w).alloc (Nat.le_refl _) (.cells #[.bool b, .bool e, .slice a pc.length c] 84)
  have hb := heap_alloc_new w (.cells #[.bool b, .bool e, .slice a pc.length c] 84)
  have hl := hm.lt
  exact ⟨hm.below hA, (cell_of_row _ _ 0 _ _ _ hb).trans rfl, (cell_of_row _ _ 1 _ _ _ hb).trans rfl, (cell_of_row _ _ 2 _ _ _ hb).trans rfl, hB.below hA, Only.of_below hA _, ⟨by omega, ha⟩, hl⟩
theorem two_letters : ((⟨#[66, 76]⟩ : ByteArray).data.map fun c => Value.int .u8 c.toNat) = (cellsOf [66, 76]).toArray := by kernel_rfl
theorem zz_set (A Pre D : List Nat) (n q c : Nat) (hq : A.length + Pre.length = q) : (zz A Pre (n + 1) D).set q c = zz A (Pre ++ [c]) n D := by
  have h := splice_snoc (zz A Pre (n + 1) D) q [] c (by rw [zz_len]; simp; omega)
  rw [splice_nil] at h
  simp only [List.length_nil, Nat.add_zero, List.nil_append] at h
  rw [h, zz_splice A Pre (n + 1) q D [c] hq (by simp)]
  rfl
theorem sum_bys (m q : Nat) (T : TypeId) (A Pre D : List Nat) (n : Nat) (w : World) (hM : Mem w m T (zz A Pre n D)) (hq : A.length = q) (h8 : ∀ c ∈ Pre, c < 256) (hl : Pre.length = 252) : Bys w (some ⟨m, q, none⟩) Pre :=
  hM.bys q Pre (fun i hi => zz_get A Pre n q D hq i hi) h8 (by rw [hl]; decide)
theorem sum_n (a : Option Addr) (bs : List Nat) (n cap : Nat) (hn : bs.length = n) (w : World) (H : Bys w a bs) : Calls Try.prog 67 #[.slice a n cap] w fun e w' => e = .returned (.int .u32 ((Crc.More 0 bs : Nat) : Int)) ∧ Below w.heap.size w w' := by
  subst hn
  exact sum_any a bs cap w H
set_option maxHeartbeats 8000000 in
set_option maxRecDepth 100000 in
theorem write_any (b e : Bool) (a : Option Addr) (pc : List Nat) (c m T o seg num : Nat) (A D : List Nat) (hA : A.length = o) (hL : A.length + D.length ≤ 100000) (hp : pc.length ≤ 240) (hs : seg < 4294967296) (hn : num ≤ 65535) (w : World) (hM : Mem w m T (A ++ (List.replicate 256 0 ++ D))) (hB : Bys w a pc) (ha : (∀ x, a = some x → x.block ≠ m) ∨ pc = []) :
    Calls Try.prog 26 #[pcV b e (.slice a pc.length c), .slice (some ⟨m, o, none⟩) 256 256, .int .u32 seg, .int .i64 num] w fun r w' => r = .returned (.tuple #[]) ∧ Mem w' m T (A ++ (Fr.sec (kd b e) seg num pc ++ D)) ∧ Only [m] w w' := by
  have h8 := hB.2.1
  have hpn : pc.length ≤ maxLen := hB.1
  have W0 := Lib.hid (Wri.start (b := b) (e := e) (c := c) (L := zz A [] 256 D) hM hB ha)
  have HKD := Lib.hid (show kd b e < 256 by unfold kd; split <;> (try split) <;> (try split) <;> omega)
  have CK := Lib.hid (fun w => kind_any b e a pc.length c w)
  obtain ⟨K, hK⟩ : ∃ K, kd b e = K := ⟨_, rfl⟩
  rw [hK] at HKD CK ⊢
  obtain ⟨pn, hpl⟩ : ∃ pn, pc.length = pn := ⟨_, rfl⟩
  unfold pcV at CK ⊢
  have hnum : IntKind.u32.wrap (num : Int) = (num : Int) := by rw [IntKind.wrap_u32]; omega
  have hpw : IntKind.u32.wrap (pn : Int) = (pn : Int) := by rw [IntKind.wrap_u32]; omega
  have HPN := Lib.hid (And.intro hpl (And.intro hp hpn))
  have HH8 := Lib.hid h8
  have HHA := Lib.hid (And.intro hA hL)
  have hpn2 : pn ≤ 240 := by omega
  have hn2 : num < 4294967296 := by omega
  rw [hpl] at CK ⊢
  rw [hpl] at W0
  clear hM hB ha hK h8 hpn hp hpl hA hL
  go_enter Try.func26, Try.ntmps26
  go_upto_region 1 with (fail)
  obtain ⟨p, hpb⟩ : ∃ p, w.heap.size = p := ⟨_, rfl⟩
  generalize w.alloc (.cells #[.bool b, .bool e, .slice a pn c] 84) = W1 at *
  rw [hpb] at W0 ⊢
  clear hpb
  go_wp2_with (first | (refine wpList_copy_two rfl (.tmp 8) (.const (.string ⟨#[66, 76]⟩)) 23 9 rfl 5 Try.underlying23 info5s m o 256 256 66 76 T (zz A [] 256 D) rfl ⟨#[66, 76]⟩ rfl two_letters (by decide) W0.out.mem (by rw [zz_len, HHA.out.1]; omega) ?_; intro W2 HC; have H2 := Lib.hid (W0.out.put (L' := zz A [66, 76] 254 D) (by have := HC.out.1; rwa [zz_splice A [] 256 o D [66, 76] (by simp [HHA.out.1]) (by decide)] at this) HC.out.2); have c0 := H2.out.b0; have c1 := H2.out.b1; have c2 := H2.out.b2; rw [HPN.out.1] at c2) | (go_at_call 65; refine (CK.out _).mono ?_; rintro e' W3 ⟨rfl, hb⟩; have H3 := Lib.hid (H2.out.below hb); have hlt : o + 2 < (zz A [66, 76] 254 D).length := (by rw [zz_len, HHA.out.1]; show o + 2 < o + 2 + 254 + D.length; omega); obtain ⟨cv, hcell⟩ : ∃ cv : Int, W3.cell? ⟨m, o + 2, none⟩ = some (.int .u8 cv) := ⟨_, H3.out.mem.cell (o + 2) hlt⟩; have hfz := H3.out.mem.frozen (o + 2)))
  have hm4 : Mem (W3.setCell ⟨m, o + 2, none⟩ (.int .u8 ((K : Nat) : Int))) m T (zz A [66, 76, K, 0] 252 D) := by
    have h := H3.out.mem.set (o + 2) K
    rw [zz_set A [66, 76] D 253 (o + 2) K (by rw [HHA.out.1]; rfl)] at h
    have e := zz_skip A [66, 76, K] 252 D
    exact e ▸ h
  have H4 := Lib.hid (H3.out.put hm4 ((Only.refl [m] W3).setCell (p := ⟨m, o + 2, none⟩) (.inl (by simp)) (.int .u8 ((K : Nat) : Int))))
  clear hm4
  generalize W3.setCell ⟨m, o + 2, none⟩ (.int .u8 ((K : Nat) : Int)) = W4 at H4 ⊢
  clear hcell hfz hlt H2 c0 c1 c2 hb H3 W0 HC CK
  go_at_call 66
  refine (putz_any m T (o + 4) 4 252 seg 252 A [66, 76, K, 0] D (by rw [HHA.out.1]; rfl) (by decide) (by decide) (by rw [zz_len]; have := HHA.out.2; simp; omega) hs _ H4.out.mem).mono ?_
  rintro e' W5 ⟨rfl, hm, ho⟩
  have H5 := Lib.hid (H4.out.put hm ho)
  clear hm ho H4
  obtain ⟨P5, hP5⟩ : ∃ P5, [66, 76, K, 0] ++ Fr.le 4 seg = P5 := ⟨_, rfl⟩
  rw [hP5] at H5
  have HP5 := Lib.hid hP5
  have hl5 : P5.length = 8 := by rw [← hP5, List.length_append, Fr.le_len]; rfl
  clear hP5
  go_wp2_with fail
  go_at_call 66
  refine (putz_any m T (o + 8) 2 248 num 248 A P5 D (by rw [HHA.out.1, hl5]) (by decide) (by decide) (by rw [zz_len, hl5]; have := HHA.out.2; omega) hn2 _ H5.out.mem).mono ?_
  rintro e' W6 ⟨rfl, hm, ho⟩
  have H6 := Lib.hid (H5.out.put hm ho)
  clear hm ho H5
  obtain ⟨P6, hP6⟩ : ∃ P6, P5 ++ Fr.le 2 num = P6 := ⟨_, rfl⟩
  rw [hP6] at H6
  have HP6 := Lib.hid hP6
  have hl6 : P6.length = 10 := by rw [← hP6, List.length_append, Fr.le_len, hl5]
  clear hP6
  have c2 := H6.out.b2
  rw [HPN.out.1] at c2
  go_upto_region 5 with (fail)
  go_still_tail 6, (by kernel_rfl)
  change wpList _ _ _ _ _ (World.drew _)
  have H6d := Lib.hid (H6.out.below (drew_below W6))
  change Hid (Wri w (World.drew W6) m T p _ b e a pc c) at H6d
  generalize World.drew W6 = W7 at H6d ⊢
  clear c2 H6
  go_wp2_with fail
  go_at_call 66
  refine (putz_any m T (o + 10) 2 246 pn 246 A P6 D (by rw [HHA.out.1, hl6]) (by decide) (by decide) (by rw [zz_len, hl6]; have := HHA.out.2; omega) (by omega) _ H6d.out.mem).mono ?_
  rintro e' W8 ⟨rfl, hm, ho⟩
  have H8 := Lib.hid (H6d.out.put hm ho)
  clear hm ho H6d
  obtain ⟨P8, hP8⟩ : ∃ P8, P6 ++ Fr.le 2 pn = P8 := ⟨_, rfl⟩
  rw [hP8] at H8
  have HP8 := Lib.hid hP8
  have hl8 : P8.length = 12 := by rw [← hP8, List.length_append, Fr.le_len, hl6]
  clear hP8
  have H8d := Lib.hid (H8.out.below (drew_below W8))
  have c2 := H8d.out.b2
  rw [HPN.out.1] at c2
  go_upto_region 6 with (fail)
  go_region_law (refine step_copy_mem rfl (.tmp 31) (.tmp 33) 23 23 rfl 5 Try.underlying23 info5s m (o + 12) 244 244 c pn a T (zz A P8 244 D) pc HPN.out.1 rfl rfl H8d.out.bys (by rw [HPN.out.1]; omega) H8d.out.mem (by rw [zz_len, hl8, HHA.out.1, HPN.out.1]; omega) ?_; intro W9 HC)
  have hdata : (P8 ++ pc) ++ List.replicate (240 - pn) 0 = Fr.data K seg num pc := by
    rw [← HP8.out, ← HP6.out, ← HP5.out]
    unfold Fr.data Fr.head
    rw [HPN.out.1]
    simp only [List.append_assoc]
  have hm9 : Mem W9 m T (zz A (Fr.data K seg num pc) 4 D) := by
    have h := HC.out.1
    rw [zz_splice A P8 244 (o + 12) D pc (by rw [HHA.out.1, hl8]) (by rw [HPN.out.1]; omega), HPN.out.1, zz_zeros A (P8 ++ pc) (244 - pn) (240 - pn) D (by omega), hdata, show 244 - pn - (240 - pn) = 4 by omega] at h
    exact h
  have H9 := Lib.hid (H8d.out.put hm9 HC.out.2)
  have hld : (Fr.data K seg num pc).length = 252 := Fr.data_len _ _ _ _ HPN.out.2.1
  have HD8 := Lib.hid (Fr.data_lt K seg num pc HKD.out HH8.out)
  have HSEC := Lib.hid (show Fr.sec K seg num pc = Fr.data K seg num pc ++ Fr.le 4 (Crc.More 0 (Fr.data K seg num pc)) from rfl)
  have HML := Lib.hid (Crc.More_lt 0 (Fr.data K seg num pc))
  obtain ⟨DT, hDT⟩ : ∃ DT, Fr.data K seg num pc = DT := ⟨_, rfl⟩
  rw [hDT] at H9 hld HD8 HSEC HML
  obtain ⟨SM, hSM⟩ : ∃ SM, Crc.More 0 DT = SM := ⟨_, rfl⟩
  have CS := Lib.hid (fun W (h : Wri w W m T p (zz A DT 4 D) b e a pc c) => sum_n (some ⟨m, o, none⟩) DT 252 256 hld W (sum_bys m o T A DT D 4 W h.mem HHA.out.1 HD8.out hld))
  rw [hSM] at CS HSEC HML
  have CP := Lib.hid (fun W (h : Wri w W m T p (zz A DT 4 D) b e a pc c) => putz_any m T (o + 252) 4 4 SM 4 A DT D (by rw [HHA.out.1, hld]) (by decide) (by decide) (by rw [zz_len, hld]; have := HHA.out.2; omega) HML.out W h.mem)
  have H9d := Lib.hid (H9.out.below (drew_below W9))
  clear hm9 HC H8d c2 H8 hdata hDT hSM HP5 HP6 HP8 hl5 hl6 hl8 H9 hld HD8
  go_wp2_with fail
  go_region_held3 (fun w' => True) (trivial)
    ((first | (go_at_call 67; refine (CS.out _ H9d.out).mono ?_; rintro e' W10 ⟨rfl, hb⟩; have H10 := Lib.hid (H9d.out.below hb); clear hb) | (go_at_call 66; refine (CP.out _ H10.out).mono ?_; rintro e' W11 ⟨rfl, hm, ho⟩; have H11 := Lib.hid (H10.out.put hm ho); clear hm ho)))
  refine bodyPost_end (results_none rfl _ _ _) rfl ⟨rfl, ?_, H11.out.only⟩
  have h := H11.out.mem
  rw [← HSEC.out] at h
  exact h
end Go.Proofs.Ytlegdaoidjpokaa
namespace Go.Proofs.Ytlegdaoidjpokaa
set_option linter.unusedVariables false
set_option linter.unusedSimpArgs false
open Go.RowKit
open B2 (Only Row)
theorem made_rep (z : Value) (n : Nat) : madeCells #[z] n = (List.replicate n z).toArray := by
  apply Array.ext_getElem?
  intro i
  by_cases hi : i < n
  · simp [madeCells, hi, Nat.mod_one, List.getElem?_replicate]
  · rw [Array.getElem?_eq_none (by simp [madeCells]; omega), Array.getElem?_eq_none (by simp; omega)]
theorem make_bytes (n : Nat) (hn : n ≤ 1000000) (W : World) : (Instr.makeSlice 23 (.int .i64 (n : Int)) (.int .i64 (n : Int))).run Try.prog W = .ok (.slice (some ⟨W.heap.size, 0, none⟩) n n) (W.alloc (.cells (cellsOf (List.replicate n 0)).toArray 5)) := by
  have h := run_make_row' (P := Try.prog) 23 5 (.int .u8 0) 1 Try.underlying23 info5 rfl .i64 .i64 n (by omega) (by omega) W
  rw [made_rep] at h
  have e : List.replicate n (Value.int .u8 0) = cellsOf (List.replicate n 0) := by simp [cellsOf]
  rw [e] at h
  exact h
theorem info23 : (Try.prog.info? 23).map (fun i => (i.zero, i.size, i.bytes)) = some (some (.slice none 0 0), 1, 24) := by kernel_rfl
/-- the sectors' slices, the first k of them laid -/
def secs (m n k : Nat) : List Value := (List.range n).map fun i => if i < k then .slice (some ⟨m, i * 256, none⟩) 256 256 else .slice none 0 0
theorem secs_len (m n k : Nat) : (secs m n k).length = n := by simp [secs]
theorem secs_zero (m n : Nat) : secs m n 0 = List.replicate n (.slice none 0 0) := by
  apply List.ext_getElem?
  intro i
  by_cases hi : i < n
  · simp [secs, hi]
  · rw [List.getElem?_eq_none (by rw [secs_len]; omega), List.getElem?_eq_none (by simp; omega)]
theorem secs_get (m n k i : Nat) (hi : i < n) : (secs m n k)[i]? = some (if i < k then .slice (some ⟨m, i * 256, none⟩) 256 256 else .slice none 0 0) := by
  simp [secs, hi]
theorem secs_set (m n k : Nat) (hk : k < n) : (secs m n k).set k (.slice (some ⟨m, k * 256, none⟩) 256 256) = secs m n (k + 1) := by
  apply List.ext_getElem?
  intro i
  rw [List.getElem?_set, secs_len]
  by_cases hi : i < n
  · rw [secs_get _ _ _ _ hi, secs_get _ _ _ _ hi]
    by_cases e : k = i
    · subst e; rw [if_pos rfl, if_pos hk, if_pos (by omega)]
    · rw [if_neg e]
      by_cases e2 : i < k
      · rw [if_pos e2, if_pos (by omega)]
      · rw [if_neg e2, if_neg (by omega)]
  · rw [if_neg (by omega), List.getElem?_eq_none (by rw [secs_len]; omega), List.getElem?_eq_none (by rw [secs_len]; omega)]
theorem make_secs (m n : Nat) (hn : n ≤ 1000000) (W : World) : (Instr.makeSlice 25 (.int .i64 (n : Int)) (.int .i64 (n : Int))).run Try.prog W = .ok (.slice (some ⟨W.heap.size, 0, none⟩) n n) (W.alloc (.cells (secs m n 0).toArray 23)) := by
  have h := run_make_row' (P := Try.prog) 25 23 (.slice none 0 0) 24 Try.underlying25 info23 rfl .i64 .i64 n (by omega) (by omega) W
  rw [made_rep, ← secs_zero m n] at h
  exact h
/-- a record's piece -/
theorem cutp_any (a : Option Addr) (bs : List Nat) (cap k : Nat) (hc : bs.length ≤ cap) (hc0 : a = none → cap = 0) (hl : bs.length ≤ 7680) (hk : k < Fr.need bs.length) (w : World) (H : Bys w a bs) :
    Calls Try.prog 25 #[.slice a bs.length cap, .int .i64 k, .int .i64 240] w fun e w' => ∃ a', e = .returned (.slice a' (Fr.part bs k).length (Fr.part bs k).length) ∧ w' = w ∧ (∀ W, Bys W a bs → Bys W a' (Fr.part bs k)) ∧ ∀ x, a' = some x → ∃ y, a = some y ∧ x.block = y.block := by
  by_cases h0 : bs = []
  · subst h0
    have hk0 : k = 0 := by simp [Fr.need] at hk; exact hk
    subst hk0
    refine (cut_nil a cap hc0 w).mono ?_
    rintro e w' ⟨rfl, rfl⟩
    exact ⟨a, rfl, rfl, fun W h => h, fun x hx => ⟨x, hx, rfl⟩⟩
  · obtain ⟨b, off, rfl, hb, hcell⟩ := H.2.2 h0
    have hpos : 0 < bs.length := List.length_pos_iff.2 h0
    have hlt : k * 240 < bs.length := by unfold Fr.need at hk; omega
    have hpl : (Fr.part bs k).length = min (k * 240 + 240) bs.length - k * 240 := by rw [Fr.part_len]; omega
    have hk32 : k < 32 := by unfold Fr.need at hk; omega
    refine (cut_some b off k 240 bs.length cap (by omega) (by omega) (by omega) (by omega) hlt hc w).mono ?_
    rintro e w' ⟨rfl, rfl⟩
    rw [← hpl]
    refine ⟨_, rfl, rfl, fun W h => ?_, fun x hx => by injection hx with hx; subst hx; exact ⟨_, rfl, rfl⟩⟩
    obtain ⟨h1, h2, h3⟩ := h
    refine ⟨by rw [hpl]; omega, fun c hc => h2 c (List.mem_of_mem_drop (List.mem_of_mem_take hc)), fun hn => ?_⟩
    obtain ⟨b', off', e, h4, h5⟩ := h3 h0
    cases e
    refine ⟨b, off + k * 240, rfl, h4, fun i hi => ?_⟩
    have hg : (Fr.part bs k)[i] = bs[k * 240 + i]'(by rw [hpl] at hi; omega) := by simp [Fr.part]
    rw [hg, show off + k * 240 + i = off + (k * 240 + i) by omega, h5 (k * 240 + i) (by rw [hpl] at hi; omega)]
/-- what Split holds while it goes on -/
structure Sp (w0 w : World) (m h n k : Nat) (S : List (List Nat)) (a : Option Addr) (bs : List Nat) : Prop where
  mem : Mem w m 5 ((S.take k).flatten ++ List.replicate ((n - k) * 256) 0)
  row : w.heap[h]? = some (.cells (secs m n k).toArray 23 (0, 0))
  bys : Bys w a bs
  below : Below w0.heap.size w0 w
  place : m = w0.heap.size ∧ h = w0.heap.size + 1
  len : ∀ s ∈ S, s.length = 256
  old : ∀ x, a = some x → x.block < w0.heap.size ∨ bs = []
theorem Sp.below' {w0 w w' : World} {m h n k : Nat} {S : List (List Nat)} {a : Option Addr} {bs : List Nat} (H : Sp w0 w m h n k S a bs) (hb : Below w.heap.size w w') : Sp w0 w' m h n k S a bs :=
  ⟨H.mem.below hb, (hb.block _ (Array.getElem?_eq_some_iff.1 H.row).1).trans H.row, H.bys.below hb, H.below.trans (hb.mono H.below.size), H.place, H.len, H.old⟩
theorem flat_len (S : List (List Nat)) (hS : ∀ s ∈ S, s.length = 256) (k : Nat) (hk : k ≤ S.length) : (S.take k).flatten.length = k * 256 := by
  induction k with
  | zero => simp
  | succ k ih =>
    rw [List.take_succ_eq_append_getElem (by omega), List.flatten_append, List.length_append, ih (by omega)]
    simp [hS _ (List.getElem_mem (show k < S.length by omega))]
    omega
theorem Sp.open {w0 w : World} {m h n k : Nat} {S : List (List Nat)} {a : Option Addr} {bs : List Nat} (H : Sp w0 w m h n k S a bs) (hk : k < n) : Mem w m 5 ((S.take k).flatten ++ (List.replicate 256 0 ++ List.replicate ((n - (k + 1)) * 256) 0)) := by
  have h1 := H.mem
  have e : List.replicate ((n - k) * 256) 0 = List.replicate 256 0 ++ List.replicate ((n - (k + 1)) * 256) 0 := by
    rw [List.replicate_append_replicate]; congr 1; omega
  rw [e] at h1
  exact h1
theorem Sp.cell {w0 w : World} {m h n k : Nat} {S : List (List Nat)} {a : Option Addr} {bs : List Nat} (H : Sp w0 w m h n k S a bs) (hk : k < n) : w.cell? ⟨h, k, none⟩ = some (.slice none 0 0) ∧ w.frozen? ⟨h, k, none⟩ = false := by
  refine ⟨?_, frozen_of_row _ _ _ _ _ H.row⟩
  rw [cell_of_row _ _ _ _ _ _ H.row, List.getElem?_toArray, secs_get _ _ _ _ hk, if_neg (by omega)]
/-- the slot of the k-th sector is laid -/
theorem Sp.laid {w0 w : World} {m h n k : Nat} {S : List (List Nat)} {a : Option Addr} {bs : List Nat} (H : Sp w0 w m h n k S a bs) (hk : k < n) :
    (w.setCell ⟨h, k, none⟩ (.slice (some ⟨m, k * 256, none⟩) 256 256)).heap[h]? = some (.cells (secs m n (k + 1)).toArray 23 (0, 0)) ∧ Only [h] w (w.setCell ⟨h, k, none⟩ (.slice (some ⟨m, k * 256, none⟩) 256 256)) := by
  refine ⟨?_, (Only.refl [h] w).setCell (p := ⟨h, k, none⟩) (.inl (by simp)) _⟩
  rw [heap_setCell_same _ _ _ _ _ _ H.row, ← secs_set m n k hk]
  simp
/-- the k-th sector is written -/
theorem Sp.next {w0 w w1 w2 : World} {m h n k : Nat} {S : List (List Nat)} {a : Option Addr} {bs s : List Nat} (H : Sp w0 w m h n k S a bs) (hk : k < n) (hr : w1.heap[h]? = some (.cells (secs m n (k + 1)).toArray 23 (0, 0))) (ho1 : Only [h] w w1) (hs : S[k]? = some s) (hm : Mem w2 m 5 ((S.take k).flatten ++ (s ++ List.replicate ((n - (k + 1)) * 256) 0))) (ho2 : Only [m] w1 w2) : Sp w0 w2 m h n (k + 1) S a bs := by
  obtain ⟨p1, p2⟩ := H.place
  have hz := H.below.size
  obtain ⟨hkl, hks⟩ := List.getElem?_eq_some_iff.1 hs
  have hle := (Array.getElem?_eq_some_iff.1 H.row).1
  have hz1 := ho1.size
  refine ⟨?_, (ho2.block h (by omega) (by simp; omega)).trans hr, ?_, (H.below.trans (ho1.below hz (by simp; omega))).trans (ho2.below (by omega) (by simp; omega)), H.place, H.len, H.old⟩
  · rw [List.take_succ_eq_append_getElem hkl, hks, List.flatten_append, List.append_assoc]
    simpa using hm
  · by_cases hb : bs = []
    · subst hb; exact nil_bytes _ _
    · refine (H.bys.only ho1 fun x hx => ?_).only ho2 fun x hx => ?_
      · rcases H.old x hx with h1 | h1
        · simp; omega
        · exact absurd h1 hb
      · rcases H.old x hx with h1 | h1
        · simp; omega
        · exact absurd h1 hb
end Go.Proofs.Ytlegdaoidjpokaa
namespace Go.Proofs.Ytlegdaoidjpokaa
set_option linter.unusedVariables false
set_option linter.unusedSimpArgs false
open Go.RowKit
open B2 (Only Row)
theorem kd_kind (k n : Nat) (hk : k < n) (b1 b2 : Bool) (h1 : ((k : Int) == 0) = b1) (h2 : ((k : Int) == ((n - 1 : Nat) : Int)) = b2) : kd b1 b2 = Fr.kindOf k n := by
  subst h1 h2
  unfold kd Fr.kindOf
  by_cases e1 : n = 1
  · have : k = 0 := by omega
    subst this; subst e1
    simp
  · by_cases e2 : k = 0
    · subst e2
      have : ¬ (((0 : Nat) : Int) == ((n - 1 : Nat) : Int)) = true := by simp; omega
      simp [this, e1]
      omega
    · have h3 : ¬ ((k : Int) == 0) = true := by simp; omega
      by_cases e3 : k + 1 = n
      · have h4 : ((k : Int) == ((n - 1 : Nat) : Int)) = true := by simp; omega
        simp [h3, h4, e1, e2, e3]
      · have h4 : ¬ ((k : Int) == ((n - 1 : Nat) : Int)) = true := by simp; omega
        simp [h3, h4, e1, e2, e3]
def SplitOk (w : World) (S : List (List Nat)) (e : Ending) (w' : World) : Prop :=
  e = .returned (.tuple #[.slice (some ⟨w.heap.size + 1, 0, none⟩) S.length S.length, .int .u16 0]) ∧ w'.heap[w.heap.size + 1]? = some (.cells (secs w.heap.size S.length S.length).toArray 23 (0, 0)) ∧ Mem w' w.heap.size 5 S.flatten ∧ Below w.heap.size w w'
set_option maxHeartbeats 8000000 in
set_option maxRecDepth 100000 in
theorem split_ok (a : Option Addr) (bs : List Nat) (cap seg t : Nat) (hc : bs.length ≤ cap) (hc0 : a = none → cap = 0) (hl : bs.length ≤ 7680) (hs : seg < 4294967296) (ht : t + Fr.need bs.length ≤ 32) (w : World) (H : Bys w a bs) (hold : ∀ x, a = some x → x.block < w.heap.size ∨ bs = []) :
    Calls Try.prog 9 #[.int .u32 seg, .int .i64 t, .slice a bs.length cap] w (SplitOk w (Fr.cutS seg t bs)) := by
  have hSl := Fr.cutS_len seg t bs
  have hSe : ∀ s ∈ Fr.cutS seg t bs, s.length = 256 := by
    intro s hm
    unfold Fr.cutS at hm
    obtain ⟨i, _, rfl⟩ := List.mem_map.1 hm
    exact Fr.sec_len _ _ _ _ (by rw [Fr.part_len]; omega)
  have CC := Lib.hid (fun k hk W h => cutp_any a bs cap k hc hc0 hl hk W h)
  have hnp := Fr.need_pos bs.length
  obtain ⟨n, hn⟩ : ∃ n, Fr.need bs.length = n := ⟨_, rfl⟩
  have HNL := Lib.hid (show bs.length ≤ 7680 ∧ Fr.need bs.length = n from ⟨hl, hn⟩)
  have CN := Lib.hid (fun W => needs_any bs.length (by omega) W)
  rw [hn] at ht hSl CN CC hnp
  obtain ⟨m, hm⟩ : ∃ m, n * 256 = m := ⟨_, rfl⟩
  have HMB := Lib.hid (fun W => make_bytes m (by omega) W)
  obtain ⟨q, hq⟩ : ∃ q : Nat, 32 - n = q := ⟨_, rfl⟩
  have e1 : (32 : Int) - (n : Int) = (q : Int) := by omega
  have e2 : (n : Int) * 256 = (m : Int) := by omega
  have d1 : decide ((q : Int) < (t : Int)) = false := by simp; omega
  have d2 : decide ((t : Int) < 0) = false := by simp
  have d3 : decide ((7680 : Int) < (bs.length : Int)) = false := by simp; omega
  have d4 : ¬ q < t := by omega
  have hm1 := HMB.out w
  have hm2 := make_secs w.heap.size n (by omega) (w.alloc (.cells (cellsOf (List.replicate m 0)).toArray 5))
  have hn2 : n ≤ 32 := by omega
  have hmn : m ≤ 10000 := by omega
  have HS0 := Lib.hid (show Sp w ((w.alloc (.cells (cellsOf (List.replicate m 0)).toArray 5)).alloc (.cells (secs w.heap.size n 0).toArray 23)) w.heap.size (w.heap.size + 1) n 0 (Fr.cutS seg t bs) a bs from by
    have o1 := ((Below.refl w.heap.size w).alloc (Nat.le_refl _) (.cells (cellsOf (List.replicate m 0)).toArray 5))
    have o2 := o1.alloc o1.size (.cells (secs w.heap.size n 0).toArray 23)
    have h1 := heap_alloc2_old w (.cells (cellsOf (List.replicate m 0)).toArray 5) (.cells (secs w.heap.size n 0).toArray 23)
    have h2 := heap_alloc2_new w (.cells (cellsOf (List.replicate m 0)).toArray 5) (.cells (secs w.heap.size n 0).toArray 23)
    refine ⟨?_, h2, H.below o2, o2, ⟨rfl, rfl⟩, hSe, hold⟩
    unfold Mem
    rw [h1]
    simp [← hm])
  obtain ⟨L, hL⟩ : ∃ L, bs.length = L := ⟨_, rfl⟩
  have HL := Lib.hid hL
  rw [hL] at CN CC d3 ⊢
  have HQ := Lib.hid (And.intro hq hm)
  have CM := Lib.hid (fun k (hk : k < n) W => show Calls Try.prog 25 #[.slice (some ⟨w.heap.size, 0, none⟩) m m, .int .i64 k, .int .i64 256] W fun e w' => e = .returned (.slice (some ⟨w.heap.size, k * 256, none⟩) 256 256) ∧ w' = W from by
    have h := cut_some w.heap.size 0 k 256 m m (by omega) (by omega) (by omega) (by omega) (by omega) (Nat.le_refl _) W
    rw [show min (k * 256 + 256) m - k * 256 = 256 by omega, Nat.zero_add] at h
    exact h)
  have HSK := Lib.hid (fun k (hk : k < n) => show (Fr.cutS seg t bs)[k]? = some (Fr.sec (Fr.kindOf k n) seg (t + k) (Fr.part bs k)) from by
    unfold Fr.cutS
    rw [HNL.out.2, List.getElem?_map, List.getElem?_range hk]
    rfl)
  have HOLD := Lib.hid hold
  clear hc hc0 hl H hold hSe hL hn hm hq
  go_enter Try.func9, Try.ntmps9
  go_wp2_with fail
  go_at_call 24
  refine (CN.out _).mono ?_
  rintro e w' ⟨rfl, rfl⟩
  go_wp2_with fail
  obtain ⟨S, hS⟩ : ∃ S, Fr.cutS seg t bs = S := ⟨_, rfl⟩
  have HSE := Lib.hid hS
  rw [hS] at HS0 hSl HSK
  clear hS
  obtain ⟨M, hM⟩ : ∃ M, w'.heap.size = M := ⟨_, rfl⟩
  have HM := Lib.hid hM
  unfold SplitOk
  rw [hM] at HS0 CM ⊢
  obtain ⟨B, hB⟩ : ∃ B, M + 1 = B := ⟨_, rfl⟩
  have HB := Lib.hid hB
  rw [hB] at HS0 ⊢
  generalize ((w'.alloc (Obj.cells (cellsOf (List.replicate m 0)).toArray 5)).alloc (Obj.cells (secs M n 0).toArray 23)) = W0 at HS0 ⊢
  clear hM hB hm1 hm2
  go_loopw [34] (fun i wr => ∃ k : Nat, k ≤ n ∧ i = .int .i64 k ∧ Hid (Sp w' wr M B n k S a bs)) (fun i _ => n - (intOf i).toNat)
  case atStart => exact ⟨0, Nat.zero_le _, rfl, HS0⟩
  case round =>
    clear HS0
    obtain ⟨k, hk, rfl, HSP⟩ := hrel
    by_cases hlt : k < n
    · have hd : decide ((k : Int) < (n : Int)) = true := by simp; omega
      have hd2 : decide (k < n) = true := by simp; omega
      obtain ⟨b1, hb1⟩ : ∃ b1, ((k : Int) == 0) = b1 := ⟨_, rfl⟩
      obtain ⟨n1, hn1⟩ : ∃ n1 : Nat, n - 1 = n1 := ⟨_, rfl⟩
      have en1 : (n : Int) - 1 = (n1 : Int) := by omega
      obtain ⟨b2, hb2⟩ : ∃ b2, ((k : Int) == (n1 : Int)) = b2 := ⟨_, rfl⟩
      have HKD := Lib.hid (show kd b1 b2 = Fr.kindOf k n from kd_kind k n hlt b1 b2 hb1 (by rw [hn1]; exact hb2))
      clear hn1
      go_wp2_with fail
      go_at_call 25
      refine (CC.out k hlt wr HSP.out.bys).mono ?_
      rintro e w2 ⟨a', rfl, hw2, hA', hAb⟩
      obtain rfl : wr = w2 := hw2.symm
      obtain ⟨pl, hpl⟩ : ∃ pl, (Fr.part bs k).length = pl := ⟨_, rfl⟩
      rw [hpl]
      have HPL := Lib.hid hpl
      have HAP := Lib.hid (And.intro hA' hAb)
      clear hpl hA' hAb
      go_wp2_with fail
      have hbA := (Below.refl wr.heap.size wr).alloc (Nat.le_refl _) (.cells #[.bool b1, .bool b2, .slice a' pl pl] 84)
      have H1 := Lib.hid (HSP.out.below' hbA)
      have hrow := heap_alloc_new wr (.cells #[.bool b1, .bool b2, .slice a' pl pl] 84)
      have HPB := Lib.hid (show B < wr.heap.size ∧ M < wr.heap.size from ⟨(Array.getElem?_eq_some_iff.1 HSP.out.row).1, HSP.out.mem.lt⟩)
      obtain ⟨pb, hpb⟩ : ∃ pb, wr.heap.size = pb := ⟨_, rfl⟩
      rw [hpb] at hrow HPB ⊢
      clear hpb hbA HSP
      generalize wr.alloc (.cells #[.bool b1, .bool b2, .slice a' pl pl] 84) = W1 at H1 hrow ⊢
      go_at_call 25
      refine (CM.out k hlt W1).mono ?_
      rintro e w3 ⟨rfl, hw3⟩
      obtain rfl : W1 = w3 := hw3.symm
      obtain ⟨hc1, hf1⟩ := H1.out.cell hlt
      go_upto_region 13 with (fail)
      obtain ⟨hl1, hl2⟩ := H1.out.laid hlt
      have hcB : (W1.setCell ⟨B, k, none⟩ (.slice (some ⟨M, k * 256, none⟩) 256 256)).cell? ⟨B, k, none⟩ = some (.slice (some ⟨M, k * 256, none⟩) 256 256) := by
        rw [cell_of_row _ _ _ _ _ _ hl1, List.getElem?_toArray, secs_get _ _ _ _ hlt, if_pos (by omega)]
      have hrow2 := (hl2.block pb (Array.getElem?_eq_some_iff.1 hrow).1 (by have := HPB.out.1; simp; omega)).trans hrow
      have p0 : (W1.setCell ⟨B, k, none⟩ (.slice (some ⟨M, k * 256, none⟩) 256 256)).cell? ⟨pb, 0, none⟩ = some (.bool b1) := (cell_of_row _ _ 0 _ _ _ hrow2).trans rfl
      have p1 : (W1.setCell ⟨B, k, none⟩ (.slice (some ⟨M, k * 256, none⟩) 256 256)).cell? ⟨pb, 1, none⟩ = some (.bool b2) := (cell_of_row _ _ 1 _ _ _ hrow2).trans rfl
      have p2 : (W1.setCell ⟨B, k, none⟩ (.slice (some ⟨M, k * 256, none⟩) 256 256)).cell? ⟨pb, 2, none⟩ = some (.slice a' pl pl) := (cell_of_row _ _ 2 _ _ _ hrow2).trans rfl
      have HL1 := Lib.hid (And.intro hl1 hl2)
      generalize W1.setCell ⟨B, k, none⟩ (.slice (some ⟨M, k * 256, none⟩) 256 256) = W2 at *
      clear hrow hrow2 hc1 hf1 hl1 hl2
      have hsum : (t : Int) + (k : Int) = ((t + k : Nat) : Int) := by omega
      obtain ⟨tk, htk⟩ : ∃ tk, t + k = tk := ⟨_, rfl⟩
      rw [htk] at hsum
      have HTK := Lib.hid htk
      clear htk
      go_still_tail 9, (by kernel_rfl)
      change wpList _ _ _ _ _ (World.drew _)
      have hD := drew_below W2
      have HM2 : Hid (Mem W2.drew M 5 ((S.take k).flatten ++ (List.replicate 256 0 ++ List.replicate ((n - (k + 1)) * 256) 0))) := Lib.hid ((((H1.out.open hlt).only HL1.out.2 (by have := H1.out.place; simp; omega))).below hD)
      have HB2 : Hid (Bys W2.drew a' (Fr.part bs k)) := Lib.hid (HAP.out.1 _ (((show Bys W2 a bs from by
        by_cases hb : bs = []
        · rw [hb]; exact nil_bytes _ _
        · refine H1.out.bys.only HL1.out.2 fun x hx => ?_
          have hpl := H1.out.place
          rcases H1.out.old x hx with h1 | h1
          · simp; omega
          · exact absurd h1 hb)).below hD))
      have CWW := Lib.hid (show Calls Try.prog 26 #[pcV b1 b2 (.slice a' pl pl), .slice (some ⟨M, k * 256, none⟩) 256 256, .int .u32 seg, .int .i64 tk] W2.drew fun r w9 => r = .returned (.tuple #[]) ∧ Mem w9 M 5 ((S.take k).flatten ++ (Fr.sec (kd b1 b2) seg tk (Fr.part bs k) ++ List.replicate ((n - (k + 1)) * 256) 0)) ∧ Only [M] W2.drew w9 from by
        have hfl := flat_len S H1.out.len k (by omega)
        have h := write_any b1 b2 a' (Fr.part bs k) pl M 5 (k * 256) seg tk (S.take k).flatten (List.replicate ((n - (k + 1)) * 256) 0) hfl (by rw [hfl, List.length_replicate]; omega) (by rw [Fr.part_len]; omega) hs (by have := HTK.out; omega) W2.drew HM2.out HB2.out (by
          have hpl := H1.out.place
          by_cases hb : bs = []
          · exact .inr (by rw [hb]; simp [Fr.part])
          · refine .inl fun x hx => ?_
            obtain ⟨y, hy, hxy⟩ := HAP.out.2 x hx
            rcases H1.out.old y hy with h1 | h1
            · omega
            · exact absurd h1 hb)
        rw [HPL.out] at h
        exact h)
      unfold pcV at CWW
      clear HM2 HB2
      go_wp2_with fail
      go_at_call 26
      refine CWW.out.mono ?_
      rintro e w9 ⟨rfl, hm9, ho9⟩
      have HN : Hid (Sp w' w9 M B n (k + 1) S a bs) := Lib.hid (H1.out.next hlt HL1.out.1 HL1.out.2 (HSK.out k hlt) (by rw [HKD.out, ← HTK.out] at hm9; exact hm9) ((Only.of_below hD [M]).trans ho9 (fun x hx => .inl hx)))
      clear hm9 ho9 hD CWW p0 p1 p2 hcB HL1 H1
      go_wp2_with fail
      go_roundw
      case rel => exact ⟨k + 1, by omega, by go_num, HN⟩
      case measure => simp [intOf]; omega
    · obtain rfl : k = n := by omega
      have hd : decide ((k : Int) < (k : Int)) = false := by simp
      have HSl := Lib.hid (show k = S.length from hSl.symm)
      clear hSl
      go_wp2_with fail
      go_returns
      have h1 := HSP.out.mem
      rw [Nat.sub_self, Nat.zero_mul, List.replicate_zero, List.append_nil, List.take_of_length_le (by have := HSl.out; omega)] at h1
      have h2 := HSP.out.row
      have h3 := HB.out
      have h4 := HM.out
      have h5 := HSP.out.below
      rw [HSl.out] at h2 ⊢
      subst h4 h3
      rw [HSE.out]
      exact ⟨rfl, h2, h1, h5⟩
end Go.Proofs.Ytlegdaoidjpokaa
namespace Go.Proofs.Ytlegdaoidjpokaa
set_option linter.unusedVariables false
set_option linter.unusedSimpArgs false
open Go.RowKit
open B2 (Only Row)
set_option maxRecDepth 100000 in
theorem split_long (a : Option Addr) (n cap seg : Nat) (t : Int) (hn : 7680 < n) (w : World) :
    Calls Try.prog 9 #[.int .u32 seg, .int .i64 t, .slice a n cap] w fun e w' => e = .returned (.tuple #[.slice none 0 0, .int .u16 111]) ∧ w' = w := by
  have d3 : decide ((7680 : Int) < (n : Int)) = true := by simp; omega
  have d4 : 7680 < n := hn
  go_enter Try.func9, Try.ntmps9
  go_wp2_with fail
  go_returns
  exact ⟨rfl, rfl⟩
set_option maxRecDepth 100000 in
theorem split_arg (a : Option Addr) (n cap seg : Nat) (t : Int) (hn : n ≤ 7680) (ht : t < 0 ∨ (32 : Int) - (Fr.need n : Nat) < t) (ht2 : -9223372036854775808 ≤ t ∧ t ≤ 9223372036854775807) (w : World) :
    Calls Try.prog 9 #[.int .u32 seg, .int .i64 t, .slice a n cap] w fun e w' => e = .returned (.tuple #[.slice none 0 0, .int .u16 1]) ∧ w' = w := by
  have d3 : decide ((7680 : Int) < (n : Int)) = false := by simp; omega
  have d4 : ¬ 7680 < n := by omega
  have CN := Lib.hid (fun W => needs_any n (by omega) W)
  have hnp : Fr.need n ≤ 32 := by unfold Fr.need; omega
  obtain ⟨m, hm⟩ : ∃ m, Fr.need n = m := ⟨_, rfl⟩
  rw [hm] at CN ht hnp
  obtain ⟨q, hq⟩ : ∃ q : Nat, 32 - m = q := ⟨_, rfl⟩
  have e1 : (32 : Int) - (m : Int) = (q : Int) := by omega
  rw [e1] at ht
  clear hm hq
  by_cases h0 : t < 0
  · have d5 : decide (t < 0) = true := decide_eq_true h0
    go_enter Try.func9, Try.ntmps9
    go_wp2_with fail
    go_at_call 24
    refine (CN.out _).mono ?_
    rintro e w' ⟨rfl, hw⟩
    obtain rfl : w = w' := hw.symm
    go_wp2_with fail
    go_returns
    exact ⟨rfl, rfl⟩
  · have d5 : decide (t < 0) = false := decide_eq_false h0
    have h1 : (q : Int) < t := by omega
    have d6 : decide ((q : Int) < t) = true := decide_eq_true h1
    clear ht
    go_enter Try.func9, Try.ntmps9
    go_wp2_with fail
    go_at_call 24
    refine (CN.out _).mono ?_
    rintro e w' ⟨rfl, hw⟩
    obtain rfl : w = w' := hw.symm
    go_wp2_with fail
    go_returns
    exact ⟨rfl, rfl⟩
/-- a kind's flags -/
def sz (b e : Bool) (n : Nat) : Bool := if e = true then (b || decide (0 < n)) else n == 240
theorem size_any (b e : Bool) (a : Option Addr) (n c : Nat) (hn : n ≤ 240) (w : World) : Calls Try.prog 72 #[pcV b e (.slice a n c)] w fun r w' => r = .returned (.bool (sz b e n)) ∧ Below w.heap.size w w' := by
  have HA := Lib.hid ((Below.refl w.heap.size w).alloc (Nat.le_refl _) (.cells #[.bool b, .bool e, .slice a n c] 84))
  have d1 : ((n : Int) == 240) = (n == 240) := by
    rw [Bool.eq_iff_iff, beq_iff_eq, beq_iff_eq]; omega
  have d2 : decide ((0 : Int) < (n : Int)) = decide (0 < n) := decide_eq_decide.2 (by omega)
  unfold pcV sz
  obtain ⟨x, hx⟩ : ∃ x, (n == 240) = x := ⟨_, rfl⟩
  obtain ⟨y, hy⟩ : ∃ y, decide (0 < n) = y := ⟨_, rfl⟩
  rw [hx] at d1 ⊢
  rw [hy] at d2 ⊢
  clear hx
  cases b <;> cases e <;>
  · go_enter Try.func72, Try.ntmps72
    go_wp2_with fail
    go_ret
    exact ⟨by first | rfl | simp, HA.out⟩
def strB (bs : List Nat) : ByteArray := ⟨(bs.map UInt8.ofNat).toArray⟩
theorem strB_inj (bs cs : List Nat) (h1 : ∀ c ∈ bs, c < 256) (h2 : ∀ c ∈ cs, c < 256) (h : strB bs = strB cs) : bs = cs := by
  have h3 : (strB bs).data.toList.map UInt8.toNat = (strB cs).data.toList.map UInt8.toNat := by rw [h]
  have key : ∀ l : List Nat, (∀ c ∈ l, c < 256) → (strB l).data.toList.map UInt8.toNat = l := by
    intro l hl
    unfold strB
    rw [List.map_map]
    have : l.map (UInt8.toNat ∘ UInt8.ofNat) = l.map id := List.map_congr_left fun c hc => by
      have := hl c hc
      show (UInt8.ofNat c).toNat = c
      rw [UInt8.toNat_ofNat', Nat.mod_eq_of_lt this]
    rw [this, List.map_id]
  rw [key bs h1, key cs h2] at h3
  exact h3
theorem strB_nums (bs : List Nat) : strOfNums (bs.map fun c : Nat => (c : Int)) = strB bs := by
  apply ByteArray.ext
  apply Array.toList_inj.1
  rw [strOfNums_data, List.map_map]
  rfl
theorem toList_eqb (x y : ByteArray) : (x.toList == y.toList) = decide (x = y) := by
  rw [ByteArray.toList_eq, ByteArray.toList_eq]
  by_cases e : x = y
  · rw [decide_eq_true e, e]; simp
  · rw [decide_eq_false e]
    simp only [beq_eq_false_iff_ne, ne_eq]
    intro h
    exact e (ByteArray.ext (Array.toList_inj.1 h))
theorem conv_bys (w : World) (a : Option Addr) (bs : List Nat) (n cap : Nat) (hn : bs.length = n) (h0 : bs ≠ []) (H : Bys w a bs) : (convert 23 9 (.slice a n cap)).run Try.prog w = .ok (.string (strB bs)) w := by
  obtain ⟨b, off, rfl, hb, hc⟩ := H.2.2 h0
  rw [← strB_nums]
  exact run_convert_bytes_arg (P := Try.prog) w 23 5 Try.underlying23 Try.underlying5 b off n cap (bs.map fun c : Nat => (c : Int)) (by simpa using hn) (fun i hi => by
    rw [hc i (by omega)]
    simp [List.getD, show i < bs.length by omega]) 9 Try.underlying9
theorem equal_any (a a2 : Option Addr) (bs cs : List Nat) (n m cap cap2 : Nat) (hn : bs.length = n) (hm : cs.length = m) (h0 : bs ≠ []) (h1 : cs ≠ []) (w : World) (H : Bys w a bs) (H2 : Bys w a2 cs) :
    Calls Try.prog 73 #[.slice a n cap, .slice a2 m cap2] w fun e w' => e = .returned (.bool (decide (bs = cs))) ∧ w' = w := by
  have c1 := conv_bys w a bs n cap hn h0 H
  have c2 := conv_bys w a2 cs m cap2 hm h1 H2
  have he : ((strB bs).toList == (strB cs).toList) = decide (bs = cs) := by
    rw [toList_eqb]
    exact decide_eq_decide.2 ⟨fun h => strB_inj bs cs H.2.1 H2.2.1 h, fun h => by rw [h]⟩
  obtain ⟨x, hx⟩ : ∃ x, decide (bs = cs) = x := ⟨_, rfl⟩
  obtain ⟨y, hy⟩ : ∃ y, strB bs = y := ⟨_, rfl⟩
  obtain ⟨z, hz⟩ : ∃ z, strB cs = z := ⟨_, rfl⟩
  rw [hx] at he ⊢
  rw [hy] at c1 he
  rw [hz] at c2 he
  clear H H2 hx hn hm h0 h1 hy hz
  go_enter Try.func73, Try.ntmps73
  go_wp2_with fail
  go_ret
  exact ⟨by first | rfl | rw [← he]; rfl, rfl⟩
end Go.Proofs.Ytlegdaoidjpokaa
namespace Go.Proofs.Ytlegdaoidjpokaa
set_option linter.unusedVariables false
set_option linter.unusedSimpArgs false
open Go.RowKit
open B2 (Only Row)
def kb (k : Nat) : Bool := decide (k = 1 ∨ k = 2)
def ke (k : Nat) : Bool := decide (k = 1 ∨ k = 4)
/-- what reading a sector comes to -/
def ReadPost (a : Option Addr) (bs : List Nat) (o : Option (Nat × List Nat)) (w : World) (e : Ending) (w' : World) : Prop :=
  Below w.heap.size w w' ∧ match o with
  | none => e = .returned (.tuple #[.agg #[.bool false, .bool false, .slice none 0 0], .bool false])
  | some (k, pc) => ∃ a' c, e = .returned (.tuple #[.agg #[.bool (kb k), .bool (ke k), .slice a' pc.length c], .bool true]) ∧ pc.length ≤ c ∧ (∃ x, a' = some x) ∧ (∀ W, Bys W a bs → Bys W a' pc) ∧ ∀ x, a' = some x → ∃ y, a = some y ∧ x.block = y.block
theorem Bys.cell {w : World} {b off : Nat} {bs : List Nat} (h : Bys w (some ⟨b, off, none⟩) bs) (i x : Nat) (hx : bs[i]? = some x) : w.cell? ⟨b, off + i, none⟩ = some (.int .u8 ((x : Nat) : Int)) ∧ x < 256 := by
  obtain ⟨hi, he⟩ := List.getElem?_eq_some_iff.1 hx
  obtain ⟨b', off', e, _, hc⟩ := h.at i hi
  cases e
  exact ⟨by rw [hc, he], by rw [← he]; exact h.2.1 _ (List.getElem_mem hi)⟩
theorem results_cell_tmp {P : Program} {fn : Func} {p q : Tmp} {ty : TypeId} (h : fn.results = #[.cell p ty, .tmp q]) (tmps : Array Value) (w : World) (g : Nat) (t : TypeId) (cs : Array Value) (fr : Nat × Nat) (d : TypeDesc)
    (hp : tmps.getD p undef = .pointer (some ⟨g, 0, none⟩)) (hg : w.heap[g]? = some (.cells cs t fr))
    (hu : P.underlying ty = some d) (hd : (match d with | .struct _ | .array _ _ => true | _ => false) = true) (hi : (P.info? ty).map (·.size) = some cs.size) :
    (results fn tmps).run P w = .ok (.tuple #[.agg cs, tmps.getD q undef]) w := by
  have hp' : tmps[p]?.getD undef = .pointer (some ⟨g, 0, none⟩) := by simpa using hp
  simp [results, h, hp', asAddr, run_loadVar_row w g t ty cs fr d hg hu hd hi]
set_option maxRecDepth 100000 in
theorem read_len (a : Option Addr) (n cap seg i : Nat) (h : n ≠ 256 ∨ 65535 < i) (w : World) : Calls Try.prog 69 #[.slice a n cap, .int .u32 seg, .int .i64 i] w fun e w' => Below w.heap.size w w' ∧ e = .returned (.tuple #[.agg #[.bool false, .bool false, .slice none 0 0], .bool false]) := by
  have HA := Lib.hid ((Below.refl w.heap.size w).alloc (Nat.le_refl _) (.cells #[.bool false, .bool false, .slice none 0 0] 84))
  have hr := heap_alloc_new w (.cells #[.bool false, .bool false, .slice none 0 0] 84)
  by_cases h1 : n = 256
  · subst h1
    have h2 : 65535 < i := by omega
    have d1 : decide ((65535 : Int) < (i : Int)) = true := by simp; omega
    go_enter Try.func69, Try.ntmps69
    go_wp2_with fail
    refine bodyPost_ret (v := .tuple #[.agg #[.bool false, .bool false, .slice none 0 0], .bool false]) ?_ ?_ ?_
    · exact results_cell_tmp (p := 6) (q := 7) rfl _ _ w.heap.size 84 _ (0, 0) _ rfl hr Try.underlying84 rfl (by kernel_rfl)
    · rfl
    · exact ⟨HA.out, rfl⟩
  · have d1 : ((n : Int) != 256) = true := by simp; omega
    go_enter Try.func69, Try.ntmps69
    go_wp2_with fail
    refine bodyPost_ret (v := .tuple #[.agg #[.bool false, .bool false, .slice none 0 0], .bool false]) ?_ ?_ ?_
    · exact results_cell_tmp (p := 6) (q := 7) rfl _ _ w.heap.size 84 _ (0, 0) _ rfl hr Try.underlying84 rfl (by kernel_rfl)
    · rfl
    · exact ⟨HA.out, rfl⟩
end Go.Proofs.Ytlegdaoidjpokaa
namespace Go.Proofs.Ytlegdaoidjpokaa
set_option linter.unusedVariables false
set_option linter.unusedSimpArgs false
open Go.RowKit
open B2 (Only Row)
theorem drewN_below (w : World) (n : Nat) : Below w.heap.size w (w.drewN n) := ⟨rfl, rfl, rfl, Nat.le_refl _, fun _ _ => rfl⟩
set_option maxHeartbeats 8000000 in
set_option maxRecDepth 100000 in
theorem read_end (b off cap seg i : Nat) (bs : List Nat) (hn : bs.length = 256) (hi : i ≤ 65535) (x10 x11 : Nat) (h10 : bs[10]? = some x10) (h11 : bs[11]? = some x11) (hbig : 240 < x10 + 256 * x11) (w : World) (H : Bys w (some ⟨b, off, none⟩) bs) :
    Calls Try.prog 69 #[.slice (some ⟨b, off, none⟩) 256 cap, .int .u32 seg, .int .i64 i] w fun e w' => Below w.heap.size w w' ∧ e = .returned (.tuple #[.agg #[.bool false, .bool false, .slice none 0 0], .bool false]) := by
  have HA := Lib.hid ((Below.refl w.heap.size w).alloc (Nat.le_refl _) (.cells #[.bool false, .bool false, .slice none 0 0] 84))
  have hr := heap_alloc_new w (.cells #[.bool false, .bool false, .slice none 0 0] 84)
  obtain ⟨c10, l10⟩ := H.cell 10 x10 h10
  obtain ⟨c11, l11⟩ := H.cell 11 x11 h11
  have d10 := cell_below c10 HA.out
  have d11 := cell_below c11 HA.out
  have d1 : decide ((65535 : Int) < (i : Int)) = false := by simp; omega
  have HR := Lib.hid hr
  clear c10 c11 hr H h10 h11
  go_enter Try.func69, Try.ntmps69
  go_upto_region 1 with (fail)
  generalize w.alloc (.cells #[.bool false, .bool false, .slice none 0 0] 84) = W1 at *
  go_wp2_with fail
  go_quiet (fail)
  have hbig2 : (252 : Int) < 12 + (x10 : Int) + (x11 : Int) * 256 := by omega
  have hb9 := HA.out.trans ((drewN_below W1 nq).mono HA.out.size)
  have hr9 : (W1.drewN nq).heap[w.heap.size]? = some (.cells #[.bool false, .bool false, .slice none 0 0] 84 (0, 0)) := HR.out
  generalize W1.drewN nq = W2 at *
  have hn := setRow_heap W2 w.heap.size #[.bool false, .bool false, .slice none 0 0] #[.bool false, .bool false, .slice none 0 0] 84 (0, 0) hr9
  have HB9 := Lib.hid (below_setRow hb9 (Nat.le_refl _) #[.bool false, .bool false, .slice none 0 0])
  clear hb9 d10 d11
  go_wp2_with (refine wpList_store_row rfl 84 (.tmp 6) (.tmp 32) rfl w.heap.size #[.bool false, .bool false, .slice none 0 0] rfl rfl 84 #[.bool false, .bool false, .slice none 0 0] hr9 (by kernel_rfl) (by kernel_rfl) (by kernel_rfl) ?_)
  refine bodyPost_ret (v := .tuple #[.agg #[.bool false, .bool false, .slice none 0 0], .bool false]) ?_ ?_ ?_
  · exact results_cell_tmp (p := 6) (q := 7) rfl _ _ w.heap.size 84 _ (0, 0) _ rfl hn Try.underlying84 rfl (by kernel_rfl)
  · rfl
  · exact ⟨HB9.out, rfl⟩
end Go.Proofs.Ytlegdaoidjpokaa
