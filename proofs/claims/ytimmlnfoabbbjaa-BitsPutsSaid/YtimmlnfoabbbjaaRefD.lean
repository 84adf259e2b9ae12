/-
  WALKS of the document's own writer: Varint, Signed, Bytes.
-/
import Derived.Test.YtimmlnfoabbbjaaRefB
import Derived.Test.YtimmlnfoabbbjaaOps
namespace Go.Proofs.Ytimmlnfoabbbjaa
open Go.RowKit
/-- how far a varint has been put -/
def FvarAt (w : World) (p g : Nat) (B : List Bool) (at_ v u : Nat) (wr : World) : Prop := ∃ pre, pre ++ Bt.vb u = Bt.vb v ∧ RfPost w p g (B ++ pre) at_ wr
set_option maxHeartbeats 400000 in
theorem fputvar_any (p g : Nat) (B : List Bool) (at_ v : Nat) (hv : v < 18446744073709551616) (w : World) (H : Rf w p g B at_) (hB : B.length + 80 ≤ 1000000000) :
    Calls Try.prog 36 #[.pointer (some ⟨p, 0, none⟩), .int .u64 (v : Nat)] w fun e w' => e = .returned (.tuple #[]) ∧ RfPost w p g (B ++ Bt.vb v) at_ w' := by
  have h80 : (Bt.vb v).length ≤ 80 := by rw [Bt.vb_length]; have := Bt.vg_ten v hv; omega
  have H0 := Lib.hid (show FvarAt w p g B at_ v v w from ⟨[], rfl, by simpa using RfPost.refl H⟩)
  have HV := Lib.hid hv
  clear H hv
  go_enter Try.func36, Try.ntmps36
  go_wp2
  go_loopw [1] (fun i wr => ∃ u : Nat, i = .int .u64 (u : Nat) ∧ u ≤ v ∧ Hid (FvarAt w p g B at_ v u wr)) (fun i _ => (intOf i).toNat)
  case atStart => exact ⟨v, rfl, Nat.le_refl _, H0⟩
  case round =>
    obtain ⟨u, rfl, hu, pre, hpre, g1, HW, hg1, HO⟩ := hrel
    have hl : pre.length + (Bt.vb u).length ≤ 80 := by rw [← List.length_append, hpre]; exact h80
    have HP := Lib.hid hpre
    have HX := Lib.hid HW
    have HOO := Lib.hid HO
    have hu2 : 8 ≤ (Bt.vb u).length := by rw [Bt.vb_length]; have := Bt.vg_pos u; omega
    have hu64 : u < 18446744073709551616 := Nat.lt_of_le_of_lt hu HV.out
    clear hpre HW HO
    by_cases hlt : 128 ≤ u
    · have hd : decide ((u : Int) > 127) = true := by simp; omega
      go_wp2_with fail
      rw [show (128 : Int) + (u : Int) % 128 = ((u % 128 + 128 : Nat) : Int) by omega]
      refine (fbits_good p g1 (B ++ pre) at_ (u % 128 + 128) 8 (by omega) (by omega) _ HX.out (by rw [List.length_append]; omega)).mono ?_
      rintro e w' ⟨rfl, hp⟩
      have HY : Hid (FvarAt w p g B at_ v (u / 128) w') := by
        refine ⟨pre ++ Bt.top (u % 128 + 128) 8, by rw [List.append_assoc, ← Bt.vb_big hlt]; exact HP.out, ?_⟩
        rw [← List.append_assoc]
        exact RfPost.trans HOO.out hg1 hp
      clear hp
      go_wp2
      go_roundw
      case rel => exact ⟨u / 128, by simp, by omega, HY⟩
      case measure => simp [intOf]; omega
    · have hd : decide ((u : Int) > 127) = false := by simp; omega
      go_wp2_with fail
      refine (fbits_good p g1 (B ++ pre) at_ u 8 (by omega) (by omega) _ HX.out (by rw [List.length_append]; omega)).mono ?_
      rintro e w' ⟨rfl, hp⟩
      have HY : Hid (RfPost w p g (B ++ Bt.vb v) at_ w') := by
        rw [← HP.out, Bt.vb_small (by omega), ← List.append_assoc]
        exact RfPost.trans HOO.out hg1 hp
      clear hp
      go_wp2
      go_end0
      exact ⟨rfl, HY.out⟩
set_option maxHeartbeats 400000 in
theorem fputsgn_any (p g : Nat) (B : List Bool) (at_ : Nat) (v : Int) (h1 : -9223372036854775808 ≤ v) (h2 : v ≤ 9223372036854775807) (w : World) (H : Rf w p g B at_) (hB : B.length + 80 ≤ 1000000000) :
    Calls Try.prog 37 #[.pointer (some ⟨p, 0, none⟩), .int .i64 v] w fun e w' => e = .returned (.tuple #[]) ∧ RfPost w p g (B ++ Bt.vb (Bt.zz v)) at_ w' := by
  have H0 := Lib.hid H
  clear H
  by_cases h0 : 0 ≤ v
  · have hd : decide (v ≥ 0) = true := by simpa using h0
    go_enter Try.func37, Try.ntmps37
    go_wp2_with fail
    rw [zz_pos v h0]
    refine (fputvar_any p g B at_ (Bt.zz v) (Bt.zz_lt v h1 h2) _ H0.out hB).mono ?_
    rintro e w' ⟨rfl, hp⟩
    have HP := Lib.hid hp
    clear hp
    go_wp2
    first | go_end0 | refine bodyPost_ret (results_none rfl _ _ _) rfl ?_
    exact ⟨rfl, HP.out⟩
  · have hd : decide (v ≥ 0) = false := by simp; omega
    have hz : -(v + 1) * 2 + 1 = ((Bt.zz v : Nat) : Int) := by unfold Bt.zz; rw [if_neg h0]; omega
    have HZ := Lib.hid hz
    clear hz
    go_enter Try.func37, Try.ntmps37
    go_wp2_with fail
    rw [HZ.out]
    refine (fputvar_any p g B at_ (Bt.zz v) (Bt.zz_lt v h1 h2) _ H0.out hB).mono ?_
    rintro e w' ⟨rfl, hp⟩
    have HP := Lib.hid hp
    clear hp
    go_wp2
    first | go_end0 | refine bodyPost_ret (results_none rfl _ _ _) rfl ?_
    exact ⟨rfl, HP.out⟩
/-- the bits with eight noughts behind them -/
def pad (B : List Bool) : List Bool := B ++ List.replicate 8 false
theorem pad_length (B : List Bool) : (pad B).length = B.length + 8 := by simp [pad]
theorem pad_get (B : List Bool) (i : Nat) (h : i < B.length + 8) : (pad B)[i]'(by rw [pad_length]; exact h) = if h2 : i < B.length then B[i] else false := by
  unfold pad
  by_cases h2 : i < B.length
  · rw [dif_pos h2, List.getElem_append_left h2]
  · rw [dif_neg h2, List.getElem_append_right (by omega), List.getElem_replicate]
theorem pad_step (B : List Bool) (i k : Nat) (h : i + k < B.length + 8) : Bt.val (((pad B).drop i).take (k + 1)) = 2 * Bt.val (((pad B).drop i).take k) + (if h2 : i + k < B.length then B[i + k] else false).toNat := by
  rw [val_step _ k (by rw [List.length_drop, pad_length]; omega), List.getElem_drop, pad_get B (i + k) h]
/-- what has been laid of the bytes: m of them -/
def LaidAt (w : World) (B : List Bool) (m : Nat) (v : Value) (wr : World) : Prop := ∃ outs g, outs.length = m ∧ (∀ c ∈ outs, c < 256) ∧ Bt.unpack outs = (pad B).take (8 * m) ∧ Row wr g v outs ∧ (v.ownBlock = none ∨ w.heap.size ≤ g) ∧ Below w.heap.size w wr
theorem LaidAt.shape {w wr : World} {B : List Bool} {m : Nat} {v : Value} (h : LaidAt w B m v wr) : ∃ a cap, v = .slice a m cap := by
  obtain ⟨outs, g, hl, _, _, hR, _⟩ := h
  rcases hR.value with ⟨rfl, h0⟩ | ⟨cap, cur, rfl, _⟩
  · subst h0; exact ⟨_, _, by rw [← hl]; rfl⟩
  · exact ⟨_, _, by rw [hl]⟩
theorem laid_step {w wr w' : World} {B : List Bool} {m g V : Nat} {v v' : Value} {o : Obj} {outs : List Nat} (hl : outs.length = m) (h8 : ∀ c ∈ outs, c < 256) (hu : Bt.unpack outs = (pad B).take (8 * m)) (hR : Row wr g v outs) (hne : v.ownBlock = none ∨ w.heap.size ≤ g) (hb : Below w.heap.size w wr)
    (hV : Bt.val (((pad B).drop (8 * m)).take 8) = V) (hm : 8 * m < B.length) (hV8 : V < 256) (hown : w'.ownsRow 0 5 1 v' (m + 1) (cellsOf outs ++ cellsOf [V])) (hgr : (wr.alloc o).grownBy w' v.ownBlock) (hpl : v'.ownBlock = v.ownBlock ∨ ∃ g, v'.ownBlock = some g ∧ wr.heap.size + 1 ≤ g) : LaidAt w B (m + 1) v' w' := by
  subst hl
  obtain ⟨d2, cap2, rfl, hcap2, R2, hd2, hd2l⟩ := grow_row (ns := [V]) hR hown hpl (by simp)
  have hs := hb.size
  refine ⟨outs ++ [V], d2, by simp, fun c hc => ?_, ?_, R2, ?_, ?_⟩
  · rcases List.mem_append.1 hc with hc | hc
    · exact h8 c hc
    · simp only [List.mem_singleton] at hc; omega
  · have hlen : (((pad B).drop (8 * outs.length)).take 8).length = 8 := by rw [List.length_take, List.length_drop, pad_length]; omega
    have ht := Bt.top_val (((pad B).drop (8 * outs.length)).take 8)
    rw [hlen, hV] at ht
    rw [Bt.unpack_append, Bt.unpack_one, hu, ht, show 8 * (outs.length + 1) = 8 * outs.length + 8 by omega, List.take_add]
  · right
    rcases hd2 with ⟨h1, rfl⟩ | h1
    · rcases hne with h | h
      · rw [h] at h1; cases h1
      · exact h
    · omega
  · refine (hb.alloc hs o).grown hgr (by simp; omega) (fun k hk => ?_)
    rcases hR.2 with h | h
    · rw [h] at hk; cases hk
    · rw [h] at hk; injection hk with hk; subst hk
      rcases hne with h2 | h2
      · rw [h2] at h; cases h
      · exact h2
theorem one_byte (W : World) (c : Nat) : ∀ (j : Nat) (u : Value), (cellsOf [c])[j]? = some u → (W.alloc (.cells #[.int .u8 ((c : Nat) : Int)] 5)).cell? ((⟨W.heap.size, 0, none⟩ : Addr).add j) = some u := by
  intro j u hu
  rw [add_here, cell_of_row _ _ _ _ _ _ (heap_alloc_new W _)]
  rw [show (#[Value.int .u8 ((c : Nat) : Int)] : Array Value) = (cellsOf [c]).toArray from rfl, List.getElem?_toArray]
  exact hu
set_option maxRecDepth 100000 in
set_option maxHeartbeats 400000 in
theorem fbytes_any (p g at_ : Nat) (B : List Bool) (w : World) (H : Rf w p g B at_) (hB : B.length ≤ 100000000) :
    Calls Try.prog 14 #[.pointer (some ⟨p, 0, none⟩)] w (BytesPost w B) := by
  obtain ⟨i0, hi, hz0, hz1, hz2⟩ := info_parts info5
  have H0 := Lib.hid H
  have L0 := Lib.hid (show LaidAt w B 0 (.slice none 0 0) w from ⟨[], 0, rfl, by simp, by simp [Bt.unpack], Row.nil _ _, .inl rfl, Below.refl _ _⟩)
  clear H
  go_enter Try.func14, Try.ntmps14
  go_wp2
  go_loopw [3, 4] (fun o i wr => ∃ m : Nat, i = .int .i64 ((8 * m : Nat) : Int) ∧ 8 * m < B.length + 8 ∧ Hid (LaidAt w B m o wr)) (fun _ i _ => B.length + 8 - (intOf i).toNat)
  case atStart => exact ⟨0, rfl, by omega, L0⟩
  case round =>
    obtain ⟨m, rfl, hm, HL⟩ := hrel
    obtain ⟨ao, co, rfl⟩ := HL.out.shape
    obtain ⟨M, hM⟩ : ∃ M, 8 * m = M := ⟨_, rfl⟩
    have HMM := Lib.hid hM
    rw [hM] at hm ⊢
    clear hM
    have HB : Hid (Below w.heap.size w wr) := by
      obtain ⟨_, _, _, _, _, _, _, h⟩ := HL.out
      exact h
    obtain ⟨a, cap, c0, c1, f0, f1, hcells, _⟩ := rf_slice (H0.out.below HB.out)
    by_cases hlt : M < B.length
    · have hd : decide ((M : Int) < (B.length : Int)) = true := by simp; omega
      have hdn : decide (M < B.length) = true := by simpa using hlt
      go_wp2
      go_loop [5, 6] (fun n k => ∃ j : Nat, j ≤ 8 ∧ k = .int .i64 (j : Nat) ∧ n = .int .i64 ((Bt.val (((pad B).drop M).take j) : Nat) : Int)) (fun _ k => 8 - (intOf k).toNat)
      case atStart => exact ⟨0, by omega, rfl, rfl⟩
      case round =>
        obtain ⟨j, hj, rfl, rfl⟩ := hrel
        have hvl : Bt.val (((pad B).drop M).take j) < 2 ^ j := by
          have := Bt.val_lt (((pad B).drop M).take j)
          rwa [List.length_take, List.length_drop, pad_length, Nat.min_eq_left (by omega)] at this
        have hv8 : Bt.val (((pad B).drop M).take j) < 256 := Nat.lt_of_lt_of_le hvl (Nat.pow_le_pow_right (n := 2) (by decide) hj)
        by_cases hj8 : j < 8
        · have hst := pad_step B M j (by omega)
          have hdj : decide ((j : Int) < 8) = true := by simp; omega
          obtain ⟨V, hV⟩ : ∃ V, Bt.val (((pad B).drop M).take j) = V := ⟨_, rfl⟩
          rw [hV] at hv8 hst ⊢
          clear hvl hV
          by_cases hin : M + j < B.length
          · rw [dif_pos hin] at hst
            obtain ⟨rfl, hc⟩ := hcells (M + j) hin
            obtain ⟨c, hcc⟩ : ∃ c, (B[M + j]'hin).toNat = c := ⟨_, rfl⟩
            have hc1 : c ≤ 1 := by rw [← hcc]; cases B[M + j]'hin <;> decide
            rw [hcc] at hst hc
            have HS := Lib.hid hst
            clear hst hcc hcells
            have hdi : decide ((M : Int) + (j : Int) < (B.length : Int)) = true := by simp; omega
            have hix : (M : Int) + (j : Int) < (B.length : Int) := by omega
            go_wp2
            go_round
            case rel => exact ⟨j + 1, by omega, by go_num, by rw [HS.out]; go_num⟩
            case measure => simp [intOf]; omega
          · rw [dif_neg hin] at hst
            have HS := Lib.hid hst
            have hdi : decide ((M : Int) + (j : Int) < (B.length : Int)) = false := by simp; omega
            clear hst hcells
            go_wp2
            go_round
            case rel => exact ⟨j + 1, by omega, by go_num, by rw [HS.out]; go_num⟩
            case measure => simp [intOf]; omega
        · obtain rfl : j = 8 := by omega
          obtain ⟨V, hV⟩ : ∃ V, Bt.val (((pad B).drop M).take 8) = V := ⟨_, rfl⟩
          rw [hV] at hv8 ⊢
          have HV := Lib.hid hV
          have hml : m ≤ 20000000 := by have := HMM.out; omega
          clear hvl hV hcells
          obtain ⟨outs, g2, hlo, h8, hu, hR, hne, hb⟩ := HL.out
          have HOW2 := Lib.hid (show wr.ownsRow 0 5 1 (.slice ao m co) m (cellsOf outs) by rw [← hlo]; exact hlo ▸ hR.1)
          have HST := Lib.hid (show ∀ (v' : Value) (w' : World) (o : Obj), w'.ownsRow 0 5 1 v' (m + 1) (cellsOf outs ++ cellsOf [V]) → (wr.alloc o).grownBy w' (Value.slice ao m co).ownBlock → (v'.ownBlock = (Value.slice ao m co).ownBlock ∨ ∃ g, v'.ownBlock = some g ∧ wr.heap.size + 1 ≤ g) → LaidAt w B (m + 1) v' w' from fun v' w' o h1 h2 h3 => laid_step hlo h8 hu hR hne hb (by rw [HMM.out]; exact HV.out) (by rw [HMM.out]; omega) hv8 h1 h2 h3)
          clear hlo h8 hu hR hne hb
          go_wp2_with (at_builtin; refine wpList_append_place _ rfl (.tmp 43) (.tmp 46) 27 rfl 5 i0 (.int .u8 0) 1 1 Try.underlying27 hi hz0 hz1 hz2 rfl (by decide) (.slice ao m co) m (cellsOf outs) rfl (HOW2.out.alloc _) ⟨wr.heap.size, 0, none⟩ 1 1 (cellsOf [V]) rfl rfl (one_byte wr V) (cellsOf_one _) (by unfold maxLen; omega) (by omega) ?_)
          intro v2 w2 hown2 hgr2 hpl2
          have HN := Lib.hid (HST.out v2 w2 _ hown2 hgr2 hpl2)
          clear hown2 hgr2 hpl2
          go_wp2
          go_roundw
          case rel => exact ⟨m + 1, by have := HMM.out; congr 1; omega, by have := HMM.out; omega, HN⟩
          case measure => simp [intOf]; omega
    · have hd : decide (M < B.length) = false := by simpa using hlt
      go_wp2
      go_ret
      obtain ⟨outs, g2, hlo, h8, hu, hR, hne, hb⟩ := HL.out
      have hMM := HMM.out
      subst hlo
      refine ⟨outs, 8 * outs.length - B.length, by omega, ⟨h8, ?_⟩, ao, co, g2, rfl, hR, ?_, hb⟩
      · rw [hu, pad, List.take_append, List.take_of_length_le (by omega), List.take_replicate, Nat.min_eq_left (by omega)]
      · rcases hne with h | h
        · left
          cases ao with
          | none => rfl
          | some x => cases h
        · exact .inr h
end Go.Proofs.Ytimmlnfoabbbjaa
