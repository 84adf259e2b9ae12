/-
  PACKED: B2RefB, B2RefC, B2RefD, GwL, GwM, GrZ, HaA
-/
import Derived.Test.YtdlifcpdlbmijaaDoorK03
import Derived.Test.YtdlifcpdlbmijaaDoorK01
set_option linter.unusedVariables false
set_option linter.unusedSimpArgs false
namespace Go.Proofs.YtdlifcpdlbmijaaDoor.B2
open Go.RowKit
def FreadPost (w : World) (bs : List Nat) (e : Ending) (w' : World) : Prop :=
  ∃ p g, e = .returned (.pointer (some ⟨p, 0, none⟩)) ∧ w.heap.size ≤ p ∧ w.heap.size ≤ g ∧ Rf w' p g (Bt.unpack bs) 0 ∧ Below w.heap.size w w'
/-- how far the list has been laid -/
def FreadAt (w : World) (bs : List Nat) (k : Nat) (wr : World) : Prop := ∃ g, w.heap.size ≤ g ∧ Rf wr w.heap.size g (Bt.unpack (bs.take k)) 0 ∧ Below w.heap.size w wr
set_option maxHeartbeats 400000 in
theorem fread_any (a : Option Addr) (bs : List Nat) (cap : Nat) (w : World) (H : Bys w a bs) (hbd : bs.length ≤ 1000000) :
    Calls Tryd.prog 68 #[.slice a bs.length cap] w (FreadPost w bs) := by
  have A1 := Lib.hid H
  clear H
  have h0 : FreadAt w bs 0 (w.alloc (.cells #[.slice none 0 0, .int .i64 0] 165)) :=
    ⟨w.heap.size, Nat.le_refl _, ⟨_, heap_alloc_new _ _, Row.nil _ _, .inl rfl, by simp⟩, (Below.refl _ _).alloc (Nat.le_refl _) _⟩
  have H0 := Lib.hid h0
  clear h0
  go_enter Tryd.func68, Tryd.ntmps68
  go_wp2
  go_loopw [4] (fun i wr => ∃ k : Nat, k ≤ bs.length ∧ i = .int .i64 (k : Nat) ∧ Hid (FreadAt w bs k wr)) (fun i _ => bs.length - (intOf i).toNat)
  case atStart => exact ⟨0, Nat.zero_le _, rfl, H0⟩
  case round =>
    obtain ⟨k, hk, rfl, g, hg, hR, hB⟩ := hrel
    have XR := Lib.hid hR
    have XB := Lib.hid hB
    clear hR hB
    by_cases hlt : k < bs.length
    · obtain ⟨b, off, rfl, hb, hc⟩ := (A1.out.below XB.out).at k hlt
      have h8 : bs[k] < 256 := A1.out.2.1 _ (List.getElem_mem _)
      have hu : Bt.unpack (bs.take (k + 1)) = Bt.unpack (bs.take k) ++ Bt.top bs[k] 8 := by
        rw [List.take_succ_eq_append_getElem hlt, Bt.unpack_append, Bt.unpack_one]
      have HU := Lib.hid hu
      clear hu
      generalize bs[k] = c at *
      have hl : (Bt.unpack (bs.take k)).length ≤ 8000000 := by rw [Bt.unpack_length, List.length_take]; omega
      have hi : (k : Int) < (bs.length : Int) := by omega
      go_wp2_with fail
      refine (fbits_good _ g _ 0 c 8 (by omega) (by omega) _ XR.out (by omega)).mono ?_
      rintro e w' ⟨rfl, g', h1, h2, h3⟩
      have HN : Hid (FreadAt w bs (k + 1) w') := by
        have hs := XB.out.size
        exact ⟨g', by rcases h2 with h | h <;> omega, by rw [HU.out]; exact h1, XB.out.trans (h3.below hs (by intro x hx; simp at hx; omega))⟩
      clear h1 h2 h3
      go_wp2
      go_roundw
      case rel => exact ⟨k + 1, by omega, by go_num, HN⟩
      case measure => simp [intOf]; omega
    · obtain rfl : k = bs.length := by omega
      go_wp2
      go_ret
      have hR := XR.out
      rw [List.take_length] at hR
      exact ⟨_, g, rfl, Nat.le_refl _, hg, hR, XB.out⟩
def FnPost (w : World) (p g : Nat) (B : List Bool) (at_ : Nat) (n : Int) (e : Ending) (w' : World) : Prop :=
  e = .returned (.tuple #[.int .u64 (((Bt.rd (B.drop at_) n).1 : Nat) : Int), .int .u16 (((Bt.rd (B.drop at_) n).2.1 : Nat) : Int)]) ∧ Rf w' p g B (at_ + (Bt.rd (B.drop at_) n).2.2) ∧ Only [p] w w'
theorem rf_at {w : World} {p g at_ x : Nat} {B : List Bool} (h : Rf w p g B at_) : Rf (w.setCell ⟨p, 1, none⟩ (.int .i64 (x : Nat))) p g B x := by
  obtain ⟨v, h1, h2, h3, h4⟩ := h
  refine ⟨v, set2b h1, ?_, h3, by simpa [World.setCell] using h4⟩
  rcases h2.value with ⟨rfl, h0⟩ | ⟨cap, cur, rfl, hg, _⟩
  · rw [h0]; exact Row.nil _ _
  · refine h2.only ((Only.refl [p] _).setCell (p := ⟨p, 1, none⟩) (.inl (by simp)) _) ?_
    rcases h3 with h | h
    · cases h
    · simpa using h
theorem val_step (S : List Bool) (k : Nat) (h : k < S.length) : Bt.val (S.take (k + 1)) = 2 * Bt.val (S.take k) + (S[k]).toNat := by
  rw [List.take_succ_eq_append_getElem h, Bt.val_snoc]
set_option maxRecDepth 100000 in
set_option maxHeartbeats 400000 in
theorem fnext_any (p g : Nat) (B : List Bool) (at_ : Nat) (n : Int) (w : World) (H : Rf w p g B at_) (hat : at_ ≤ B.length) (hbd : B.length ≤ 1000000000) :
    Calls Tryd.prog 70 #[.pointer (some ⟨p, 0, none⟩), .int .i64 n] w (FnPost w p g B at_ n) := by
  have hU : (B.drop at_).length = B.length - at_ := by rw [List.length_drop]
  by_cases hn : n < 0 ∨ 64 < n
  · have hpost : FnPost w p g B at_ n (.returned (.tuple #[.int .u64 0, .int .u16 1])) w := by
      unfold FnPost Bt.rd
      rw [if_pos hn]
      exact ⟨rfl, H, Only.refl _ _⟩
    have HP := Lib.hid hpost
    clear hpost H hU
    rcases hn with hn | hn
    · have h1 : decide (n < 0) = true := by simpa using hn
      go_enter Tryd.func70, Tryd.ntmps70
      go_wp2
      go_ret2
      exact HP.out
    · have h1 : decide (n < 0) = false := by simp; omega
      have h2 : decide (n > 64) = true := by simpa using hn
      go_enter Tryd.func70, Tryd.ntmps70
      go_wp2
      go_ret2
      exact HP.out
  · obtain ⟨m, rfl⟩ := Int.eq_ofNat_of_zero_le (a := n) (by omega)
    have hm : m ≤ 64 := by omega
    have H0 := Lib.hid H
    clear H
    have h1 : decide ((m : Int) < 0) = false := by simp
    have h2 : decide ((m : Int) > 64) = false := by simp; omega
    by_cases hs : B.length - at_ < m
    · have hpost : ∀ w', Below w.heap.size w w' → FnPost w p g B at_ (m : Int) (.returned (.tuple #[.int .u64 0, .int .u16 20])) w' := by
        intro w' hb
        unfold FnPost Bt.rd
        rw [if_neg hn, hU, Int.toNat_natCast, if_pos hs]
        exact ⟨rfl, H0.out.below hb, Only.of_below hb _⟩
      have HP := Lib.hid hpost
      clear hpost hU hn
      have h3 : decide ((m : Int) > ((B.length - at_ : Nat) : Int)) = true := by simp; omega
      go_enter Tryd.func70, Tryd.ntmps70
      go_wp2_with (go_at_call 98; refine (fleft_any p g B at_ _ H0.out hat hbd).mono ?_; rintro e w1 ⟨rfl, hb⟩; have HB := Lib.hid hb; clear hb)
      go_ret2
      exact HP.out _ HB.out
    · have hpost : ∀ w', Rf w' p g B (at_ + m) → Only [p] w w' → FnPost w p g B at_ (m : Int) (.returned (.tuple #[.int .u64 ((Bt.val ((B.drop at_).take m) : Nat) : Int), .int .u16 0])) w' := by
        intro w' hr ho
        unfold FnPost Bt.rd
        rw [if_neg hn, hU, Int.toNat_natCast, if_neg hs]
        exact ⟨rfl, hr, ho⟩
      have HP := Lib.hid hpost
      have HU := Lib.hid hU
      clear hpost hU hn
      have h3 : decide ((m : Int) > ((B.length - at_ : Nat) : Int)) = false := by simp; omega
      go_enter Tryd.func70, Tryd.ntmps70
      go_wp2_with fail
      refine (fleft_any p g B at_ _ H0.out hat hbd).mono ?_
      rintro e w1 ⟨rfl, hb⟩
      have HB := Lib.hid hb
      clear hb
      go_wp2
      go_loopw [6, 7] (fun v i wr => ∃ k : Nat, k ≤ m ∧ i = .int .i64 (k : Nat) ∧ v = .int .u64 ((Bt.val ((B.drop at_).take k) : Nat) : Int) ∧ Hid (Below w.heap.size w wr)) (fun _ i _ => m - (intOf i).toNat)
      case atStart => exact ⟨0, Nat.zero_le _, rfl, rfl, HB⟩
      case round =>
        obtain ⟨k, hk, rfl, rfl, XB⟩ := hrel
        have XR := Lib.hid (H0.out.below XB.out)
        obtain ⟨a, cap, c0, c1, f0, f1, hcells, _⟩ := rf_slice XR.out
        by_cases hlt : k < m
        · obtain ⟨rfl, hc⟩ := hcells (at_ + k) (by omega)
          have hstep := val_step (B.drop at_) k (by have := HU.out; omega)
          have hvl : Bt.val ((B.drop at_).take k) < 2 ^ k := by
            have := Bt.val_lt ((B.drop at_).take k)
            rwa [List.length_take, Nat.min_eq_left (by have := HU.out; omega)] at this
          have hvl2 : Bt.val ((B.drop at_).take k) < 9223372036854775808 := Nat.lt_of_lt_of_le hvl (Nat.pow_le_pow_right (n := 2) (by decide) (show k ≤ 63 by omega))
          rw [List.getElem_drop] at hstep
          obtain ⟨c, hcc⟩ : ∃ c, (B[at_ + k]'(by omega)).toNat = c := ⟨_, rfl⟩
          have hc1 : c ≤ 1 := by rw [← hcc]; cases B[at_ + k]'(by omega) <;> decide
          rw [hcc] at hstep hc
          have HS := Lib.hid hstep
          obtain ⟨V, hV⟩ : ∃ V, Bt.val ((B.drop at_).take k) = V := ⟨_, rfl⟩
          rw [hV] at hvl2 HS ⊢
          clear hstep hvl hcc hcells hV
          have hi1 : ((at_ : Int) + (k : Int)) < (B.length : Int) := by omega
          have hi0 : (0 : Int) ≤ (at_ : Int) + (k : Int) := by omega
          have E1 : IntKind.i64.wrap ((at_ : Int) + (k : Int)) = ((at_ + k : Nat) : Int) := by rw [← Int.natCast_add]; exact IntWalk.i64_in _ (by omega)
          go_wp2
          go_quiet (fail)
          go_wp2
          go_roundw
          case rel => exact ⟨k + 1, by omega, by go_num, by rw [HS.out]; congr 1; omega, Lib.hid ((Only.of_below XB.out []).drewN _ |>.below (Nat.le_refl _) (by simp))⟩
          case measure => simp [intOf]; omega
        · obtain rfl : k = m := by omega
          have hfin := rf_at (x := at_ + k) XR.out
          have HF := Lib.hid hfin
          have hO := Lib.hid ((Only.of_below XB.out [p]).setCell (p := ⟨p, 1, none⟩) (.inl (by simp)) (.int .i64 ((at_ + k : Nat) : Int)))
          clear hfin hcells
          go_wp2
          go_ret2
          exact HP.out _ HF.out hO.out
/-- reading a number of groups: how far -/
structure FVar (w : World) (p g : Nat) (B : List Bool) (at_ i acc : Nat) (wr : World) : Prop where
  rf : Rf wr p g B (at_ + 8 * i)
  only : Only [p] w wr
  accl : acc < 2 ^ (7 * i)
  le : at_ + 8 * i ≤ B.length
  rv : Bt.rv (B.drop at_) = Bt.rvf (10 - i) i acc (B.drop (at_ + 8 * i))
theorem fvar_step {w wr w1 : World} {p g at_ j acc G f : Nat} {B S : List Bool} (HV : FVar w p g B at_ j acc wr) (hr : Rf w1 p g B (at_ + 8 * j + 8)) (ho : Only [p] w w1) (hS : B.drop (at_ + 8 * j) = S) (hf : 10 - j = f + 1) (_hj : j < 9)
    (hrv : Bt.rv (B.drop at_) = Bt.rvf f (j + 1) (acc + G % 128 * 2 ^ (7 * j)) (S.drop 8)) (hl : at_ + 8 * j + 8 ≤ B.length) : FVar w p g B at_ (j + 1) (acc + G % 128 * 2 ^ (7 * j)) w1 := by
  refine ⟨?_, ho, ?_, by omega, ?_⟩
  · rw [show at_ + 8 * (j + 1) = at_ + 8 * j + 8 by omega]; exact hr
  · have h3 := HV.accl
    rw [show 7 * (j + 1) = 7 + 7 * j by omega, Nat.pow_add]
    have : G % 128 ≤ 127 := by omega
    have := Nat.mul_le_mul_right (2 ^ (7 * j)) this
    omega
  · rw [hrv, ← hS, List.drop_drop, show 10 - (j + 1) = f by omega, show at_ + 8 * (j + 1) = at_ + 8 * j + 8 by omega]
def FvPost (w : World) (p g : Nat) (B : List Bool) (at_ : Nat) (e : Ending) (w' : World) : Prop :=
  e = .returned (.tuple #[.int .u64 (((Bt.rv (B.drop at_)).1 : Nat) : Int), .int .u16 (((Bt.rv (B.drop at_)).2.1 : Nat) : Int)]) ∧ Rf w' p g B (at_ + (Bt.rv (B.drop at_)).2.2) ∧ Only [p] w w'
set_option maxRecDepth 100000 in
set_option maxHeartbeats 400000 in
theorem fvarint_any (p g : Nat) (B : List Bool) (at_ : Nat) (w : World) (H : Rf w p g B at_) (hat : at_ ≤ B.length) (hbd : B.length ≤ 1000000000) :
    Calls Tryd.prog 71 #[.pointer (some ⟨p, 0, none⟩)] w (FvPost w p g B at_) := by
  obtain ⟨a, cap, c0, c1, f0, f1, _⟩ := rf_slice H
  have HI := Lib.hid (show FVar w p g B at_ 0 0 w from ⟨H, Only.refl _ _, by decide, hat, rfl⟩)
  clear H
  go_enter Tryd.func71, Tryd.ntmps71
  go_wp2
  clear c0 c1 f0 f1
  go_loopw [5, 6] (fun v i wr => ∃ j acc : Nat, i = .int .i64 (j : Nat) ∧ v = .int .u64 (acc : Nat) ∧ j ≤ 9 ∧ Hid (FVar w p g B at_ j acc wr)) (fun _ i _ => 10 - (intOf i).toNat)
  case atStart => exact ⟨0, 0, rfl, rfl, by decide, HI⟩
  case round =>
    obtain ⟨j, acc, rfl, rfl, hj, HV⟩ := hrel
    have hd10 : decide ((j : Int) < 10) = true := by simp; omega
    obtain ⟨f, hf⟩ : ∃ f, 10 - j = f + 1 := ⟨9 - j, by omega⟩
    have hrv := HV.out.rv
    rw [hf] at hrv
    obtain ⟨S, hS⟩ : ∃ S, B.drop (at_ + 8 * j) = S := ⟨_, rfl⟩
    have HF := Lib.hid hf
    clear hf
    by_cases hs : S.length < 8
    · have hrd : Bt.rd S 8 = (0, 20, 0) := by unfold Bt.rd; rw [if_neg (by omega), if_pos (by exact hs)]
      have hres : Bt.rv (B.drop at_) = (0, 20, 0) := by rw [hrv, hS, Bt.rvf, if_pos hs]
      have HR := Lib.hid hrd
      have HRES := Lib.hid hres
      have HS := Lib.hid hS
      clear hrd hres hS hrv hs
      go_wp2_with fail
      refine (fnext_any p g B (at_ + 8 * j) 8 _ HV.out.rf HV.out.le hbd).mono ?_
      rintro e w1 ⟨rfl, hr, ho⟩
      rw [HS.out, HR.out] at hr ⊢
      obtain ⟨_, _, c0, c1, f0, f1, _⟩ := rf_slice hr
      have XR := Lib.hid hr
      have XO := Lib.hid (HV.out.only.trans ho (fun x hx => .inl hx))
      clear hr ho c0
      go_wp2
      go_ret2
      refine ⟨by rw [HRES.out]; rfl, ?_, XO.out.setCell (p := ⟨p, 1, none⟩) (.inl (by simp)) _⟩
      rw [HRES.out]
      exact rf_at XR.out
    · obtain ⟨G, hG⟩ : ∃ G, Bt.val (S.take 8) = G := ⟨_, rfl⟩
      have hGl : G < 256 := by
        have := Bt.val_lt (S.take 8)
        rw [hG, List.length_take, Nat.min_eq_left (by omega)] at this
        exact this
      have hSl : at_ + 8 * j + 8 ≤ B.length := by
        have := congrArg List.length hS
        rw [List.length_drop] at this; omega
      have hrd : Bt.rd S 8 = (G, 0, 8) := by unfold Bt.rd; rw [if_neg (by omega), if_neg (by exact hs)]; show (Bt.val (S.take 8), 0, 8) = _; rw [hG]
      rw [hS, Bt.rvf, if_neg hs, hG] at hrv
      have HR := Lib.hid hrd
      have HS := Lib.hid hS
      have HG := Lib.hid hG
      clear hrd hS hs hG
      by_cases h9 : j = 9 ∧ 1 < G
      · have hres : Bt.rv (B.drop at_) = (0, 21, 0) := by rw [hrv, if_pos h9]
        have HRES := Lib.hid hres
        obtain ⟨rfl, h92⟩ := h9
        have hd : decide ((G : Int) > 1) = true := by simp; omega
        clear hres hrv
        go_wp2_with fail
        refine (fnext_any p g B (at_ + 8 * 9) 8 _ HV.out.rf HV.out.le hbd).mono ?_
        rintro e w1 ⟨rfl, hr, ho⟩
        rw [HS.out, HR.out] at hr ⊢
        obtain ⟨_, _, c0, c1, f0, f1, _⟩ := rf_slice hr
        have XR := Lib.hid hr
        have XO := Lib.hid (HV.out.only.trans ho (fun x hx => .inl hx))
        clear hr ho c0
        go_wp2
        go_ret2
        refine ⟨by rw [HRES.out]; rfl, ?_, XO.out.setCell (p := ⟨p, 1, none⟩) (.inl (by simp)) _⟩
        rw [HRES.out]
        exact rf_at XR.out
      · rw [if_neg h9] at hrv
        have hor : bits .or .u64 (acc : Int) (IntKind.u64.wrap ((G : Int) % 128 * 2 ^ (7 * j))) = ((acc + G % 128 * 2 ^ (7 * j) : Nat) : Int) :=
          acc_or HV.out.accl hGl (by omega) (by omega) (by omega)
        have HOR := Lib.hid hor
        clear hor
        have hd9 : ((j : Int) == 9) = false ∨ (((j : Int) == 9) = true ∧ decide ((G : Int) > 1) = false) := by
          by_cases h : j = 9
          · exact .inr ⟨by simp; omega, by simp; omega⟩
          · exact .inl (by simp; omega)
        by_cases h10 : 128 ≤ G
        · rw [if_pos h10] at hrv
          have hj9 : ((j : Int) == 9) = false := by simp; omega
          have hd : decide ((G : Int) < 128) = false := by simp; omega
          have HRV := Lib.hid hrv
          clear hrv hd9
          go_wp2_with fail
          refine (fnext_any p g B (at_ + 8 * j) 8 _ HV.out.rf HV.out.le hbd).mono ?_
          rintro e w1 ⟨rfl, hr, ho⟩
          rw [HS.out, HR.out] at hr ⊢
          obtain ⟨_, _, c0, c1, f0, f1, _⟩ := rf_slice hr
          have XR := Lib.hid hr
          have XO := Lib.hid (HV.out.only.trans ho (fun x hx => .inl hx))
          clear hr ho c0
          go_wp2
          have hst := fvar_step HV.out XR.out XO.out HS.out HF.out (by omega) HRV.out hSl
          have HST := Lib.hid hst
          clear hst
          rw [HOR.out]
          go_roundw
          case rel => exact ⟨j + 1, _, by go_num, rfl, by omega, HST⟩
          case measure => simp [intOf]; omega
        · rw [if_neg h10] at hrv
          have hd : decide ((G : Int) < 128) = true := by simp; omega
          by_cases h11 : G = 0 ∧ 0 < j
          · have hres : Bt.rv (B.drop at_) = (0, 21, 0) := by rw [hrv, if_pos h11]
            have HRES := Lib.hid hres
            obtain ⟨rfl, h0j⟩ := h11
            have hL2 : decide (0 < j) = true := by simpa using h0j
            clear hres hrv
            rcases hd9 with hd9 | ⟨hd9, hd8⟩
            all_goals
              go_wp2_with fail
              refine (fnext_any p g B (at_ + 8 * j) 8 _ HV.out.rf HV.out.le hbd).mono ?_
              rintro e w1 ⟨rfl, hr, ho⟩
              rw [HS.out, HR.out] at hr ⊢
              obtain ⟨_, _, c0, c1, f0, f1, _⟩ := rf_slice hr
              have XR := Lib.hid hr
              have XO := Lib.hid (HV.out.only.trans ho (fun x hx => .inl hx))
              clear hr ho c0
              go_wp2
              go_ret2
              refine ⟨by rw [HRES.out]; rfl, ?_, XO.out.setCell (p := ⟨p, 1, none⟩) (.inl (by simp)) _⟩
              rw [HRES.out]
              exact rf_at XR.out
          · rw [if_neg h11] at hrv
            have HRV := Lib.hid hrv
            clear hrv
            by_cases hj0 : 0 < j
            · have hL2 : decide (0 < j) = true := by simpa using hj0
              have hG1 : ((G : Int) == 0) = false := by simp; omega
              rcases hd9 with hd9 | ⟨hd9, hd8⟩
              all_goals
                go_wp2_with fail
                refine (fnext_any p g B (at_ + 8 * j) 8 _ HV.out.rf HV.out.le hbd).mono ?_
                rintro e w1 ⟨rfl, hr, ho⟩
                rw [HS.out, HR.out] at hr ⊢
                obtain ⟨_, _, c0, c1, f0, f1, _⟩ := rf_slice hr
                have XR := Lib.hid hr
                have XO := Lib.hid (HV.out.only.trans ho (fun x hx => .inl hx))
                clear hr ho c0
                go_wp2
                rw [HOR.out]
                go_ret2
                refine ⟨by rw [HRV.out]; rfl, ?_, XO.out⟩
                rw [HRV.out, show at_ + 8 * (j + 1) = at_ + 8 * j + 8 by omega]
                exact XR.out
            · have hL2 : decide (0 < j) = false := by simp; omega
              have hj9 : ((j : Int) == 9) = false := by simp; omega
              clear hd9
              go_wp2_with fail
              refine (fnext_any p g B (at_ + 8 * j) 8 _ HV.out.rf HV.out.le hbd).mono ?_
              rintro e w1 ⟨rfl, hr, ho⟩
              rw [HS.out, HR.out] at hr ⊢
              obtain ⟨_, _, c0, c1, f0, f1, _⟩ := rf_slice hr
              have XR := Lib.hid hr
              have XO := Lib.hid (HV.out.only.trans ho (fun x hx => .inl hx))
              clear hr ho c0
              go_wp2
              rw [HOR.out]
              go_ret2
              refine ⟨by rw [HRV.out]; rfl, ?_, XO.out⟩
              rw [HRV.out, show at_ + 8 * (j + 1) = at_ + 8 * j + 8 by omega]
              exact XR.out
def FsPost (w : World) (p g : Nat) (B : List Bool) (at_ : Nat) (e : Ending) (w' : World) : Prop :=
  e = .returned (.tuple #[.int .i64 (Bt.uz (Bt.rv (B.drop at_)).1), .int .u16 (((Bt.rv (B.drop at_)).2.1 : Nat) : Int)]) ∧ Rf w' p g B (at_ + (Bt.rv (B.drop at_)).2.2) ∧ Only [p] w w'
set_option maxHeartbeats 400000 in
theorem fsigned_any (p g : Nat) (B : List Bool) (at_ : Nat) (w : World) (H : Rf w p g B at_) (hat : at_ ≤ B.length) (hbd : B.length ≤ 1000000000) :
    Calls Tryd.prog 69 #[.pointer (some ⟨p, 0, none⟩)] w (FsPost w p g B at_) := by
  have H0 := Lib.hid H
  obtain ⟨t, ht⟩ : ∃ t, (Bt.rv (B.drop at_)).1 = t := ⟨_, rfl⟩
  have hlt : t < 18446744073709551616 := by rw [← ht]; exact Bt.rv_lt _
  have HT := Lib.hid ht
  have hl2 : t / 2 < 9223372036854775808 := by omega
  have HU : Hid (Bt.uz t = if t % 2 = 1 then -((t / 2 : Nat) : Int) - 1 else ((t / 2 : Nat) : Int)) := by unfold Bt.uz; rfl
  clear H ht
  by_cases h : t % 2 = 1
  · have hd : ((t : Int) % 2 == 1) = true := by simp; omega
    rw [if_pos h] at HU
    clear h
    go_enter Tryd.func69, Tryd.ntmps69
    go_wp2_with fail
    refine (fvarint_any p g B at_ _ H0.out hat hbd).mono ?_
    rintro e w1 ⟨rfl, hp, ho⟩
    rw [HT.out] at ⊢
    have HP := Lib.hid hp
    have HO := Lib.hid ho
    clear hp ho
    go_wp2
    go_ret2
    exact ⟨by rw [HT.out, HU.out]; rfl, HP.out, HO.out⟩
  · have hd : ((t : Int) % 2 == 1) = false := by simp; omega
    rw [if_neg h] at HU
    clear h
    go_enter Tryd.func69, Tryd.ntmps69
    go_wp2_with fail
    refine (fvarint_any p g B at_ _ H0.out hat hbd).mono ?_
    rintro e w1 ⟨rfl, hp, ho⟩
    rw [HT.out] at ⊢
    have HP := Lib.hid hp
    have HO := Lib.hid ho
    clear hp ho
    go_wp2
    go_ret2
    exact ⟨by rw [HT.out, HU.out]; rfl, HP.out, HO.out⟩
end Go.Proofs.YtdlifcpdlbmijaaDoor.B2
namespace Go.Proofs.YtdlifcpdlbmijaaDoor.B2
open Go.RowKit
theorem grown_below {B : Nat} {w0 w w' : World} {g : Nat} (h : Below B w0 w) (hg : w.grownBy w' (some g)) (hB : B ≤ w.heap.size) (hr : B ≤ g) : Below B w0 w' := h.grown hg hB (fun k hk => by cases hk; exact hr)
theorem grown_below0 {B : Nat} {w0 w w' : World} (h : Below B w0 w) (hg : w.grownBy w' none) (hB : B ≤ w.heap.size) : Below B w0 w' := h.grown hg hB (fun k hk => by cases hk)
/-- what is lent: a block of its own, the bytes and two marks behind them -/
def Lent (w : World) (g : Nat) (bs : List Nat) : Prop := w.heap[g]? = some (.cells (cellsOf (bs ++ [91, 92])).toArray 5 (0, 0))
/-- what a call of LentBytes comes to -/
def LentPost (w : World) (bs : List Nat) (e : Ending) (w' : World) : Prop :=
  ∃ g, w.heap.size ≤ g ∧ e = .returned (.slice (some ⟨g, 0, none⟩) bs.length (bs.length + 2)) ∧ Lent w' g bs ∧ Below w.heap.size w w'
theorem lent_of_owns {w : World} {base g n : Nat} {xs : List Value} (h : w.ownsRow base 5 1 (.slice (some ⟨g, 0, none⟩) n n) n xs) : w.heap[g]? = some (.cells xs.toArray 5 (0, 0)) := by
  obtain ⟨hl, h2⟩ := h
  rcases h2 with ⟨h0, _⟩ | ⟨g', cap, cur, hv, _, hg, _, _, hcs, ht⟩
  · cases h0
  · cases hv
    rw [hg]
    have : cur.toList = xs := by rw [← ht, List.take_of_length_le (by simp; omega)]
    rw [← this]
theorem marks_at (W : World) : ∀ (j : Nat) (u : Value), (cellsOf [91, 92])[j]? = some u → (W.alloc (.cells #[.int .u8 91, .int .u8 92] 5)).cell? ((⟨W.heap.size, 0, none⟩ : Addr).add j) = some u := by
  intro j u hu
  rw [show (⟨W.heap.size, 0, none⟩ : Addr).add j = ⟨W.heap.size, j, none⟩ by unfold Addr.add; split <;> simp_all, cell_of_row _ _ _ _ _ _ (heap_alloc_new W _)]
  rw [show (#[Value.int .u8 91, .int .u8 92] : Array Value) = (cellsOf [91, 92]).toArray from rfl, List.getElem?_toArray]
  exact hu
set_option maxHeartbeats 400000 in
theorem lent_any (a : Option Addr) (bs : List Nat) (cap : Nat) (w : World) (H : Bys w a bs) (hc0 : a = none → cap = 0) (hsm : bs.length ≤ 100000) :
    Calls Tryd.prog 63 #[.slice a bs.length cap] w (LentPost w bs) := by
  obtain ⟨i0, hi, hz0, hz1, hz2⟩ := info_parts info5
  have A1 := Lib.hid H
  clear H
  cases a with
  | none =>
    obtain rfl : cap = 0 := hc0 rfl
    have hbs : bs = [] := by
      refine Decidable.by_contra fun hn => ?_
      obtain ⟨b, off, e, _⟩ := A1.out.2.2 hn
      cases e
    subst hbs
    clear hc0 hsm
    go_enter Tryd.func63, Tryd.ntmps63
    go_wp2_with (first | (at_make; refine wpList_make_own _ rfl _ _ 71 rfl w.heap.size 5 i0 (.int .u8 0) 1 Tryd.underlying71 hi hz0 hz1 .i64 .i64 _ 2 rfl rfl (by rfl) (by rw [hz2]; omega) (by unfold maxLen; omega) (Nat.le_refl _) ?_; intro w1 hown1 hgr1) | (at_builtin; refine wpList_append_own_none rfl (.tmp 8) (.tmp 9) 71 rfl w.heap.size 5 i0 1 Tryd.underlying71 hi _ 0 [] rfl hown1 rfl ?_) | (at_builtin; refine wpList_append_own_spare _ rfl (.tmp 11) (.tmp 12) 71 rfl w.heap.size 5 i0 1 Tryd.underlying71 hi hz1 w.heap.size 0 2 [] rfl (hown1.alloc _) ⟨w1.heap.size, 0, none⟩ 2 2 (cellsOf [91, 92]) rfl rfl (marks_at w1) (cellsOf_one _) (by omega) ?_; intro w3 hown3 hgr3))
    go_ret
    have hz1' : w.heap.size ≤ w1.heap.size := hgr1.size
    exact ⟨w.heap.size, Nat.le_refl _, rfl, lent_of_owns hown3, grown_below ((grown_below0 (Below.refl _ _) hgr1 (Nat.le_refl _)).alloc hz1' _) hgr3 (by simp; omega) (Nat.le_refl _)⟩
  | some ad =>
    clear hc0
    go_enter Tryd.func63, Tryd.ntmps63
    go_wp2_with (first | (at_make; refine wpList_make_own _ rfl _ _ 71 rfl w.heap.size 5 i0 (.int .u8 0) 1 Tryd.underlying71 hi hz0 hz1 .i64 .i64 _ (bs.length + 2) rfl rfl (by simp) (by rw [hz2]; omega) (by unfold maxLen; omega) (Nat.le_refl _) ?_; intro w1 hown1 hgr1; have HB1 := Lib.hid (grown_below0 (Below.refl _ _) hgr1 (Nat.le_refl _)); have hsz : w.heap.size ≤ w1.heap.size := hgr1.size; clear hgr1) | (at_builtin; refine wpList_append_own_spare _ rfl (.tmp 8) (.tmp 9) 71 rfl w.heap.size 5 i0 1 Tryd.underlying71 hi hz1 w.heap.size 0 (bs.length + 2) [] rfl hown1 ad bs.length cap (cellsOf bs) rfl (by rw [cellsOf_length]; omega) ((A1.out.below HB1.out).cells) (cellsOf_one bs) (by omega) ?_; intro w2 hown2 hgr2; have hsz2 : w.heap.size ≤ w2.heap.size := Nat.le_trans hsz hgr2.size; have HB2 := Lib.hid (grown_below HB1.out hgr2 hsz (Nat.le_refl _)); clear hgr2 hown1; simp only [Nat.zero_add, List.nil_append] at hown2) | (at_builtin; refine wpList_append_own_spare _ rfl (.tmp 11) (.tmp 12) 71 rfl w.heap.size 5 i0 1 Tryd.underlying71 hi hz1 w.heap.size bs.length (bs.length + 2) (cellsOf bs) rfl (hown2.alloc _) ⟨w2.heap.size, 0, none⟩ 2 2 (cellsOf [91, 92]) rfl rfl (marks_at w2) (cellsOf_one _) (by omega) ?_; intro w3 hown3 hgr3))
    go_ret
    refine ⟨w.heap.size, Nat.le_refl _, rfl, ?_, grown_below (HB2.out.alloc hsz2 _) hgr3 (by simp; omega) (Nat.le_refl _)⟩
    unfold Lent
    rw [lent_of_owns hown3]
    simp [cellsOf]
theorem Lent.cell {w : World} {g : Nat} {bs : List Nat} (h : Lent w g bs) (j : Nat) : w.cell? ⟨g, j, none⟩ = (cellsOf (bs ++ [91, 92]))[j]? := by
  rw [cell_of_row _ _ _ _ _ _ h, List.getElem?_toArray]
theorem Lent.mark1 {w : World} {g : Nat} {bs : List Nat} (h : Lent w g bs) : w.cell? ⟨g, bs.length, none⟩ = some (.int .u8 91) := by
  rw [h.cell]; simp [cellsOf]
theorem Lent.mark2 {w : World} {g : Nat} {bs : List Nat} (h : Lent w g bs) : w.cell? ⟨g, bs.length + 1, none⟩ = some (.int .u8 92) := by
  rw [h.cell]; simp [cellsOf]
theorem Lent.bytes {w : World} {g : Nat} {bs : List Nat} (h : Lent w g bs) (hl : bs.length ≤ maxLen) (h8 : ∀ c ∈ bs, c < 256) : Bys w (some ⟨g, 0, none⟩) bs := by
  refine ⟨hl, h8, fun _ => ⟨g, 0, rfl, (Array.getElem?_eq_some_iff.1 h).1, fun i hi => ?_⟩⟩
  rw [Nat.zero_add, h.cell]
  unfold cellsOf; rw [List.getElem?_map, List.getElem?_append_left hi, List.getElem?_eq_getElem hi]; rfl
theorem Lent.below {w w' : World} {g : Nat} {bs : List Nat} (h : Lent w g bs) (hb : Below w.heap.size w w') : Lent w' g bs := (hb.block g (Array.getElem?_eq_some_iff.1 h).1).trans h
set_option maxHeartbeats 400000 in
theorem whole_any (g : Nat) (a : Option Addr) (bs : List Nat) (cap : Nat) (w : World) (L : Lent w g bs) (H : Bys w a bs) (hsm : bs.length ≤ 100000) :
    Calls Tryd.prog 67 #[.slice (some ⟨g, 0, none⟩) bs.length (bs.length + 2), .slice a bs.length cap] w fun e w' => e = .returned (.bool true) ∧ Below w.heap.size w w' := by
  have m1 := L.mark1
  have m2 := L.mark2
  have A1 := Lib.hid (L.bytes H.1 H.2.1)
  have A2 := Lib.hid H
  clear L H
  go_enter Tryd.func67, Tryd.ntmps67
  go_wp2_with (go_at_call 29; refine (same_any _ _ bs _ _ _ A1.out A2.out).mono ?_; rintro e w' ⟨rfl, hb⟩; have HB := Lib.hid hb; clear hb)
  go_ret
  exact ⟨rfl, HB.out⟩
/-- while it is written over -/
def Spoilt (w : World) (g L : Nat) (wr : World) : Prop := (∃ cur, wr.heap[g]? = some (.cells cur 5 (0, 0)) ∧ cur.size = L) ∧ Only [g] w wr
theorem Spoilt.cell {w wr : World} {g L k : Nat} (h : Spoilt w g L wr) (hk : k < L) : (∃ u, wr.cell? ⟨g, k, none⟩ = some u) ∧ wr.frozen? ⟨g, k, none⟩ = false ∧ ∀ u, Spoilt w g L (wr.setCell ⟨g, k, none⟩ u) := by
  obtain ⟨⟨cur, h1, h2⟩, h3⟩ := h
  refine ⟨⟨cur[k]'(by omega), ?_⟩, frozen_of_row _ _ _ _ _ h1, fun u => ⟨⟨_, heap_setCell_same _ _ _ _ _ _ h1, by simpa using h2⟩, h3.setCell (p := ⟨g, k, none⟩) (.inl (by simp)) u⟩⟩
  rw [cell_of_row _ _ _ _ _ _ h1, Array.getElem?_eq_getElem (by omega)]
end Go.Proofs.YtdlifcpdlbmijaaDoor.B2
namespace Go.Proofs.YtdlifcpdlbmijaaDoor.B2
open Go.RowKit
/-- how far a varint has been put -/
def FvarAt (w : World) (p g : Nat) (B : List Bool) (at_ v u : Nat) (wr : World) : Prop := ∃ pre, pre ++ Bt.vb u = Bt.vb v ∧ RfPost w p g (B ++ pre) at_ wr
set_option maxHeartbeats 400000 in
theorem fputvar_any (p g : Nat) (B : List Bool) (at_ v : Nat) (hv : v < 18446744073709551616) (w : World) (H : Rf w p g B at_) (hB : B.length + 80 ≤ 1000000000) :
    Calls Tryd.prog 112 #[.pointer (some ⟨p, 0, none⟩), .int .u64 (v : Nat)] w fun e w' => e = .returned (.tuple #[]) ∧ RfPost w p g (B ++ Bt.vb v) at_ w' := by
  have h80 : (Bt.vb v).length ≤ 80 := by rw [Bt.vb_length]; have := Bt.vg_ten v hv; omega
  have H0 := Lib.hid (show FvarAt w p g B at_ v v w from ⟨[], rfl, by simpa using RfPost.refl H⟩)
  have HV := Lib.hid hv
  clear H hv
  go_enter Tryd.func112, Tryd.ntmps112
  go_wp2
  go_loopw [1] (fun i wr => ∃ u : Nat, i = .int .u64 (u : Nat) ∧ u ≤ v ∧ Hid (FvarAt w p g B at_ v u wr)) (fun i _ => (intOf i).toNat)
  case atStart => exact ⟨v, rfl, Nat.le_refl _, H0⟩
  case round =>
    obtain ⟨u, rfl, hu, pre, hpre, g1, HW, hg1, HO⟩ := hrel
    have hl : pre.length + (Bt.vb u).length ≤ 80 := by rw [← List.length_append, hpre]; exact h80
    have HP := Lib.hid hpre
    have HX := Lib.hid HW
    have HOO := Lib.hid HO
    have hu2 : 8 ≤ (Bt.vb u).length := by rw [Bt.vb_length]; have := Bt.vg_pos u; omega
    have hu64 : u < 18446744073709551616 := Nat.lt_of_le_of_lt hu HV.out
    clear hpre HW HO
    by_cases hlt : 128 ≤ u
    · have hd : decide ((u : Int) > 127) = true := by simp; omega
      go_wp2_with fail
      rw [show (128 : Int) + (u : Int) % 128 = ((u % 128 + 128 : Nat) : Int) by omega]
      refine (fbits_good p g1 (B ++ pre) at_ (u % 128 + 128) 8 (by omega) (by omega) _ HX.out (by rw [List.length_append]; omega)).mono ?_
      rintro e w' ⟨rfl, hp⟩
      have HY : Hid (FvarAt w p g B at_ v (u / 128) w') := by
        refine ⟨pre ++ Bt.top (u % 128 + 128) 8, by rw [List.append_assoc, ← Bt.vb_big hlt]; exact HP.out, ?_⟩
        rw [← List.append_assoc]
        exact RfPost.trans HOO.out hg1 hp
      clear hp
      go_wp2
      go_roundw
      case rel => exact ⟨u / 128, by simp, by omega, HY⟩
      case measure => simp [intOf]; omega
    · have hd : decide ((u : Int) > 127) = false := by simp; omega
      go_wp2_with fail
      refine (fbits_good p g1 (B ++ pre) at_ u 8 (by omega) (by omega) _ HX.out (by rw [List.length_append]; omega)).mono ?_
      rintro e w' ⟨rfl, hp⟩
      have HY : Hid (RfPost w p g (B ++ Bt.vb v) at_ w') := by
        rw [← HP.out, Bt.vb_small (by omega), ← List.append_assoc]
        exact RfPost.trans HOO.out hg1 hp
      clear hp
      go_wp2
      go_end0
      exact ⟨rfl, HY.out⟩
set_option maxHeartbeats 400000 in
theorem fputsgn_any (p g : Nat) (B : List Bool) (at_ : Nat) (v : Int) (h1 : -9223372036854775808 ≤ v) (h2 : v ≤ 9223372036854775807) (w : World) (H : Rf w p g B at_) (hB : B.length + 80 ≤ 1000000000) :
    Calls Tryd.prog 86 #[.pointer (some ⟨p, 0, none⟩), .int .i64 v] w fun e w' => e = .returned (.tuple #[]) ∧ RfPost w p g (B ++ Bt.vb (Bt.zz v)) at_ w' := by
  have H0 := Lib.hid H
  clear H
  by_cases h0 : 0 ≤ v
  · have hd : decide (v ≥ 0) = true := by simpa using h0
    go_enter Tryd.func86, Tryd.ntmps86
    go_wp2_with fail
    rw [zz_pos v h0]
    refine (fputvar_any p g B at_ (Bt.zz v) (Bt.zz_lt v h1 h2) _ H0.out hB).mono ?_
    rintro e w' ⟨rfl, hp⟩
    have HP := Lib.hid hp
    clear hp
    go_wp2
    first | go_end0 | refine bodyPost_ret (results_none rfl _ _ _) rfl ?_
    exact ⟨rfl, HP.out⟩
  · have hd : decide (v ≥ 0) = false := by simp; omega
    have hz : -(v + 1) * 2 + 1 = ((Bt.zz v : Nat) : Int) := by unfold Bt.zz; rw [if_neg h0]; omega
    have HZ := Lib.hid hz
    clear hz
    go_enter Tryd.func86, Tryd.ntmps86
    go_wp2_with fail
    rw [HZ.out]
    refine (fputvar_any p g B at_ (Bt.zz v) (Bt.zz_lt v h1 h2) _ H0.out hB).mono ?_
    rintro e w' ⟨rfl, hp⟩
    have HP := Lib.hid hp
    clear hp
    go_wp2
    first | go_end0 | refine bodyPost_ret (results_none rfl _ _ _) rfl ?_
    exact ⟨rfl, HP.out⟩
/-- the bits with eight noughts behind them -/
def pad (B : List Bool) : List Bool := B ++ List.replicate 8 false
theorem pad_length (B : List Bool) : (pad B).length = B.length + 8 := by simp [pad]
theorem pad_get (B : List Bool) (i : Nat) (h : i < B.length + 8) : (pad B)[i]'(by rw [pad_length]; exact h) = if h2 : i < B.length then B[i] else false := by
  unfold pad
  by_cases h2 : i < B.length
  · rw [dif_pos h2, List.getElem_append_left h2]
  · rw [dif_neg h2, List.getElem_append_right (by omega), List.getElem_replicate]
theorem pad_step (B : List Bool) (i k : Nat) (h : i + k < B.length + 8) : Bt.val (((pad B).drop i).take (k + 1)) = 2 * Bt.val (((pad B).drop i).take k) + (if h2 : i + k < B.length then B[i + k] else false).toNat := by
  rw [val_step _ k (by rw [List.length_drop, pad_length]; omega), List.getElem_drop, pad_get B (i + k) h]
/-- what has been laid of the bytes: m of them -/
def LaidAt (w : World) (B : List Bool) (m : Nat) (v : Value) (wr : World) : Prop := ∃ outs g, outs.length = m ∧ (∀ c ∈ outs, c < 256) ∧ Bt.unpack outs = (pad B).take (8 * m) ∧ Row wr g v outs ∧ (v.ownBlock = none ∨ w.heap.size ≤ g) ∧ Below w.heap.size w wr
theorem LaidAt.shape {w wr : World} {B : List Bool} {m : Nat} {v : Value} (h : LaidAt w B m v wr) : ∃ a cap, v = .slice a m cap := by
  obtain ⟨outs, g, hl, _, _, hR, _⟩ := h
  rcases hR.value with ⟨rfl, h0⟩ | ⟨cap, cur, rfl, _⟩
  · subst h0; exact ⟨_, _, by rw [← hl]; rfl⟩
  · exact ⟨_, _, by rw [hl]⟩
theorem laid_step {w wr w' : World} {B : List Bool} {m g V : Nat} {v v' : Value} {o : Obj} {outs : List Nat} (hl : outs.length = m) (h8 : ∀ c ∈ outs, c < 256) (hu : Bt.unpack outs = (pad B).take (8 * m)) (hR : Row wr g v outs) (hne : v.ownBlock = none ∨ w.heap.size ≤ g) (hb : Below w.heap.size w wr)
    (hV : Bt.val (((pad B).drop (8 * m)).take 8) = V) (hm : 8 * m < B.length) (hV8 : V < 256) (hown : w'.ownsRow 0 5 1 v' (m + 1) (cellsOf outs ++ cellsOf [V])) (hgr : (wr.alloc o).grownBy w' v.ownBlock) (hpl : v'.ownBlock = v.ownBlock ∨ ∃ g, v'.ownBlock = some g ∧ wr.heap.size + 1 ≤ g) : LaidAt w B (m + 1) v' w' := by
  subst hl
  obtain ⟨d2, cap2, rfl, hcap2, R2, hd2, hd2l⟩ := grow_row (ns := [V]) hR hown hpl (by simp)
  have hs := hb.size
  refine ⟨outs ++ [V], d2, by simp, fun c hc => ?_, ?_, R2, ?_, ?_⟩
  · rcases List.mem_append.1 hc with hc | hc
    · exact h8 c hc
    · simp only [List.mem_singleton] at hc; omega
  · have hlen : (((pad B).drop (8 * outs.length)).take 8).length = 8 := by rw [List.length_take, List.length_drop, pad_length]; omega
    have ht := Bt.top_val (((pad B).drop (8 * outs.length)).take 8)
    rw [hlen, hV] at ht
    rw [Bt.unpack_append, Bt.unpack_one, hu, ht, show 8 * (outs.length + 1) = 8 * outs.length + 8 by omega, List.take_add]
  · right
    rcases hd2 with ⟨h1, rfl⟩ | h1
    · rcases hne with h | h
      · rw [h] at h1; cases h1
      · exact h
    · omega
  · refine (hb.alloc hs o).grown hgr (by simp; omega) (fun k hk => ?_)
    rcases hR.2 with h | h
    · rw [h] at hk; cases hk
    · rw [h] at hk; injection hk with hk; subst hk
      rcases hne with h2 | h2
      · rw [h2] at h; cases h
      · exact h2
theorem one_byte (W : World) (c : Nat) : ∀ (j : Nat) (u : Value), (cellsOf [c])[j]? = some u → (W.alloc (.cells #[.int .u8 ((c : Nat) : Int)] 5)).cell? ((⟨W.heap.size, 0, none⟩ : Addr).add j) = some u := by
  intro j u hu
  rw [add_here, cell_of_row _ _ _ _ _ _ (heap_alloc_new W _)]
  rw [show (#[Value.int .u8 ((c : Nat) : Int)] : Array Value) = (cellsOf [c]).toArray from rfl, List.getElem?_toArray]
  exact hu
set_option maxRecDepth 100000 in
set_option maxHeartbeats 400000 in
theorem fbytes_any (p g at_ : Nat) (B : List Bool) (w : World) (H : Rf w p g B at_) (hB : B.length ≤ 100000000) :
    Calls Tryd.prog 91 #[.pointer (some ⟨p, 0, none⟩)] w (BytesPost w B) := by
  obtain ⟨i0, hi, hz0, hz1, hz2⟩ := info_parts info5
  have H0 := Lib.hid H
  have L0 := Lib.hid (show LaidAt w B 0 (.slice none 0 0) w from ⟨[], 0, rfl, by simp, by simp [Bt.unpack], Row.nil _ _, .inl rfl, Below.refl _ _⟩)
  clear H
  go_enter Tryd.func91, Tryd.ntmps91
  go_wp2
  go_loopw [3, 4] (fun o i wr => ∃ m : Nat, i = .int .i64 ((8 * m : Nat) : Int) ∧ 8 * m < B.length + 8 ∧ Hid (LaidAt w B m o wr)) (fun _ i _ => B.length + 8 - (intOf i).toNat)
  case atStart => exact ⟨0, rfl, by omega, L0⟩
  case round =>
    obtain ⟨m, rfl, hm, HL⟩ := hrel
    obtain ⟨ao, co, rfl⟩ := HL.out.shape
    obtain ⟨M, hM⟩ : ∃ M, 8 * m = M := ⟨_, rfl⟩
    have HMM := Lib.hid hM
    rw [hM] at hm ⊢
    clear hM
    have HB : Hid (Below w.heap.size w wr) := by
      obtain ⟨_, _, _, _, _, _, _, h⟩ := HL.out
      exact h
    obtain ⟨a, cap, c0, c1, f0, f1, hcells, _⟩ := rf_slice (H0.out.below HB.out)
    by_cases hlt : M < B.length
    · have hd : decide ((M : Int) < (B.length : Int)) = true := by simp; omega
      have hdn : decide (M < B.length) = true := by simpa using hlt
      go_wp2
      go_loop [5, 6] (fun n k => ∃ j : Nat, j ≤ 8 ∧ k = .int .i64 (j : Nat) ∧ n = .int .i64 ((Bt.val (((pad B).drop M).take j) : Nat) : Int)) (fun _ k => 8 - (intOf k).toNat)
      case atStart => exact ⟨0, by omega, rfl, rfl⟩
      case round =>
        obtain ⟨j, hj, rfl, rfl⟩ := hrel
        have hvl : Bt.val (((pad B).drop M).take j) < 2 ^ j := by
          have := Bt.val_lt (((pad B).drop M).take j)
          rwa [List.length_take, List.length_drop, pad_length, Nat.min_eq_left (by omega)] at this
        have hv8 : Bt.val (((pad B).drop M).take j) < 256 := Nat.lt_of_lt_of_le hvl (Nat.pow_le_pow_right (n := 2) (by decide) hj)
        by_cases hj8 : j < 8
        · have hst := pad_step B M j (by omega)
          have hdj : decide ((j : Int) < 8) = true := by simp; omega
          obtain ⟨V, hV⟩ : ∃ V, Bt.val (((pad B).drop M).take j) = V := ⟨_, rfl⟩
          rw [hV] at hv8 hst ⊢
          clear hvl hV
          by_cases hin : M + j < B.length
          · rw [dif_pos hin] at hst
            obtain ⟨rfl, hc⟩ := hcells (M + j) hin
            obtain ⟨c, hcc⟩ : ∃ c, (B[M + j]'hin).toNat = c := ⟨_, rfl⟩
            have hc1 : c ≤ 1 := by rw [← hcc]; cases B[M + j]'hin <;> decide
            rw [hcc] at hst hc
            have HS := Lib.hid hst
            clear hst hcc hcells
            have hdi : decide ((M : Int) + (j : Int) < (B.length : Int)) = true := by simp; omega
            have hix : (M : Int) + (j : Int) < (B.length : Int) := by omega
            go_wp2
            go_round
            case rel => exact ⟨j + 1, by omega, by go_num, by rw [HS.out]; go_num⟩
            case measure => simp [intOf]; omega
          · rw [dif_neg hin] at hst
            have HS := Lib.hid hst
            have hdi : decide ((M : Int) + (j : Int) < (B.length : Int)) = false := by simp; omega
            clear hst hcells
            go_wp2
            go_round
            case rel => exact ⟨j + 1, by omega, by go_num, by rw [HS.out]; go_num⟩
            case measure => simp [intOf]; omega
        · obtain rfl : j = 8 := by omega
          obtain ⟨V, hV⟩ : ∃ V, Bt.val (((pad B).drop M).take 8) = V := ⟨_, rfl⟩
          rw [hV] at hv8 ⊢
          have HV := Lib.hid hV
          have hml : m ≤ 20000000 := by have := HMM.out; omega
          clear hvl hV hcells
          obtain ⟨outs, g2, hlo, h8, hu, hR, hne, hb⟩ := HL.out
          have HOW2 := Lib.hid (show wr.ownsRow 0 5 1 (.slice ao m co) m (cellsOf outs) by rw [← hlo]; exact hlo ▸ hR.1)
          have HST := Lib.hid (show ∀ (v' : Value) (w' : World) (o : Obj), w'.ownsRow 0 5 1 v' (m + 1) (cellsOf outs ++ cellsOf [V]) → (wr.alloc o).grownBy w' (Value.slice ao m co).ownBlock → (v'.ownBlock = (Value.slice ao m co).ownBlock ∨ ∃ g, v'.ownBlock = some g ∧ wr.heap.size + 1 ≤ g) → LaidAt w B (m + 1) v' w' from fun v' w' o h1 h2 h3 => laid_step hlo h8 hu hR hne hb (by rw [HMM.out]; exact HV.out) (by rw [HMM.out]; omega) hv8 h1 h2 h3)
          clear hlo h8 hu hR hne hb
          go_wp2_with (at_builtin; refine wpList_append_place _ rfl (.tmp 43) (.tmp 46) 71 rfl 5 i0 (.int .u8 0) 1 1 Tryd.underlying71 hi hz0 hz1 hz2 rfl (by decide) (.slice ao m co) m (cellsOf outs) rfl (HOW2.out.alloc _) ⟨wr.heap.size, 0, none⟩ 1 1 (cellsOf [V]) rfl rfl (one_byte wr V) (cellsOf_one _) (by unfold maxLen; omega) (by omega) ?_)
          intro v2 w2 hown2 hgr2 hpl2
          have HN := Lib.hid (HST.out v2 w2 _ hown2 hgr2 hpl2)
          clear hown2 hgr2 hpl2
          go_wp2
          go_roundw
          case rel => exact ⟨m + 1, by have := HMM.out; congr 1; omega, by have := HMM.out; omega, HN⟩
          case measure => simp [intOf]; omega
    · have hd : decide (M < B.length) = false := by simpa using hlt
      go_wp2
      go_ret
      obtain ⟨outs, g2, hlo, h8, hu, hR, hne, hb⟩ := HL.out
      have hMM := HMM.out
      subst hlo
      refine ⟨outs, 8 * outs.length - B.length, by omega, ⟨h8, ?_⟩, ao, co, g2, rfl, hR, ?_, hb⟩
      · rw [hu, pad, List.take_append, List.take_of_length_le (by omega), List.take_replicate, Nat.min_eq_left (by omega)]
      · rcases hne with h | h
        · left
          cases ao with
          | none => rfl
          | some x => cases h
        · exact .inr h
end Go.Proofs.YtdlifcpdlbmijaaDoor.B2
namespace Go.Proofs.YtdlifcpdlbmijaaDoor
set_option linter.unusedVariables false
set_option linter.unusedSimpArgs false
open Go.RowKit Go.PlainAid Go.Shelf
open B2 (Only Wr PutPost Bys Row cellsOf)
open Gm (St Smp)
theorem and0_spell (v i : Nat) (hv : v < 18446744073709551616) : (bits .and .u64 ((v : Int) / 2 ^ i) 1 == 0) = !v.testBit i := by
  have h := B2.and1_spell v i hv
  have e : ((v : Int) / 2 ^ i) = ((v >>> i : Nat) : Int) := by
    rw [Nat.shiftRight_eq_div_pow]
    simp only [Int.natCast_ediv, Int.natCast_pow, Int.cast_ofNat_Int]
  have hl : v >>> i < 18446744073709551616 := by
    rw [Nat.shiftRight_eq_div_pow]; exact Nat.lt_of_le_of_lt (Nat.div_le_self _ _) hv
  have h2 := u64_and_nat (v >>> i) 1 hl (by decide)
  rw [nat_mask1] at h2
  rw [e] at h ⊢
  have h3 : bits .and .u64 ((v >>> i : Nat) : Int) 1 = ((v >>> i % 2 : Nat) : Int) := h2
  rw [h3] at h ⊢
  rw [← h]
  have h4 : v >>> i % 2 = 0 ∨ v >>> i % 2 = 1 := by omega
  rcases h4 with h4 | h4 <;> rw [h4] <;> rfl
theorem ctz_bits (x : Nat) (h0 : x ≠ 0) (hx : x < 18446744073709551616) : x.testBit (Lib.ctz 64 x) = true ∧ ∀ q, q < Lib.ctz 64 x → x.testBit q = false := by
  obtain ⟨h1, m, h2⟩ := Gm.ctz_facts x h0 hx
  generalize Lib.ctz 64 x = c at *
  have hs : x = (2 * m + 1) <<< c := by rw [h2, Nat.shiftLeft_eq, Nat.mul_comm]
  constructor
  · rw [hs, Nat.testBit_shiftLeft]; simp
  · intro q hq
    rw [hs, Nat.testBit_shiftLeft]
    have : ¬ q ≥ c := by omega
    simp [this]
theorem lead_lt (x l : Nat) (hx : x < 18446744073709551616) (hl : l ≤ 64) (h : ∀ q, q < l → x.testBit (63 - q) = false) : x < 2 ^ (64 - l) := by
  induction l with
  | zero => simpa using hx
  | succ l ih =>
    have h1 := ih (by omega) (fun q hq => h q (by omega))
    have h2 := h l (by omega)
    refine Nat.lt_of_not_le fun hge => ?_
    have h3 : x.testBit (63 - l) = true := by
      rw [Nat.testBit_eq_decide_div_mod_eq]
      have e1 : 64 - (l + 1) = 63 - l := by omega
      rw [e1] at hge
      have e2 : 2 ^ (64 - l) = 2 ^ (63 - l) * 2 := by rw [← Nat.pow_succ]; congr 1; omega
      have h5 : x / 2 ^ (63 - l) = 1 := by
        refine Nat.div_eq_of_lt_le (by omega) ?_
        rw [Nat.add_mul, Nat.one_mul]; omega
      rw [h5]; rfl
    rw [h3] at h2; cases h2
theorem lead_is (x l : Nat) (h0 : x ≠ 0) (hx : x < 18446744073709551616) (hl : l ≤ 31) (h : ∀ q, q < l → x.testBit (63 - q) = false) (he : l = 31 ∨ x.testBit (63 - l) = true) : Gm.wS x = l := by
  obtain ⟨b1, b2, b3, b4⟩ := Gm.bitLen_facts x h0 hx
  have h1 := lead_lt x l hx (by omega) h
  unfold Gm.wS
  have hb : Lib.bitLen x ≤ 64 - l := by
    refine Nat.le_of_not_lt fun hlt => ?_
    have : 2 ^ (64 - l) ≤ 2 ^ (Lib.bitLen x - 1) := Nat.pow_le_pow_right (by decide) (by omega)
    omega
  rcases he with rfl | he
  · omega
  · have hge : 2 ^ (63 - l) ≤ x := Nat.ge_two_pow_of_testBit he
    have hb2 : 63 - l < Lib.bitLen x := by
      refine Nat.lt_of_not_le fun hle => ?_
      have : 2 ^ Lib.bitLen x ≤ 2 ^ (63 - l) := Nat.pow_le_pow_right (by decide) hle
      omega
    omega
set_option maxHeartbeats 8000000 in
set_option maxRecDepth 100000 in
theorem ends_any (x : Nat) (h0 : x ≠ 0) (hx : x < 18446744073709551616) (w : World) :
    Calls Tryd.prog 90 #[.int .u64 ((x : Nat) : Int)] w fun e w' => e = .returned (.tuple #[.int .i64 ((Gm.wS x : Nat) : Int), .int .i64 ((Lib.ctz 64 x : Nat) : Int)]) ∧ w' = w := by
  have HX := Lib.hid (And.intro h0 hx)
  obtain ⟨t1, t2⟩ := ctz_bits x h0 hx
  have hc := (Gm.ctz_facts x h0 hx).1
  obtain ⟨c, hcc⟩ : ∃ c, Lib.ctz 64 x = c := ⟨_, rfl⟩
  rw [hcc] at t1 t2 hc ⊢
  have HT := Lib.hid (And.intro t1 t2)
  have HS := Lib.hid (fun i => and0_spell x i hx)
  clear h0 hx t1 t2 hcc
  go_enter Tryd.func90, Tryd.ntmps90
  go_wp2
  go_loopw [4] (fun i wr => ∃ l : Nat, l ≤ 31 ∧ i = .int .i64 l ∧ Hid (∀ q, q < l → x.testBit (63 - q) = false) ∧ wr = w) (fun i _ => 31 - (intOf i).toNat)
  case atStart => exact ⟨0, by omega, rfl, Lib.hid (fun q h => by omega), rfl⟩
  case round =>
    obtain ⟨l, hl, rfl, HQ, rfl⟩ := hrel
    by_cases h31 : l < 31
    · have g1 : decide ((l : Int) < 31) = true := decide_eq_true (by omega)
      have g2 : decide (l < 31) = true := decide_eq_true h31
      have h63 : (63 : Int) - (l : Int) = ((63 - l : Nat) : Int) := by omega
      have h64 : 63 - l < 64 := by omega
      have hw : IntKind.u64.wrap ((63 - l : Nat) : Int) = ((63 - l : Nat) : Int) := by rw [IntKind.wrap_u64]; omega
      have hsp := HS.out (63 - l)
      by_cases hb : x.testBit (63 - l) = true
      · rw [hb] at hsp
        have HL := Lib.hid (lead_is x l HX.out.1 HX.out.2 hl HQ.out (.inr hb))
        clear hb HQ
        go_wp2
        go_loopw [5] (fun i wr2 => ∃ e : Nat, e ≤ c ∧ i = .int .i64 e ∧ wr2 = wr) (fun i _ => c - (intOf i).toNat)
        case atStart => exact ⟨0, by omega, rfl, rfl⟩
        case round =>
          obtain ⟨e, hec, rfl, rfl⟩ := hrel
          have he64 : e < 64 := by omega
          have hwe : IntKind.u64.wrap ((e : Nat) : Int) = ((e : Nat) : Int) := by rw [IntKind.wrap_u64]; omega
          have hspe := HS.out e
          by_cases hlt : e < c
          · rw [HT.out.2 e hlt] at hspe
            go_wp2
            go_roundw
            case rel => exact ⟨e + 1, by omega, rfl, trivial⟩
            case measure => simp [intOf]; omega
          · have hee : e = c := by omega
            subst hee
            rw [HT.out.1] at hspe
            go_wp2
            go_ret2
            exact ⟨by rw [HL.out]; rfl, rfl⟩
      · have hb2 : x.testBit (63 - l) = false := by simpa using hb
        rw [hb2] at hsp
        have HQ2 := Lib.hid (show ∀ q, q < l + 1 → x.testBit (63 - q) = false from fun q hq => by
          rcases Nat.lt_or_ge q l with h | h
          · exact HQ.out q h
          · have : q = l := by omega
            subst this; exact hb2)
        clear hb hb2 HQ
        go_wp2
        go_roundw
        case rel => exact ⟨l + 1, by omega, rfl, HQ2, trivial⟩
        case measure => simp [intOf]; omega
    · have hl31 : l = 31 := by omega
      subst hl31
      have HL := Lib.hid (lead_is x 31 HX.out.1 HX.out.2 hl HQ.out (.inl rfl))
      have g1 : decide (((31 : Nat) : Int) < 31) = false := decide_eq_false (by omega)
      clear HQ
      go_wp2
      go_loopw [5] (fun i wr2 => ∃ e : Nat, e ≤ c ∧ i = .int .i64 e ∧ wr2 = wr) (fun i _ => c - (intOf i).toNat)
      case atStart => exact ⟨0, by omega, rfl, rfl⟩
      case round =>
        obtain ⟨e, hec, rfl, rfl⟩ := hrel
        have he64 : e < 64 := by omega
        have hwe : IntKind.u64.wrap ((e : Nat) : Int) = ((e : Nat) : Int) := by rw [IntKind.wrap_u64]; omega
        have hspe := HS.out e
        by_cases hlt : e < c
        · rw [HT.out.2 e hlt] at hspe
          go_wp2
          go_roundw
          case rel => exact ⟨e + 1, by omega, rfl, trivial⟩
          case measure => simp [intOf]; omega
        · have hee : e = c := by omega
          subst hee
          rw [HT.out.1] at hspe
          go_wp2
          go_ret2
          exact ⟨by rw [HL.out]; rfl, rfl⟩
end Go.Proofs.YtdlifcpdlbmijaaDoor
namespace Go.Proofs.YtdlifcpdlbmijaaDoor
set_option linter.unusedVariables false
set_option linter.unusedSimpArgs false
open Go.RowKit Go.PlainAid Go.Shelf
open B2 (Only Wr PutPost Bys Row cellsOf Rf RfPost)
open Gm (St Smp)
/-- samples in memory -/
def Sam (w : World) (b : Nat) (l : List Smp) : Prop := ∀ i (hi : i < l.length), w.cell? ⟨b, i * 2, none⟩ = some (.int .i64 l[i].t) ∧ w.cell? ⟨b, i * 2 + 1, none⟩ = some (.int .u64 ((l[i].v : Nat) : Int))
theorem Sam.below {w w' : World} {b : Nat} {l : List Smp} (h : Sam w b l) (hb : Below w.heap.size w w') : Sam w' b l := fun i hi => ⟨cell_below (h i hi).1 hb, cell_below (h i hi).2 hb⟩
theorem Sam.only {w w' : World} {S : List Nat} {b : Nat} {l : List Smp} (h : Sam w b l) (ho : Only S w w') (hn : b ∉ S) : Sam w' b l := fun i hi => ⟨Only_cell ho (h i hi).1 hn, Only_cell ho (h i hi).2 hn⟩
def bkL : List (List Int) := [[2, 2, -63, 64, 7], [6, 3, -255, 256, 9], [14, 4, -2047, 2048, 12]]
/-- the document's table in memory: q, q0, q1, q2: its blocks -/
structure TabB (w : World) (q q0 q1 q2 c c0 c1 c2 o9 oa oc od : Nat) : Prop where
  g : w.cell? ⟨0, 0, none⟩ = some (.slice (some ⟨q, o9, none⟩) 3 c)
  r : w.cell? ⟨q, o9, none⟩ = some (.slice (some ⟨q0, oa, none⟩) 5 c0) ∧ w.cell? ⟨q, o9 + 1, none⟩ = some (.slice (some ⟨q1, oc, none⟩) 5 c1) ∧ w.cell? ⟨q, o9 + 2, none⟩ = some (.slice (some ⟨q2, od, none⟩) 5 c2)
  t0 : w.cell? ⟨q0, oa, none⟩ = some (.int .i64 2) ∧ w.cell? ⟨q0, oa + 1, none⟩ = some (.int .i64 2) ∧ w.cell? ⟨q0, oa + 2, none⟩ = some (.int .i64 (-63)) ∧ w.cell? ⟨q0, oa + 3, none⟩ = some (.int .i64 64) ∧ w.cell? ⟨q0, oa + 4, none⟩ = some (.int .i64 7)
  t1 : w.cell? ⟨q1, oc, none⟩ = some (.int .i64 6) ∧ w.cell? ⟨q1, oc + 1, none⟩ = some (.int .i64 3) ∧ w.cell? ⟨q1, oc + 2, none⟩ = some (.int .i64 (-255)) ∧ w.cell? ⟨q1, oc + 3, none⟩ = some (.int .i64 256) ∧ w.cell? ⟨q1, oc + 4, none⟩ = some (.int .i64 9)
  t2 : w.cell? ⟨q2, od, none⟩ = some (.int .i64 14) ∧ w.cell? ⟨q2, od + 1, none⟩ = some (.int .i64 4) ∧ w.cell? ⟨q2, od + 2, none⟩ = some (.int .i64 (-2047)) ∧ w.cell? ⟨q2, od + 3, none⟩ = some (.int .i64 2048) ∧ w.cell? ⟨q2, od + 4, none⟩ = some (.int .i64 12)
theorem row_zero (D : Nat) (hD : D < 18446744073709551616) : Gm.hasR 0 D = decide (Gm.i64 D = 0) := by
  unfold Gm.hasR Gm.i64; rw [Bool.eq_iff_iff]; simp only [decide_eq_true_eq, Gm.pl, Gm.sz, Nat.pow_zero, Nat.div_one]; split <;> omega
theorem row_one (D : Nat) (hD : D < 18446744073709551616) : Gm.hasR 1 D = (decide (-63 ≤ Gm.i64 D) && decide (Gm.i64 D ≤ 64)) := by
  unfold Gm.hasR Gm.i64; rw [Bool.eq_iff_iff]; simp only [decide_eq_true_eq, Bool.and_eq_true, Gm.pl, Gm.sz, show (2 : Nat) ^ 7 = 128 from rfl]; split <;> omega
theorem row_two (D : Nat) (hD : D < 18446744073709551616) : Gm.hasR 2 D = (decide (-255 ≤ Gm.i64 D) && decide (Gm.i64 D ≤ 256)) := by
  unfold Gm.hasR Gm.i64; rw [Bool.eq_iff_iff]; simp only [decide_eq_true_eq, Bool.and_eq_true, Gm.pl, Gm.sz, show (2 : Nat) ^ 9 = 512 from rfl]; split <;> omega
theorem row_three (D : Nat) (hD : D < 18446744073709551616) : Gm.hasR 3 D = (decide (-2047 ≤ Gm.i64 D) && decide (Gm.i64 D ≤ 2048)) := by
  unfold Gm.hasR Gm.i64; rw [Bool.eq_iff_iff]; simp only [decide_eq_true_eq, Bool.and_eq_true, Gm.pl, Gm.sz, show (2 : Nat) ^ 12 = 4096 from rfl]; split <;> omega
theorem wrap_u (t : Int) : IntKind.u64.wrap t = ((Gm.gapOf t 0 : Nat) : Int) := by rw [IntKind.wrap_u64]; unfold Gm.gapOf; omega
theorem gap_u (t l : Int) : IntKind.u64.wrap (IntKind.u64.wrap t - IntKind.u64.wrap l) = ((Gm.gapOf t l : Nat) : Int) := by rw [IntKind.wrap_u64, IntKind.wrap_u64, IntKind.wrap_u64]; unfold Gm.gapOf; omega
theorem i64_of (D : Nat) (hD : D < 18446744073709551616) : IntKind.i64.wrap (D : Int) = Gm.i64 D := by rw [i64_is]; unfold RowKit.wrap64 Gm.i64; split <;> omega
theorem u_of_i64 (D : Nat) (hD : D < 18446744073709551616) : IntKind.u64.wrap (Gm.i64 D) = (D : Int) := by rw [IntKind.wrap_u64]; unfold Gm.i64; split <;> omega
theorem i64_bd (D : Nat) (hD : D < 18446744073709551616) : -9223372036854775808 ≤ Gm.i64 D ∧ Gm.i64 D ≤ 9223372036854775807 := by unfold Gm.i64; split <;> omega
/-- how the time of sample i is told -/
def timeL (l : List Smp) (i : Nat) : List Bool := if i = 1 then B2.Bt.vb (Gm.gapOf (l.getD 1 ⟨0, 0⟩).t (l.getD 0 ⟨0, 0⟩).t) else Gm.stepB (Gm.subW (Gm.gapOf (l.getD i ⟨0, 0⟩).t (l.getD (i - 1) ⟨0, 0⟩).t) (Gm.gapOf (l.getD (i - 1) ⟨0, 0⟩).t (l.getD (i - 2) ⟨0, 0⟩).t))
set_option maxHeartbeats 8000000 in
set_option maxRecDepth 100000 in
theorem time_one (r g b n cap : Nat) (B : List Bool) (l : List Smp) (hn : l.length = n) (hl : 1 < n) (hB : B.length + 200 ≤ 1000000000) (w : World) (H : Rf w r g B 0) (HS : Sam w b l) :
    Calls Tryd.prog 88 #[pt r, .slice (some ⟨b, 0, none⟩) n cap, .int .i64 1] w fun e w' => e = .returned (.tuple #[]) ∧ RfPost w r g (B ++ timeL l 1) 0 w' := by
  have h0 := (HS 0 (by omega)).1
  have h1 := (HS 1 (by omega)).1
  have q0 : l[0] = l.getD 0 ⟨0, 0⟩ := by simp [List.getD, List.getElem?_eq_getElem (show 0 < l.length by omega)]
  have q1 : l[1] = l.getD 1 ⟨0, 0⟩ := by simp [List.getD, List.getElem?_eq_getElem (show 1 < l.length by omega)]
  rw [q0] at h0
  rw [q1] at h1
  unfold timeL
  rw [if_pos rfl]
  obtain ⟨a0, ha0⟩ : ∃ a0, (l.getD 0 ⟨0, 0⟩).t = a0 := ⟨_, rfl⟩
  obtain ⟨a1, ha1⟩ : ∃ a1, (l.getD 1 ⟨0, 0⟩).t = a1 := ⟨_, rfl⟩
  rw [ha0] at h0 ⊢
  rw [ha1] at h1 ⊢
  have hg := gap_u a1 a0
  have hgl := Gm.gapOf_lt a1 a0
  obtain ⟨G, hG⟩ : ∃ G, Gm.gapOf a1 a0 = G := ⟨_, rfl⟩
  rw [hG] at hg hgl ⊢
  have CV := Lib.hid (fun W (h : Rf W r g B 0) => B2.fputvar_any r g B 0 G hgl W h (by omega))
  have HH := Lib.hid H
  have hb1 : (1 : Int) < (n : Int) := by omega
  have hb2 : (0 : Int) < (n : Int) := by omega
  have hn1 : 1 < n := hl
  have hn0 : 0 < n := by omega
  clear H HS q0 q1 ha0 ha1 hG hB hn hl
  unfold pt at *
  go_enter Tryd.func88, Tryd.ntmps88
  go_wp2_with fail
  go_quiet (fail)
  go_wp2_with (go_at_call 112; refine (CV.out _ (HH.out.below (drewn_below _ _))).mono ?_; rintro e w1 ⟨rfl, hp⟩)
  exact bodyPost_ret (results_none rfl _ _ _) rfl ⟨rfl, RfPost.trans ((Only.refl [r, g] w).drewN _) (.inl rfl) hp⟩
theorem TabB.only {w w' : World} {q q0 q1 q2 c c0 c1 c2 o9 oa oc od r g : Nat} (h : TabB w q q0 q1 q2 c c0 c1 c2 o9 oa oc od) (ho : Only [r, g] w w') (hne : r ≠ 0 ∧ r ≠ q ∧ r ≠ q0 ∧ r ≠ q1 ∧ r ≠ q2 ∧ g ≠ 0 ∧ g ≠ q ∧ g ≠ q0 ∧ g ≠ q1 ∧ g ≠ q2) : TabB w' q q0 q1 q2 c c0 c1 c2 o9 oa oc od := by
  have n0 : 0 ∉ [r, g] := by simp only [List.mem_cons, List.not_mem_nil, or_false]; omega
  have nq : q ∉ [r, g] := by simp only [List.mem_cons, List.not_mem_nil, or_false]; omega
  have n1 : q0 ∉ [r, g] := by simp only [List.mem_cons, List.not_mem_nil, or_false]; omega
  have n2 : q1 ∉ [r, g] := by simp only [List.mem_cons, List.not_mem_nil, or_false]; omega
  have n3 : q2 ∉ [r, g] := by simp only [List.mem_cons, List.not_mem_nil, or_false]; omega
  exact ⟨Only_cell ho h.g n0, ⟨Only_cell ho h.r.1 nq, Only_cell ho h.r.2.1 nq, Only_cell ho h.r.2.2 nq⟩,
    ⟨Only_cell ho h.t0.1 n1, Only_cell ho h.t0.2.1 n1, Only_cell ho h.t0.2.2.1 n1, Only_cell ho h.t0.2.2.2.1 n1, Only_cell ho h.t0.2.2.2.2 n1⟩,
    ⟨Only_cell ho h.t1.1 n2, Only_cell ho h.t1.2.1 n2, Only_cell ho h.t1.2.2.1 n2, Only_cell ho h.t1.2.2.2.1 n2, Only_cell ho h.t1.2.2.2.2 n2⟩,
    ⟨Only_cell ho h.t2.1 n3, Only_cell ho h.t2.2.1 n3, Only_cell ho h.t2.2.2.1 n3, Only_cell ho h.t2.2.2.2.1 n3, Only_cell ho h.t2.2.2.2.2 n3⟩⟩
theorem TabB.below {w w' : World} {q q0 q1 q2 c c0 c1 c2 o9 oa oc od : Nat} (h : TabB w q q0 q1 q2 c c0 c1 c2 o9 oa oc od) (hb : Below w.heap.size w w') : TabB w' q q0 q1 q2 c c0 c1 c2 o9 oa oc od :=
  ⟨cell_below h.g hb, ⟨cell_below h.r.1 hb, cell_below h.r.2.1 hb, cell_below h.r.2.2 hb⟩,
    ⟨cell_below h.t0.1 hb, cell_below h.t0.2.1 hb, cell_below h.t0.2.2.1 hb, cell_below h.t0.2.2.2.1 hb, cell_below h.t0.2.2.2.2 hb⟩,
    ⟨cell_below h.t1.1 hb, cell_below h.t1.2.1 hb, cell_below h.t1.2.2.1 hb, cell_below h.t1.2.2.2.1 hb, cell_below h.t1.2.2.2.2 hb⟩,
    ⟨cell_below h.t2.1 hb, cell_below h.t2.2.1 hb, cell_below h.t2.2.2.1 hb, cell_below h.t2.2.2.2.1 hb, cell_below h.t2.2.2.2.2 hb⟩⟩
theorem add_two (i : Nat) : ((i + 2 : Nat) : Int) - 1 = ((i + 1 : Nat) : Int) ∧ ((i + 2 : Nat) : Int) - 2 = (i : Int) := ⟨by omega, by omega⟩
set_option maxHeartbeats 8000000 in
set_option maxRecDepth 100000 in
theorem time_more (r g b n cap j : Nat) (B : List Bool) (l : List Smp) (hn : l.length = n) (hl : j + 2 < n) (hn9 : n ≤ 1000000) (hB : B.length + 200 ≤ 1000000000) (q p0 p1 p2 c c0 c1 c2 o9 oa oc od : Nat) (w : World) (H : Rf w r g B 0) (HS : Sam w b l) (HT : TabB w q p0 p1 p2 c c0 c1 c2 o9 oa oc od)
    (hne : r ≠ 0 ∧ r ≠ q ∧ r ≠ p0 ∧ r ≠ p1 ∧ r ≠ p2 ∧ g ≠ 0 ∧ g ≠ q ∧ g ≠ p0 ∧ g ≠ p1 ∧ g ≠ p2) :
    Calls Tryd.prog 88 #[pt r, .slice (some ⟨b, 0, none⟩) n cap, .int .i64 ((j + 2 : Nat) : Int)] w fun e w' => e = .returned (.tuple #[]) ∧ RfPost w r g (B ++ timeL l (j + 2)) 0 w' := by
  have h0 := (HS j (by omega)).1
  have h1 := (HS (j + 1) (by omega)).1
  have h2 := (HS (j + 2) (by omega)).1
  have q0 : l[j] = l.getD j ⟨0, 0⟩ := by simp [List.getD, List.getElem?_eq_getElem (show j < l.length by omega)]
  have q1 : l[j + 1] = l.getD (j + 1) ⟨0, 0⟩ := by simp [List.getD, List.getElem?_eq_getElem (show j + 1 < l.length by omega)]
  have q2 : l[j + 2] = l.getD (j + 2) ⟨0, 0⟩ := by simp [List.getD, List.getElem?_eq_getElem (show j + 2 < l.length by omega)]
  rw [q0] at h0
  rw [q1] at h1
  rw [q2] at h2
  unfold timeL
  rw [if_neg (by omega), show j + 2 - 1 = j + 1 by omega, show j + 2 - 2 = j by omega]
  obtain ⟨a0, ha0⟩ : ∃ a0, (l.getD j ⟨0, 0⟩).t = a0 := ⟨_, rfl⟩
  obtain ⟨a1, ha1⟩ : ∃ a1, (l.getD (j + 1) ⟨0, 0⟩).t = a1 := ⟨_, rfl⟩
  obtain ⟨a2, ha2⟩ : ∃ a2, (l.getD (j + 2) ⟨0, 0⟩).t = a2 := ⟨_, rfl⟩
  rw [ha0] at h0 ⊢
  rw [ha1] at h1 ⊢
  rw [ha2] at h2 ⊢
  have hg := gap_u a2 a1
  have hg2 := gap_u a1 a0
  have hgl := Gm.gapOf_lt a2 a1
  have hgl2 := Gm.gapOf_lt a1 a0
  obtain ⟨G, hG⟩ : ∃ G, Gm.gapOf a2 a1 = G := ⟨_, rfl⟩
  obtain ⟨G2, hG2⟩ : ∃ G2, Gm.gapOf a1 a0 = G2 := ⟨_, rfl⟩
  rw [hG] at hg hgl ⊢
  rw [hG2] at hg2 hgl2 ⊢
  have hs := sub_word G G2 hgl hgl2
  have hDl := Gm.subW_lt G G2
  obtain ⟨D, hD⟩ : ∃ D, Gm.subW G G2 = D := ⟨_, rfl⟩
  rw [hD] at hs hDl ⊢
  have hi := i64_of D hDl
  obtain ⟨e, he⟩ : ∃ e, Gm.i64 D = e := ⟨_, rfl⟩
  rw [he] at hi
  have HE := Lib.hid (And.intro he hDl)
  have HH := Lib.hid H
  have HTT := Lib.hid HT
  have HNE := Lib.hid hne
  have HB := Lib.hid hB
  have hb2 : ((j + 2 : Nat) : Int) < (n : Int) := by omega
  have hb1 : ((j + 1 : Nat) : Int) < (n : Int) := by omega
  have hb0 : (j : Int) < (n : Int) := by omega
  have hc2 : j + 2 < n := hl
  have hc1 : j + 1 < n := by omega
  have hc0 : j < n := by omega
  have hj1 := (add_two j).1
  have hj2 := (add_two j).2
  have hne1 : (((j + 2 : Nat) : Int) == 1) = false := by simp; omega
  have hne2 : ¬ ((j + 2 : Nat) : Int) = 1 := by omega
  obtain ⟨m2, hm2⟩ : ∃ m2, j + 2 = m2 := ⟨_, rfl⟩
  obtain ⟨m1, hm1⟩ : ∃ m1, j + 1 = m1 := ⟨_, rfl⟩
  rw [hm2] at h2 hb2 hc2 hj1 hj2 hne1 hne2 ⊢
  rw [hm1] at h1 hb1 hc1 hj1
  clear H HS HT hne q0 q1 q2 ha0 ha1 ha2 hG hG2 hB hn hl hD hm1 hm2 he hgl hgl2 hDl
  unfold pt at *
  go_enter Tryd.func88, Tryd.ntmps88
  go_wp2_with fail
  go_quiet (fail)
  revert nq
  intro nq1
  go_wp2_with fail
  go_quiet (fail)
  have HO := Lib.hid (show Only [r, g] w ((w.drewN nq1).drewN nq) from ((Only.refl [r, g] w).drewN _).drewN _)
  have HTW := Lib.hid ((HTT.out.below (drewn_below w nq1)).below (drewn_below (w.drewN nq1) nq))
  have HRW := Lib.hid ((HH.out.below (drewn_below w nq1)).below (drewn_below (w.drewN nq1) nq))
  clear h0 h1 h2 hb0 hb1 hb2 hc0 hc1 hc2 hj1 hj2 hg hg2 hs hi hne1 hne2 HH HTT
  generalize (w.drewN nq1).drewN nq = W0 at HO HTW HRW ⊢
  have he := HE.out.1
  have hDl := HE.out.2
  clear HE
  have r0 := row_zero D hDl
  have r1 := row_one D hDl
  have r2 := row_two D hDl
  have r3 := row_three D hDl
  rw [he] at r0 r1 r2 r3
  have hbd := i64_bd D hDl
  rw [he] at hbd
  have hue := u_of_i64 D hDl
  rw [he] at hue
  have hcase : e = 0 ∨ (e ≠ 0 ∧ -63 ≤ e ∧ e ≤ 64) ∨ (-255 ≤ e ∧ e < -63) ∨ (64 < e ∧ e ≤ 256) ∨ (-2047 ≤ e ∧ e < -255) ∨ (256 < e ∧ e ≤ 2048) ∨ e < -2047 ∨ 2048 < e := by omega
  rcases hcase with h | h | h | h | h | h | h | h
  · have hk : Gm.rowOf D = 0 := row_is D 0 (by decide) (fun q h => by omega) (by rw [r0, decide_eq_true h])
    have CB := Lib.hid (fun W (h : Rf W r g B 0) => B2.fbit_any r g B 0 false W h (by have := HB.out; omega))
    have HSB := Lib.hid (show Gm.stepB D = [false] by unfold Gm.stepB; rw [hk]; rfl)
    subst h
    clear r0 r1 r2 r3 hbd hue hk HTW he hDl
    go_wp2_with (go_at_call 89; refine (CB.out _ HRW.out).mono ?_; rintro e' w1 ⟨rfl, hp⟩)
    refine bodyPost_ret (results_none rfl _ _ _) rfl ⟨rfl, ?_⟩
    rw [HSB.out]
    exact RfPost.trans HO.out (.inl rfl) hp
  · have hz1 : (e == 0) = false := by simp; omega
    have hz2 : ¬ e = 0 := by omega
    have u1a : decide ((-63 : Int) ≤ e) = true := decide_eq_true (by omega)
    have u1b : decide (e ≤ (64 : Int)) = true := decide_eq_true (by omega)
    have u2a : decide ((-255 : Int) ≤ e) = true := decide_eq_true (by omega)
    have u2b : decide (e ≤ (256 : Int)) = true := decide_eq_true (by omega)
    have u3a : decide ((-2047 : Int) ≤ e) = true := decide_eq_true (by omega)
    have u3b : decide (e ≤ (2048 : Int)) = true := decide_eq_true (by omega)
    have z0 : decide (e = 0) = false := decide_eq_false (by omega)
    rw [z0] at r0
    rw [u1a, u1b] at r1
    rw [u2a, u2b] at r2
    rw [u3a, u3b] at r3
    have r1 : Gm.hasR 1 D = true := r1
    have r2 : Gm.hasR 2 D = true := r2
    have r3 : Gm.hasR 3 D = true := r3
    have hk : Gm.rowOf D = 1 := row_is D 1 (by decide) (fun q h => by
      have h5 : q = 0 := by omega
      rcases h5 with rfl
      · exact r0
    ) r1
    have HSB := Lib.hid (show Gm.stepB D = B2.Bt.top 2 2 ++ B2.Bt.top ((D + 63) % 18446744073709551616) 7 by unfold Gm.stepB; rw [hk]; rfl)
    have hcv : e + 63 = (((D + 63) % 18446744073709551616 : Nat) : Int) := by rw [← he] at h ⊢; unfold Gm.i64 at h ⊢; split at h <;> rename_i h2 <;> simp only [h2, if_true, if_false] <;> omega
    have CB := Lib.hid (fun W (h : Rf W r g B 0) => B2.fbits_good r g B 0 2 2 (by decide) (by decide) W h (by have := HB.out; omega))
    have CB2 := Lib.hid (fun g1 W (h : Rf W r g1 (B ++ B2.Bt.top 2 2) 0) => B2.fbits_good r g1 (B ++ B2.Bt.top 2 2) 0 ((D + 63) % 18446744073709551616) 7 (Nat.mod_lt _ (by decide)) (by decide) W h (by simp only [List.length_append, B2.Bt.top_length]; have := HB.out; omega))
    rw [← hcv] at CB2
    simp only [Int.cast_ofNat_Int] at CB CB2
    have hTg := HTW.out.g
    obtain ⟨hTr0, hTr1, hTr2⟩ := HTW.out.r
    obtain ⟨ta0, ta1, ta2, ta3, ta4⟩ := HTW.out.t0
    obtain ⟨tb0, tb1, tb2, tb3, tb4⟩ := HTW.out.t1
    obtain ⟨tc0, tc1, tc2, tc3, tc4⟩ := HTW.out.t2
    clear r0 r1 r2 r3 hue hk he hDl z0 hcv
    go_wp2_with fail
    refine wp_loop_rounds 4 ?_
    rw [rounds_succ]
    go_wp2_with fail
    go_still_tail 8, (by kernel_rfl)
    change wpList _ _ _ _ _ (World.drew _)
    clear hTg hTr0 hTr1 hTr2 ta0 ta1 ta2 ta3 ta4 tb0 tb1 tb2 tb3 tb4 tc0 tc1 tc2 tc3 tc4
    go_wp2_with fail
    go_at_call 87
    refine (CB.out _ (HRW.out.below (drew_below _))).mono ?_
    rintro e' w1 ⟨rfl, hp⟩
    obtain ⟨g1, hr1, hg1, ho1⟩ := hp
    have ho2 : Only [r, g] W0 w1 := ((Only.refl [r, g] W0).drew).trans ho1 (fun x hx => .inl hx)
    have hTw := HTW.out.only ho2 HNE.out
    have hx2 := hTw.t0.2.2.1
    have hx4 := hTw.t0.2.2.2.2
    have HO2 := Lib.hid (HO.out.trans ho2 (fun x hx => .inl hx))
    have HG1 := Lib.hid (show g1 = g ∨ w.heap.size ≤ g1 from hg1.imp id (fun h => Nat.le_trans HO.out.size h))
    have HR1 := Lib.hid hr1
    clear hr1 hg1 ho1 ho2 hTw CB HTW HRW
    go_upto_region 12 with (fail)
    go_still_tail 10, (by kernel_rfl)
    change wpList _ _ _ _ _ (World.drew _)
    go_wp2_with fail
    go_at_call 87
    refine (CB2.out g1 _ (HR1.out.below (drew_below _))).mono ?_
    rintro e' w2 ⟨rfl, hp⟩
    go_wp2_with fail
    refine bodyPost_ret (results_none rfl _ _ _) rfl ⟨rfl, ?_⟩
    rw [HSB.out, ← List.append_assoc]
    exact RfPost.trans (HO2.out.drew) HG1.out hp
  · have hz1 : (e == 0) = false := by simp; omega
    have hz2 : ¬ e = 0 := by omega
    have u1a : decide ((-63 : Int) ≤ e) = false := decide_eq_false (by omega)
    have u1b : decide (e ≤ (64 : Int)) = true := decide_eq_true (by omega)
    have u2a : decide ((-255 : Int) ≤ e) = true := decide_eq_true (by omega)
    have u2b : decide (e ≤ (256 : Int)) = true := decide_eq_true (by omega)
    have u3a : decide ((-2047 : Int) ≤ e) = true := decide_eq_true (by omega)
    have u3b : decide (e ≤ (2048 : Int)) = true := decide_eq_true (by omega)
    have z0 : decide (e = 0) = false := decide_eq_false (by omega)
    rw [z0] at r0
    rw [u1a, u1b] at r1
    rw [u2a, u2b] at r2
    rw [u3a, u3b] at r3
    have r1 : Gm.hasR 1 D = false := r1
    have r2 : Gm.hasR 2 D = true := r2
    have r3 : Gm.hasR 3 D = true := r3
    have hk : Gm.rowOf D = 2 := row_is D 2 (by decide) (fun q h => by
      have h5 : q = 0 ∨ q = 1 := by omega
      rcases h5 with rfl | rfl
      · exact r0
      · exact r1
    ) r2
    have HSB := Lib.hid (show Gm.stepB D = B2.Bt.top 6 3 ++ B2.Bt.top ((D + 255) % 18446744073709551616) 9 by unfold Gm.stepB; rw [hk]; rfl)
    have hcv : e + 255 = (((D + 255) % 18446744073709551616 : Nat) : Int) := by rw [← he] at h ⊢; unfold Gm.i64 at h ⊢; split at h <;> rename_i h2 <;> simp only [h2, if_true, if_false] <;> omega
    have CB := Lib.hid (fun W (h : Rf W r g B 0) => B2.fbits_good r g B 0 6 3 (by decide) (by decide) W h (by have := HB.out; omega))
    have CB2 := Lib.hid (fun g1 W (h : Rf W r g1 (B ++ B2.Bt.top 6 3) 0) => B2.fbits_good r g1 (B ++ B2.Bt.top 6 3) 0 ((D + 255) % 18446744073709551616) 9 (Nat.mod_lt _ (by decide)) (by decide) W h (by simp only [List.length_append, B2.Bt.top_length]; have := HB.out; omega))
    rw [← hcv] at CB2
    simp only [Int.cast_ofNat_Int] at CB CB2
    have hTg := HTW.out.g
    obtain ⟨hTr0, hTr1, hTr2⟩ := HTW.out.r
    obtain ⟨ta0, ta1, ta2, ta3, ta4⟩ := HTW.out.t0
    obtain ⟨tb0, tb1, tb2, tb3, tb4⟩ := HTW.out.t1
    obtain ⟨tc0, tc1, tc2, tc3, tc4⟩ := HTW.out.t2
    clear r0 r1 r2 r3 hue hk he hDl z0 hcv
    go_wp2_with fail
    refine wp_loop_rounds 4 ?_
    rw [rounds_succ]
    go_wp2_with fail
    rw [rounds_succ]
    go_wp2_with fail
    go_still_tail 8, (by kernel_rfl)
    change wpList _ _ _ _ _ (World.drew _)
    clear hTg hTr0 hTr1 hTr2 ta0 ta1 ta2 ta3 ta4 tb0 tb1 tb2 tb3 tb4 tc0 tc1 tc2 tc3 tc4
    go_wp2_with fail
    go_at_call 87
    refine (CB.out _ (HRW.out.below (drew_below _))).mono ?_
    rintro e' w1 ⟨rfl, hp⟩
    obtain ⟨g1, hr1, hg1, ho1⟩ := hp
    have ho2 : Only [r, g] W0 w1 := ((Only.refl [r, g] W0).drew).trans ho1 (fun x hx => .inl hx)
    have hTw := HTW.out.only ho2 HNE.out
    have hx2 := hTw.t1.2.2.1
    have hx4 := hTw.t1.2.2.2.2
    have HO2 := Lib.hid (HO.out.trans ho2 (fun x hx => .inl hx))
    have HG1 := Lib.hid (show g1 = g ∨ w.heap.size ≤ g1 from hg1.imp id (fun h => Nat.le_trans HO.out.size h))
    have HR1 := Lib.hid hr1
    clear hr1 hg1 ho1 ho2 hTw CB HTW HRW
    go_upto_region 12 with (fail)
    go_still_tail 10, (by kernel_rfl)
    change wpList _ _ _ _ _ (World.drew _)
    go_wp2_with fail
    go_at_call 87
    refine (CB2.out g1 _ (HR1.out.below (drew_below _))).mono ?_
    rintro e' w2 ⟨rfl, hp⟩
    go_wp2_with fail
    refine bodyPost_ret (results_none rfl _ _ _) rfl ⟨rfl, ?_⟩
    rw [HSB.out, ← List.append_assoc]
    exact RfPost.trans (HO2.out.drew) HG1.out hp
  · have hz1 : (e == 0) = false := by simp; omega
    have hz2 : ¬ e = 0 := by omega
    have u1a : decide ((-63 : Int) ≤ e) = true := decide_eq_true (by omega)
    have u1b : decide (e ≤ (64 : Int)) = false := decide_eq_false (by omega)
    have u2a : decide ((-255 : Int) ≤ e) = true := decide_eq_true (by omega)
    have u2b : decide (e ≤ (256 : Int)) = true := decide_eq_true (by omega)
    have u3a : decide ((-2047 : Int) ≤ e) = true := decide_eq_true (by omega)
    have u3b : decide (e ≤ (2048 : Int)) = true := decide_eq_true (by omega)
    have z0 : decide (e = 0) = false := decide_eq_false (by omega)
    rw [z0] at r0
    rw [u1a, u1b] at r1
    rw [u2a, u2b] at r2
    rw [u3a, u3b] at r3
    have r1 : Gm.hasR 1 D = false := r1
    have r2 : Gm.hasR 2 D = true := r2
    have r3 : Gm.hasR 3 D = true := r3
    have hk : Gm.rowOf D = 2 := row_is D 2 (by decide) (fun q h => by
      have h5 : q = 0 ∨ q = 1 := by omega
      rcases h5 with rfl | rfl
      · exact r0
      · exact r1
    ) r2
    have HSB := Lib.hid (show Gm.stepB D = B2.Bt.top 6 3 ++ B2.Bt.top ((D + 255) % 18446744073709551616) 9 by unfold Gm.stepB; rw [hk]; rfl)
    have hcv : e + 255 = (((D + 255) % 18446744073709551616 : Nat) : Int) := by rw [← he] at h ⊢; unfold Gm.i64 at h ⊢; split at h <;> rename_i h2 <;> simp only [h2, if_true, if_false] <;> omega
    have CB := Lib.hid (fun W (h : Rf W r g B 0) => B2.fbits_good r g B 0 6 3 (by decide) (by decide) W h (by have := HB.out; omega))
    have CB2 := Lib.hid (fun g1 W (h : Rf W r g1 (B ++ B2.Bt.top 6 3) 0) => B2.fbits_good r g1 (B ++ B2.Bt.top 6 3) 0 ((D + 255) % 18446744073709551616) 9 (Nat.mod_lt _ (by decide)) (by decide) W h (by simp only [List.length_append, B2.Bt.top_length]; have := HB.out; omega))
    rw [← hcv] at CB2
    simp only [Int.cast_ofNat_Int] at CB CB2
    have hTg := HTW.out.g
    obtain ⟨hTr0, hTr1, hTr2⟩ := HTW.out.r
    obtain ⟨ta0, ta1, ta2, ta3, ta4⟩ := HTW.out.t0
    obtain ⟨tb0, tb1, tb2, tb3, tb4⟩ := HTW.out.t1
    obtain ⟨tc0, tc1, tc2, tc3, tc4⟩ := HTW.out.t2
    clear r0 r1 r2 r3 hue hk he hDl z0 hcv
    go_wp2_with fail
    refine wp_loop_rounds 4 ?_
    rw [rounds_succ]
    go_wp2_with fail
    rw [rounds_succ]
    go_wp2_with fail
    go_still_tail 8, (by kernel_rfl)
    change wpList _ _ _ _ _ (World.drew _)
    clear hTg hTr0 hTr1 hTr2 ta0 ta1 ta2 ta3 ta4 tb0 tb1 tb2 tb3 tb4 tc0 tc1 tc2 tc3 tc4
    go_wp2_with fail
    go_at_call 87
    refine (CB.out _ (HRW.out.below (drew_below _))).mono ?_
    rintro e' w1 ⟨rfl, hp⟩
    obtain ⟨g1, hr1, hg1, ho1⟩ := hp
    have ho2 : Only [r, g] W0 w1 := ((Only.refl [r, g] W0).drew).trans ho1 (fun x hx => .inl hx)
    have hTw := HTW.out.only ho2 HNE.out
    have hx2 := hTw.t1.2.2.1
    have hx4 := hTw.t1.2.2.2.2
    have HO2 := Lib.hid (HO.out.trans ho2 (fun x hx => .inl hx))
    have HG1 := Lib.hid (show g1 = g ∨ w.heap.size ≤ g1 from hg1.imp id (fun h => Nat.le_trans HO.out.size h))
    have HR1 := Lib.hid hr1
    clear hr1 hg1 ho1 ho2 hTw CB HTW HRW
    go_upto_region 12 with (fail)
    go_still_tail 10, (by kernel_rfl)
    change wpList _ _ _ _ _ (World.drew _)
    go_wp2_with fail
    go_at_call 87
    refine (CB2.out g1 _ (HR1.out.below (drew_below _))).mono ?_
    rintro e' w2 ⟨rfl, hp⟩
    go_wp2_with fail
    refine bodyPost_ret (results_none rfl _ _ _) rfl ⟨rfl, ?_⟩
    rw [HSB.out, ← List.append_assoc]
    exact RfPost.trans (HO2.out.drew) HG1.out hp
  · have hz1 : (e == 0) = false := by simp; omega
    have hz2 : ¬ e = 0 := by omega
    have u1a : decide ((-63 : Int) ≤ e) = false := decide_eq_false (by omega)
    have u1b : decide (e ≤ (64 : Int)) = true := decide_eq_true (by omega)
    have u2a : decide ((-255 : Int) ≤ e) = false := decide_eq_false (by omega)
    have u2b : decide (e ≤ (256 : Int)) = true := decide_eq_true (by omega)
    have u3a : decide ((-2047 : Int) ≤ e) = true := decide_eq_true (by omega)
    have u3b : decide (e ≤ (2048 : Int)) = true := decide_eq_true (by omega)
    have z0 : decide (e = 0) = false := decide_eq_false (by omega)
    rw [z0] at r0
    rw [u1a, u1b] at r1
    rw [u2a, u2b] at r2
    rw [u3a, u3b] at r3
    have r1 : Gm.hasR 1 D = false := r1
    have r2 : Gm.hasR 2 D = false := r2
    have r3 : Gm.hasR 3 D = true := r3
    have hk : Gm.rowOf D = 3 := row_is D 3 (by decide) (fun q h => by
      have h5 : q = 0 ∨ q = 1 ∨ q = 2 := by omega
      rcases h5 with rfl | rfl | rfl
      · exact r0
      · exact r1
      · exact r2
    ) r3
    have HSB := Lib.hid (show Gm.stepB D = B2.Bt.top 14 4 ++ B2.Bt.top ((D + 2047) % 18446744073709551616) 12 by unfold Gm.stepB; rw [hk]; rfl)
    have hcv : e + 2047 = (((D + 2047) % 18446744073709551616 : Nat) : Int) := by rw [← he] at h ⊢; unfold Gm.i64 at h ⊢; split at h <;> rename_i h2 <;> simp only [h2, if_true, if_false] <;> omega
    have CB := Lib.hid (fun W (h : Rf W r g B 0) => B2.fbits_good r g B 0 14 4 (by decide) (by decide) W h (by have := HB.out; omega))
    have CB2 := Lib.hid (fun g1 W (h : Rf W r g1 (B ++ B2.Bt.top 14 4) 0) => B2.fbits_good r g1 (B ++ B2.Bt.top 14 4) 0 ((D + 2047) % 18446744073709551616) 12 (Nat.mod_lt _ (by decide)) (by decide) W h (by simp only [List.length_append, B2.Bt.top_length]; have := HB.out; omega))
    rw [← hcv] at CB2
    simp only [Int.cast_ofNat_Int] at CB CB2
    have hTg := HTW.out.g
    obtain ⟨hTr0, hTr1, hTr2⟩ := HTW.out.r
    obtain ⟨ta0, ta1, ta2, ta3, ta4⟩ := HTW.out.t0
    obtain ⟨tb0, tb1, tb2, tb3, tb4⟩ := HTW.out.t1
    obtain ⟨tc0, tc1, tc2, tc3, tc4⟩ := HTW.out.t2
    clear r0 r1 r2 r3 hue hk he hDl z0 hcv
    go_wp2_with fail
    refine wp_loop_rounds 4 ?_
    rw [rounds_succ]
    go_wp2_with fail
    rw [rounds_succ]
    go_wp2_with fail
    rw [rounds_succ]
    go_wp2_with fail
    go_still_tail 8, (by kernel_rfl)
    change wpList _ _ _ _ _ (World.drew _)
    clear hTg hTr0 hTr1 hTr2 ta0 ta1 ta2 ta3 ta4 tb0 tb1 tb2 tb3 tb4 tc0 tc1 tc2 tc3 tc4
    go_wp2_with fail
    go_at_call 87
    refine (CB.out _ (HRW.out.below (drew_below _))).mono ?_
    rintro e' w1 ⟨rfl, hp⟩
    obtain ⟨g1, hr1, hg1, ho1⟩ := hp
    have ho2 : Only [r, g] W0 w1 := ((Only.refl [r, g] W0).drew).trans ho1 (fun x hx => .inl hx)
    have hTw := HTW.out.only ho2 HNE.out
    have hx2 := hTw.t2.2.2.1
    have hx4 := hTw.t2.2.2.2.2
    have HO2 := Lib.hid (HO.out.trans ho2 (fun x hx => .inl hx))
    have HG1 := Lib.hid (show g1 = g ∨ w.heap.size ≤ g1 from hg1.imp id (fun h => Nat.le_trans HO.out.size h))
    have HR1 := Lib.hid hr1
    clear hr1 hg1 ho1 ho2 hTw CB HTW HRW
    go_upto_region 12 with (fail)
    go_still_tail 10, (by kernel_rfl)
    change wpList _ _ _ _ _ (World.drew _)
    go_wp2_with fail
    go_at_call 87
    refine (CB2.out g1 _ (HR1.out.below (drew_below _))).mono ?_
    rintro e' w2 ⟨rfl, hp⟩
    go_wp2_with fail
    refine bodyPost_ret (results_none rfl _ _ _) rfl ⟨rfl, ?_⟩
    rw [HSB.out, ← List.append_assoc]
    exact RfPost.trans (HO2.out.drew) HG1.out hp
  · have hz1 : (e == 0) = false := by simp; omega
    have hz2 : ¬ e = 0 := by omega
    have u1a : decide ((-63 : Int) ≤ e) = true := decide_eq_true (by omega)
    have u1b : decide (e ≤ (64 : Int)) = false := decide_eq_false (by omega)
    have u2a : decide ((-255 : Int) ≤ e) = true := decide_eq_true (by omega)
    have u2b : decide (e ≤ (256 : Int)) = false := decide_eq_false (by omega)
    have u3a : decide ((-2047 : Int) ≤ e) = true := decide_eq_true (by omega)
    have u3b : decide (e ≤ (2048 : Int)) = true := decide_eq_true (by omega)
    have z0 : decide (e = 0) = false := decide_eq_false (by omega)
    rw [z0] at r0
    rw [u1a, u1b] at r1
    rw [u2a, u2b] at r2
    rw [u3a, u3b] at r3
    have r1 : Gm.hasR 1 D = false := r1
    have r2 : Gm.hasR 2 D = false := r2
    have r3 : Gm.hasR 3 D = true := r3
    have hk : Gm.rowOf D = 3 := row_is D 3 (by decide) (fun q h => by
      have h5 : q = 0 ∨ q = 1 ∨ q = 2 := by omega
      rcases h5 with rfl | rfl | rfl
      · exact r0
      · exact r1
      · exact r2
    ) r3
    have HSB := Lib.hid (show Gm.stepB D = B2.Bt.top 14 4 ++ B2.Bt.top ((D + 2047) % 18446744073709551616) 12 by unfold Gm.stepB; rw [hk]; rfl)
    have hcv : e + 2047 = (((D + 2047) % 18446744073709551616 : Nat) : Int) := by rw [← he] at h ⊢; unfold Gm.i64 at h ⊢; split at h <;> rename_i h2 <;> simp only [h2, if_true, if_false] <;> omega
    have CB := Lib.hid (fun W (h : Rf W r g B 0) => B2.fbits_good r g B 0 14 4 (by decide) (by decide) W h (by have := HB.out; omega))
    have CB2 := Lib.hid (fun g1 W (h : Rf W r g1 (B ++ B2.Bt.top 14 4) 0) => B2.fbits_good r g1 (B ++ B2.Bt.top 14 4) 0 ((D + 2047) % 18446744073709551616) 12 (Nat.mod_lt _ (by decide)) (by decide) W h (by simp only [List.length_append, B2.Bt.top_length]; have := HB.out; omega))
    rw [← hcv] at CB2
    simp only [Int.cast_ofNat_Int] at CB CB2
    have hTg := HTW.out.g
    obtain ⟨hTr0, hTr1, hTr2⟩ := HTW.out.r
    obtain ⟨ta0, ta1, ta2, ta3, ta4⟩ := HTW.out.t0
    obtain ⟨tb0, tb1, tb2, tb3, tb4⟩ := HTW.out.t1
    obtain ⟨tc0, tc1, tc2, tc3, tc4⟩ := HTW.out.t2
    clear r0 r1 r2 r3 hue hk he hDl z0 hcv
    go_wp2_with fail
    refine wp_loop_rounds 4 ?_
    rw [rounds_succ]
    go_wp2_with fail
    rw [rounds_succ]
    go_wp2_with fail
    rw [rounds_succ]
    go_wp2_with fail
    go_still_tail 8, (by kernel_rfl)
    change wpList _ _ _ _ _ (World.drew _)
    clear hTg hTr0 hTr1 hTr2 ta0 ta1 ta2 ta3 ta4 tb0 tb1 tb2 tb3 tb4 tc0 tc1 tc2 tc3 tc4
    go_wp2_with fail
    go_at_call 87
    refine (CB.out _ (HRW.out.below (drew_below _))).mono ?_
    rintro e' w1 ⟨rfl, hp⟩
    obtain ⟨g1, hr1, hg1, ho1⟩ := hp
    have ho2 : Only [r, g] W0 w1 := ((Only.refl [r, g] W0).drew).trans ho1 (fun x hx => .inl hx)
    have hTw := HTW.out.only ho2 HNE.out
    have hx2 := hTw.t2.2.2.1
    have hx4 := hTw.t2.2.2.2.2
    have HO2 := Lib.hid (HO.out.trans ho2 (fun x hx => .inl hx))
    have HG1 := Lib.hid (show g1 = g ∨ w.heap.size ≤ g1 from hg1.imp id (fun h => Nat.le_trans HO.out.size h))
    have HR1 := Lib.hid hr1
    clear hr1 hg1 ho1 ho2 hTw CB HTW HRW
    go_upto_region 12 with (fail)
    go_still_tail 10, (by kernel_rfl)
    change wpList _ _ _ _ _ (World.drew _)
    go_wp2_with fail
    go_at_call 87
    refine (CB2.out g1 _ (HR1.out.below (drew_below _))).mono ?_
    rintro e' w2 ⟨rfl, hp⟩
    go_wp2_with fail
    refine bodyPost_ret (results_none rfl _ _ _) rfl ⟨rfl, ?_⟩
    rw [HSB.out, ← List.append_assoc]
    exact RfPost.trans (HO2.out.drew) HG1.out hp
  · have hz1 : (e == 0) = false := by simp; omega
    have hz2 : ¬ e = 0 := by omega
    have u1a : decide ((-63 : Int) ≤ e) = false := decide_eq_false (by omega)
    have u1b : decide (e ≤ (64 : Int)) = true := decide_eq_true (by omega)
    have u2a : decide ((-255 : Int) ≤ e) = false := decide_eq_false (by omega)
    have u2b : decide (e ≤ (256 : Int)) = true := decide_eq_true (by omega)
    have u3a : decide ((-2047 : Int) ≤ e) = false := decide_eq_false (by omega)
    have u3b : decide (e ≤ (2048 : Int)) = true := decide_eq_true (by omega)
    have z0 : decide (e = 0) = false := decide_eq_false (by omega)
    rw [z0] at r0
    rw [u1a, u1b] at r1
    rw [u2a, u2b] at r2
    rw [u3a, u3b] at r3
    have r1 : Gm.hasR 1 D = false := r1
    have r2 : Gm.hasR 2 D = false := r2
    have r3 : Gm.hasR 3 D = false := r3
    have hk : Gm.rowOf D = 4 := row_is D 4 (by decide) (fun q h => by
      have h5 : q = 0 ∨ q = 1 ∨ q = 2 ∨ q = 3 := by omega
      rcases h5 with rfl | rfl | rfl | rfl
      · exact r0
      · exact r1
      · exact r2
      · exact r3
    ) (by unfold Gm.hasR; exact decide_eq_true (Nat.div_eq_of_lt (Nat.mod_lt _ (by decide))))
    have HSB := Lib.hid (show Gm.stepB D = B2.Bt.top 15 4 ++ B2.Bt.top D 64 by unfold Gm.stepB; rw [hk]; show B2.Bt.top 15 4 ++ B2.Bt.top ((D + 0) % 18446744073709551616) 64 = _; rw [Nat.add_zero, Nat.mod_eq_of_lt hDl])
    have CB := Lib.hid (fun W (h : Rf W r g B 0) => B2.fbits_good r g B 0 15 4 (by decide) (by decide) W h (by have := HB.out; omega))
    have CB2 := Lib.hid (fun g1 W (h : Rf W r g1 (B ++ B2.Bt.top 15 4) 0) => B2.fbits_good r g1 (B ++ B2.Bt.top 15 4) 0 D 64 hDl (by decide) W h (by simp only [List.length_append, B2.Bt.top_length]; have := HB.out; omega))
    rw [← hue] at CB2
    simp only [Int.cast_ofNat_Int] at CB CB2
    have hTg := HTW.out.g
    obtain ⟨hTr0, hTr1, hTr2⟩ := HTW.out.r
    obtain ⟨ta0, ta1, ta2, ta3, ta4⟩ := HTW.out.t0
    obtain ⟨tb0, tb1, tb2, tb3, tb4⟩ := HTW.out.t1
    obtain ⟨tc0, tc1, tc2, tc3, tc4⟩ := HTW.out.t2
    clear r0 r1 r2 r3 hue hk he hDl z0
    go_wp2_with fail
    refine wp_loop_rounds 4 ?_
    rw [rounds_succ]
    go_wp2_with fail
    rw [rounds_succ]
    go_wp2_with fail
    rw [rounds_succ]
    go_wp2_with fail
    rw [rounds_succ]
    go_wp2_with fail
    go_at_call 87
    refine (CB.out _ HRW.out).mono ?_
    rintro e' w1 ⟨rfl, hp⟩
    obtain ⟨g1, hr1, hg1, ho1⟩ := hp
    have HO2 := Lib.hid (HO.out.trans ho1 (fun x hx => .inl hx))
    have HG1 := Lib.hid (show g1 = g ∨ w.heap.size ≤ g1 from hg1.imp id (fun h => Nat.le_trans HO.out.size h))
    have HR1 := Lib.hid hr1
    clear hr1 hg1 ho1 CB HTW HRW hTg hTr0 hTr1 hTr2 ta0 ta1 ta2 ta3 ta4 tb0 tb1 tb2 tb3 tb4 tc0 tc1 tc2 tc3 tc4
    go_wp2_with fail
    go_at_call 87
    refine (CB2.out g1 _ HR1.out).mono ?_
    rintro e' w2 ⟨rfl, hp⟩
    go_wp2_with fail
    refine bodyPost_end (results_none rfl _ _ _) rfl ⟨rfl, ?_⟩
    rw [HSB.out, ← List.append_assoc]
    exact RfPost.trans HO2.out HG1.out hp
  · have hz1 : (e == 0) = false := by simp; omega
    have hz2 : ¬ e = 0 := by omega
    have u1a : decide ((-63 : Int) ≤ e) = true := decide_eq_true (by omega)
    have u1b : decide (e ≤ (64 : Int)) = false := decide_eq_false (by omega)
    have u2a : decide ((-255 : Int) ≤ e) = true := decide_eq_true (by omega)
    have u2b : decide (e ≤ (256 : Int)) = false := decide_eq_false (by omega)
    have u3a : decide ((-2047 : Int) ≤ e) = true := decide_eq_true (by omega)
    have u3b : decide (e ≤ (2048 : Int)) = false := decide_eq_false (by omega)
    have z0 : decide (e = 0) = false := decide_eq_false (by omega)
    rw [z0] at r0
    rw [u1a, u1b] at r1
    rw [u2a, u2b] at r2
    rw [u3a, u3b] at r3
    have r1 : Gm.hasR 1 D = false := r1
    have r2 : Gm.hasR 2 D = false := r2
    have r3 : Gm.hasR 3 D = false := r3
    have hk : Gm.rowOf D = 4 := row_is D 4 (by decide) (fun q h => by
      have h5 : q = 0 ∨ q = 1 ∨ q = 2 ∨ q = 3 := by omega
      rcases h5 with rfl | rfl | rfl | rfl
      · exact r0
      · exact r1
      · exact r2
      · exact r3
    ) (by unfold Gm.hasR; exact decide_eq_true (Nat.div_eq_of_lt (Nat.mod_lt _ (by decide))))
    have HSB := Lib.hid (show Gm.stepB D = B2.Bt.top 15 4 ++ B2.Bt.top D 64 by unfold Gm.stepB; rw [hk]; show B2.Bt.top 15 4 ++ B2.Bt.top ((D + 0) % 18446744073709551616) 64 = _; rw [Nat.add_zero, Nat.mod_eq_of_lt hDl])
    have CB := Lib.hid (fun W (h : Rf W r g B 0) => B2.fbits_good r g B 0 15 4 (by decide) (by decide) W h (by have := HB.out; omega))
    have CB2 := Lib.hid (fun g1 W (h : Rf W r g1 (B ++ B2.Bt.top 15 4) 0) => B2.fbits_good r g1 (B ++ B2.Bt.top 15 4) 0 D 64 hDl (by decide) W h (by simp only [List.length_append, B2.Bt.top_length]; have := HB.out; omega))
    have hwe : IntKind.u64.wrap e = e := by rw [IntKind.wrap_u64]; omega
    rw [hwe] at hue
    rw [← hue] at CB2
    simp only [Int.cast_ofNat_Int] at CB CB2
    have hTg := HTW.out.g
    obtain ⟨hTr0, hTr1, hTr2⟩ := HTW.out.r
    obtain ⟨ta0, ta1, ta2, ta3, ta4⟩ := HTW.out.t0
    obtain ⟨tb0, tb1, tb2, tb3, tb4⟩ := HTW.out.t1
    obtain ⟨tc0, tc1, tc2, tc3, tc4⟩ := HTW.out.t2
    clear r0 r1 r2 r3 hue hk he hDl z0
    go_wp2_with fail
    refine wp_loop_rounds 4 ?_
    rw [rounds_succ]
    go_wp2_with fail
    rw [rounds_succ]
    go_wp2_with fail
    rw [rounds_succ]
    go_wp2_with fail
    rw [rounds_succ]
    go_wp2_with fail
    go_at_call 87
    refine (CB.out _ HRW.out).mono ?_
    rintro e' w1 ⟨rfl, hp⟩
    obtain ⟨g1, hr1, hg1, ho1⟩ := hp
    have HO2 := Lib.hid (HO.out.trans ho1 (fun x hx => .inl hx))
    have HG1 := Lib.hid (show g1 = g ∨ w.heap.size ≤ g1 from hg1.imp id (fun h => Nat.le_trans HO.out.size h))
    have HR1 := Lib.hid hr1
    clear hr1 hg1 ho1 CB HTW HRW hTg hTr0 hTr1 hTr2 ta0 ta1 ta2 ta3 ta4 tb0 tb1 tb2 tb3 tb4 tc0 tc1 tc2 tc3 tc4
    go_wp2_with fail
    go_at_call 87
    refine (CB2.out g1 _ HR1.out).mono ?_
    rintro e' w2 ⟨rfl, hp⟩
    go_wp2_with fail
    refine bodyPost_end (results_none rfl _ _ _) rfl ⟨rfl, ?_⟩
    rw [HSB.out, ← List.append_assoc]
    exact RfPost.trans HO2.out HG1.out hp
end Go.Proofs.YtdlifcpdlbmijaaDoor
namespace Go.Proofs.YtdlifcpdlbmijaaDoor
set_option linter.unusedVariables false
set_option linter.unusedSimpArgs false
open Go.RowKit Go.PlainAid Go.Shelf
open B2 (Only Bys Row cellsOf Rf)
open Gm (St Smp Dr)
theorem rd_o (S : List Bool) (k : Nat) (hk : k ≤ 64) : (Gm.rO k S = none ∧ B2.Bt.rd S k = (0, 20, 0)) ∨ (∃ v, Gm.rO k S = some (v, S.drop k) ∧ B2.Bt.rd S k = (v, 0, k) ∧ k ≤ S.length ∧ v < 2 ^ k) := by
  have e : B2.Bt.rd S k = if S.length < k then (0, 20, 0) else (B2.Bt.val (S.take k), 0, k) := by
    unfold B2.Bt.rd
    rw [if_neg (by omega), show ((k : Nat) : Int).toNat = k by omega]
  rw [e]
  unfold Gm.rO
  by_cases h : S.length < k
  · rw [if_pos h, if_pos h]
    exact .inl ⟨rfl, rfl⟩
  · rw [if_neg h, if_neg h]
    refine .inr ⟨_, rfl, rfl, by omega, ?_⟩
    have h1 := B2.Bt.val_lt (S.take k)
    rw [List.length_take] at h1
    exact Nat.lt_of_lt_of_le h1 (Nat.pow_le_pow_right (by decide) (Nat.min_le_left _ _))
/-- what a look at the next bits gives -/
def NxPost (w : World) (p g : Nat) (B : List Bool) (at_ k : Nat) (e : Ending) (w' : World) : Prop :=
  (Gm.rO k (B.drop at_) = none ∧ e = .returned (.tuple #[.int .u64 0, .int .u16 20]) ∧ Rf w' p g B at_ ∧ Only [p] w w') ∨
  (∃ v, Gm.rO k (B.drop at_) = some (v, B.drop (at_ + k)) ∧ v < 2 ^ k ∧ at_ + k ≤ B.length ∧ e = .returned (.tuple #[.int .u64 ((v : Nat) : Int), .int .u16 0]) ∧ Rf w' p g B (at_ + k) ∧ Only [p] w w')
theorem next_at (p g : Nat) (B : List Bool) (at_ k : Nat) (hk : k ≤ 64) (w : World) (H : Rf w p g B at_) (hat : at_ ≤ B.length) (hbd : B.length ≤ 1000000000) :
    Calls Tryd.prog 70 #[pt p, .int .i64 ((k : Nat) : Int)] w (NxPost w p g B at_ k) := by
  refine (B2.fnext_any p g B at_ ((k : Nat) : Int) w H hat hbd).mono ?_
  rintro e w' ⟨rfl, h2, h3⟩
  rcases rd_o (B.drop at_) k hk with ⟨h4, h5⟩ | ⟨v, h4, h5, h6, h7⟩
  · rw [h5] at h2
    rw [h5]
    exact .inl ⟨h4, rfl, h2, h3⟩
  · rw [h5] at h2
    rw [h5]
    rw [List.drop_drop] at h4
    rw [List.length_drop] at h6
    exact .inr ⟨v, h4, h7, by omega, rfl, h2, h3⟩
/-- what a look at the next number of groups gives -/
def NvPost (w : World) (p g : Nat) (B : List Bool) (at_ : Nat) (e : Ending) (w' : World) : Prop :=
  (Gm.vO (B.drop at_) = none ∧ (∃ x : Nat, e = .returned (.tuple #[.int .u64 0, .int .u16 x]) ∧ x ≠ 0) ∧ Rf w' p g B at_ ∧ Only [p] w w') ∨
  (∃ v at', Gm.vO (B.drop at_) = some (v, B.drop at') ∧ v < 18446744073709551616 ∧ at' ≤ B.length ∧ e = .returned (.tuple #[.int .u64 ((v : Nat) : Int), .int .u16 0]) ∧ Rf w' p g B at' ∧ Only [p] w w')
theorem var_at (p g : Nat) (B : List Bool) (at_ : Nat) (w : World) (H : Rf w p g B at_) (hat : at_ ≤ B.length) (hbd : B.length ≤ 1000000000) :
    Calls Tryd.prog 71 #[pt p] w (NvPost w p g B at_) := by
  refine (B2.fvarint_any p g B at_ w H hat hbd).mono ?_
  rintro e w' ⟨rfl, h2, h3⟩
  by_cases h0 : (B2.Bt.rv (B.drop at_)).2.1 = 0
  · have ht := B2.Bt.rv_take (B.drop at_)
    rw [List.length_drop] at ht
    refine .inr ⟨(B2.Bt.rv (B.drop at_)).1, at_ + (B2.Bt.rv (B.drop at_)).2.2, ?_, B2.Bt.rv_lt _, by omega, ?_, h2, h3⟩
    · unfold Gm.vO
      rw [if_pos h0, List.drop_drop]
    · rw [h0]; rfl
  · rcases B2.Bt.rv_err (B.drop at_) with h | ⟨h4, h5, h6⟩
    · exact absurd h h0
    · rw [h5] at h2
      refine .inl ⟨by unfold Gm.vO; rw [if_neg h0], ⟨(B2.Bt.rv (B.drop at_)).2.1, ?_, h0⟩, h2, h3⟩
      rw [h4]; rfl
/-- what a look at the next number that may be below 0 gives -/
def NsPost (w : World) (p g : Nat) (B : List Bool) (at_ : Nat) (e : Ending) (w' : World) : Prop :=
  (Gm.vO (B.drop at_) = none ∧ (∃ x : Nat, e = .returned (.tuple #[.int .i64 0, .int .u16 x]) ∧ x ≠ 0) ∧ Rf w' p g B at_ ∧ Only [p] w w') ∨
  (∃ v at', Gm.vO (B.drop at_) = some (v, B.drop at') ∧ v < 18446744073709551616 ∧ at' ≤ B.length ∧ e = .returned (.tuple #[.int .i64 (B2.Bt.uz v), .int .u16 0]) ∧ Rf w' p g B at' ∧ Only [p] w w')
theorem sgn_at (p g : Nat) (B : List Bool) (at_ : Nat) (w : World) (H : Rf w p g B at_) (hat : at_ ≤ B.length) (hbd : B.length ≤ 1000000000) :
    Calls Tryd.prog 69 #[pt p] w (NsPost w p g B at_) := by
  refine (B2.fsigned_any p g B at_ w H hat hbd).mono ?_
  rintro e w' ⟨rfl, h2, h3⟩
  by_cases h0 : (B2.Bt.rv (B.drop at_)).2.1 = 0
  · have ht := B2.Bt.rv_take (B.drop at_)
    rw [List.length_drop] at ht
    refine .inr ⟨(B2.Bt.rv (B.drop at_)).1, at_ + (B2.Bt.rv (B.drop at_)).2.2, ?_, B2.Bt.rv_lt _, by omega, ?_, h2, h3⟩
    · unfold Gm.vO
      rw [if_pos h0, List.drop_drop]
    · rw [h0]; rfl
  · rcases B2.Bt.rv_err (B.drop at_) with h | ⟨h4, h5, h6⟩
    · exact absurd h h0
    · rw [h5] at h2
      refine .inl ⟨by unfold Gm.vO; rw [if_neg h0], ⟨(B2.Bt.rv (B.drop at_)).2.1, ?_, h0⟩, h2, h3⟩
      rw [h4]; rfl
end Go.Proofs.YtdlifcpdlbmijaaDoor
namespace Go.Proofs.YtdlifcpdlbmijaaDoor
set_option linter.unusedVariables false
set_option linter.unusedSimpArgs false
open Go.RowKit Go.PlainAid Go.Shelf
open B2 (Only Bys Row cellsOf Rf)
open Gm (St Smp Dr)
/-- what change gives -/
def ChgPost (w : World) (p g : Nat) (B : List Bool) (at_ : Nat) (e : Ending) (w' : World) : Prop :=
  ∃ V E at', e = .returned (.tuple #[.int .u64 ((V : Nat) : Int), .int .u16 ((E : Nat) : Int)]) ∧ at' ≤ B.length ∧ Rf w' p g B at' ∧ Only [p] w w' ∧ V < 18446744073709551616 ∧ ((E = 0 ∧ Gm.chO 4 (B.drop at_) = some (V, B.drop at')) ∨ (E ≠ 0 ∧ Gm.chO 4 (B.drop at_) = none))
theorem chO_one {S S1 : List Bool} {f : Nat} (h : Gm.rO 1 S = some (1, S1)) : Gm.chO (f + 1) S = Gm.chO f S1 := by
  rw [Gm.chO, h]; rfl
theorem chO_no {S : List Bool} {f : Nat} (h : Gm.rO 1 S = none) : Gm.chO (f + 1) S = none := by
  rw [Gm.chO, h]; rfl
theorem chO_nought {S S1 : List Bool} {v : Nat} (h : Gm.rO 1 S = some (v, S1)) (hv : v ≠ 1) : Gm.chO (3 + 1) S = some (0, S1) := by
  rw [Gm.chO, h]
  simp [hv]
theorem chO_row {S S1 : List Bool} {v f : Nat} (h : Gm.rO 1 S = some (v, S1)) (hv : v ≠ 1) (hf : f ≠ 3) : Gm.chO (f + 1) S = (Gm.rO (Gm.sz (3 - f)) S1).map fun d => (Gm.subW d.1 (Gm.pl (3 - f)), d.2) := by
  rw [Gm.chO, h]
  simp [hv, hf]
set_option maxHeartbeats 8000000 in
set_option maxRecDepth 100000 in
theorem change_any (p g : Nat) (B : List Bool) (at_ : Nat) (q p0 p1 p2 c c0 c1 c2 o9 oa oc od : Nat) (w : World) (H : Rf w p g B at_) (HT : TabB w q p0 p1 p2 c c0 c1 c2 o9 oa oc od) (hne : p ≠ 0 ∧ p ≠ q ∧ p ≠ p0 ∧ p ≠ p1 ∧ p ≠ p2) (hat : at_ ≤ B.length) (hbd : B.length ≤ 1000000000) :
    Calls Tryd.prog 72 #[pt p] w (ChgPost w p g B at_) := by
  have HH := Lib.hid (And.intro H (And.intro HT (And.intro hne (And.intro hat hbd))))
  clear H HT hne hat hbd
  unfold pt
  go_enter Tryd.func72, Tryd.ntmps72
  go_wp2_with fail
  go_loopw [4] (fun i wr => ∃ k : Nat, k ≤ 4 ∧ i = .int .i64 (k : Nat) ∧ Hid (Rf wr p g B (at_ + k) ∧ Only [p] w wr ∧ at_ + k ≤ B.length ∧ Gm.chO 4 (B.drop at_) = Gm.chO (4 - k) (B.drop (at_ + k)))) (fun i _ => 4 - (intOf i).toNat)
  case atStart => exact ⟨0, Nat.zero_le _, rfl, Lib.hid ⟨HH.out.1, Only.refl _ _, HH.out.2.2.2.1, rfl⟩⟩
  case round =>
    obtain ⟨k, hk, rfl, HI⟩ := hrel
    have hk5 : k = 0 ∨ k = 1 ∨ k = 2 ∨ k = 3 ∨ k = 4 := by omega
    rcases hk5 with rfl | rfl | rfl | rfl | rfl
    · have CN := Lib.hid (next_at p g B (at_ + 0) 1 (by decide) wr HI.out.1 HI.out.2.2.1 HH.out.2.2.2.2)
      rw [show ((1 : Nat) : Int) = 1 from rfl] at CN
      rw [show ((0 : Nat) : Int) = 0 from rfl]
      unfold pt at *
      go_wp2_with fail
      refine CN.out.mono ?_
      rintro e w1 (⟨h1, rfl, h2, h3⟩ | ⟨v, h1, hv, hle, rfl, h2, h3⟩)
      · have HP := Lib.hid (show ∀ W, W = w1 → ChgPost w p g B at_ (.returned (.tuple #[.int .u64 0, .int .u16 20])) W from by
          rintro W rfl
          exact ⟨0, 20, at_ + 0, rfl, HI.out.2.2.1, h2, HI.out.2.1.trans h3 (fun x hx => .inl hx), by decide, .inr ⟨by decide, by rw [HI.out.2.2.2]; exact chO_no h1⟩⟩)
        clear h1 h2 h3
        go_wp2_with fail
        go_ret2
        exact HP.out _ rfl
      · have HW := Lib.hid (show Rf w1 p g B (at_ + 1) ∧ Only [p] w w1 ∧ at_ + 1 ≤ B.length from ⟨h2, HI.out.2.1.trans h3 (fun x hx => .inl hx), hle⟩)
        have H1 := Lib.hid h1
        clear h1 h2 h3
        by_cases hv1 : v = 1
        · subst hv1
          have HN := Lib.hid (show Rf w1 p g B (at_ + 1) ∧ Only [p] w w1 ∧ at_ + 1 ≤ B.length ∧ Gm.chO 4 (B.drop at_) = Gm.chO (4 - 1) (B.drop (at_ + 1)) from ⟨HW.out.1, HW.out.2.1, HW.out.2.2, by rw [HI.out.2.2.2]; exact chO_one H1.out⟩)
          rw [show ((1 : Nat) : Int) = 1 from rfl]
          go_wp2_with fail
          go_roundw
          case rel => exact ⟨1, by decide, by go_num, HN⟩
          case measure => simp [intOf]
        · have d1 : ((v : Int) == 1) = false := by simp; omega
          have d2 : ¬ (v : Int) = 1 := by omega
          have HP := Lib.hid (show ∀ W, W = w1 → ChgPost w p g B at_ (.returned (.tuple #[.int .u64 0, .int .u16 0])) W from by
            rintro W rfl
            exact ⟨0, 0, at_ + 1, rfl, HW.out.2.2, HW.out.1, HW.out.2.1, by decide, .inl ⟨rfl, by rw [HI.out.2.2.2]; exact chO_nought H1.out hv1⟩⟩)
          go_wp2_with fail
          go_ret2
          exact HP.out _ rfl
    · have CN := Lib.hid (next_at p g B (at_ + 1) 1 (by decide) wr HI.out.1 HI.out.2.2.1 HH.out.2.2.2.2)
      rw [show ((1 : Nat) : Int) = 1 from rfl] at CN
      rw [show ((1 : Nat) : Int) = 1 from rfl]
      unfold pt at *
      go_wp2_with fail
      refine CN.out.mono ?_
      rintro e w1 (⟨h1, rfl, h2, h3⟩ | ⟨v, h1, hv, hle, rfl, h2, h3⟩)
      · have HP := Lib.hid (show ∀ W, W = w1 → ChgPost w p g B at_ (.returned (.tuple #[.int .u64 0, .int .u16 20])) W from by
          rintro W rfl
          exact ⟨0, 20, at_ + 1, rfl, HI.out.2.2.1, h2, HI.out.2.1.trans h3 (fun x hx => .inl hx), by decide, .inr ⟨by decide, by rw [HI.out.2.2.2]; exact chO_no h1⟩⟩)
        clear h1 h2 h3
        go_wp2_with fail
        go_ret2
        exact HP.out _ rfl
      · have HW := Lib.hid (show Rf w1 p g B (at_ + 2) ∧ Only [p] w w1 ∧ at_ + 2 ≤ B.length from ⟨h2, HI.out.2.1.trans h3 (fun x hx => .inl hx), hle⟩)
        have H1 := Lib.hid h1
        clear h1 h2 h3
        by_cases hv1 : v = 1
        · subst hv1
          have HN := Lib.hid (show Rf w1 p g B (at_ + 2) ∧ Only [p] w w1 ∧ at_ + 2 ≤ B.length ∧ Gm.chO 4 (B.drop at_) = Gm.chO (4 - 2) (B.drop (at_ + 2)) from ⟨HW.out.1, HW.out.2.1, HW.out.2.2, by rw [HI.out.2.2.2]; exact chO_one H1.out⟩)
          rw [show ((1 : Nat) : Int) = 1 from rfl]
          go_wp2_with fail
          go_roundw
          case rel => exact ⟨2, by decide, by go_num, HN⟩
          case measure => simp [intOf]
        · have d1 : ((v : Int) == 1) = false := by simp; omega
          have d2 : ¬ (v : Int) = 1 := by omega
          have hT := HH.out.2.1.only (r := p) (g := p) ((Only.refl [p, p] w).trans HW.out.2.1 (fun x hx => .inl (by simp at hx ⊢; exact hx))) ⟨HH.out.2.2.1.1, HH.out.2.2.1.2.1, HH.out.2.2.1.2.2.1, HH.out.2.2.1.2.2.2.1, HH.out.2.2.1.2.2.2.2, HH.out.2.2.1.1, HH.out.2.2.1.2.1, HH.out.2.2.1.2.2.1, HH.out.2.2.1.2.2.2.1, HH.out.2.2.1.2.2.2.2⟩
          have tg := hT.g
          obtain ⟨tr0, tr1, tr2⟩ := hT.r
          obtain ⟨ta0, ta1, ta2, ta3, ta4⟩ := hT.t0
          have HTR := Lib.hid (And.intro ta2 HW.out.2.1)
          have CM := Lib.hid (next_at p g B (at_ + 2) 7 (by decide) w1 HW.out.1 HW.out.2.2 HH.out.2.2.2.2)
          rw [show ((7 : Nat) : Int) = 7 from rfl] at CM
          unfold pt at CM
          clear hT
          go_wp2_with fail
          refine CM.out.mono ?_
          rintro e w2 (⟨k1, rfl, k2, k3⟩ | ⟨u, k1, hu, kle, rfl, k2, k3⟩)
          · have tz2 := Only_cell k3 HTR.out.1 (by simp; exact Ne.symm HH.out.2.2.1.2.2.1)
            have HP := Lib.hid (show ∀ V : Nat, V < 18446744073709551616 → ∀ W, W = w2 → ChgPost w p g B at_ (.returned (.tuple #[.int .u64 ((V : Nat) : Int), .int .u16 20])) W from by
              rintro V hV W rfl
              exact ⟨V, 20, at_ + 2, rfl, HW.out.2.2, k2, HW.out.2.1.trans k3 (fun x hx => .inl hx), hV, .inr ⟨by decide, by rw [HI.out.2.2.2]; show Gm.chO (2 + 1) _ = _; rw [chO_row H1.out hv1 (by decide)]; show Option.map _ (Gm.rO 7 _) = _; rw [k1]; rfl⟩⟩)
            clear k1 k2 k3 tg tr0 tr1 tr2 ta0 ta1 ta2 ta3 ta4
            go_wp2_with fail
            go_ret2
            exact HP.out 18446744073709551553 (by decide) _ rfl
          · have tz2 := Only_cell k3 HTR.out.1 (by simp; exact Ne.symm HH.out.2.2.1.2.2.1)
            have hw2 : IntKind.u64.wrap ((u : Int) + 18446744073709551553) = ((Gm.subW u 63 : Nat) : Int) := by rw [IntKind.wrap_u64]; unfold Gm.subW; omega
            have HP := Lib.hid (show ∀ W, W = w2 → ChgPost w p g B at_ (.returned (.tuple #[.int .u64 ((Gm.subW u 63 : Nat) : Int), .int .u16 0])) W from by
              rintro W rfl
              exact ⟨Gm.subW u 63, 0, at_ + 2 + 7, rfl, kle, k2, HW.out.2.1.trans k3 (fun x hx => .inl hx), Gm.subW_lt _ _, .inl ⟨rfl, by rw [HI.out.2.2.2]; show Gm.chO (2 + 1) _ = _; rw [chO_row H1.out hv1 (by decide)]; show Option.map _ (Gm.rO 7 _) = _; rw [k1]; rfl⟩⟩)
            clear k1 k2 k3 tg tr0 tr1 tr2 ta0 ta1 ta2 ta3 ta4
            go_wp2_with fail
            go_ret2
            exact HP.out _ rfl
    · have CN := Lib.hid (next_at p g B (at_ + 2) 1 (by decide) wr HI.out.1 HI.out.2.2.1 HH.out.2.2.2.2)
      rw [show ((1 : Nat) : Int) = 1 from rfl] at CN
      rw [show ((2 : Nat) : Int) = 2 from rfl]
      unfold pt at *
      go_wp2_with fail
      refine CN.out.mono ?_
      rintro e w1 (⟨h1, rfl, h2, h3⟩ | ⟨v, h1, hv, hle, rfl, h2, h3⟩)
      · have HP := Lib.hid (show ∀ W, W = w1 → ChgPost w p g B at_ (.returned (.tuple #[.int .u64 0, .int .u16 20])) W from by
          rintro W rfl
          exact ⟨0, 20, at_ + 2, rfl, HI.out.2.2.1, h2, HI.out.2.1.trans h3 (fun x hx => .inl hx), by decide, .inr ⟨by decide, by rw [HI.out.2.2.2]; exact chO_no h1⟩⟩)
        clear h1 h2 h3
        go_wp2_with fail
        go_ret2
        exact HP.out _ rfl
      · have HW := Lib.hid (show Rf w1 p g B (at_ + 3) ∧ Only [p] w w1 ∧ at_ + 3 ≤ B.length from ⟨h2, HI.out.2.1.trans h3 (fun x hx => .inl hx), hle⟩)
        have H1 := Lib.hid h1
        clear h1 h2 h3
        by_cases hv1 : v = 1
        · subst hv1
          have HN := Lib.hid (show Rf w1 p g B (at_ + 3) ∧ Only [p] w w1 ∧ at_ + 3 ≤ B.length ∧ Gm.chO 4 (B.drop at_) = Gm.chO (4 - 3) (B.drop (at_ + 3)) from ⟨HW.out.1, HW.out.2.1, HW.out.2.2, by rw [HI.out.2.2.2]; exact chO_one H1.out⟩)
          rw [show ((1 : Nat) : Int) = 1 from rfl]
          go_wp2_with fail
          go_roundw
          case rel => exact ⟨3, by decide, by go_num, HN⟩
          case measure => simp [intOf]
        · have d1 : ((v : Int) == 1) = false := by simp; omega
          have d2 : ¬ (v : Int) = 1 := by omega
          have hT := HH.out.2.1.only (r := p) (g := p) ((Only.refl [p, p] w).trans HW.out.2.1 (fun x hx => .inl (by simp at hx ⊢; exact hx))) ⟨HH.out.2.2.1.1, HH.out.2.2.1.2.1, HH.out.2.2.1.2.2.1, HH.out.2.2.1.2.2.2.1, HH.out.2.2.1.2.2.2.2, HH.out.2.2.1.1, HH.out.2.2.1.2.1, HH.out.2.2.1.2.2.1, HH.out.2.2.1.2.2.2.1, HH.out.2.2.1.2.2.2.2⟩
          have tg := hT.g
          obtain ⟨tr0, tr1, tr2⟩ := hT.r
          obtain ⟨ta0, ta1, ta2, ta3, ta4⟩ := hT.t1
          have HTR := Lib.hid (And.intro ta2 HW.out.2.1)
          have CM := Lib.hid (next_at p g B (at_ + 3) 9 (by decide) w1 HW.out.1 HW.out.2.2 HH.out.2.2.2.2)
          rw [show ((9 : Nat) : Int) = 9 from rfl] at CM
          unfold pt at CM
          clear hT
          go_wp2_with fail
          refine CM.out.mono ?_
          rintro e w2 (⟨k1, rfl, k2, k3⟩ | ⟨u, k1, hu, kle, rfl, k2, k3⟩)
          · have tz2 := Only_cell k3 HTR.out.1 (by simp; exact Ne.symm HH.out.2.2.1.2.2.2.1)
            have HP := Lib.hid (show ∀ V : Nat, V < 18446744073709551616 → ∀ W, W = w2 → ChgPost w p g B at_ (.returned (.tuple #[.int .u64 ((V : Nat) : Int), .int .u16 20])) W from by
              rintro V hV W rfl
              exact ⟨V, 20, at_ + 3, rfl, HW.out.2.2, k2, HW.out.2.1.trans k3 (fun x hx => .inl hx), hV, .inr ⟨by decide, by rw [HI.out.2.2.2]; show Gm.chO (1 + 1) _ = _; rw [chO_row H1.out hv1 (by decide)]; show Option.map _ (Gm.rO 9 _) = _; rw [k1]; rfl⟩⟩)
            clear k1 k2 k3 tg tr0 tr1 tr2 ta0 ta1 ta2 ta3 ta4
            go_wp2_with fail
            go_ret2
            exact HP.out 18446744073709551361 (by decide) _ rfl
          · have tz2 := Only_cell k3 HTR.out.1 (by simp; exact Ne.symm HH.out.2.2.1.2.2.2.1)
            have hw2 : IntKind.u64.wrap ((u : Int) + 18446744073709551361) = ((Gm.subW u 255 : Nat) : Int) := by rw [IntKind.wrap_u64]; unfold Gm.subW; omega
            have HP := Lib.hid (show ∀ W, W = w2 → ChgPost w p g B at_ (.returned (.tuple #[.int .u64 ((Gm.subW u 255 : Nat) : Int), .int .u16 0])) W from by
              rintro W rfl
              exact ⟨Gm.subW u 255, 0, at_ + 3 + 9, rfl, kle, k2, HW.out.2.1.trans k3 (fun x hx => .inl hx), Gm.subW_lt _ _, .inl ⟨rfl, by rw [HI.out.2.2.2]; show Gm.chO (1 + 1) _ = _; rw [chO_row H1.out hv1 (by decide)]; show Option.map _ (Gm.rO 9 _) = _; rw [k1]; rfl⟩⟩)
            clear k1 k2 k3 tg tr0 tr1 tr2 ta0 ta1 ta2 ta3 ta4
            go_wp2_with fail
            go_ret2
            exact HP.out _ rfl
    · have CN := Lib.hid (next_at p g B (at_ + 3) 1 (by decide) wr HI.out.1 HI.out.2.2.1 HH.out.2.2.2.2)
      rw [show ((1 : Nat) : Int) = 1 from rfl] at CN
      rw [show ((3 : Nat) : Int) = 3 from rfl]
      unfold pt at *
      go_wp2_with fail
      refine CN.out.mono ?_
      rintro e w1 (⟨h1, rfl, h2, h3⟩ | ⟨v, h1, hv, hle, rfl, h2, h3⟩)
      · have HP := Lib.hid (show ∀ W, W = w1 → ChgPost w p g B at_ (.returned (.tuple #[.int .u64 0, .int .u16 20])) W from by
          rintro W rfl
          exact ⟨0, 20, at_ + 3, rfl, HI.out.2.2.1, h2, HI.out.2.1.trans h3 (fun x hx => .inl hx), by decide, .inr ⟨by decide, by rw [HI.out.2.2.2]; exact chO_no h1⟩⟩)
        clear h1 h2 h3
        go_wp2_with fail
        go_ret2
        exact HP.out _ rfl
      · have HW := Lib.hid (show Rf w1 p g B (at_ + 4) ∧ Only [p] w w1 ∧ at_ + 4 ≤ B.length from ⟨h2, HI.out.2.1.trans h3 (fun x hx => .inl hx), hle⟩)
        have H1 := Lib.hid h1
        clear h1 h2 h3
        by_cases hv1 : v = 1
        · subst hv1
          have HN := Lib.hid (show Rf w1 p g B (at_ + 4) ∧ Only [p] w w1 ∧ at_ + 4 ≤ B.length ∧ Gm.chO 4 (B.drop at_) = Gm.chO (4 - 4) (B.drop (at_ + 4)) from ⟨HW.out.1, HW.out.2.1, HW.out.2.2, by rw [HI.out.2.2.2]; exact chO_one H1.out⟩)
          rw [show ((1 : Nat) : Int) = 1 from rfl]
          go_wp2_with fail
          go_roundw
          case rel => exact ⟨4, by decide, by go_num, HN⟩
          case measure => simp [intOf]
        · have d1 : ((v : Int) == 1) = false := by simp; omega
          have d2 : ¬ (v : Int) = 1 := by omega
          have hT := HH.out.2.1.only (r := p) (g := p) ((Only.refl [p, p] w).trans HW.out.2.1 (fun x hx => .inl (by simp at hx ⊢; exact hx))) ⟨HH.out.2.2.1.1, HH.out.2.2.1.2.1, HH.out.2.2.1.2.2.1, HH.out.2.2.1.2.2.2.1, HH.out.2.2.1.2.2.2.2, HH.out.2.2.1.1, HH.out.2.2.1.2.1, HH.out.2.2.1.2.2.1, HH.out.2.2.1.2.2.2.1, HH.out.2.2.1.2.2.2.2⟩
          have tg := hT.g
          obtain ⟨tr0, tr1, tr2⟩ := hT.r
          obtain ⟨ta0, ta1, ta2, ta3, ta4⟩ := hT.t2
          have HTR := Lib.hid (And.intro ta2 HW.out.2.1)
          have CM := Lib.hid (next_at p g B (at_ + 4) 12 (by decide) w1 HW.out.1 HW.out.2.2 HH.out.2.2.2.2)
          rw [show ((12 : Nat) : Int) = 12 from rfl] at CM
          unfold pt at CM
          clear hT
          go_wp2_with fail
          refine CM.out.mono ?_
          rintro e w2 (⟨k1, rfl, k2, k3⟩ | ⟨u, k1, hu, kle, rfl, k2, k3⟩)
          · have tz2 := Only_cell k3 HTR.out.1 (by simp; exact Ne.symm HH.out.2.2.1.2.2.2.2)
            have HP := Lib.hid (show ∀ V : Nat, V < 18446744073709551616 → ∀ W, W = w2 → ChgPost w p g B at_ (.returned (.tuple #[.int .u64 ((V : Nat) : Int), .int .u16 20])) W from by
              rintro V hV W rfl
              exact ⟨V, 20, at_ + 4, rfl, HW.out.2.2, k2, HW.out.2.1.trans k3 (fun x hx => .inl hx), hV, .inr ⟨by decide, by rw [HI.out.2.2.2]; show Gm.chO (0 + 1) _ = _; rw [chO_row H1.out hv1 (by decide)]; show Option.map _ (Gm.rO 12 _) = _; rw [k1]; rfl⟩⟩)
            clear k1 k2 k3 tg tr0 tr1 tr2 ta0 ta1 ta2 ta3 ta4
            go_wp2_with fail
            go_ret2
            exact HP.out 18446744073709549569 (by decide) _ rfl
          · have tz2 := Only_cell k3 HTR.out.1 (by simp; exact Ne.symm HH.out.2.2.1.2.2.2.2)
            have hw2 : IntKind.u64.wrap ((u : Int) + 18446744073709549569) = ((Gm.subW u 2047 : Nat) : Int) := by rw [IntKind.wrap_u64]; unfold Gm.subW; omega
            have HP := Lib.hid (show ∀ W, W = w2 → ChgPost w p g B at_ (.returned (.tuple #[.int .u64 ((Gm.subW u 2047 : Nat) : Int), .int .u16 0])) W from by
              rintro W rfl
              exact ⟨Gm.subW u 2047, 0, at_ + 4 + 12, rfl, kle, k2, HW.out.2.1.trans k3 (fun x hx => .inl hx), Gm.subW_lt _ _, .inl ⟨rfl, by rw [HI.out.2.2.2]; show Gm.chO (0 + 1) _ = _; rw [chO_row H1.out hv1 (by decide)]; show Option.map _ (Gm.rO 12 _) = _; rw [k1]; rfl⟩⟩)
            clear k1 k2 k3 tg tr0 tr1 tr2 ta0 ta1 ta2 ta3 ta4
            go_wp2_with fail
            go_ret2
            exact HP.out _ rfl
    · have CN := Lib.hid (next_at p g B (at_ + 4) 64 (by decide) wr HI.out.1 HI.out.2.2.1 HH.out.2.2.2.2)
      rw [show ((64 : Nat) : Int) = 64 from rfl] at CN
      rw [show ((4 : Nat) : Int) = 4 from rfl]
      unfold pt at *
      go_wp2_with fail
      refine CN.out.mono ?_
      rintro e w1 (⟨h1, rfl, h2, h3⟩ | ⟨v, h1, hv, hle, rfl, h2, h3⟩)
      · have HP := Lib.hid (show ∀ W, W = w1 → ChgPost w p g B at_ (.returned (.tuple #[.int .u64 0, .int .u16 20])) W from by
          rintro W rfl
          exact ⟨0, 20, at_ + 4, rfl, HI.out.2.2.1, h2, HI.out.2.1.trans h3 (fun x hx => .inl hx), by decide, .inr ⟨by decide, by rw [HI.out.2.2.2]; exact h1⟩⟩)
        clear h1 h2 h3
        go_wp2_with fail
        go_ret2
        exact HP.out _ rfl
      · have HP := Lib.hid (show ∀ W, W = w1 → ChgPost w p g B at_ (.returned (.tuple #[.int .u64 ((v : Nat) : Int), .int .u16 0])) W from by
          rintro W rfl
          exact ⟨v, 0, at_ + 4 + 64, rfl, hle, h2, HI.out.2.1.trans h3 (fun x hx => .inl hx), by omega, .inl ⟨rfl, by rw [HI.out.2.2.2]; exact h1⟩⟩)
        clear h1 h2 h3
        go_wp2_with fail
        go_ret2
        exact HP.out _ rfl
end Go.Proofs.YtdlifcpdlbmijaaDoor
