/-
  WALKS of the document's own answers: Read, Next.
-/
import Derived.Test.YtimmlnfoabbbjaaRefA
namespace Go.Proofs.Ytimmlnfoabbbjaa
open Go.RowKit
def FreadPost (w : World) (bs : List Nat) (e : Ending) (w' : World) : Prop :=
  ∃ p g, e = .returned (.pointer (some ⟨p, 0, none⟩)) ∧ w.heap.size ≤ p ∧ w.heap.size ≤ g ∧ Rf w' p g (Bt.unpack bs) 0 ∧ Below w.heap.size w w'
/-- how far the list has been laid -/
def FreadAt (w : World) (bs : List Nat) (k : Nat) (wr : World) : Prop := ∃ g, w.heap.size ≤ g ∧ Rf wr w.heap.size g (Bt.unpack (bs.take k)) 0 ∧ Below w.heap.size w wr
set_option maxHeartbeats 400000 in
theorem fread_any (a : Option Addr) (bs : List Nat) (cap : Nat) (w : World) (H : Bys w a bs) (hbd : bs.length ≤ 1000000) :
    Calls Try.prog 20 #[.slice a bs.length cap] w (FreadPost w bs) := by
  have A1 := Lib.hid H
  clear H
  have h0 : FreadAt w bs 0 (w.alloc (.cells #[.slice none 0 0, .int .i64 0] 29)) :=
    ⟨w.heap.size, Nat.le_refl _, ⟨_, heap_alloc_new _ _, Row.nil _ _, .inl rfl, by simp⟩, (Below.refl _ _).alloc (Nat.le_refl _) _⟩
  have H0 := Lib.hid h0
  clear h0
  go_enter Try.func20, Try.ntmps20
  go_wp2
  go_loopw [4] (fun i wr => ∃ k : Nat, k ≤ bs.length ∧ i = .int .i64 (k : Nat) ∧ Hid (FreadAt w bs k wr)) (fun i _ => bs.length - (intOf i).toNat)
  case atStart => exact ⟨0, Nat.zero_le _, rfl, H0⟩
  case round =>
    obtain ⟨k, hk, rfl, g, hg, hR, hB⟩ := hrel
    have XR := Lib.hid hR
    have XB := Lib.hid hB
    clear hR hB
    by_cases hlt : k < bs.length
    · obtain ⟨b, off, rfl, hb, hc⟩ := (A1.out.below XB.out).at k hlt
      have h8 : bs[k] < 256 := A1.out.2.1 _ (List.getElem_mem _)
      have hu : Bt.unpack (bs.take (k + 1)) = Bt.unpack (bs.take k) ++ Bt.top bs[k] 8 := by
        rw [List.take_succ_eq_append_getElem hlt, Bt.unpack_append, Bt.unpack_one]
      have HU := Lib.hid hu
      clear hu
      generalize bs[k] = c at *
      have hl : (Bt.unpack (bs.take k)).length ≤ 8000000 := by rw [Bt.unpack_length, List.length_take]; omega
      have hi : (k : Int) < (bs.length : Int) := by omega
      go_wp2_with fail
      refine (fbits_good _ g _ 0 c 8 (by omega) (by omega) _ XR.out (by omega)).mono ?_
      rintro e w' ⟨rfl, g', h1, h2, h3⟩
      have HN : Hid (FreadAt w bs (k + 1) w') := by
        have hs := XB.out.size
        exact ⟨g', by rcases h2 with h | h <;> omega, by rw [HU.out]; exact h1, XB.out.trans (h3.below hs (by intro x hx; simp at hx; omega))⟩
      clear h1 h2 h3
      go_wp2
      go_roundw
      case rel => exact ⟨k + 1, by omega, by go_num, HN⟩
      case measure => simp [intOf]; omega
    · obtain rfl : k = bs.length := by omega
      go_wp2
      go_ret
      have hR := XR.out
      rw [List.take_length] at hR
      exact ⟨_, g, rfl, Nat.le_refl _, hg, hR, XB.out⟩
def FnPost (w : World) (p g : Nat) (B : List Bool) (at_ : Nat) (n : Int) (e : Ending) (w' : World) : Prop :=
  e = .returned (.tuple #[.int .u64 (((Bt.rd (B.drop at_) n).1 : Nat) : Int), .int .u16 (((Bt.rd (B.drop at_) n).2.1 : Nat) : Int)]) ∧ Rf w' p g B (at_ + (Bt.rd (B.drop at_) n).2.2) ∧ Only [p] w w'
theorem rf_at {w : World} {p g at_ x : Nat} {B : List Bool} (h : Rf w p g B at_) : Rf (w.setCell ⟨p, 1, none⟩ (.int .i64 (x : Nat))) p g B x := by
  obtain ⟨v, h1, h2, h3, h4⟩ := h
  refine ⟨v, set2b h1, ?_, h3, by simpa [World.setCell] using h4⟩
  rcases h2.value with ⟨rfl, h0⟩ | ⟨cap, cur, rfl, hg, _⟩
  · rw [h0]; exact Row.nil _ _
  · refine h2.only ((Only.refl [p] _).setCell (p := ⟨p, 1, none⟩) (.inl (by simp)) _) ?_
    rcases h3 with h | h
    · cases h
    · simpa using h
theorem val_step (S : List Bool) (k : Nat) (h : k < S.length) : Bt.val (S.take (k + 1)) = 2 * Bt.val (S.take k) + (S[k]).toNat := by
  rw [List.take_succ_eq_append_getElem h, Bt.val_snoc]
set_option maxRecDepth 100000 in
set_option maxHeartbeats 400000 in
theorem fnext_any (p g : Nat) (B : List Bool) (at_ : Nat) (n : Int) (w : World) (H : Rf w p g B at_) (hat : at_ ≤ B.length) (hbd : B.length ≤ 1000000000) :
    Calls Try.prog 22 #[.pointer (some ⟨p, 0, none⟩), .int .i64 n] w (FnPost w p g B at_ n) := by
  have hU : (B.drop at_).length = B.length - at_ := by rw [List.length_drop]
  by_cases hn : n < 0 ∨ 64 < n
  · have hpost : FnPost w p g B at_ n (.returned (.tuple #[.int .u64 0, .int .u16 1])) w := by
      unfold FnPost Bt.rd
      rw [if_pos hn]
      exact ⟨rfl, H, Only.refl _ _⟩
    have HP := Lib.hid hpost
    clear hpost H hU
    rcases hn with hn | hn
    · have h1 : decide (n < 0) = true := by simpa using hn
      go_enter Try.func22, Try.ntmps22
      go_wp2
      go_ret2
      exact HP.out
    · have h1 : decide (n < 0) = false := by simp; omega
      have h2 : decide (n > 64) = true := by simpa using hn
      go_enter Try.func22, Try.ntmps22
      go_wp2
      go_ret2
      exact HP.out
  · obtain ⟨m, rfl⟩ := Int.eq_ofNat_of_zero_le (a := n) (by omega)
    have hm : m ≤ 64 := by omega
    have H0 := Lib.hid H
    clear H
    have h1 : decide ((m : Int) < 0) = false := by simp
    have h2 : decide ((m : Int) > 64) = false := by simp; omega
    by_cases hs : B.length - at_ < m
    · have hpost : ∀ w', Below w.heap.size w w' → FnPost w p g B at_ (m : Int) (.returned (.tuple #[.int .u64 0, .int .u16 20])) w' := by
        intro w' hb
        unfold FnPost Bt.rd
        rw [if_neg hn, hU, Int.toNat_natCast, if_pos hs]
        exact ⟨rfl, H0.out.below hb, Only.of_below hb _⟩
      have HP := Lib.hid hpost
      clear hpost hU hn
      have h3 : decide ((m : Int) > ((B.length - at_ : Nat) : Int)) = true := by simp; omega
      go_enter Try.func22, Try.ntmps22
      go_wp2_with (go_at_call 29; refine (fleft_any p g B at_ _ H0.out hat hbd).mono ?_; rintro e w1 ⟨rfl, hb⟩; have HB := Lib.hid hb; clear hb)
      go_ret2
      exact HP.out _ HB.out
    · have hpost : ∀ w', Rf w' p g B (at_ + m) → Only [p] w w' → FnPost w p g B at_ (m : Int) (.returned (.tuple #[.int .u64 ((Bt.val ((B.drop at_).take m) : Nat) : Int), .int .u16 0])) w' := by
        intro w' hr ho
        unfold FnPost Bt.rd
        rw [if_neg hn, hU, Int.toNat_natCast, if_neg hs]
        exact ⟨rfl, hr, ho⟩
      have HP := Lib.hid hpost
      have HU := Lib.hid hU
      clear hpost hU hn
      have h3 : decide ((m : Int) > ((B.length - at_ : Nat) : Int)) = false := by simp; omega
      go_enter Try.func22, Try.ntmps22
      go_wp2_with fail
      refine (fleft_any p g B at_ _ H0.out hat hbd).mono ?_
      rintro e w1 ⟨rfl, hb⟩
      have HB := Lib.hid hb
      clear hb
      go_wp2
      go_loopw [6, 7] (fun v i wr => ∃ k : Nat, k ≤ m ∧ i = .int .i64 (k : Nat) ∧ v = .int .u64 ((Bt.val ((B.drop at_).take k) : Nat) : Int) ∧ Hid (Below w.heap.size w wr)) (fun _ i _ => m - (intOf i).toNat)
      case atStart => exact ⟨0, Nat.zero_le _, rfl, rfl, HB⟩
      case round =>
        obtain ⟨k, hk, rfl, rfl, XB⟩ := hrel
        have XR := Lib.hid (H0.out.below XB.out)
        obtain ⟨a, cap, c0, c1, f0, f1, hcells, _⟩ := rf_slice XR.out
        by_cases hlt : k < m
        · obtain ⟨rfl, hc⟩ := hcells (at_ + k) (by omega)
          have hstep := val_step (B.drop at_) k (by have := HU.out; omega)
          have hvl : Bt.val ((B.drop at_).take k) < 2 ^ k := by
            have := Bt.val_lt ((B.drop at_).take k)
            rwa [List.length_take, Nat.min_eq_left (by have := HU.out; omega)] at this
          have hvl2 : Bt.val ((B.drop at_).take k) < 9223372036854775808 := Nat.lt_of_lt_of_le hvl (Nat.pow_le_pow_right (n := 2) (by decide) (show k ≤ 63 by omega))
          rw [List.getElem_drop] at hstep
          obtain ⟨c, hcc⟩ : ∃ c, (B[at_ + k]'(by omega)).toNat = c := ⟨_, rfl⟩
          have hc1 : c ≤ 1 := by rw [← hcc]; cases B[at_ + k]'(by omega) <;> decide
          rw [hcc] at hstep hc
          have HS := Lib.hid hstep
          obtain ⟨V, hV⟩ : ∃ V, Bt.val ((B.drop at_).take k) = V := ⟨_, rfl⟩
          rw [hV] at hvl2 HS ⊢
          clear hstep hvl hcc hcells hV
          have hi1 : ((at_ : Int) + (k : Int)) < (B.length : Int) := by omega
          have hi0 : (0 : Int) ≤ (at_ : Int) + (k : Int) := by omega
          have E1 : IntKind.i64.wrap ((at_ : Int) + (k : Int)) = ((at_ + k : Nat) : Int) := by rw [← Int.natCast_add]; exact IntWalk.i64_in _ (by omega)
          go_wp2
          go_quiet (fail)
          go_wp2
          go_roundw
          case rel => exact ⟨k + 1, by omega, by go_num, by rw [HS.out]; congr 1; omega, Lib.hid ((Only.of_below XB.out []).drewN _ |>.below (Nat.le_refl _) (by simp))⟩
          case measure => simp [intOf]; omega
        · obtain rfl : k = m := by omega
          have hfin := rf_at (x := at_ + k) XR.out
          have HF := Lib.hid hfin
          have hO := Lib.hid ((Only.of_below XB.out [p]).setCell (p := ⟨p, 1, none⟩) (.inl (by simp)) (.int .i64 ((at_ + k : Nat) : Int)))
          clear hfin hcells
          go_wp2
          go_ret2
          exact HP.out _ HF.out hO.out
/-- reading a number of groups: how far -/
structure FVar (w : World) (p g : Nat) (B : List Bool) (at_ i acc : Nat) (wr : World) : Prop where
  rf : Rf wr p g B (at_ + 8 * i)
  only : Only [p] w wr
  accl : acc < 2 ^ (7 * i)
  le : at_ + 8 * i ≤ B.length
  rv : Bt.rv (B.drop at_) = Bt.rvf (10 - i) i acc (B.drop (at_ + 8 * i))
theorem fvar_step {w wr w1 : World} {p g at_ j acc G f : Nat} {B S : List Bool} (HV : FVar w p g B at_ j acc wr) (hr : Rf w1 p g B (at_ + 8 * j + 8)) (ho : Only [p] w w1) (hS : B.drop (at_ + 8 * j) = S) (hf : 10 - j = f + 1) (_hj : j < 9)
    (hrv : Bt.rv (B.drop at_) = Bt.rvf f (j + 1) (acc + G % 128 * 2 ^ (7 * j)) (S.drop 8)) (hl : at_ + 8 * j + 8 ≤ B.length) : FVar w p g B at_ (j + 1) (acc + G % 128 * 2 ^ (7 * j)) w1 := by
  refine ⟨?_, ho, ?_, by omega, ?_⟩
  · rw [show at_ + 8 * (j + 1) = at_ + 8 * j + 8 by omega]; exact hr
  · have h3 := HV.accl
    rw [show 7 * (j + 1) = 7 + 7 * j by omega, Nat.pow_add]
    have : G % 128 ≤ 127 := by omega
    have := Nat.mul_le_mul_right (2 ^ (7 * j)) this
    omega
  · rw [hrv, ← hS, List.drop_drop, show 10 - (j + 1) = f by omega, show at_ + 8 * (j + 1) = at_ + 8 * j + 8 by omega]
def FvPost (w : World) (p g : Nat) (B : List Bool) (at_ : Nat) (e : Ending) (w' : World) : Prop :=
  e = .returned (.tuple #[.int .u64 (((Bt.rv (B.drop at_)).1 : Nat) : Int), .int .u16 (((Bt.rv (B.drop at_)).2.1 : Nat) : Int)]) ∧ Rf w' p g B (at_ + (Bt.rv (B.drop at_)).2.2) ∧ Only [p] w w'
set_option maxRecDepth 100000 in
set_option maxHeartbeats 400000 in
theorem fvarint_any (p g : Nat) (B : List Bool) (at_ : Nat) (w : World) (H : Rf w p g B at_) (hat : at_ ≤ B.length) (hbd : B.length ≤ 1000000000) :
    Calls Try.prog 25 #[.pointer (some ⟨p, 0, none⟩)] w (FvPost w p g B at_) := by
  obtain ⟨a, cap, c0, c1, f0, f1, _⟩ := rf_slice H
  have HI := Lib.hid (show FVar w p g B at_ 0 0 w from ⟨H, Only.refl _ _, by decide, hat, rfl⟩)
  clear H
  go_enter Try.func25, Try.ntmps25
  go_wp2
  clear c0 c1 f0 f1
  go_loopw [5, 6] (fun v i wr => ∃ j acc : Nat, i = .int .i64 (j : Nat) ∧ v = .int .u64 (acc : Nat) ∧ j ≤ 9 ∧ Hid (FVar w p g B at_ j acc wr)) (fun _ i _ => 10 - (intOf i).toNat)
  case atStart => exact ⟨0, 0, rfl, rfl, by decide, HI⟩
  case round =>
    obtain ⟨j, acc, rfl, rfl, hj, HV⟩ := hrel
    have hd10 : decide ((j : Int) < 10) = true := by simp; omega
    obtain ⟨f, hf⟩ : ∃ f, 10 - j = f + 1 := ⟨9 - j, by omega⟩
    have hrv := HV.out.rv
    rw [hf] at hrv
    obtain ⟨S, hS⟩ : ∃ S, B.drop (at_ + 8 * j) = S := ⟨_, rfl⟩
    have HF := Lib.hid hf
    clear hf
    by_cases hs : S.length < 8
    · have hrd : Bt.rd S 8 = (0, 20, 0) := by unfold Bt.rd; rw [if_neg (by omega), if_pos (by exact hs)]
      have hres : Bt.rv (B.drop at_) = (0, 20, 0) := by rw [hrv, hS, Bt.rvf, if_pos hs]
      have HR := Lib.hid hrd
      have HRES := Lib.hid hres
      have HS := Lib.hid hS
      clear hrd hres hS hrv hs
      go_wp2_with fail
      refine (fnext_any p g B (at_ + 8 * j) 8 _ HV.out.rf HV.out.le hbd).mono ?_
      rintro e w1 ⟨rfl, hr, ho⟩
      rw [HS.out, HR.out] at hr ⊢
      obtain ⟨_, _, c0, c1, f0, f1, _⟩ := rf_slice hr
      have XR := Lib.hid hr
      have XO := Lib.hid (HV.out.only.trans ho (fun x hx => .inl hx))
      clear hr ho c0
      go_wp2
      go_ret2
      refine ⟨by rw [HRES.out]; rfl, ?_, XO.out.setCell (p := ⟨p, 1, none⟩) (.inl (by simp)) _⟩
      rw [HRES.out]
      exact rf_at XR.out
    · obtain ⟨G, hG⟩ : ∃ G, Bt.val (S.take 8) = G := ⟨_, rfl⟩
      have hGl : G < 256 := by
        have := Bt.val_lt (S.take 8)
        rw [hG, List.length_take, Nat.min_eq_left (by omega)] at this
        exact this
      have hSl : at_ + 8 * j + 8 ≤ B.length := by
        have := congrArg List.length hS
        rw [List.length_drop] at this; omega
      have hrd : Bt.rd S 8 = (G, 0, 8) := by unfold Bt.rd; rw [if_neg (by omega), if_neg (by exact hs)]; show (Bt.val (S.take 8), 0, 8) = _; rw [hG]
      rw [hS, Bt.rvf, if_neg hs, hG] at hrv
      have HR := Lib.hid hrd
      have HS := Lib.hid hS
      have HG := Lib.hid hG
      clear hrd hS hs hG
      by_cases h9 : j = 9 ∧ 1 < G
      · have hres : Bt.rv (B.drop at_) = (0, 21, 0) := by rw [hrv, if_pos h9]
        have HRES := Lib.hid hres
        obtain ⟨rfl, h92⟩ := h9
        have hd : decide ((G : Int) > 1) = true := by simp; omega
        clear hres hrv
        go_wp2_with fail
        refine (fnext_any p g B (at_ + 8 * 9) 8 _ HV.out.rf HV.out.le hbd).mono ?_
        rintro e w1 ⟨rfl, hr, ho⟩
        rw [HS.out, HR.out] at hr ⊢
        obtain ⟨_, _, c0, c1, f0, f1, _⟩ := rf_slice hr
        have XR := Lib.hid hr
        have XO := Lib.hid (HV.out.only.trans ho (fun x hx => .inl hx))
        clear hr ho c0
        go_wp2
        go_ret2
        refine ⟨by rw [HRES.out]; rfl, ?_, XO.out.setCell (p := ⟨p, 1, none⟩) (.inl (by simp)) _⟩
        rw [HRES.out]
        exact rf_at XR.out
      · rw [if_neg h9] at hrv
        have hor : bits .or .u64 (acc : Int) (IntKind.u64.wrap ((G : Int) % 128 * 2 ^ (7 * j))) = ((acc + G % 128 * 2 ^ (7 * j) : Nat) : Int) :=
          acc_or HV.out.accl hGl (by omega) (by omega) (by omega)
        have HOR := Lib.hid hor
        clear hor
        have hd9 : ((j : Int) == 9) = false ∨ (((j : Int) == 9) = true ∧ decide ((G : Int) > 1) = false) := by
          by_cases h : j = 9
          · exact .inr ⟨by simp; omega, by simp; omega⟩
          · exact .inl (by simp; omega)
        by_cases h10 : 128 ≤ G
        · rw [if_pos h10] at hrv
          have hj9 : ((j : Int) == 9) = false := by simp; omega
          have hd : decide ((G : Int) < 128) = false := by simp; omega
          have HRV := Lib.hid hrv
          clear hrv hd9
          go_wp2_with fail
          refine (fnext_any p g B (at_ + 8 * j) 8 _ HV.out.rf HV.out.le hbd).mono ?_
          rintro e w1 ⟨rfl, hr, ho⟩
          rw [HS.out, HR.out] at hr ⊢
          obtain ⟨_, _, c0, c1, f0, f1, _⟩ := rf_slice hr
          have XR := Lib.hid hr
          have XO := Lib.hid (HV.out.only.trans ho (fun x hx => .inl hx))
          clear hr ho c0
          go_wp2
          have hst := fvar_step HV.out XR.out XO.out HS.out HF.out (by omega) HRV.out hSl
          have HST := Lib.hid hst
          clear hst
          rw [HOR.out]
          go_roundw
          case rel => exact ⟨j + 1, _, by go_num, rfl, by omega, HST⟩
          case measure => simp [intOf]; omega
        · rw [if_neg h10] at hrv
          have hd : decide ((G : Int) < 128) = true := by simp; omega
          by_cases h11 : G = 0 ∧ 0 < j
          · have hres : Bt.rv (B.drop at_) = (0, 21, 0) := by rw [hrv, if_pos h11]
            have HRES := Lib.hid hres
            obtain ⟨rfl, h0j⟩ := h11
            have hL2 : decide (0 < j) = true := by simpa using h0j
            clear hres hrv
            rcases hd9 with hd9 | ⟨hd9, hd8⟩
            all_goals
              go_wp2_with fail
              refine (fnext_any p g B (at_ + 8 * j) 8 _ HV.out.rf HV.out.le hbd).mono ?_
              rintro e w1 ⟨rfl, hr, ho⟩
              rw [HS.out, HR.out] at hr ⊢
              obtain ⟨_, _, c0, c1, f0, f1, _⟩ := rf_slice hr
              have XR := Lib.hid hr
              have XO := Lib.hid (HV.out.only.trans ho (fun x hx => .inl hx))
              clear hr ho c0
              go_wp2
              go_ret2
              refine ⟨by rw [HRES.out]; rfl, ?_, XO.out.setCell (p := ⟨p, 1, none⟩) (.inl (by simp)) _⟩
              rw [HRES.out]
              exact rf_at XR.out
          · rw [if_neg h11] at hrv
            have HRV := Lib.hid hrv
            clear hrv
            by_cases hj0 : 0 < j
            · have hL2 : decide (0 < j) = true := by simpa using hj0
              have hG1 : ((G : Int) == 0) = false := by simp; omega
              rcases hd9 with hd9 | ⟨hd9, hd8⟩
              all_goals
                go_wp2_with fail
                refine (fnext_any p g B (at_ + 8 * j) 8 _ HV.out.rf HV.out.le hbd).mono ?_
                rintro e w1 ⟨rfl, hr, ho⟩
                rw [HS.out, HR.out] at hr ⊢
                obtain ⟨_, _, c0, c1, f0, f1, _⟩ := rf_slice hr
                have XR := Lib.hid hr
                have XO := Lib.hid (HV.out.only.trans ho (fun x hx => .inl hx))
                clear hr ho c0
                go_wp2
                rw [HOR.out]
                go_ret2
                refine ⟨by rw [HRV.out]; rfl, ?_, XO.out⟩
                rw [HRV.out, show at_ + 8 * (j + 1) = at_ + 8 * j + 8 by omega]
                exact XR.out
            · have hL2 : decide (0 < j) = false := by simp; omega
              have hj9 : ((j : Int) == 9) = false := by simp; omega
              clear hd9
              go_wp2_with fail
              refine (fnext_any p g B (at_ + 8 * j) 8 _ HV.out.rf HV.out.le hbd).mono ?_
              rintro e w1 ⟨rfl, hr, ho⟩
              rw [HS.out, HR.out] at hr ⊢
              obtain ⟨_, _, c0, c1, f0, f1, _⟩ := rf_slice hr
              have XR := Lib.hid hr
              have XO := Lib.hid (HV.out.only.trans ho (fun x hx => .inl hx))
              clear hr ho c0
              go_wp2
              rw [HOR.out]
              go_ret2
              refine ⟨by rw [HRV.out]; rfl, ?_, XO.out⟩
              rw [HRV.out, show at_ + 8 * (j + 1) = at_ + 8 * j + 8 by omega]
              exact XR.out
def FsPost (w : World) (p g : Nat) (B : List Bool) (at_ : Nat) (e : Ending) (w' : World) : Prop :=
  e = .returned (.tuple #[.int .i64 (Bt.uz (Bt.rv (B.drop at_)).1), .int .u16 (((Bt.rv (B.drop at_)).2.1 : Nat) : Int)]) ∧ Rf w' p g B (at_ + (Bt.rv (B.drop at_)).2.2) ∧ Only [p] w w'
set_option maxHeartbeats 400000 in
theorem fsigned_any (p g : Nat) (B : List Bool) (at_ : Nat) (w : World) (H : Rf w p g B at_) (hat : at_ ≤ B.length) (hbd : B.length ≤ 1000000000) :
    Calls Try.prog 27 #[.pointer (some ⟨p, 0, none⟩)] w (FsPost w p g B at_) := by
  have H0 := Lib.hid H
  obtain ⟨t, ht⟩ : ∃ t, (Bt.rv (B.drop at_)).1 = t := ⟨_, rfl⟩
  have hlt : t < 18446744073709551616 := by rw [← ht]; exact Bt.rv_lt _
  have HT := Lib.hid ht
  have hl2 : t / 2 < 9223372036854775808 := by omega
  have HU : Hid (Bt.uz t = if t % 2 = 1 then -((t / 2 : Nat) : Int) - 1 else ((t / 2 : Nat) : Int)) := by unfold Bt.uz; rfl
  clear H ht
  by_cases h : t % 2 = 1
  · have hd : ((t : Int) % 2 == 1) = true := by simp; omega
    rw [if_pos h] at HU
    clear h
    go_enter Try.func27, Try.ntmps27
    go_wp2_with fail
    refine (fvarint_any p g B at_ _ H0.out hat hbd).mono ?_
    rintro e w1 ⟨rfl, hp, ho⟩
    rw [HT.out] at ⊢
    have HP := Lib.hid hp
    have HO := Lib.hid ho
    clear hp ho
    go_wp2
    go_ret2
    exact ⟨by rw [HT.out, HU.out]; rfl, HP.out, HO.out⟩
  · have hd : ((t : Int) % 2 == 1) = false := by simp; omega
    rw [if_neg h] at HU
    clear h
    go_enter Try.func27, Try.ntmps27
    go_wp2_with fail
    refine (fvarint_any p g B at_ _ H0.out hat hbd).mono ?_
    rintro e w1 ⟨rfl, hp, ho⟩
    rw [HT.out] at ⊢
    have HP := Lib.hid hp
    have HO := Lib.hid ho
    clear hp ho
    go_wp2
    go_ret2
    exact ⟨by rw [HT.out, HU.out]; rfl, HP.out, HO.out⟩
end Go.Proofs.Ytimmlnfoabbbjaa
