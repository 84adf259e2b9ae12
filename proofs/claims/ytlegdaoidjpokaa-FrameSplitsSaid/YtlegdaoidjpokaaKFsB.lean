/-
  FOR FrameSplits: what it shares.
-/
import Derived.Test.YtlegdaoidjpokaaKFsA
import Derived.Test.YtlegdaoidjpokaaK04
import Derived.Test.YtlegdaoidjpokaaK01
import Derived.Handy
namespace Go.Proofs.Ytlegdaoidjpokaa
set_option linter.unusedVariables false
set_option linter.unusedSimpArgs false
open Go.RowKit
open B2 (Only Row Lots owns_only)
set_option maxHeartbeats 4000000 in
set_option maxRecDepth 100000 in
theorem refsec_none (kind seg t : Nat) (hk : kind < 256) (hs : seg < 4294967296) (ht : t < 65536) (w : World) :
    Calls Try.prog 28 #[.int .i64 kind, .int .u32 seg, .int .i64 t, .slice none 0 0] w fun e w' => ∃ v, e = .returned v ∧ OwnB w' w.heap.size v (Fr.sec kind seg t []) ∧ Below w.heap.size w w' := by
  obtain ⟨i0, hi, hz0, hz1, hz2⟩ := info_parts info5
  have HI := Lib.hid (And.intro hi (And.intro hz0 (And.intro hz1 hz2)))
  have H0 := Lib.hid (show OwnB w w.heap.size (.slice none 0 0) [] ∧ Below w.heap.size w w from ⟨OwnB.nil _ _, Below.refl _ _⟩)
  have HS := Lib.hid (le4_cells seg hs)
  have hT := le2_cells t 0 ht (by decide)
  simp only [Int.cast_ofNat_Int, Int.zero_emod, Int.zero_ediv] at hT
  have HT := Lib.hid hT
  have HP := Lib.hid (And.intro (nil_bytes w none) (show ([] : List Nat).length = 0 from rfl))
  obtain ⟨pc, hpc⟩ : ∃ pc : List Nat, ([] : List Nat) = pc := ⟨_, rfl⟩
  rw [hpc] at HP ⊢
  have HPC := Lib.hid hpc
  clear hi hz0 hz1 hz2 hT hpc
  go_enter Try.func28, Try.ntmps28
  go_wp2_with (first
    | (at_builtin; (refine wpList_append_own_at _ rfl (.tmp 11) (.tmp 14) 23 rfl w.heap.size 5 i0 (.int .u8 0) 1 1 Try.underlying23 HI.out.1 HI.out.2.1 HI.out.2.2.1 HI.out.2.2.2 rfl (by decide) (.slice none 0 0) 0 [] rfl (World.ownsRow_nil _ _ _ _) ⟨w.heap.size, 0, none⟩ 4 4 [.int .u8 66, .int .u8 76, .int .u8 kind, .int .u8 0] rfl rfl (list_src w _ 5) (by simp [Value.oneCell']) (by decide) (by decide) (by simp) ?_)
       intro v1 w1 hown1 hgr1 _ _
       have H1 : Hid (OwnB w1 w.heap.size v1 [66, 76, kind, 0] ∧ Below w.heap.size w w1) := Lib.hid (app_four (ns := [66, 76, kind, 0]) H0.out rfl rfl rfl hown1 hgr1)
       obtain ⟨a1, c1, rfl⟩ : ∃ a c, v1 = .slice a 4 c := H1.out.1.shape
       have HO1 := Lib.hid (show (w1.alloc (.cells #[Value.int IntKind.u8 ((seg : Int) % 256), Value.int IntKind.u8 ((seg : Int) / 256 % 256), Value.int IntKind.u8 ((seg : Int) / 65536 % 256), Value.int IntKind.u8 ((seg : Int) / 16777216)] 5)).ownsRow w.heap.size 5 1 (.slice a1 4 c1) 4 (cellsOf [66, 76, kind, 0]) from H1.out.1.below ((Below.refl w1.heap.size w1).alloc (Nat.le_refl _) _))
       clear hown1 hgr1)
    | (at_builtin; (refine wpList_append_own_at _ rfl (.tmp 16) (.tmp 28) 23 rfl w.heap.size 5 i0 (.int .u8 0) 1 1 Try.underlying23 HI.out.1 HI.out.2.1 HI.out.2.2.1 HI.out.2.2.2 rfl (by decide) (.slice a1 4 c1) 4 (cellsOf [66, 76, kind, 0]) rfl HO1.out ⟨w1.heap.size, 0, none⟩ 4 4 [.int .u8 ((seg : Int) % 256), .int .u8 ((seg : Int) / 256 % 256), .int .u8 ((seg : Int) / 65536 % 256), .int .u8 ((seg : Int) / 16777216)] rfl rfl (list_src w1 _ 5) (by simp [Value.oneCell']) (by decide) (by decide) (by have := H1.out.2.size; simp; omega) ?_)
       intro v2 w2 hown2 hgr2 _ _
       have H2 : Hid (OwnB w2 w.heap.size v2 (hd8 kind seg) ∧ Below w.heap.size w w2) := Lib.hid (app_four (ns := Fr.le 4 seg) H1.out rfl (Fr.le_len 4 seg) HS.out hown2 hgr2)
       obtain ⟨a2, c2, rfl⟩ : ∃ a c, v2 = .slice a 8 c := H2.out.1.shape
       have HO2 := Lib.hid (show (w2.alloc (.cells #[Value.int IntKind.u8 ((t : Int) % 256), Value.int IntKind.u8 ((t : Int) / 256), Value.int IntKind.u8 0, Value.int IntKind.u8 0] 5)).ownsRow w.heap.size 5 1 (.slice a2 8 c2) 8 (cellsOf (hd8 kind seg)) from H2.out.1.below ((Below.refl w2.heap.size w2).alloc (Nat.le_refl _) _))
       clear hown2 hgr2)
    | (at_builtin; (refine wpList_append_own_at _ rfl (.tmp 30) (.tmp 45) 23 rfl w.heap.size 5 i0 (.int .u8 0) 1 1 Try.underlying23 HI.out.1 HI.out.2.1 HI.out.2.2.1 HI.out.2.2.2 rfl (by decide) (.slice a2 8 c2) 8 (cellsOf (hd8 kind seg)) rfl HO2.out ⟨w2.heap.size, 0, none⟩ 4 4 [.int .u8 ((t : Int) % 256), .int .u8 ((t : Int) / 256), .int .u8 0, .int .u8 0] rfl rfl (list_src w2 _ 5) (by simp [Value.oneCell']) (by decide) (by decide) (by have := H2.out.2.size; simp; omega) ?_)
       intro v3 w3 hown3 hgr3 _ _
       have H3 : Hid (OwnB w3 w.heap.size v3 (Fr.head kind seg t 0) ∧ Below w.heap.size w w3) := Lib.hid (app_four (ns := Fr.le 2 t ++ Fr.le 2 0) H2.out rfl rfl HT.out hown3 hgr3)
       obtain ⟨a3, c3, rfl⟩ : ∃ a c, v3 = .slice a 12 c := H3.out.1.shape
       have HO3 := Lib.hid (show w3.ownsRow w.heap.size 5 1 (.slice a3 12 c3) 12 (cellsOf (Fr.head kind seg t 0)) from H3.out.1)
       clear hown3 hgr3)
    | (at_builtin; (refine wpList_append_own_none rfl (.tmp 47) (.tmp 48) 23 rfl w.heap.size 5 i0 1 Try.underlying23 HI.out.1 (.slice a3 12 c3) 12 (cellsOf (Fr.head kind seg t 0)) rfl HO3.out rfl ?_)
       have H4 : Hid (OwnB w3 w.heap.size (.slice a3 12 c3) (Fr.head kind seg t 0 ++ pc) ∧ Below w.heap.size w w3) := Lib.hid (by rw [← HPC.out, List.append_nil]; exact H3.out)))
  have HST : Hid (OwnB w3 w.heap.size (.slice a3 12 c3) (Fr.head kind seg t 0 ++ (pc ++ List.replicate 0 0)) ∧ Below w.heap.size w w3) := Lib.hid (by rw [List.replicate_zero, List.append_nil]; exact H4.out)
  clear H1 H2 H3 HO1 HO2 HO3 H4 H0
  go_loopw [9] (fun v wr => ∃ m : Nat, m ≤ 240 ∧ Hid (OwnB wr w.heap.size v (Fr.head kind seg t 0 ++ (pc ++ List.replicate m 0)) ∧ Below w.heap.size w wr)) (fun v _ => match v with | .slice _ k _ => 252 - k | _ => 0)
  case atStart => exact ⟨0, by omega, HST⟩
  case round =>
    clear HST
    obtain ⟨m, hm, HB⟩ := hrel
    obtain ⟨va, vc, hv⟩ := HB.out.1.shape
    have hlen : (Fr.head kind seg t 0 ++ (pc ++ List.replicate m 0)).length = 12 + m := by rw [List.length_append, List.length_append, List.length_replicate, HP.out.2, hd12_len]; omega
    rw [hlen] at hv
    subst hv
    obtain ⟨k, hk2⟩ : ∃ k, 12 + m = k := ⟨_, rfl⟩
    have HLEN := Lib.hid hlen
    rw [hk2] at HLEN
    rw [hk2] at HB
    rw [hk2]
    by_cases hlt : k < 252
    · have hd : decide ((k : Int) < 252) = true := by simp; omega
      have hd2 : decide (k < 252) = true := by simp; omega
      have HOB := Lib.hid (show (wr.alloc (.cells #[Value.int IntKind.u8 0] 5)).ownsRow w.heap.size 5 1 (.slice va k vc) k (cellsOf (Fr.head kind seg t 0 ++ (pc ++ List.replicate m 0))) from by
        have h := HB.out.1.below ((Below.refl wr.heap.size wr).alloc (Nat.le_refl _) (.cells #[Value.int IntKind.u8 0] 5))
        unfold OwnB at h
        rw [HLEN.out] at h
        exact h)
      have HMX := Lib.hid (show k + 1 ≤ maxLen ∧ (k + 1) * 1 ≤ 140737488355328 from ⟨by unfold maxLen; omega, by omega⟩)
      go_wp2_with (at_builtin; (refine wpList_append_own_at _ rfl (.tmp 53) (.tmp 54) 23 rfl w.heap.size 5 i0 (.int .u8 0) 1 1 Try.underlying23 HI.out.1 HI.out.2.1 HI.out.2.2.1 HI.out.2.2.2 rfl (by decide) (.slice va k vc) k (cellsOf (Fr.head kind seg t 0 ++ (pc ++ List.replicate m 0))) rfl HOB.out ⟨wr.heap.size, 0, none⟩ 1 1 [.int .u8 0] rfl rfl (list_src wr _ 5) (by simp [Value.oneCell']) HMX.out.1 HMX.out.2 (by have := HB.out.2.size; simp; omega) ?_)
                   intro v5 w5 hown5 hgr5 _ _
                   have H5 : Hid (OwnB w5 w.heap.size v5 (Fr.head kind seg t 0 ++ (pc ++ List.replicate (m + 1) 0)) ∧ Below w.heap.size w w5) := Lib.hid (by
                     have h := app_four (ns := [0]) HB.out HLEN.out rfl rfl hown5 hgr5
                     rw [List.append_assoc, List.append_assoc] at h
                     rw [List.replicate_succ']
                     exact h)
                   obtain ⟨a5, c5, rfl⟩ : ∃ a c, v5 = .slice a (k + 1) c := by
                     obtain ⟨a, c, h⟩ := H5.out.1.shape
                     refine ⟨a, c, ?_⟩
                     rw [h, List.length_append, List.length_append, List.length_replicate, HP.out.2, hd12_len, ← hk2]
                     congr 1; omega
                   clear hown5 hgr5)
      go_roundw
      case rel => exact ⟨m + 1, by omega, H5⟩
      case measure => simp; omega
    · have hd : decide ((k : Int) < 252) = false := by simp; omega
      have hd2 : decide (k < 252) = false := by simp; omega
      obtain rfl : k = 252 := by omega
      obtain rfl : m = 240 := by omega
      have HB2 := Lib.hid (show OwnB wr w.heap.size (.slice va 252 vc) (Fr.data kind seg t pc) ∧ Below w.heap.size w wr from by have h := HB.out; unfold Fr.data; rw [HP.out.2]; exact h)
      have hdl : (Fr.data kind seg t pc).length = 252 := Fr.data_len _ _ _ _ (by have := HP.out.2; omega)
      have hd8 : ∀ c ∈ Fr.data kind seg t pc, c < 256 := Fr.data_lt _ _ _ _ hk HP.out.1.2.1
      obtain ⟨x9, y9, hv9, hb9, -⟩ := HB2.out.1.bys hd8
      have hx9 : va = x9 := by injection hv9
      clear hv9
      subst hx9
      have CR := Lib.hid (refsum_any va (Fr.data kind seg t pc) vc wr hb9)
      rw [hdl] at CR
      have hml : Crc.More 0 (Fr.data kind seg t pc) < 4294967296 := Crc.C_lt _
      have HDL := Lib.hid hdl
      obtain ⟨D, hD⟩ : ∃ D, Fr.data kind seg t pc = D := ⟨_, rfl⟩
      have HSEC := Lib.hid (show Fr.sec kind seg t pc = D ++ Fr.le 4 (Crc.More 0 D) by unfold Fr.sec; rw [hD])
      rw [hD] at CR hml HB2 HDL
      obtain ⟨s, hs'⟩ : ∃ s, Crc.More 0 D = s := ⟨_, rfl⟩
      rw [hs'] at CR hml HSEC
      have HS4 := Lib.hid (le4_cells s hml)
      clear hb9 hd8 hdl hD hs' HB HLEN HT HS
      go_wp2_with fail
      go_at_call 23
      refine CR.out.mono ?_
      rintro e w6 ⟨rfl, hw6⟩
      obtain rfl : wr = w6 := hw6
      clear CR
      have HO6 := Lib.hid (show (wr.alloc (.cells #[Value.int IntKind.u8 ((s : Int) % 256), Value.int IntKind.u8 ((s : Int) / 256 % 256), Value.int IntKind.u8 ((s : Int) / 65536 % 256), Value.int IntKind.u8 ((s : Int) / 16777216)] 5)).ownsRow w.heap.size 5 1 (.slice va 252 vc) 252 (cellsOf D) from by
        have h := HB2.out.1.below ((Below.refl wr.heap.size wr).alloc (Nat.le_refl _) (.cells #[Value.int IntKind.u8 ((s : Int) % 256), Value.int IntKind.u8 ((s : Int) / 256 % 256), Value.int IntKind.u8 ((s : Int) / 65536 % 256), Value.int IntKind.u8 ((s : Int) / 16777216)] 5))
        unfold OwnB at h
        rw [HDL.out] at h
        exact h)
      go_wp2_with (at_builtin; (refine wpList_append_own_at _ rfl (.tmp 58) (.tmp 70) 23 rfl w.heap.size 5 i0 (.int .u8 0) 1 1 Try.underlying23 HI.out.1 HI.out.2.1 HI.out.2.2.1 HI.out.2.2.2 rfl (by decide) (.slice va 252 vc) 252 (cellsOf D) rfl HO6.out ⟨wr.heap.size, 0, none⟩ 4 4 [.int .u8 ((s : Int) % 256), .int .u8 ((s : Int) / 256 % 256), .int .u8 ((s : Int) / 65536 % 256), .int .u8 ((s : Int) / 16777216)] rfl rfl (list_src wr _ 5) (by simp [Value.oneCell']) (by decide) (by decide) (by have := HB2.out.2.size; simp; omega) ?_)
                   intro v7 w7 hown7 hgr7 _ _
                   have H7 : Hid (OwnB w7 w.heap.size v7 (D ++ Fr.le 4 s) ∧ Below w.heap.size w w7) := Lib.hid (app_four (ns := Fr.le 4 s) HB2.out HDL.out (Fr.le_len 4 s) HS4.out hown7 hgr7)
                   clear hown7 hgr7)
      go_returns
      rw [HSEC.out]
      exact ⟨_, rfl, H7.out⟩
end Go.Proofs.Ytlegdaoidjpokaa
namespace Go.Proofs.Ytlegdaoidjpokaa
set_option linter.unusedVariables false
set_option linter.unusedSimpArgs false
open Go.RowKit
open B2 (Only Row Lots owns_only)
theorem refsplit_long (a : Option Addr) (n cap seg : Nat) (t : Int) (hn : 7680 < n) (w : World) :
    Calls Try.prog 12 #[.int .u32 seg, .int .i64 t, .slice a n cap] w fun e w' => e = .returned (.tuple #[.slice none 0 0, .int .u16 111]) ∧ w' = w := by
  have d3 : decide ((7680 : Int) < (n : Int)) = true := by simp; omega
  have d4 : 7680 < n := hn
  go_enter Try.func12, Try.ntmps12
  go_wp2_with fail
  go_returns
  exact ⟨rfl, rfl⟩
set_option maxRecDepth 100000 in
theorem refsplit_arg (a : Option Addr) (n cap seg : Nat) (t : Int) (hn : n ≤ 7680) (ht : t < 0 ∨ (32 : Int) - (Fr.need n : Nat) < t) (ht2 : -9223372036854775808 ≤ t ∧ t ≤ 9223372036854775807) (w : World) :
    Calls Try.prog 12 #[.int .u32 seg, .int .i64 t, .slice a n cap] w fun e w' => e = .returned (.tuple #[.slice none 0 0, .int .u16 1]) ∧ w' = w := by
  have d3 : decide ((7680 : Int) < (n : Int)) = false := by simp; omega
  have d4 : ¬ 7680 < n := by omega
  obtain ⟨q, hq0⟩ : ∃ q, (n + 239) / 240 = q := ⟨_, rfl⟩
  have hq : ((n : Int) + 239) / 240 = (q : Int) := by omega
  have hnd : Fr.need n = max 1 q := by unfold Fr.need; rw [hq0]
  have hq9 : q ≤ 33 := by omega
  rw [hnd] at ht
  clear hq0 hnd
  by_cases h1 : 1 < q
  · have hm : decide ((1 : Int) < (q : Int)) = true := by simp; omega
    by_cases h0 : t < 0
    · have h0d : decide (t < 0) = true := by simp; omega
      clear ht
      go_enter Try.func12, Try.ntmps12
      go_wp2_with fail
      go_returns
      exact ⟨rfl, rfl⟩
    · have h0d : decide (t < 0) = false := by simp; omega
      have h32 : decide ((32 : Int) - (q : Int) < t) = true := by simp; omega
      clear ht
      go_enter Try.func12, Try.ntmps12
      go_wp2_with fail
      go_returns
      exact ⟨rfl, rfl⟩
  · have hm : decide ((1 : Int) < (q : Int)) = false := by simp; omega
    by_cases h0 : t < 0
    · have h0d : decide (t < 0) = true := by simp; omega
      clear ht
      go_enter Try.func12, Try.ntmps12
      go_wp2_with fail
      go_returns
      exact ⟨rfl, rfl⟩
    · have h0d : decide (t < 0) = false := by simp; omega
      have h32 : decide ((31 : Int) < t) = true := by simp; omega
      clear ht
      go_enter Try.func12, Try.ntmps12
      go_wp2_with fail
      go_returns
      exact ⟨rfl, rfl⟩
theorem cutS_get (seg t : Nat) (bs : List Nat) (j : Nat) (hj : j < Fr.need bs.length) : (Fr.cutS seg t bs)[j]? = some (Fr.sec (Fr.kindOf j (Fr.need bs.length)) seg (t + j) (Fr.part bs j)) := by
  unfold Fr.cutS
  rw [List.getElem?_map, List.getElem?_range hj]; rfl
theorem take_more {α : Type} (l : List α) (j : Nat) (x : α) (h : l[j]? = some x) : l.take (j + 1) = l.take j ++ [x] := by
  have hj : j < l.length := (List.getElem?_eq_some_iff.1 h).1
  rw [List.take_succ_eq_append_getElem hj]
  congr 2
  exact Option.some.inj ((List.getElem?_eq_getElem hj).symm.trans h)
set_option maxHeartbeats 8000000 in
set_option maxRecDepth 100000 in
theorem refsplit_many (b off : Nat) (bs : List Nat) (n cap seg t q : Nat) (hn : bs.length = n) (hc : n ≤ cap) (hl : n ≤ 7680) (hs : seg < 4294967296) (ht : t + Fr.need n ≤ 32) (hq0 : (n + 239) / 240 = q) (h1 : 1 < q) (w : World) (H : Bys w (some ⟨b, off, none⟩) bs) :
    Calls Try.prog 12 #[.int .u32 seg, .int .i64 t, .slice (some ⟨b, off, none⟩) n cap] w fun e w' => ∃ v X, e = .returned (.tuple #[v, .int .u16 0]) ∧ OutR w' w.heap.size v (Fr.cutS seg t bs) X ∧ Below w.heap.size w w' := by
  obtain ⟨i1, hi1, hy0, hy1, hy2⟩ := info_parts B2.info27
  have HI := Lib.hid (And.intro hi1 (And.intro hy0 (And.intro hy1 hy2)))
  have d3 : decide ((7680 : Int) < (n : Int)) = false := by simp; omega
  have d4 : ¬ 7680 < n := by omega
  have hq : ((n : Int) + 239) / 240 = (q : Int) := by omega
  have hnd : Fr.need n = q := by unfold Fr.need; omega
  have hm : decide ((1 : Int) < (q : Int)) = true := by simp; omega
  have h0d : decide ((t : Int) < 0) = false := by simp
  have hq1 : ((q : Int) == 1) = false := by simp; omega
  rw [hnd] at ht
  have h32 : decide ((32 : Int) - (q : Int) < (t : Int)) = false := by simp; omega
  have HN := Lib.hid (And.intro hn (And.intro hnd H))
  have HST := Lib.hid (show OutR w w.heap.size (.slice none 0 0) ((Fr.cutS seg t bs).take 0) (fun _ => .slice none 0 0) ∧ Below w.heap.size w w from ⟨OutR.nil _ _, Below.refl _ _⟩)
  have hlen : (Fr.cutS seg t bs).length = q := by rw [Fr.cutS_len, hn, hnd]
  have HL := Lib.hid hlen
  have hn240 : 240 * (q - 1) < n := by omega
  have hn241 : n ≤ 240 * q := by omega
  clear hn hnd H hi1 hy0 hy1 hy2 hq0 hlen
  go_enter Try.func12, Try.ntmps12
  go_wp2_with fail
  simp only [hq]
  go_loopw [9, 10] (fun v i wr => ∃ (j : Nat) (X : Nat → Value), j ≤ q ∧ i = .int .i64 j ∧ Hid (OutR wr w.heap.size v ((Fr.cutS seg t bs).take j) X ∧ Below w.heap.size w wr)) (fun _ i _ => q - (intOf i).toNat)
  case atStart => exact ⟨0, _, Nat.zero_le _, rfl, HST⟩
  case round =>
    clear HST
    obtain ⟨j, X, hj, rfl, HO⟩ := hrel
    have hRl : ((Fr.cutS seg t bs).take j).length = j := by rw [List.length_take, HL.out]; omega
    obtain ⟨va, vc, rfl⟩ : ∃ va vc, u9 = Value.slice va j vc := by
      obtain ⟨a, c, h⟩ := HO.out.1.shape
      rw [hRl] at h
      exact ⟨a, c, h⟩
    have HRL := Lib.hid hRl
    clear hRl
    by_cases hlt : j < q
    · have hd : decide ((j : Int) < (q : Int)) = true := by simp; omega
      have hd2 : decide (j < q) = true := by simp; omega
      obtain ⟨pl, hpl⟩ : ∃ pl, min 240 (n - j * 240) = pl := ⟨_, rfl⟩
      have hpl1 : (Fr.part bs j).length = pl := by rw [Fr.part_len, HN.out.1, hpl]
      obtain ⟨e1, he1⟩ : ∃ e1, 240 * j = e1 := ⟨_, rfl⟩
      obtain ⟨e2, he2⟩ : ∃ e2, e1 + pl = e2 := ⟨_, rfl⟩
      have he1i : (240 : Int) * (j : Int) = (e1 : Int) := by omega
      have hpb : Bys w (some ⟨b, off + e1, none⟩) (Fr.part bs j) := by
        have h := HN.out.2.2.cut (j * 240) 240
        rw [show off + j * 240 = off + e1 by omega] at h
        exact h
      have htj : (t : Int) + (j : Int) = ((t + j : Nat) : Int) := by omega
      obtain ⟨tj, htj2⟩ : ∃ tj, t + j = tj := ⟨_, rfl⟩
      rw [htj2] at htj
      obtain ⟨kd, hkd⟩ : ∃ kd, Fr.kindOf j q = kd := ⟨_, rfl⟩
      have hkd4 : kd < 256 := by rw [← hkd]; rcases Fr.kindOf_is j q with h | h | h | h <;> omega
      have hnx := cutS_get seg t bs j (by rw [HN.out.1, HN.out.2.1]; exact hlt)
      rw [HN.out.1, HN.out.2.1, hkd, htj2] at hnx
      have HNX := Lib.hid (take_more _ _ _ hnx)
      have CS := Lib.hid (fun W (hW : Below w.heap.size w W) => refsec_some ⟨b, off + e1, none⟩ (Fr.part bs j) pl (cap - e1) kd seg tj hpl1 (by omega) hkd4 hs (by omega) W (hpb.below hW))
      have hs1 : (e1 : Int) ≤ (e2 : Int) := by omega
      have hs2 : (e2 : Int) ≤ (cap : Int) := by omega
      have hs3 : e2 ≤ cap := by omega
      have hs4 : e1 ≤ e2 := by omega
      have hs5 : ¬ cap = e1 := by omega
      have hs6 : e2 - e1 = pl := by omega
      have hs7 : (e1 : Int) ≤ (cap : Int) := by omega
      have hs8 : (0 : Int) ≤ (e1 : Int) := by omega
      have hsec : (Fr.sec kd seg tj (Fr.part bs j)).length = 256 := Fr.sec_len _ _ _ _ (by omega)
      have HSEC := Lib.hid hsec
      have hqm : (q : Int) - 1 = ((q - 1 : Nat) : Int) := by omega
      obtain ⟨qm, hqm2⟩ : ∃ qm, q - 1 = qm := ⟨_, rfl⟩
      rw [hqm2] at hqm
      clear hpl1 hpb hnx hsec htj2
      by_cases h0 : j = 0
      · have hkd2 : kd = 2 := by rw [← hkd]; unfold Fr.kindOf; rw [if_neg (by omega)]; rw [if_pos (by omega)]
        rw [hkd2] at HNX HSEC
        have CS2 := CS.out
        rw [hkd2] at CS2
        simp only [Int.cast_ofNat_Int] at CS2
        have CS := Lib.hid CS2
        clear CS2 hkd2 hkd
        have hj0 : ((j : Int) == 0) = true := by simp; omega
        have hjq : ((j : Int) == (qm : Int)) = false := by simp; omega
        have hadd : (e1 : Int) + 240 = (e2 : Int) := by omega
        have hmn : e2 < n := by omega
        have hmn3 : decide (e2 < n) = true := by simp; omega
        clear h0
        go_wp2_with fail
        go_at_call 28
        refine (CS.out wr HO.out.2).mono ?_
        rintro e w2 ⟨x, rfl, hx, hb2⟩
        obtain ⟨xa, xc, rfl⟩ : ∃ a c, x = .slice a 256 c := by
          obtain ⟨a, c, h⟩ := hx.shape
          rw [HSEC.out] at h
          exact ⟨a, c, h⟩
        have hA := (Below.refl w2.heap.size w2).alloc (Nat.le_refl _) (.cells #[.slice xa 256 xc] 23)
        have hb3 := hb2.trans (hA.mono hb2.size)
        have HB3 := Lib.hid (And.intro hb3 (HO.out.2.trans (hb3.mono HO.out.2.size)))
        have HX := Lib.hid (hx.below hA)
        have HOW := Lib.hid (show (w2.alloc (.cells #[.slice xa 256 xc] 23)).ownsRow w.heap.size 23 1 (.slice va j vc) j ((List.range j).map X) from by have h := (HO.out.1.below hb3).row; rw [HRL.out] at h; exact h)
        have HMX := Lib.hid (show j + 1 ≤ maxLen ∧ (j + 1) * 24 ≤ 140737488355328 from ⟨by unfold maxLen; omega, by omega⟩)
        have HSRC := Lib.hid (B2.one_any w2 (.slice xa 256 xc) 23)
        have HONE := Lib.hid (show ∀ u ∈ ([.slice xa 256 xc] : List Value), u.oneCell' = true by simp [Value.oneCell'])
        clear hb2 hb3 hA CS hx
        go_wp2_with (at_builtin; refine wpList_append_own_at _ rfl (.tmp 58) (.tmp 60) 25 rfl w.heap.size 23 i1 (.slice none 0 0) 1 24 Try.underlying25 HI.out.1 HI.out.2.1 HI.out.2.2.1 HI.out.2.2.2 rfl (by decide) (.slice va j vc) j ((List.range j).map X) rfl HOW.out ⟨w2.heap.size, 0, none⟩ 1 1 [.slice xa 256 xc] rfl rfl HSRC.out HONE.out HMX.out.1 HMX.out.2 HB3.out.2.size ?_; intro v' w4 hown hgr _ hpl; have HO4 := Lib.hid (scan_more HO.out HB3.out.1 HX.out HRL.out hown hgr hpl); clear hown hgr hpl)
        go_wp2_with fail
        go_roundw
        case rel => exact ⟨j + 1, _, by omega, by go_num, Lib.hid (by rw [HNX.out]; exact HO4.out)⟩
        case measure => simp [intOf]; omega
      · by_cases hq9 : j = qm
        · have hkd2 : kd = 4 := by rw [← hkd]; unfold Fr.kindOf; rw [if_neg (by omega)]; rw [if_neg (by omega), if_pos (by omega)]
          rw [hkd2] at HNX HSEC
          have CS2 := CS.out
          rw [hkd2] at CS2
          simp only [Int.cast_ofNat_Int] at CS2
          have CS := Lib.hid CS2
          clear CS2 hkd2 hkd
          have hj0 : ((j : Int) == 0) = false := by simp; omega
          have hjq : ((j : Int) == (qm : Int)) = true := by simp; omega
          have he2n : e2 = n := by omega
          obtain ⟨e3, he3⟩ : ∃ e3, e1 + 240 = e3 := ⟨_, rfl⟩
          have hadd : (e1 : Int) + 240 = (e3 : Int) := by omega
          have hmn : ¬ e3 < n := by omega
          have hmn3 : decide (e3 < n) = false := by simp; omega
          rw [he2n] at hs1 hs2 hs3 hs4 hs6
          clear h0 hq9
          go_wp2_with fail
          go_at_call 28
          refine (CS.out wr HO.out.2).mono ?_
          rintro e w2 ⟨x, rfl, hx, hb2⟩
          obtain ⟨xa, xc, rfl⟩ : ∃ a c, x = .slice a 256 c := by
            obtain ⟨a, c, h⟩ := hx.shape
            rw [HSEC.out] at h
            exact ⟨a, c, h⟩
          have hA := (Below.refl w2.heap.size w2).alloc (Nat.le_refl _) (.cells #[.slice xa 256 xc] 23)
          have hb3 := hb2.trans (hA.mono hb2.size)
          have HB3 := Lib.hid (And.intro hb3 (HO.out.2.trans (hb3.mono HO.out.2.size)))
          have HX := Lib.hid (hx.below hA)
          have HOW := Lib.hid (show (w2.alloc (.cells #[.slice xa 256 xc] 23)).ownsRow w.heap.size 23 1 (.slice va j vc) j ((List.range j).map X) from by have h := (HO.out.1.below hb3).row; rw [HRL.out] at h; exact h)
          have HMX := Lib.hid (show j + 1 ≤ maxLen ∧ (j + 1) * 24 ≤ 140737488355328 from ⟨by unfold maxLen; omega, by omega⟩)
          have HSRC := Lib.hid (B2.one_any w2 (.slice xa 256 xc) 23)
          have HONE := Lib.hid (show ∀ u ∈ ([.slice xa 256 xc] : List Value), u.oneCell' = true by simp [Value.oneCell'])
          clear hb2 hb3 hA CS hx
          go_wp2_with (at_builtin; refine wpList_append_own_at _ rfl (.tmp 58) (.tmp 60) 25 rfl w.heap.size 23 i1 (.slice none 0 0) 1 24 Try.underlying25 HI.out.1 HI.out.2.1 HI.out.2.2.1 HI.out.2.2.2 rfl (by decide) (.slice va j vc) j ((List.range j).map X) rfl HOW.out ⟨w2.heap.size, 0, none⟩ 1 1 [.slice xa 256 xc] rfl rfl HSRC.out HONE.out HMX.out.1 HMX.out.2 HB3.out.2.size ?_; intro v' w4 hown hgr _ hpl; have HO4 := Lib.hid (scan_more HO.out HB3.out.1 HX.out HRL.out hown hgr hpl); clear hown hgr hpl)
          go_wp2_with fail
          go_roundw
          case rel => exact ⟨j + 1, _, by omega, by go_num, Lib.hid (by rw [HNX.out]; exact HO4.out)⟩
          case measure => simp [intOf]; omega
        · have hkd2 : kd = 3 := by rw [← hkd]; unfold Fr.kindOf; rw [if_neg (by omega)]; rw [if_neg (by omega), if_neg (by omega)]
          rw [hkd2] at HNX HSEC
          have CS2 := CS.out
          rw [hkd2] at CS2
          simp only [Int.cast_ofNat_Int] at CS2
          have CS := Lib.hid CS2
          clear CS2 hkd2 hkd
          have hj0 : ((j : Int) == 0) = false := by simp; omega
          have hjq : ((j : Int) == (qm : Int)) = false := by simp; omega
          have hadd : (e1 : Int) + 240 = (e2 : Int) := by omega
          have hmn : e2 < n := by omega
          have hmn3 : decide (e2 < n) = true := by simp; omega
          clear h0 hq9
          go_wp2_with fail
          go_at_call 28
          refine (CS.out wr HO.out.2).mono ?_
          rintro e w2 ⟨x, rfl, hx, hb2⟩
          obtain ⟨xa, xc, rfl⟩ : ∃ a c, x = .slice a 256 c := by
            obtain ⟨a, c, h⟩ := hx.shape
            rw [HSEC.out] at h
            exact ⟨a, c, h⟩
          have hA := (Below.refl w2.heap.size w2).alloc (Nat.le_refl _) (.cells #[.slice xa 256 xc] 23)
          have hb3 := hb2.trans (hA.mono hb2.size)
          have HB3 := Lib.hid (And.intro hb3 (HO.out.2.trans (hb3.mono HO.out.2.size)))
          have HX := Lib.hid (hx.below hA)
          have HOW := Lib.hid (show (w2.alloc (.cells #[.slice xa 256 xc] 23)).ownsRow w.heap.size 23 1 (.slice va j vc) j ((List.range j).map X) from by have h := (HO.out.1.below hb3).row; rw [HRL.out] at h; exact h)
          have HMX := Lib.hid (show j + 1 ≤ maxLen ∧ (j + 1) * 24 ≤ 140737488355328 from ⟨by unfold maxLen; omega, by omega⟩)
          have HSRC := Lib.hid (B2.one_any w2 (.slice xa 256 xc) 23)
          have HONE := Lib.hid (show ∀ u ∈ ([.slice xa 256 xc] : List Value), u.oneCell' = true by simp [Value.oneCell'])
          clear hb2 hb3 hA CS hx
          go_wp2_with (at_builtin; refine wpList_append_own_at _ rfl (.tmp 58) (.tmp 60) 25 rfl w.heap.size 23 i1 (.slice none 0 0) 1 24 Try.underlying25 HI.out.1 HI.out.2.1 HI.out.2.2.1 HI.out.2.2.2 rfl (by decide) (.slice va j vc) j ((List.range j).map X) rfl HOW.out ⟨w2.heap.size, 0, none⟩ 1 1 [.slice xa 256 xc] rfl rfl HSRC.out HONE.out HMX.out.1 HMX.out.2 HB3.out.2.size ?_; intro v' w4 hown hgr _ hpl; have HO4 := Lib.hid (scan_more HO.out HB3.out.1 HX.out HRL.out hown hgr hpl); clear hown hgr hpl)
          go_wp2_with fail
          go_roundw
          case rel => exact ⟨j + 1, _, by omega, by go_num, Lib.hid (by rw [HNX.out]; exact HO4.out)⟩
          case measure => simp [intOf]; omega
    · obtain rfl : j = q := by omega
      have hd : decide ((j : Int) < (j : Int)) = false := by simp
      go_wp2_with fail
      go_returns
      have h := HO.out
      rw [List.take_of_length_le (by rw [HL.out]; exact Nat.le_refl _)] at h
      exact ⟨_, X, rfl, h⟩
end Go.Proofs.Ytlegdaoidjpokaa
namespace Go.Proofs.Ytlegdaoidjpokaa
set_option linter.unusedVariables false
set_option linter.unusedSimpArgs false
open Go.RowKit
open B2 (Only Row Lots owns_only)
theorem cutS_one (seg t : Nat) (bs : List Nat) (h : bs.length ≤ 240) : Fr.cutS seg t bs = [Fr.sec 1 seg t bs] := by
  have hn : Fr.need bs.length = 1 := by unfold Fr.need; omega
  unfold Fr.cutS
  rw [hn]
  have hp : Fr.part bs 0 = bs := by unfold Fr.part; rw [Nat.zero_mul, List.drop_zero, List.take_of_length_le h]
  simp [Fr.kindOf, hp]
set_option maxHeartbeats 8000000 in
set_option maxRecDepth 100000 in
theorem refsplit_none (seg t : Nat) (hs : seg < 4294967296) (ht : t + 1 ≤ 32) (w : World) :
    Calls Try.prog 12 #[.int .u32 seg, .int .i64 t, .slice none 0 0] w fun e w' => ∃ v X, e = .returned (.tuple #[v, .int .u16 0]) ∧ OutR w' w.heap.size v (Fr.cutS seg t []) X ∧ Below w.heap.size w w' := by
  obtain ⟨i1, hi1, hy0, hy1, hy2⟩ := info_parts B2.info27
  have HI := Lib.hid (And.intro hi1 (And.intro hy0 (And.intro hy1 hy2)))
  have h0d : decide ((t : Int) < 0) = false := by simp
  have h31 : decide ((31 : Int) < (t : Int)) = false := by simp; omega
  have hST := Lib.hid (show OutR w w.heap.size (.slice none 0 0) [] (fun _ => .slice none 0 0) ∧ Below w.heap.size w w from ⟨OutR.nil _ _, Below.refl _ _⟩)
  have CS1 := fun W => refsec_none 1 seg t (by decide) hs (by omega) W
  simp only [Int.cast_ofNat_Int] at CS1
  have CS := Lib.hid CS1
  have HC := Lib.hid (And.intro (cutS_one seg t [] (by decide)) (Fr.sec_len 1 seg t [] (by decide)))
  clear CS1
  clear hi1 hy0 hy1 hy2
  go_enter Try.func12, Try.ntmps12
  go_wp2_with fail
  go_loopw [9, 10] (fun v i wr => (i = .int .i64 0 ∧ v = .slice none 0 0 ∧ wr = w) ∨ (i = .int .i64 1 ∧ Hid (∃ X, OutR wr w.heap.size v (Fr.cutS seg t []) X ∧ Below w.heap.size w wr))) (fun _ i _ => 1 - (intOf i).toNat)
  case atStart => exact .inl ⟨rfl, rfl, rfl⟩
  case round =>
    rcases hrel with ⟨rfl, rfl, rfl⟩ | ⟨rfl, HO⟩
    · go_wp2_with fail
      go_at_call 28
      refine (CS.out wr).mono ?_
      rintro e w2 ⟨x, rfl, hx, hb2⟩
      obtain ⟨xa, xc, rfl⟩ : ∃ a c, x = .slice a 256 c := by
        obtain ⟨a, c, h⟩ := hx.shape
        rw [HC.out.2] at h
        exact ⟨a, c, h⟩
      have hA := (Below.refl w2.heap.size w2).alloc (Nat.le_refl _) (.cells #[.slice xa 256 xc] 23)
      have hb3 := hb2.trans (hA.mono hb2.size)
      have HB3 := Lib.hid (And.intro hb3 (hST.out.2.trans (hb3.mono hST.out.2.size)))
      have HX := Lib.hid (hx.below hA)
      have HSRC := Lib.hid (B2.one_any w2 (.slice xa 256 xc) 23)
      have HONE := Lib.hid (show ∀ u ∈ ([.slice xa 256 xc] : List Value), u.oneCell' = true by simp [Value.oneCell'])
      clear hb2 hb3 hA CS hx
      go_wp2_with (at_builtin; refine wpList_append_own_at _ rfl (.tmp 58) (.tmp 60) 25 rfl wr.heap.size 23 i1 (.slice none 0 0) 1 24 Try.underlying25 HI.out.1 HI.out.2.1 HI.out.2.2.1 HI.out.2.2.2 rfl (by decide) (.slice none 0 0) 0 [] rfl (World.ownsRow_nil _ _ _ _) ⟨w2.heap.size, 0, none⟩ 1 1 [.slice xa 256 xc] rfl rfl HSRC.out HONE.out (by decide) (by decide) HB3.out.2.size ?_; intro v' w4 hown hgr _ hpl; have HO4 := Lib.hid (scan_more hST.out HB3.out.1 HX.out rfl hown hgr hpl); clear hown hgr hpl)
      go_wp2_with fail
      go_roundw
      case rel => exact .inr ⟨by go_num, Lib.hid ⟨_, by rw [HC.out.1]; exact HO4.out⟩⟩
      case measure => simp [intOf]
    · go_wp2_with fail
      go_returns
      obtain ⟨X, h1, h2⟩ := HO.out
      exact ⟨_, X, rfl, h1, h2⟩
set_option maxHeartbeats 8000000 in
set_option maxRecDepth 100000 in
theorem refsplit_one (b off : Nat) (bs : List Nat) (n cap seg t : Nat) (hn : bs.length = n) (hc : n ≤ cap) (hl : n ≤ 240) (hs : seg < 4294967296) (ht : t + 1 ≤ 32) (w : World) (H : Bys w (some ⟨b, off, none⟩) bs) :
    Calls Try.prog 12 #[.int .u32 seg, .int .i64 t, .slice (some ⟨b, off, none⟩) n cap] w fun e w' => ∃ v X, e = .returned (.tuple #[v, .int .u16 0]) ∧ OutR w' w.heap.size v (Fr.cutS seg t bs) X ∧ Below w.heap.size w w' := by
  obtain ⟨i1, hi1, hy0, hy1, hy2⟩ := info_parts B2.info27
  have HI := Lib.hid (And.intro hi1 (And.intro hy0 (And.intro hy1 hy2)))
  have h0d : decide ((t : Int) < 0) = false := by simp
  have h31 : decide ((31 : Int) < (t : Int)) = false := by simp; omega
  have hST := Lib.hid (show OutR w w.heap.size (.slice none 0 0) [] (fun _ => .slice none 0 0) ∧ Below w.heap.size w w from ⟨OutR.nil _ _, Below.refl _ _⟩)
  obtain ⟨q, hq0⟩ : ∃ q, (n + 239) / 240 = q := ⟨_, rfl⟩
  have hq : ((n : Int) + 239) / 240 = (q : Int) := by omega
  have d3 : decide ((7680 : Int) < (n : Int)) = false := by simp; omega
  have d4 : ¬ 7680 < n := by omega
  have hm : decide ((1 : Int) < (q : Int)) = false := by simp; omega
  have hmn : ¬ 240 < n := by omega
  have hmn3 : decide (240 < n) = false := by simp; omega
  have hcn : (n : Int) ≤ (cap : Int) := by omega
  have hn0 : (0 : Int) ≤ (n : Int) := by omega
  have CS1 := fun W (hW : Below w.heap.size w W) => refsec_some ⟨b, off, none⟩ bs n cap 1 seg t hn hl (by decide) hs (by omega) W (H.below hW)
  simp only [Int.cast_ofNat_Int] at CS1
  have CS := Lib.hid CS1
  have HC := Lib.hid (And.intro (cutS_one seg t bs (by omega)) (Fr.sec_len 1 seg t bs (by omega)))
  clear CS1 hq0 H
  clear hi1 hy0 hy1 hy2
  go_enter Try.func12, Try.ntmps12
  go_wp2_with fail
  simp only [hq]
  go_loopw [9, 10] (fun v i wr => (i = .int .i64 0 ∧ v = .slice none 0 0 ∧ wr = w) ∨ (i = .int .i64 1 ∧ Hid (∃ X, OutR wr w.heap.size v (Fr.cutS seg t bs) X ∧ Below w.heap.size w wr))) (fun _ i _ => 1 - (intOf i).toNat)
  case atStart => exact .inl ⟨rfl, rfl, rfl⟩
  case round =>
    rcases hrel with ⟨rfl, rfl, rfl⟩ | ⟨rfl, HO⟩
    · go_wp2_with fail
      go_at_call 28
      refine (CS.out wr (Below.refl _ _)).mono ?_
      rintro e w2 ⟨x, rfl, hx, hb2⟩
      obtain ⟨xa, xc, rfl⟩ : ∃ a c, x = .slice a 256 c := by
        obtain ⟨a, c, h⟩ := hx.shape
        rw [HC.out.2] at h
        exact ⟨a, c, h⟩
      have hA := (Below.refl w2.heap.size w2).alloc (Nat.le_refl _) (.cells #[.slice xa 256 xc] 23)
      have hb3 := hb2.trans (hA.mono hb2.size)
      have HB3 := Lib.hid (And.intro hb3 (hST.out.2.trans (hb3.mono hST.out.2.size)))
      have HX := Lib.hid (hx.below hA)
      have HSRC := Lib.hid (B2.one_any w2 (.slice xa 256 xc) 23)
      have HONE := Lib.hid (show ∀ u ∈ ([.slice xa 256 xc] : List Value), u.oneCell' = true by simp [Value.oneCell'])
      clear hb2 hb3 hA CS hx
      go_wp2_with (at_builtin; refine wpList_append_own_at _ rfl (.tmp 58) (.tmp 60) 25 rfl wr.heap.size 23 i1 (.slice none 0 0) 1 24 Try.underlying25 HI.out.1 HI.out.2.1 HI.out.2.2.1 HI.out.2.2.2 rfl (by decide) (.slice none 0 0) 0 [] rfl (World.ownsRow_nil _ _ _ _) ⟨w2.heap.size, 0, none⟩ 1 1 [.slice xa 256 xc] rfl rfl HSRC.out HONE.out (by decide) (by decide) HB3.out.2.size ?_; intro v' w4 hown hgr _ hpl; have HO4 := Lib.hid (scan_more hST.out HB3.out.1 HX.out rfl hown hgr hpl); clear hown hgr hpl)
      go_wp2_with fail
      go_roundw
      case rel => exact .inr ⟨by go_num, Lib.hid ⟨_, by rw [HC.out.1]; exact HO4.out⟩⟩
      case measure => simp [intOf]
    · go_wp2_with fail
      go_returns
      obtain ⟨X, h1, h2⟩ := HO.out
      exact ⟨_, X, rfl, h1, h2⟩
end Go.Proofs.Ytlegdaoidjpokaa
namespace Go.Proofs.Ytlegdaoidjpokaa.B2
open Go.RowKit
/-- the book's cells: the rows of bytes, the rows of rows -/
def bk2 (u v : Value) : Array Value := (v :: (List.replicate 17 (.slice none 0 0) ++ u :: List.replicate 13 (.slice none 0 0))).toArray
theorem bk2_first (u v : Value) : (bk2 u v)[0]? = some v := rfl
theorem bk2_rows (u v : Value) : (bk2 u v)[18]? = some u := rfl
theorem bk2_low (u v : Value) (k : Nat) (h : k < 17) : (bk2 u v)[k + 1]? = some (.slice none 0 0) := by
  unfold bk2
  rw [List.getElem?_toArray, List.getElem?_cons_succ, List.getElem?_append_left (by rw [List.length_replicate]; exact h), List.getElem?_replicate, if_pos h]
theorem bk2_high (u v : Value) (k : Nat) (h : k < 13) : (bk2 u v)[k + 19]? = some (.slice none 0 0) := by
  unfold bk2
  rw [List.getElem?_toArray, show k + 19 = (k + 18) + 1 by omega, List.getElem?_cons_succ, List.getElem?_append_right (by rw [List.length_replicate]; omega)]
  rw [List.length_replicate, show k + 18 - 17 = k + 1 by omega, List.getElem?_cons_succ, List.getElem?_replicate, if_pos h]
/-- the book at pb has these rows; h is where they lie -/
def BookAt2 (u : Value) (w : World) (pb h n : Nat) (X : Nat → Value) : Prop :=
  ∃ v, w.heap[pb]? = some (.cells (bk2 u v) 65 (0, 0)) ∧ w.ownsRow 0 23 1 v n ((List.range n).map X) ∧ h = v.ownBlock.getD pb ∧ v.ownBlock ≠ some pb
theorem BookAt2.lt {u : Value} {w : World} {pb h n : Nat} {X : Nat → Value} (H : BookAt2 u w pb h n X) : pb < w.heap.size ∧ h < w.heap.size := by
  obtain ⟨v, h1, h2, rfl, _⟩ := H
  have hp := (Array.getElem?_eq_some_iff.1 h1).1
  refine ⟨hp, ?_⟩
  cases e : v.ownBlock with
  | none => exact hp
  | some g => exact (h2.lt g e).2
theorem BookAt2.only {u : Value} {w w' : World} {pb h n : Nat} {X : Nat → Value} (H : BookAt2 u w pb h n X) {S : List Nat} (ho : Only S w w') (hp : pb ∉ S) (hh : h ∉ S) : BookAt2 u w' pb h n X := by
  obtain ⟨v, h1, h2, rfl, h4⟩ := H
  refine ⟨v, (ho.block pb (Array.getElem?_eq_some_iff.1 h1).1 hp).trans h1, owns_only h2 ho (fun g hg => ?_), rfl, h4⟩
  rw [hg] at hh
  exact hh
theorem BookAt2.below {u : Value} {w w' : World} {pb h n : Nat} {X : Nat → Value} (H : BookAt2 u w pb h n X) (hb : Below w.heap.size w w') : BookAt2 u w' pb h n X := H.only (Only.of_below hb []) (by simp) (by simp)
/-- behind a row more -/
def BookPost2 (u : Value) (w : World) (pb h n : Nat) (X : Nat → Value) (w' : World) : Prop := ∃ h', BookAt2 u w' pb h' n X ∧ (h' = h ∨ w.heap.size ≤ h') ∧ Only [pb, h] w w'
theorem BookAt2.congr {u : Value} {w : World} {pb h n : Nat} {X Y : Nat → Value} (H : BookAt2 u w pb h n X) (he : ∀ j, j < n → Y j = X j) : BookAt2 u w pb h n Y := by
  obtain ⟨v, h1, h2, h3, h4⟩ := H
  refine ⟨v, h1, ?_, h3, h4⟩
  have : (List.range n).map Y = (List.range n).map X := List.map_congr_left fun j hj => he j (List.mem_range.1 hj)
  rw [this]; exact h2
set_option maxRecDepth 100000 in
set_option maxHeartbeats 1000000 in
theorem bookbytes2_any (u : Value) (pb h n m cap : Nat) (a : Option Addr) (X : Nat → Value) (hX : X n = .slice a m cap) (w : World) (H : BookAt2 u w pb h n X) (hn : n ≤ 1000) :
    Calls Try.prog 29 #[.pointer (some ⟨pb, 0, none⟩), .slice a m cap] w fun e w' => e = .returned (.tuple #[]) ∧ BookPost2 u w pb h (n + 1) X w' := by
  obtain ⟨i0, hi, hz0, hz1, hz2⟩ := info_parts info27
  obtain ⟨v, h1, h2, rfl, h4⟩ := H
  have hvs : ∃ av cv, v = .slice av n cv := by
    rcases h2.2 with ⟨hv, h0⟩ | ⟨g, c2, _, hv, _⟩
    · exact ⟨none, 0, by rw [hv, h0]⟩
    · exact ⟨_, _, hv⟩
  obtain ⟨av, cv, rfl⟩ := hvs
  have c0 : w.cell? ⟨pb, 0, none⟩ = some (.slice av n cv) := by rw [cell_of_row _ _ _ _ _ _ h1]; rfl
  have f0 : w.frozen? ⟨pb, 0, none⟩ = false := frozen_of_row _ _ _ _ _ h1
  have hpl := (Array.getElem?_eq_some_iff.1 h1).1
  have H1 := Lib.hid h1
  have H2 := Lib.hid h2
  have H4 := Lib.hid h4
  have HX := Lib.hid hX
  clear h1 h2 h4 hX
  go_enter Try.func29, Try.ntmps29
  go_wp2_with (at_builtin; refine wpList_append_place _ rfl (.tmp 8) (.tmp 10) 25 rfl 23 i0 (.slice none 0 0) 1 24 Try.underlying25 hi hz0 hz1 hz2 rfl (by decide) (.slice av n cv) n ((List.range n).map X) rfl (H2.out.alloc _) ⟨w.heap.size, 0, none⟩ 1 1 [Value.slice a m cap] rfl rfl (one_any w _ 23) (by simp [Value.oneCell']) (by unfold maxLen; omega) (by omega) ?_)
  intro v2 w2 hown2 hgr2 hpl2
  have hvs2 : ∃ a2 c3, v2 = .slice a2 (n + 1) c3 := by
    rcases hown2.2 with ⟨_, h0⟩ | ⟨g, c4, _, hv, _⟩
    · omega
    · exact ⟨_, _, hv⟩
  obtain ⟨a2, c3, rfl⟩ := hvs2
  have hne : some pb ≠ (Value.slice av n cv).ownBlock := fun e => H4.out e.symm
  have hb2 : w2.heap[pb]? = some (.cells (bk2 u (.slice av n cv)) 65 (0, 0)) := (hgr2.block pb (by simp; omega) hne).trans ((Below.heap_alloc w _ pb hpl).trans H1.out)
  have c2 : w2.cell? ⟨pb, 0, none⟩ = some (.slice av n cv) := by rw [cell_of_row _ _ _ _ _ _ hb2]; rfl
  have f2 : w2.frozen? ⟨pb, 0, none⟩ = false := frozen_of_row _ _ _ _ _ hb2
  have hnb : (Value.slice a2 (n + 1) c3).ownBlock ≠ some pb := by
    rcases hpl2 with e | ⟨g, e, hg⟩
    · rw [e]; exact H4.out
    · rw [e]; simp at hg ⊢; omega
  have hsome : ∃ g, (Value.slice a2 (n + 1) c3).ownBlock = some g ∧ (g = (Value.slice av n cv).ownBlock.getD pb ∨ w.heap.size ≤ g) := by
    rcases hown2.2 with ⟨_, h0⟩ | ⟨g, _, _, hv, _⟩
    · omega
    · refine ⟨g, by rw [hv]; rfl, ?_⟩
      rcases hpl2 with e | ⟨g', e, hg⟩
      · left; rw [← e, hv]; rfl
      · right; rw [hv] at e; simp [Value.ownBlock] at e; omega
  have ho2 : Only [pb, (Value.slice av n cv).ownBlock.getD pb] w w2 := ((Only.refl _ w).alloc _).grown hgr2 (fun k hk => .inl (by simp [hk]))
  have HN := Lib.hid (show BookPost2 u w pb ((Value.slice av n cv).ownBlock.getD pb) (n + 1) X (w2.setCell ⟨pb, 0, none⟩ (.slice a2 (n + 1) c3)) from by
    obtain ⟨g, hg1, hg2⟩ := hsome
    refine ⟨g, ⟨_, ?_, ?_, by rw [hg1]; rfl, hnb⟩, hg2, ho2.setCell (p := ⟨pb, 0, none⟩) (.inl (by simp)) _⟩
    · rw [heap_setCell_same _ _ _ _ _ _ hb2]; rfl
    · have e : (List.range (n + 1)).map X = (List.range n).map X ++ [Value.slice a m cap] := by rw [List.range_succ, List.map_append, List.map_singleton, HX.out]
      rw [e]
      exact owns_only hown2 ((Only.refl [pb] _).setCell (p := ⟨pb, 0, none⟩) (.inl (by simp)) _) (fun g' hg' hm => by
        simp at hm; subst hm; exact hnb hg'))
  clear hown2 hgr2 hpl2 hb2 hsome ho2
  go_wp2
  go_end0
  exact ⟨rfl, HN.out⟩
end Go.Proofs.Ytlegdaoidjpokaa.B2
namespace Go.Proofs.Ytlegdaoidjpokaa.B2
open Go.RowKit
/-- the first rows have their marks, the row i those ahead of k -/
structure MarkedT (TT : List Nat) (w : World) (N : Nat) (X : Nat → Value) (L : Nat → Nat) (a : Option Addr) (h n i k : Nat) (wr : World) : Prop where
  rows : ∃ C, Lots wr N X C ∧ (∀ j, (C j).length = L j) ∧ ∀ j k', (j < i ∨ (j = i ∧ k' < k)) → k' < L j → (C j)[k']? = some (mark1 j k')
  outer : Outer wr a h n X
  below : Only TT w wr
theorem MarkedT.shape {TT : List Nat} {w wr : World} {N h n i k : Nat} {X : Nat → Value} {L : Nat → Nat} {a : Option Addr} (H : MarkedT TT w N X L a h n i k wr) (j : Nat) : ∃ a' cap', X j = .slice a' (L j) cap' := by
  obtain ⟨C, hL, hlen, _⟩ := H.rows
  rcases hL.shape j with ⟨hv, h0⟩ | ⟨g, cap, _, hv, _⟩
  · have : L j = 0 := by rw [← hlen, h0]; rfl
    rw [hv, this]; exact ⟨_, _, rfl⟩
  · rw [hv, hlen]; exact ⟨_, _, rfl⟩
theorem MarkedT.cell {TT : List Nat} {w wr : World} {N h n i k : Nat} {X : Nat → Value} {L : Nat → Nat} {a : Option Addr} (H : MarkedT TT w N X L a h n i k wr) (hk : k < L i) (hh : ∀ j g, (X j).ownBlock = some g → g ≠ h) (hTT : ∀ j g, (X j).ownBlock = some g → g ∈ TT) :
    ∃ g cap u, X i = .slice (some ⟨g, 0, none⟩) (L i) cap ∧ wr.cell? ⟨g, k, none⟩ = some u ∧ wr.frozen? ⟨g, k, none⟩ = false ∧ MarkedT TT w N X L a h n i (k + 1) (wr.setCell ⟨g, k, none⟩ (.int .u8 ((mark1 i k : Nat) : Int))) := by
  obtain ⟨C, hL, hlen, hm⟩ := H.rows
  obtain ⟨g, cap, hX, hNg, hgl, hc, hf⟩ := hL.cell i k (by rw [hlen]; exact hk)
  refine ⟨g, cap, _, by rw [hX, hlen], hc, hf, ⟨⟨_, hL.set (c := mark1 i k) hX (by rw [hlen]; exact hk), fun j => ?_, fun j k' hj hk' => ?_⟩, ?_, ?_⟩⟩
  · by_cases e : j = i
    · subst e; simp [hlen]
    · simp [e, hlen]
  · by_cases e : j = i
    · subst e
      simp only [if_true]
      rw [List.getElem?_set]
      by_cases e2 : k = k'
      · subst e2; rw [if_pos rfl, if_pos (by rw [hlen]; exact hk)]
      · rw [if_neg e2]; exact hm j k' (by omega) hk'
    · simp only [e, if_false]
      exact hm j k' (by omega) hk'
  · exact H.outer.only ((Only.refl [g] _).setCell (p := ⟨g, k, none⟩) (.inl (by simp)) _) (by
      have := hh i g (by rw [hX]; rfl)
      simpa using this.symm)
  · exact H.below.setCell (p := ⟨g, k, none⟩) (.inl (hTT i g (by rw [hX]; rfl))) _
theorem MarkedT.next {TT : List Nat} {w wr : World} {N h n i k : Nat} {X : Nat → Value} {L : Nat → Nat} {a : Option Addr} (H : MarkedT TT w N X L a h n i k wr) (hk : L i ≤ k) : MarkedT TT w N X L a h n (i + 1) 0 wr := by
  obtain ⟨C, hL, hlen, hm⟩ := H.rows
  exact ⟨⟨C, hL, hlen, fun j k' hj hk' => hm j k' (by
    by_cases e : j = i
    · subst e; exact .inr ⟨rfl, by omega⟩
    · exact .inl (by omega)) hk'⟩, H.outer, H.below⟩
theorem MarkedT.all {TT : List Nat} {w wr : World} {N h n : Nat} {X : Nat → Value} {L : Nat → Nat} {a : Option Addr} (H : MarkedT TT w N X L a h n n 0 wr) (hz : ∀ j, n ≤ j → L j = 0) : Lots wr N X (Cm L) := by
  obtain ⟨C, hL, hlen, hm⟩ := H.rows
  have e : C = Cm L := by
    funext j
    apply List.ext_getElem?
    intro k
    by_cases hk : k < L j
    · have hj : j < n := Nat.lt_of_not_le fun h => by have := hz j h; omega
      rw [hm j k (.inl hj) hk]
      simp [Cm, hk]
    · rw [List.getElem?_eq_none (by rw [hlen]; omega), List.getElem?_eq_none (by rw [Cm_length]; omega)]
  rw [← e]; exact hL
/-- the longer rows, i of them -/
structure LongT (TT : List Nat) (w : World) (N : Nat) (X : Nat → Value) (L : Nat → Nat) (a : Option Addr) (h n M i : Nat) (vl : Value) (Y : Nat → Value) (wr : World) : Prop where
  rows : Lots wr N X (Cm L)
  outer : Outer wr a h n X
  below : Only TT w wr
  own : wr.ownsRow 0 23 1 vl i ((List.range i).map Y)
  each : ∀ j, j < i → ∃ g cap, Y j = .slice (some ⟨g, 0, none⟩) (L j + 16) cap ∧ wr.ownsRow 0 5 1 (Y j) (L j + 16) (cellsOf (Dm L j 16)) ∧ ((X j).ownBlock = some g ∨ M ≤ g) ∧ vl.ownBlock ≠ some g ∧ g < wr.heap.size
  pos : ∀ g, vl.ownBlock = some g → M ≤ g ∧ g < wr.heap.size
  size : M ≤ wr.heap.size
theorem LongT.shape {TT : List Nat} {w wr : World} {N h n M i : Nat} {X : Nat → Value} {L : Nat → Nat} {a : Option Addr} {vl : Value} {Y : Nat → Value} (H : LongT TT w N X L a h n M i vl Y wr) : ∃ a' cap', vl = .slice a' i cap' := by
  rcases H.own.2 with ⟨hv, h0⟩ | ⟨g, cap, _, hv, _⟩
  · rw [hv, h0]; exact ⟨_, _, rfl⟩
  · exact ⟨_, _, hv⟩
theorem LongT.step {TT : List Nat} {w w0 wr w2 : World} {N h n M i : Nat} {X : Nat → Value} {L : Nat → Nat} {a : Option Addr} {vl v' xv : Value} {Y : Nat → Value} {o : Obj} (hwM : w.heap.size ≤ M) (hTT : ∀ j g, (X j).ownBlock = some g → g ∈ TT) (P : Places N M h X) (H : LongT TT w N X L a h n M i vl Y w0) (E : Ext w0 N X L i 16 xv wr)
    (hown : w2.ownsRow 0 23 1 v' (i + 1) ((List.range i).map Y ++ [xv])) (hg : Goes (wr.alloc o) w2 vl v' i 1) : LongT TT w N X L a h n M (i + 1) v' (fun j => if j = i then xv else Y j) w2 := by
  have s0 := H.size
  have s1 := E.only.size
  -- what the last append may have turned
  obtain ⟨T, hT, hTv⟩ : ∃ T : List Nat, Only T (wr.alloc o) w2 ∧ ∀ x ∈ T, vl.ownBlock = some x := by
    rcases hg with ⟨g, cap, hv, hv', hgr⟩ | ⟨g, cap, hv', hgl, hgr⟩
    · exact ⟨[g], (Only.refl [g] _).grown hgr (fun k hk => by cases hk; exact .inl (by simp)), fun x hx => by simp at hx; subst hx; rw [hv]; rfl⟩
    · exact ⟨[], (Only.refl [] _).grown hgr (fun k hk => by cases hk), fun x hx => by simp at hx⟩
  have hT2 : Only T wr w2 := ((Only.refl T wr).alloc o).trans hT (fun x hx => .inl hx)
  have s2 := hT2.size
  have hS : ∀ x ∈ (X i).ownBlock.toList, (X i).ownBlock = some x := fun x hx => by simpa using hx
  have hX : ∀ j g, j ≠ i → (X j).ownBlock = some g → g ∉ (X i).ownBlock.toList := fun j g hj hg hm => by
    have := hS g hm
    rcases P.apart j i hj with h1 | h1
    · rw [h1] at hg; cases hg
    · exact h1 (by rw [hg, this])
  have hXT : ∀ j g, (X j).ownBlock = some g → g ∉ T := fun j g hg hm => by
    have h1 := (H.pos g (hTv g hm)).1
    have h2 := (P.lt j g hg).1
    omega
  -- the new value's place
  have hv'pos : (v'.ownBlock = vl.ownBlock) ∨ (∃ g, v'.ownBlock = some g ∧ wr.heap.size ≤ g ∧ g < w2.heap.size) := by
    rcases hg with ⟨g, cap, hv, hv', hgr⟩ | ⟨g, cap, hv', hgl, hgr⟩
    · exact .inl (by rw [hv, hv']; rfl)
    · refine .inr ⟨g, by rw [hv']; rfl, by simp at hgl; omega, ?_⟩
      exact (hown.lt g (by rw [hv']; rfl)).2
  have hxv : ∃ g cap, xv = .slice (some ⟨g, 0, none⟩) (L i + 16) cap ∧ ((X i).ownBlock = some g ∨ w0.heap.size ≤ g) := by
    rcases E.pos with ⟨g2, c2, e1, e2⟩ | ⟨e1, e2⟩ | ⟨g2, c2, e2, e3⟩
    · exact ⟨g2, c2, e2, .inl (by rw [e1]; rfl)⟩
    · omega
    · exact ⟨g2, c2, e2, .inr e3⟩
  obtain ⟨gx, cx, hxe, hxp⟩ := hxv
  have hgxl : gx < wr.heap.size := (E.own.lt gx (by rw [hxe]; rfl)).2
  have hgxv : vl.ownBlock ≠ some gx := fun e => by
    have h1 := H.pos gx e
    rcases hxp with h2 | h2
    · have := (P.lt i gx h2).1; omega
    · omega
  have hgxT : gx ∉ T := fun hm => hgxv (hTv gx hm)
  refine ⟨⟨fun j => ?_, P.apart⟩, ?_, ?_, ?_, fun j hj => ?_, fun g hg2 => ?_, by omega⟩
  · by_cases hj : j = i
    · subst hj; rw [Cm_length]; exact owns_only E.xi hT2 (hXT j)
    · exact owns_only (owns_only (H.rows.own j) E.only (fun g hg => hX j g hj hg)) hT2 (hXT j)
  · refine (H.outer.only E.only (fun hm => ?_)).only hT2 (fun hm => ?_)
    · exact P.ne i h (hS h hm) rfl
    · have := (H.pos h (hTv h hm)).1; have := P.h; omega
  · refine (H.below.trans E.only (fun x hx => .inl (hTT i x (hS x hx)))).trans hT2 (fun x hx => .inr ?_)
    have := (H.pos x (hTv x hx)).1; omega
  · have e : (List.range (i + 1)).map (fun j => if j = i then xv else Y j) = (List.range i).map Y ++ [xv] := by
      rw [List.range_succ, List.map_append]
      congr 1
      · apply List.map_congr_left
        intro j hj
        have : j ≠ i := by have := List.mem_range.1 hj; omega
        simp [this]
      · simp
    rw [e]; exact hown
  · by_cases hji : j = i
    · subst hji
      simp only [if_true]
      refine ⟨gx, cx, hxe, owns_only E.own hT2 (fun g hg => by rw [hxe] at hg; cases hg; exact hgxT), ?_, ?_, by omega⟩
      · rcases hxp with h2 | h2
        · exact .inl h2
        · exact .inr (by omega)
      · rcases hv'pos with h1 | ⟨g, h1, h2, _⟩
        · rw [h1]; exact hgxv
        · rw [h1]; intro e; injection e with e; omega
    · obtain ⟨g, cap, e1, e2, e3, e4, e5⟩ := H.each j (by omega)
      simp only [hji, if_false]
      have hgS : g ∉ (X i).ownBlock.toList := fun hm => by
        rcases e3 with h1 | h1
        · exact hX j g hji h1 hm
        · have := (P.lt i g (hS g hm)).1; omega
      have hgT : g ∉ T := fun hm => e4 (hTv g hm)
      refine ⟨g, cap, e1, owns_only (owns_only e2 E.only (fun g' hg' => by rw [e1] at hg'; cases hg'; exact hgS)) hT2 (fun g' hg' => by rw [e1] at hg'; cases hg'; exact hgT), e3, ?_, by omega⟩
      rcases hv'pos with h1 | ⟨g', h1, h2, _⟩
      · rw [h1]; exact e4
      · rw [h1]; intro e; injection e with e; omega
  · rcases hv'pos with h1 | ⟨g', h1, h2, h3⟩
    · rw [h1] at hg2
      have := H.pos g hg2; omega
    · rw [h1] at hg2; injection hg2 with hg2; omega
/-- what the last look meets -/
theorem LongT.look {TT : List Nat} {w wr : World} {N h n M i : Nat} {X : Nat → Value} {L : Nat → Nat} {a : Option Addr} {vl : Value} {Y : Nat → Value} (H : LongT TT w N X L a h n M i vl Y wr) (t : Nat) (ht : t < i) :
    ∃ gl cl gy cy, vl = .slice (some ⟨gl, 0, none⟩) i cl ∧ wr.cell? ⟨gl, t, none⟩ = some (.slice (some ⟨gy, 0, none⟩) (L t + 16) cy) ∧ (∀ k, k < L t → wr.cell? ⟨gy, k, none⟩ = some (.int .u8 ((mark1 t k : Nat) : Int))) ∧ (∀ k, k < 16 → wr.cell? ⟨gy, L t + k, none⟩ = some (.int .u8 ((mark2 t k : Nat) : Int))) ∧
      (∀ k, k < L t → ∃ g cap, X t = .slice (some ⟨g, 0, none⟩) (L t) cap ∧ wr.cell? ⟨g, k, none⟩ = some (.int .u8 ((mark1 t k : Nat) : Int))) := by
  obtain ⟨gy, cy, e1, e2, _⟩ := H.each t ht
  have hvl : ∃ gl cl, vl = .slice (some ⟨gl, 0, none⟩) i cl := by
    rcases H.own.2 with ⟨_, h0⟩ | ⟨g, cap, _, hv, _⟩
    · omega
    · exact ⟨g, cap, hv⟩
  obtain ⟨gl, cl, hvl⟩ := hvl
  refine ⟨gl, cl, gy, cy, hvl, ?_, fun k hk => ?_, fun k hk => ?_, fun k hk => ?_⟩
  · have := H.own.cells (g := gl) (by rw [hvl]; rfl) t (Y t) (by simp [ht])
    rw [add_here] at this
    rw [this, e1]
  · have := e2.cells (g := gy) (by rw [e1]; rfl) k (.int .u8 ((mark1 t k : Nat) : Int)) (by unfold cellsOf; rw [List.getElem?_map, Dm_low L t k hk]; rfl)
    rw [add_here] at this
    exact this
  · have := e2.cells (g := gy) (by rw [e1]; rfl) (L t + k) (.int .u8 ((mark2 t k : Nat) : Int)) (by unfold cellsOf; rw [List.getElem?_map, Dm_high L t k hk]; rfl)
    rw [add_here] at this
    exact this
  · obtain ⟨g, cap, hX, _, _, hc, _⟩ := H.rows.cell t k (by rw [Cm_length]; exact hk)
    rw [Cm_length] at hX
    refine ⟨g, cap, hX, ?_⟩
    rw [hc]
    simp [Cm]
set_option maxRecDepth 100000 in
set_option maxHeartbeats 2000000 in
theorem ownbytesT_any (TT : List Nat) (a : Option Addr) (h n cap N : Nat) (X : Nat → Value) (L : Nat → Nat) (w : World) (hTT : ∀ j g, (X j).ownBlock = some g → g ∈ TT) (P : Places N w.heap.size h X) (hO : Outer w a h n X) (hR : ∃ C, Lots w N X C ∧ ∀ j, (C j).length = L j) (hn : n ≤ 1000) (hL : ∀ j, L j ≤ 1000000) (hz : ∀ j, n ≤ j → L j = 0) :
    Calls Try.prog 30 #[.slice a n cap] w fun e w' => e = .returned (.bool true) ∧ Only TT w w' := by
  obtain ⟨i0, hi0, hz0, hz1, hz2⟩ := info_parts info5
  obtain ⟨i1, hi1, hy0, hy1, hy2⟩ := info_parts info27
  obtain ⟨C, hC, hlen⟩ := hR
  have M0 := Lib.hid (show MarkedT TT w N X L a h n 0 0 w from ⟨⟨C, hC, hlen, fun j k' hj => by omega⟩, hO, Only.refl _ _⟩)
  have HTT := Lib.hid hTT
  have HH := Lib.hid P.ne
  have HP := Lib.hid P
  have HL := Lib.hid hL
  have HZ := Lib.hid hz
  clear hO hC hlen hL P hz hTT
  go_enter Try.func30, Try.ntmps30
  go_wp2
  go_loopw [3] (fun ii wr => ∃ i : Nat, i ≤ n ∧ ii = .int .i64 (i : Nat) ∧ Hid (MarkedT TT w N X L a h n i 0 wr)) (fun ii _ => n - (intOf ii).toNat)
  case atStart => exact ⟨0, Nat.zero_le _, rfl, M0⟩
  case round =>
    obtain ⟨i, hi, rfl, HM⟩ := hrel
    by_cases hlt : i < n
    · have hd : decide (i < n) = true := by simpa using hlt
      have hix : (i : Int) < (n : Int) := by omega
      go_wp2
      go_loopw [4] (fun kk wr2 => ∃ k : Nat, k ≤ L i ∧ kk = .int .i64 (k : Nat) ∧ Hid (MarkedT TT w N X L a h n i k wr2)) (fun kk _ => L i - (intOf kk).toNat)
      case atStart => exact ⟨0, Nat.zero_le _, rfl, HM⟩
      case round =>
        obtain ⟨k, hk, rfl, HM2⟩ := hrel
        have hLi := HL.out i
        obtain ⟨rfl, hhl, hcs⟩ := HM2.out.outer (by omega)
        have hci := hcs i hlt
        by_cases hlt2 : k < L i
        · obtain ⟨g, cp, u, hX, hc, hf, hst⟩ := HM2.out.cell hlt2 HH.out HTT.out
          rw [hX] at hci
          have HST := Lib.hid hst
          obtain ⟨Li, hLe⟩ : ∃ Li, L i = Li := ⟨_, rfl⟩
          rw [hLe] at hci hlt2 hLi hk ⊢
          have hd2 : decide (k < Li) = true := by simpa using hlt2
          have hkx : (k : Int) < (Li : Int) := by omega
          have HMS := Lib.hid (mark1_spell i k)
          clear hst hX hLe hcs
          go_wp2
          rw [HMS.out]
          go_roundw
          case rel => exact ⟨k + 1, by omega, by go_num, HST⟩
          case measure => simp [intOf]; omega
        · obtain ⟨a', cp, hX⟩ := HM2.out.shape i
          rw [hX] at hci
          have HN := Lib.hid (HM2.out.next (by omega))
          obtain ⟨Li, hLe⟩ : ∃ Li, L i = Li := ⟨_, rfl⟩
          rw [hLe] at hci hlt2 hLi hk ⊢
          have hd2 : decide (k < Li) = false := by simpa using hlt2
          clear hX hLe hcs
          go_wp2
          go_roundw
          case rel => exact ⟨i + 1, by omega, by go_num, HN⟩
          case measure => simp [intOf]; omega
    · obtain rfl : i = n := by omega
      have hd : decide (i < i) = false := by simp
      have G0 := Lib.hid (show LongT TT w N X L a h i w.heap.size 0 (.slice none 0 0) (fun _ => .slice none 0 0) wr from ⟨HM.out.all HZ.out, HM.out.outer, HM.out.below, World.ownsRow_nil _ _ _ _, fun j hj => by omega, fun g hg => (by cases hg), HM.out.below.size⟩)
      obtain ⟨M, hM⟩ : ∃ M, w.heap.size = M := ⟨_, rfl⟩
      rw [hM] at G0 HP
      have HWM := Lib.hid (Nat.le_of_eq hM)
      clear hM hlt
      go_wp2
      go_loopw [5, 6] (fun vl ii wr => ∃ (j : Nat) (Y : Nat → Value), j ≤ i ∧ ii = .int .i64 (j : Nat) ∧ Hid (LongT TT w N X L a h i M j vl Y wr)) (fun _ ii _ => i - (intOf ii).toNat)
      case atStart => exact ⟨0, _, Nat.zero_le _, rfl, G0⟩
      case round =>
        obtain ⟨j, Y, hj, rfl, HG⟩ := hrel
        by_cases hlt : j < i
        · have hd2 : decide (j < i) = true := by simpa using hlt
          have hjx : (j : Int) < (i : Int) := by omega
          obtain ⟨rfl, hhl, hcs⟩ := HG.out.outer (by omega)
          have hcj := hcs j hlt
          have hXs : ∃ a' cap', X j = .slice a' (L j) cap' := by
            rcases (HG.out.rows.own j).2 with ⟨hv, h0⟩ | ⟨g, cp, _, hv, _⟩
            · rw [Cm_length] at h0; rw [hv, h0]; exact ⟨_, _, rfl⟩
            · rw [Cm_length] at hv; exact ⟨_, _, hv⟩
          obtain ⟨aj, cj, hXj⟩ := hXs
          have hLj := HL.out j
          have E0 := Lib.hid (show Ext wr N X L j 0 (X j) wr from ⟨by
            have h1 := HG.out.rows.own j
            have h2 : wr.ownsRow 0 5 1 (X j) (L j) (cellsOf (Cm L j)) := by
              rw [Cm_length] at h1
              refine ⟨h1.1, ?_⟩
              rcases h1.2 with h3 | ⟨g, c2, cur, e1, _, r⟩
              · exact .inl h3
              · exact .inr ⟨g, c2, cur, e1, Nat.zero_le _, r⟩
            simpa [Dm] using h2, .inr (.inl ⟨rfl, rfl⟩), by have h1 := HG.out.rows.own j; rw [Cm_length] at h1; exact h1, Only.refl _ _⟩)
          rw [hXj] at hcj E0
          obtain ⟨av, cv, rfl⟩ := HG.out.shape
          clear hcs hXj
          obtain ⟨wo, hwo⟩ : ∃ wo, wo = wr := ⟨_, rfl⟩
          subst hwo
          go_wp2
          go_loopw [7, 8] (fun xv kk wr2 => ∃ k : Nat, k ≤ 16 ∧ kk = .int .i64 (k : Nat) ∧ Hid (Ext wo N X L j k xv wr2)) (fun _ kk _ => 16 - (intOf kk).toNat)
          case atStart => exact ⟨0, Nat.zero_le _, rfl, E0⟩
          case round =>
            obtain ⟨k, hk, rfl, HE⟩ := hrel
            by_cases hlt2 : k < 16
            · have hd3 : decide ((k : Int) < 16) = true := by simp; omega
              obtain ⟨ax, cx, rfl⟩ := HE.out.shape
              have HSP := Lib.hid (mark2_spell j k)
              have HXL := Lib.hid (show ∀ g, (X j).ownBlock = some g → g < wo.heap.size ∧ N ≤ g from fun g hg => ⟨by have h1 := (HP.out.lt j g hg).1; have h2 := HG.out.size; omega, (HP.out.lt j g hg).2⟩)
              go_wp2_with (at_builtin; refine wpList_append_goes _ rfl (.tmp 54) (.tmp 62) 23 rfl 5 i0 (.int .u8 0) 1 1 Try.underlying23 hi0 hz0 hz1 hz2 rfl (by decide) (.slice ax (L j + k) cx) (L j + k) (cellsOf (Dm L j k)) rfl (HE.out.own.alloc _) ⟨wr.heap.size, 0, none⟩ 1 1 [Value.int .u8 (((-1 - (j : Int)) * 97 + (k : Int) * 13) % 256)] rfl rfl (one_any wr _ 5) (by simp [Value.oneCell']) (by unfold maxLen; omega) (by omega) (by decide) ?_)
              intro v2 w2 hown2 hgo2
              rw [HSP.out] at hown2
              have HN := Lib.hid (HE.out.step hown2 hgo2 HXL.out)
              obtain ⟨a2, c2, rfl⟩ := HN.out.shape
              clear hown2 hgo2
              go_wp2
              go_roundw
              case rel => exact ⟨k + 1, by omega, by go_num, HN⟩
              case measure => simp [intOf]; omega
            · obtain rfl : k = 16 := by omega
              obtain ⟨ax, cx, rfl⟩ := HE.out.shape
              have HOW := Lib.hid (show wr.ownsRow 0 23 1 (.slice av j cv) j ((List.range j).map Y) from owns_only HG.out.own HE.out.only (fun g hg hm => by
                have h1 := (HG.out.pos g hg).1
                have h2 := (HP.out.lt j g (by simpa using hm)).1
                omega))
              go_wp2_with (at_builtin; refine wpList_append_goes _ rfl (.tmp 64) (.tmp 66) 25 rfl 23 i1 (.slice none 0 0) 1 24 Try.underlying25 hi1 hy0 hy1 hy2 rfl (by decide) (.slice av j cv) j ((List.range j).map Y) rfl (HOW.out.alloc _) ⟨wr.heap.size, 0, none⟩ 1 1 [Value.slice ax (L j + 16) cx] rfl rfl (one_any wr _ 23) (by simp [Value.oneCell']) (by unfold maxLen; omega) (by omega) (by decide) ?_)
              intro v2 w2 hown2 hgo2
              have HN := Lib.hid (HG.out.step HWM.out HTT.out HP.out HE.out hown2 hgo2)
              obtain ⟨a2, c2, rfl⟩ := HN.out.shape
              clear hown2 hgo2
              go_wp2
              go_roundw
              case rel => exact ⟨j + 1, _, by omega, by go_num, HN⟩
              case measure => simp [intOf]; omega
        · obtain rfl : j = i := by omega
          have hd2 : decide (j < j) = false := by simp
          obtain ⟨av, cv, rfl⟩ := HG.out.shape
          clear G0 hlt
          go_wp2
          go_loop [9] (fun ii => ∃ t : Nat, t ≤ j ∧ ii = .int .i64 (t : Nat)) (fun ii => j - (intOf ii).toNat)
          case atStart => exact ⟨0, Nat.zero_le _, rfl⟩
          case round =>
            obtain ⟨t, ht, rfl⟩ := hrel
            by_cases hlt3 : t < j
            · have hd4 : decide (t < j) = true := by simpa using hlt3
              have htx : (t : Int) < (j : Int) := by omega
              obtain ⟨rfl, hhl, hcs⟩ := HG.out.outer (by omega)
              have hct := hcs t hlt3
              obtain ⟨gl, cl, gy, cy, hvl, hlc, hy1, hy2, hx1⟩ := HG.out.look t hlt3
              have hXs : ∃ a' cap', X t = .slice a' (L t) cap' := by
                rcases (HG.out.rows.own t).2 with ⟨hv, h0⟩ | ⟨g, cp, _, hv, _⟩
                · rw [Cm_length] at h0; rw [hv, h0]; exact ⟨_, _, rfl⟩
                · rw [Cm_length] at hv; exact ⟨_, _, hv⟩
              obtain ⟨aj, cj, hXj⟩ := hXs
              have hLt := HL.out t
              rw [hXj] at hct hx1
              cases hvl
              have HY1 := Lib.hid hy1
              have HY2 := Lib.hid hy2
              have HX1 := Lib.hid hx1
              obtain ⟨Lt, hLe⟩ : ∃ Lt, L t = Lt := ⟨_, rfl⟩
              rw [hLe] at hct hlc HY1 HY2 HX1 hLt
              clear hXj hcs hy1 hy2 hx1 hLe
              go_wp2
              go_loop [11] (fun kk => ∃ k : Nat, k ≤ Lt ∧ kk = .int .i64 (k : Nat)) (fun kk => Lt - (intOf kk).toNat)
              case atStart => exact ⟨0, Nat.zero_le _, rfl⟩
              case round =>
                obtain ⟨k, hk, rfl⟩ := hrel
                by_cases hlt4 : k < Lt
                · have hd5 : decide (k < Lt) = true := by simpa using hlt4
                  have hkx : (k : Int) < (Lt : Int) := by omega
                  have hkx2 : (k : Int) < (Lt : Int) + 16 := by omega
                  obtain ⟨g, cp, hXe, hc1⟩ := HX1.out k hlt4
                  cases hXe
                  have hc2 := HY1.out k hlt4
                  have hms := mark1_spell t k
                  go_wp2
                  go_round
                  case rel => exact ⟨k + 1, by omega, by go_num⟩
                  case measure => simp [intOf]; omega
                · obtain rfl : k = Lt := by omega
                  have hd5 : decide (k < k) = false := by simp
                  go_wp2
                  go_loop [12] (fun kk => ∃ q : Nat, q ≤ 16 ∧ kk = .int .i64 (q : Nat)) (fun kk => 16 - (intOf kk).toNat)
                  case atStart => exact ⟨0, by omega, rfl⟩
                  case round =>
                    obtain ⟨q, hq, rfl⟩ := hrel
                    by_cases hlt5 : q < 16
                    · have hd6 : decide ((q : Int) < 16) = true := by simp; omega
                      have hqx : (k : Int) + (q : Int) < (k : Int) + 16 := by omega
                      have hqx0 : (0 : Int) ≤ (k : Int) + (q : Int) := by omega
                      have hqx2 : (q : Int) < 16 := by omega
                      have hc3 := HY2.out q hlt5
                      have hms2 := mark2_spell t q
                      go_wp2
                      go_round
                      case rel => exact ⟨q + 1, by omega, by go_num⟩
                      case measure => simp [intOf]; omega
                    · obtain rfl : q = 16 := by omega
                      go_wp2
                      go_round
                      case rel => exact ⟨t + 1, by omega, by go_num⟩
                      case measure => simp [intOf]; omega
            · obtain rfl : t = j := by omega
              have hd4 : decide (t < t) = false := by simp
              go_wp2
              go_ret
              exact ⟨rfl, HG.out.below⟩
end Go.Proofs.Ytlegdaoidjpokaa.B2
namespace Go.Proofs.Ytlegdaoidjpokaa.B2
open Go.RowKit
set_option linter.unusedVariables false
set_option linter.unusedSimpArgs false
/-- a slice of one byte -/
def one1 (b : Nat) : Value := .slice (some ⟨b, 0, none⟩) 1 1
theorem owns_set {w : World} {N R k g c : Nat} {ys : List Value} {u : Value} (h : w.ownsRow N 23 1 (.slice (some ⟨g, 0, none⟩) R c) R ys) (hk : k < R) (hu : u.oneCell' = true) : (w.setCell ⟨g, k, none⟩ u).ownsRow N 23 1 (.slice (some ⟨g, 0, none⟩) R c) R (ys.set k u) := by
  rcases h.2 with ⟨hv, _⟩ | ⟨g2, c2, cur, hv, hg, hh, hc, hm, hs, ht⟩
  · cases hv
  · cases hv
    refine ⟨by rw [List.length_set]; exact h.1, .inr ⟨g, c, cur.setIfInBounds k u, rfl, hg, heap_setCell_same _ _ _ _ _ _ hh, hc, hm, by simpa using hs, ?_⟩⟩
    rw [Array.toList_setIfInBounds, List.take_set, ht]
/-- the list's row, marked ahead of k -/
structure RM (w0 wr : World) (N : Nat) (v : Value) (R k i : Nat) (B : Nat → Nat) : Prop where
  row : ∃ ys, wr.ownsRow N 23 1 v R ys ∧ ∀ q, q < k → ys[q]? = some (one1 (B q))
  each : ∀ q, q < k → wr.cell? ⟨B q, 0, none⟩ = some (.int .u8 ((mark1 i q : Nat) : Int)) ∧ w0.heap.size ≤ B q
  only : Only v.ownBlock.toList w0 wr
theorem RM.shape {w0 wr : World} {N R k i : Nat} {v : Value} {B : Nat → Nat} (H : RM w0 wr N v R k i B) (hR : 0 < R) : ∃ g c, v = .slice (some ⟨g, 0, none⟩) R c := by
  obtain ⟨ys, h, _⟩ := H.row
  rcases h.2 with ⟨_, h0⟩ | ⟨g, c, _, hv, _⟩
  · omega
  · exact ⟨g, c, hv⟩
theorem RM.step {w0 wr : World} {N R k i g c : Nat} {B : Nat → Nat} (H : RM w0 wr N (.slice (some ⟨g, 0, none⟩) R c) R k i B) (hk : k < R) (hg : g < w0.heap.size) :
    (∃ x, (wr.alloc (.cells #[.int .u8 ((mark1 i k : Nat) : Int)] 5)).cell? ⟨g, k, none⟩ = some x) ∧ (wr.alloc (.cells #[.int .u8 ((mark1 i k : Nat) : Int)] 5)).frozen? ⟨g, k, none⟩ = false ∧
    RM w0 ((wr.alloc (.cells #[.int .u8 ((mark1 i k : Nat) : Int)] 5)).setCell ⟨g, k, none⟩ (one1 wr.heap.size)) N (.slice (some ⟨g, 0, none⟩) R c) R (k + 1) i (fun q => if q = k then wr.heap.size else B q) := by
  obtain ⟨ys, h1, h2⟩ := H.row
  have hs := H.only.size
  have hA := (Below.refl wr.heap.size wr).alloc (Nat.le_refl _) (.cells #[.int .u8 ((mark1 i k : Nat) : Int)] 5)
  have hnew := heap_alloc_new wr (.cells #[.int .u8 ((mark1 i k : Nat) : Int)] 5)
  have hOA : Only [g] w0 (wr.alloc (.cells #[.int .u8 ((mark1 i k : Nat) : Int)] 5)) := (H.only.mono (fun x hx => by simpa [Value.ownBlock] using hx)).alloc _
  have h1A := owns_only h1 (Only.of_below hA []) (fun _ _ => by simp)
  have heA : ∀ q, q < k → (wr.alloc (.cells #[.int .u8 ((mark1 i k : Nat) : Int)] 5)).cell? ⟨B q, 0, none⟩ = some (.int .u8 ((mark1 i q : Nat) : Int)) := fun q hq => cell_below (H.each q hq).1 hA
  have hcN : (wr.alloc (.cells #[.int .u8 ((mark1 i k : Nat) : Int)] 5)).cell? ⟨wr.heap.size, 0, none⟩ = some (.int .u8 ((mark1 i k : Nat) : Int)) := (cell_of_row _ _ 0 _ _ _ hnew).trans rfl
  generalize wr.alloc (.cells #[.int .u8 ((mark1 i k : Nat) : Int)] 5) = W at *
  have ho : Only [g] W (W.setCell ⟨g, k, none⟩ (one1 wr.heap.size)) := (Only.refl [g] W).setCell (p := ⟨g, k, none⟩) (.inl (by simp)) _
  have hyl : ys.length = R := by have := h1.1; omega
  refine ⟨?_, ?_, ⟨ys.set k (one1 wr.heap.size), owns_set h1A hk rfl, fun q hq => ?_⟩, fun q hq => ?_, ?_⟩
  · have hc := h1A.cells (g := g) rfl k (ys[k]'(by omega)) (by simp [hyl, hk])
    rw [add_here] at hc
    exact ⟨_, hc⟩
  · rcases h1A.2 with ⟨hv, _⟩ | ⟨g2, c2, cur, hv, _, hh, _⟩
    · cases hv
    · cases hv; exact frozen_of_row _ _ _ _ _ hh
  · rw [List.getElem?_set]
    by_cases e : k = q
    · subst e; rw [if_pos rfl, if_pos (by omega), if_pos rfl]
    · rw [if_neg e, if_neg (fun h => e h.symm)]; exact h2 q (by omega)
  · by_cases e : q = k
    · subst e
      simp only [if_true]
      exact ⟨Only_cell ho hcN (by simp; omega), hs⟩
    · simp only [if_neg e]
      have h3 := H.each q (by omega)
      exact ⟨Only_cell ho (heA q (by omega)) (by simp; omega), h3.2⟩
  · exact (hOA.trans ho (fun x hx => .inl hx)).mono (fun x hx => by simpa [Value.ownBlock] using hx)
/-- the row, k rows longer -/
structure ExtR (w0 : World) (N : Nat) (v : Value) (R : Nat) (ys : List Value) (k i : Nat) (D : Nat → Nat) (xv : Value) (wr : World) : Prop where
  own : wr.ownsRow 0 23 1 xv (R + k) (ys ++ (List.range k).map fun q => one1 (D q))
  pos : (∃ g cap, v = .slice (some ⟨g, 0, none⟩) R cap ∧ xv = .slice (some ⟨g, 0, none⟩) (R + k) cap) ∨ (k = 0 ∧ xv = v) ∨ (∃ g cap, xv = .slice (some ⟨g, 0, none⟩) (R + k) cap ∧ w0.heap.size ≤ g)
  xi : wr.ownsRow N 23 1 v R ys
  only : Only v.ownBlock.toList w0 wr
  each : ∀ q, q < k → wr.cell? ⟨D q, 0, none⟩ = some (.int .u8 ((mark2 i q : Nat) : Int)) ∧ w0.heap.size ≤ D q ∧ xv.ownBlock ≠ some (D q) ∧ D q < wr.heap.size
theorem ExtR.shape {w0 wr : World} {N R k i : Nat} {v xv : Value} {ys : List Value} {D : Nat → Nat} (H : ExtR w0 N v R ys k i D xv wr) : ∃ a' cap', xv = .slice a' (R + k) cap' := by
  rcases H.own.2 with ⟨hv, h0⟩ | ⟨g, cap, _, hv, _⟩
  · rw [hv, h0]; exact ⟨_, _, rfl⟩
  · exact ⟨_, _, hv⟩
theorem owns_in_place23 {w' : World} {N g n m cap : Nat} {xs news : List Value} {v : Value} (h : w'.ownsRow 0 23 1 v (n + m) (xs ++ news)) (hv : v = .slice (some ⟨g, 0, none⟩) (n + m) cap) (hl : xs.length = n) (hN : N ≤ g) (hc : n ≤ cap) : w'.ownsRow N 23 1 (.slice (some ⟨g, 0, none⟩) n cap) n xs := by
  rcases h.2 with ⟨h1, _⟩ | ⟨g2, cap2, cur, h1, _, hh, h2, h3, h4, h5⟩
  · rw [hv] at h1; cases h1
  · rw [hv] at h1
    cases h1
    refine ⟨by rw [Nat.mul_one]; exact hl, .inr ⟨g, cap, cur, rfl, hN, hh, hc, h3, h4, ?_⟩⟩
    have := congrArg (List.take n) h5
    rw [List.take_take, Nat.min_eq_left (by omega), List.take_left' hl] at this
    rw [Nat.mul_one]; exact this
theorem ExtR.step {w0 wr W w' : World} {N R k i d : Nat} {v xv v' : Value} {ys : List Value} {D : Nat → Nat} (H : ExtR w0 N v R ys k i D xv wr) (hW : Below wr.heap.size wr W) (hd : wr.heap.size ≤ d) (hd2 : d < W.heap.size) (hdc : W.cell? ⟨d, 0, none⟩ = some (.int .u8 ((mark2 i k : Nat) : Int)))
    (hown : w'.ownsRow 0 23 1 v' (R + k + 1) ((ys ++ (List.range k).map fun q => one1 (D q)) ++ [one1 d])) (hg : Goes W w' xv v' (R + k) 1) (hXl : ∀ g, v.ownBlock = some g → g < w0.heap.size ∧ N ≤ g) :
    ExtR w0 N v R ys (k + 1) i (fun q => if q = k then d else D q) v' w' := by
  have hs := H.only.size
  have hWs := hW.size
  have hyl : ys.length = R := by have := H.xi.1; omega
  have e : ys ++ ((List.range (k + 1)).map fun q => one1 (if q = k then d else D q)) = (ys ++ (List.range k).map fun q => one1 (D q)) ++ [one1 d] := by
    rw [List.append_assoc, List.range_succ, List.map_append, List.map_singleton, if_pos rfl]
    congr 2
    refine List.map_congr_left fun q hq => ?_
    have := List.mem_range.1 hq
    rw [if_neg (by omega)]
  have hown2 : w'.ownsRow 0 23 1 v' (R + (k + 1)) (ys ++ (List.range (k + 1)).map fun q => one1 (if q = k then d else D q)) := by rw [e]; exact hown
  have hxi := owns_only H.xi (Only.of_below hW []) (fun _ _ => by simp)
  have hOW : Only v.ownBlock.toList w0 W := H.only.trans (Only.of_below hW []) (fun x hx => by simp at hx)
  have heW : ∀ q, q < k → W.cell? ⟨D q, 0, none⟩ = some (.int .u8 ((mark2 i q : Nat) : Int)) := fun q hq => cell_below (H.each q hq).1 hW
  rcases hg with ⟨g, cap, hv, hv', hgr⟩ | ⟨g, cap, hv', hgl, hgr⟩
  · have hoG : Only [g] W w' := (Only.refl [g] _).grown hgr (fun k hk => by cases hk; exact .inl (by simp))
    have hgx : xv.ownBlock = some g := by rw [hv]; rfl
    have hglt : g < wr.heap.size := (H.own.lt g hgx).2
    have hE : ∀ q, q < k + 1 → w'.cell? ⟨(if q = k then d else D q), 0, none⟩ = some (.int .u8 ((mark2 i q : Nat) : Int)) ∧ w0.heap.size ≤ (if q = k then d else D q) ∧ v'.ownBlock ≠ some (if q = k then d else D q) ∧ (if q = k then d else D q) < w'.heap.size := by
      intro q hq
      have hsz := hoG.size
      have hvb : v'.ownBlock = some g := by rw [hv']; rfl
      by_cases e : q = k
      · subst e
        rw [if_pos rfl]
        exact ⟨Only_cell hoG hdc (by simp; omega), by omega, by rw [hvb]; intro h; injection h with h; omega, by omega⟩
      · rw [if_neg e]
        obtain ⟨k1, k2, k3, k4⟩ := H.each q (by omega)
        have hne : g ≠ D q := fun h => k3 (by rw [hgx, h])
        exact ⟨Only_cell hoG (heW q (by omega)) (by simp; omega), k2, by rw [hvb]; intro h; injection h with h; exact hne h, by omega⟩
    have hpos : (v = .slice (some ⟨g, 0, none⟩) R cap) ∨ w0.heap.size ≤ g := by
      rcases H.pos with ⟨g2, c2, e1, e2⟩ | ⟨e1, e2⟩ | ⟨g2, c2, e2, e3⟩
      · rw [hv] at e2; cases e2; exact .inl e1
      · subst e1; rw [hv] at e2; exact .inl e2.symm
      · rw [hv] at e2; cases e2; exact .inr e3
    rcases hpos with hp | hp
    · refine ⟨hown2, .inl ⟨g, cap, hp, hv'⟩, ?_, ?_, hE⟩
      · rw [hp]
        have hc : R ≤ cap := by
          rcases hxi.2 with ⟨h1, _⟩ | ⟨g2, c2, _, h1, _, _, h2, _⟩
          · rw [hp] at h1; cases h1
          · rw [hp] at h1; cases h1; exact h2
        exact owns_in_place23 hown2 hv' hyl (hXl g (by rw [hp]; rfl)).2 hc
      · exact hOW.grown hgr (fun k hk => by cases hk; exact .inl (by rw [hp]; simp [Value.ownBlock]))
    · refine ⟨hown2, .inr (.inr ⟨g, cap, hv', hp⟩), ?_, ?_, hE⟩
      · refine owns_only hxi hoG (fun g2 hg2 => ?_)
        have := (hXl g2 hg2).1
        simp; omega
      · exact hOW.grown hgr (fun k hk => by cases hk; exact .inr hp)
  · have hoG : Only [] W w' := (Only.refl [] _).grown hgr (fun k hk => by cases hk)
    refine ⟨hown2, .inr (.inr ⟨g, cap, hv', by omega⟩), owns_only hxi hoG (fun _ _ => by simp), hOW.grown hgr (fun k hk => by cases hk), fun q hq => ?_⟩
    have hsz := hoG.size
    have hvb : v'.ownBlock = some g := by rw [hv']; rfl
    by_cases e : q = k
    · subst e
      rw [if_pos rfl]
      exact ⟨Only_cell hoG hdc (by simp), by omega, by rw [hvb]; intro h; injection h with h; omega, by omega⟩
    · rw [if_neg e]
      obtain ⟨k1, k2, k3, k4⟩ := H.each q (by omega)
      exact ⟨Only_cell hoG (heW q (by omega)) (by simp), k2, by rw [hvb]; intro h; injection h with h; omega, by omega⟩
end Go.Proofs.Ytlegdaoidjpokaa.B2
namespace Go.Proofs.Ytlegdaoidjpokaa.B2
open Go.RowKit
set_option linter.unusedVariables false
set_option linter.unusedSimpArgs false
theorem info53 : (Try.prog.info? 25).map (fun i => (i.zero, i.size, i.bytes)) = some (some (.slice none 0 0), 1, 24) := by kernel_rfl
theorem long_one {N : Nat} {w2 : World} {v2 x : Value} (h : w2.ownsRow N 25 1 v2 (0 + 1) ([] ++ [x])) : ∃ gl cl, v2 = .slice (some ⟨gl, 0, none⟩) 1 cl ∧ w2.cell? ⟨gl, 0, none⟩ = some x := by
  rcases h.2 with ⟨_, h0⟩ | ⟨g, c, _, hv, _⟩
  · omega
  · have h2 := h.cells (g := g) (by rw [hv]; rfl) 0 x rfl
    rw [add_here] at h2
    exact ⟨g, c, hv, h2⟩
theorem rows_look {w w1 w2 wr : World} {hu gl N R cv : Nat} {av : Option Addr} {ys ys0 : List Value} {B D : Nat → Nat} {xv : Value} (HC : w.ownsRow N 23 1 (.slice av R cv) R ys0) (hne : (Value.slice av R cv).ownBlock ≠ some hu) (hq : w1.cell? ⟨hu, 0, none⟩ = some (.slice av R cv)) (hy : ∀ q, q < R → ys[q]? = some (one1 (B q))) (hM : RM w w1 N (.slice av R cv) R R 0 B)
    (hgl : wr.cell? ⟨gl, 0, none⟩ = some xv) (hE : ExtR w1 N (.slice av R cv) R ys 8 0 D xv w2) (hb : Below w2.heap.size w2 wr) :
    ∃ gx cx, wr.cell? ⟨gl, 0, none⟩ = some (.slice (some ⟨gx, 0, none⟩) (R + 8) cx) ∧ wr.cell? ⟨hu, 0, none⟩ = some (.slice av R cv) ∧
      (∀ k, k < R → ∃ g, av = some ⟨g, 0, none⟩ ∧ wr.cell? ⟨g, k, none⟩ = some (.slice (some ⟨B k, 0, none⟩) 1 1) ∧ wr.cell? ⟨gx, k, none⟩ = some (.slice (some ⟨B k, 0, none⟩) 1 1) ∧ wr.cell? ⟨B k, 0, none⟩ = some (.int .u8 ((mark1 0 k : Nat) : Int))) ∧
      (∀ k, k < 8 → wr.cell? ⟨gx, R + k, none⟩ = some (.slice (some ⟨D k, 0, none⟩) 1 1) ∧ wr.cell? ⟨D k, 0, none⟩ = some (.int .u8 ((mark2 0 k : Nat) : Int))) ∧ Only (Value.slice av R cv).ownBlock.toList w wr := by
  have hyl : ys.length = R := by have := hE.xi.1; omega
  have hx : ∃ gx cx, xv = .slice (some ⟨gx, 0, none⟩) (R + 8) cx := by
    rcases hE.own.2 with ⟨_, h0⟩ | ⟨g, c, _, hv, _⟩
    · omega
    · exact ⟨g, c, hv⟩
  obtain ⟨gx, cx, rfl⟩ := hx
  refine ⟨gx, cx, hgl, cell_below (Only_cell hE.only hq (fun h => hne (by simpa using h))) hb, fun k hk => ?_, fun k hk => ?_, (hM.only.trans hE.only (fun x hx => .inl hx)).trans (Only.of_below hb []) (fun x hx => by simp at hx)⟩
  · have hg : ∃ g, av = some ⟨g, 0, none⟩ := by
      rcases HC.2 with ⟨_, h0⟩ | ⟨g, c, _, hv, _⟩
      · omega
      · injection hv with h1; exact ⟨g, h1⟩
    obtain ⟨g, rfl⟩ := hg
    have hglt := (HC.lt g rfl).2
    have h1 := hE.xi.cells (g := g) rfl k _ (hy k hk)
    have h2 := hE.own.cells (g := gx) rfl k (one1 (B k)) (by rw [List.getElem?_append_left (by omega)]; exact hy k hk)
    rw [add_here] at h1 h2
    have h3 := hM.each k hk
    exact ⟨g, rfl, cell_below h1 hb, cell_below h2 hb, cell_below (Only_cell hE.only h3.1 (by simp [Value.ownBlock]; omega)) hb⟩
  · have h2 := hE.own.cells (g := gx) rfl (R + k) (one1 (D k)) (by rw [List.getElem?_append_right (by omega), hyl, show R + k - R = k by omega]; simp [hk])
    rw [add_here] at h2
    exact ⟨cell_below h2 hb, cell_below (hE.each k hk).1 hb⟩
set_option maxRecDepth 100000 in
set_option maxHeartbeats 4000000 in
theorem ownrows_any (hu cu N R : Nat) (av : Option Addr) (cv : Nat) (ys0 : List Value) (w : World) (hc : w.cell? ⟨hu, 0, none⟩ = some (.slice av R cv)) (hown : w.ownsRow N 23 1 (.slice av R cv) R ys0) (hne : (Value.slice av R cv).ownBlock ≠ some hu) (hR : R ≤ 100000) :
    Calls Try.prog 48 #[.slice (some ⟨hu, 0, none⟩) 1 cu] w fun e w' => e = .returned (.bool true) ∧ Only (Value.slice av R cv).ownBlock.toList w w' := by
  obtain ⟨i0, hi0, hz0, hz1, hz2⟩ := info_parts info5
  obtain ⟨i1, hi1, hy0, hy1, hy2⟩ := info_parts info27
  obtain ⟨i2, hi2, hx0, hx1, hx2⟩ := info_parts info53
  have HI1 := Lib.hid (And.intro hi1 (And.intro hy0 (And.intro hy1 hy2)))
  have HI2 := Lib.hid (And.intro hi2 (And.intro hx0 (And.intro hx1 hx2)))
  have HC := Lib.hid (And.intro hc (And.intro hown hne))
  have HHU := Lib.hid (World.block_lt_of_cell? _ _ hc)
  clear hc hown hne hi0 hz0 hz1 hz2 hi1 hy0 hy1 hy2 hi2 hx0 hx1 hx2
  go_enter Try.func48, Try.ntmps48
  go_wp2_with fail
  go_loopw [3] (fun ii wr => (ii = .int .i64 0 ∧ wr = w) ∨ (ii = .int .i64 1 ∧ Hid (∃ B, RM w wr N (.slice av R cv) R R 0 B))) (fun ii _ => 1 - (intOf ii).toNat)
  case atStart => exact .inl ⟨rfl, rfl⟩
  case round =>
    rcases hrel with ⟨rfl, rfl⟩ | ⟨rfl, HB⟩
    · have HST := Lib.hid (show RM wr wr N (.slice av R cv) R 0 0 (fun _ => 0) from ⟨⟨ys0, HC.out.2.1, fun q hq => by omega⟩, fun q hq => by omega, Only.refl _ _⟩)
      obtain ⟨w, hw⟩ : ∃ w, w = wr := ⟨_, rfl⟩
      subst hw
      go_wp2_with fail
      go_loopw [4] (fun kk wr => ∃ (k : Nat) (B : Nat → Nat), k ≤ R ∧ kk = .int .i64 k ∧ Hid (RM w wr N (.slice av R cv) R k 0 B)) (fun kk _ => R - (intOf kk).toNat)
      case atStart => exact ⟨0, _, Nat.zero_le _, rfl, HST⟩
      case round =>
        clear HST
        obtain ⟨k, B, hk, rfl, HM⟩ := hrel
        have q1 := Only_cell HM.out.only HC.out.1 (fun h => HC.out.2.2 (by simpa using h))
        by_cases hlt : k < R
        · have hd : decide ((k : Int) < (R : Int)) = true := by simp; omega
          have hd2 : decide (k < R) = true := by simp; omega
          obtain ⟨g, c, hv⟩ := HM.out.shape (by omega)
          have hav : av = some ⟨g, 0, none⟩ := by injection hv
          have hcv : cv = c := by injection hv
          subst hav; subst hcv
          have hg := (HC.out.2.1.lt g rfl).2
          obtain ⟨⟨x, hx1⟩, hx2, hx3⟩ := HM.out.step hlt hg
          have HX := Lib.hid hx3
          have q2 := cell_below q1 ((Below.refl wr.heap.size wr).alloc (Nat.le_refl _) (.cells #[.int .u8 ((mark1 0 k : Nat) : Int)] 5))
          have hms : (k : Int) * 13 % 256 = ((mark1 0 k : Nat) : Int) := by unfold mark1; omega
          clear hv hx3
          go_wp2_with fail
          go_roundw
          case rel => exact ⟨k + 1, _, by omega, by go_num, HX⟩
          case measure => simp [intOf]; omega
        · obtain rfl : k = R := by omega
          have hd : decide ((k : Int) < (k : Int)) = false := by simp
          go_wp2_with fail
          go_roundw
          case rel => exact .inr ⟨by go_num, Lib.hid ⟨B, HM.out⟩⟩
          case measure => simp [intOf]
    · obtain ⟨B, hB⟩ := HB.out
      obtain ⟨ys, hy1, hy2⟩ := hB.row
      have HY := Lib.hid (And.intro hy1 (And.intro hy2 hB))
      have q1 := Only_cell hB.only HC.out.1 (fun h => HC.out.2.2 (by simpa using h))
      have HQ1 := Lib.hid q1
      have HLT := Lib.hid (fun g (hg : (Value.slice av R cv).ownBlock = some g) => hy1.lt g hg)
      obtain ⟨w1, hw1⟩ : ∃ w1, w1 = wr := ⟨_, rfl⟩
      subst hw1
      clear hy1 hy2 hB HB
      go_wp2_with fail
      go_loopw [5, 6] (fun lv ii wr => (ii = .int .i64 0 ∧ lv = .slice none 0 0 ∧ wr = w1) ∨ (ii = .int .i64 1 ∧ ∃ gl cl, lv = .slice (some ⟨gl, 0, none⟩) 1 cl ∧ Hid (∃ xv D w2, wr.cell? ⟨gl, 0, none⟩ = some xv ∧ ExtR w1 N (.slice av R cv) R ys 8 0 D xv w2 ∧ Below w2.heap.size w2 wr))) (fun _ ii _ => 1 - (intOf ii).toNat)
      case atStart => exact .inl ⟨rfl, rfl, rfl⟩
      case round =>
        rcases hrel with ⟨rfl, rfl, rfl⟩ | ⟨rfl, gl, cl, rfl, HL⟩
        · have HST := Lib.hid (show ExtR wr N (.slice av R cv) R ys 0 0 (fun _ => 0) (.slice av R cv) wr from ⟨by
            have h := HY.out.1
            refine ⟨by simpa using h.1, ?_⟩
            rcases h.2 with h3 | ⟨g, c2, cur, e1, _, r⟩
            · exact .inl (by simpa using h3)
            · exact .inr ⟨g, c2, cur, by simpa using e1, Nat.zero_le _, by simpa using r⟩, .inr (.inl ⟨rfl, rfl⟩), HY.out.1, Only.refl _ _, fun q hq => by omega⟩)
          obtain ⟨w1, hw1⟩ : ∃ w1, w1 = wr := ⟨_, rfl⟩
          subst hw1
          go_wp2_with fail
          go_loopw [7, 8] (fun xv kk wr => ∃ (k : Nat) (D : Nat → Nat), k ≤ 8 ∧ kk = .int .i64 k ∧ Hid (ExtR w1 N (.slice av R cv) R ys k 0 D xv wr)) (fun _ kk _ => 8 - (intOf kk).toNat)
          case atStart => exact ⟨0, _, Nat.zero_le _, rfl, HST⟩
          case round =>
            clear HST
            obtain ⟨k, D, hk, rfl, HE⟩ := hrel
            obtain ⟨ax, cx, rfl⟩ := HE.out.shape
            obtain ⟨rk, hrk⟩ : ∃ rk, R + k = rk := ⟨_, rfl⟩
            by_cases hlt : k < 8
            · have hd : decide ((k : Int) < 8) = true := by simp; omega
              have hd2 : decide (k < 8) = true := by simp; omega
              have hms : (-97 + (k : Int) * 13) % 256 = ((mark2 0 k : Nat) : Int) := by unfold mark2; omega
              have hA1 := (Below.refl wr.heap.size wr).alloc (Nat.le_refl _) (.cells #[.int .u8 ((mark2 0 k : Nat) : Int)] 5)
              have hdc := (cell_of_row _ _ 0 _ _ _ (heap_alloc_new wr (.cells #[.int .u8 ((mark2 0 k : Nat) : Int)] 5)))
              have hdc2 : (wr.alloc (.cells #[.int .u8 ((mark2 0 k : Nat) : Int)] 5)).cell? ⟨wr.heap.size, 0, none⟩ = some (.int .u8 ((mark2 0 k : Nat) : Int)) := hdc.trans rfl
              have hA2 := (Below.refl (wr.alloc (.cells #[.int .u8 ((mark2 0 k : Nat) : Int)] 5)).heap.size (wr.alloc (.cells #[.int .u8 ((mark2 0 k : Nat) : Int)] 5))).alloc (Nat.le_refl _) (.cells #[one1 wr.heap.size] 23)
              have hW := hA1.trans (hA2.mono hA1.size)
              have HW := Lib.hid (And.intro hW (And.intro (cell_below hdc2 hA2) (show wr.heap.size < ((wr.alloc (.cells #[.int .u8 ((mark2 0 k : Nat) : Int)] 5)).alloc (.cells #[one1 wr.heap.size] 23)).heap.size by simp; omega)))
              have HOW := Lib.hid (show ((wr.alloc (.cells #[.int .u8 ((mark2 0 k : Nat) : Int)] 5)).alloc (.cells #[one1 wr.heap.size] 23)).ownsRow 0 23 1 (.slice ax rk cx) rk (ys ++ (List.range k).map fun q => one1 (D q)) from by
                have h := HE.out.own
                rw [hrk] at h
                exact owns_only h (Only.of_below hW []) (fun _ _ => by simp))
              have hsrc := one_any (wr.alloc (.cells #[.int .u8 ((mark2 0 k : Nat) : Int)] 5)) (one1 wr.heap.size) 23
              rw [show (wr.alloc (.cells #[.int .u8 ((mark2 0 k : Nat) : Int)] 5)).heap.size = wr.heap.size + 1 by simp] at hsrc
              have HSRC := Lib.hid hsrc
              have HONE := Lib.hid (show ∀ u ∈ ([one1 wr.heap.size] : List Value), u.oneCell' = true by simp [one1, Value.oneCell'])
              have HMX := Lib.hid (show rk + 1 ≤ maxLen ∧ (rk + 1) * 24 ≤ 140737488355328 from ⟨by unfold maxLen; omega, by omega⟩)
              have HRK := Lib.hid hrk
              rw [hrk]
              clear hA1 hdc hdc2 hA2 hW hsrc hrk
              go_wp2_with (at_builtin; refine wpList_append_goes _ rfl (.tmp 55) (.tmp 64) 25 rfl 23 i1 (.slice none 0 0) 1 24 Try.underlying25 HI1.out.1 HI1.out.2.1 HI1.out.2.2.1 HI1.out.2.2.2 rfl (by decide) (.slice ax rk cx) rk (ys ++ (List.range k).map fun q => one1 (D q)) rfl HOW.out ⟨wr.heap.size + 1, 0, none⟩ 1 1 [one1 wr.heap.size] rfl rfl HSRC.out HONE.out HMX.out.1 HMX.out.2 (by decide) ?_; intro v2 w2 hown2 hgo2; have HN := Lib.hid (HE.out.step (v' := v2) (w' := w2) HW.out.1 (Nat.le_refl _) HW.out.2.2 HW.out.2.1 (by rw [HRK.out]; exact hown2) (by rw [HRK.out]; exact hgo2) (fun g hg => ⟨(HLT.out g hg).2, (HLT.out g hg).1⟩)); obtain ⟨a2, c2, rfl⟩ := HN.out.shape; clear hown2 hgo2)
              go_wp2_with fail
              go_roundw
              case rel => exact ⟨k + 1, _, by omega, by go_num, HN⟩
              case measure => simp [intOf]; omega
            · obtain rfl : k = 8 := by omega
              have hd : decide (((8 : Nat) : Int) < 8) = false := by simp
              rw [hrk]
              have HRK := Lib.hid hrk
              have HONE := Lib.hid (show ∀ u ∈ ([.slice ax rk cx] : List Value), u.oneCell' = true by simp [Value.oneCell'])
              have HSRC := Lib.hid (one_any wr (.slice ax rk cx) 25)
              clear hrk
              go_wp2_with (at_builtin; refine wpList_append_own _ rfl (.tmp 66) (.tmp 68) 50 rfl wr.heap.size 25 i2 (.slice none 0 0) 1 24 Try.underlying50 HI2.out.1 HI2.out.2.1 HI2.out.2.2.1 HI2.out.2.2.2 rfl (by decide) (.slice none 0 0) 0 [] rfl (World.ownsRow_nil _ _ _ _) ⟨wr.heap.size, 0, none⟩ 1 1 [.slice ax rk cx] rfl rfl HSRC.out HONE.out (by decide) (by decide) (by simp) ?_; intro v2 w2 hown2 hgr2 _; have hb2 := ((Below.refl wr.heap.size wr).alloc (Nat.le_refl _) (.cells #[.slice ax rk cx] 25)).grown hgr2 (by simp) (fun k hk => by cases hk); obtain ⟨gl, cl, rfl, hgl⟩ := long_one hown2; have HL := Lib.hid (show ∃ xv D w3, w2.cell? ⟨gl, 0, none⟩ = some xv ∧ ExtR w1 N (.slice av R cv) R ys 8 0 D xv w3 ∧ Below w3.heap.size w3 w2 from ⟨_, D, wr, hgl, by have h := HE.out; rw [HRK.out] at h; exact h, hb2⟩); clear hown2 hgr2 hb2 hgl)
              go_wp2_with fail
              go_roundw
              case rel => exact .inr ⟨by go_num, gl, cl, rfl, HL⟩
              case measure => simp [intOf]
        · have HLK := Lib.hid (by
            obtain ⟨xv, D, w2, hgl, hE, hbw⟩ := HL.out
            have h := rows_look HC.out.2.1 HC.out.2.2 HQ1.out HY.out.2.1 HY.out.2.2 hgl hE hbw
            exact (⟨D, h⟩ : ∃ D : Nat → Nat, ∃ gx cx, wr.cell? ⟨gl, 0, none⟩ = some (.slice (some ⟨gx, 0, none⟩) (R + 8) cx) ∧ wr.cell? ⟨hu, 0, none⟩ = some (.slice av R cv) ∧ (∀ k, k < R → ∃ g, av = some ⟨g, 0, none⟩ ∧ wr.cell? ⟨g, k, none⟩ = some (.slice (some ⟨B k, 0, none⟩) 1 1) ∧ wr.cell? ⟨gx, k, none⟩ = some (.slice (some ⟨B k, 0, none⟩) 1 1) ∧ wr.cell? ⟨B k, 0, none⟩ = some (.int .u8 ((mark1 0 k : Nat) : Int))) ∧ (∀ k, k < 8 → wr.cell? ⟨gx, R + k, none⟩ = some (.slice (some ⟨D k, 0, none⟩) 1 1) ∧ wr.cell? ⟨D k, 0, none⟩ = some (.int .u8 ((mark2 0 k : Nat) : Int))) ∧ Only (Value.slice av R cv).ownBlock.toList w wr))
          obtain ⟨D, gx, cx, hgl, hqu, hB, hD, hO⟩ := HLK.out
          have HBD := Lib.hid (And.intro hB (And.intro hD hO))
          obtain ⟨r8, hr8⟩ : ∃ r8, R + 8 = r8 := ⟨_, rfl⟩
          rw [hr8] at hgl
          clear hB hD hO HLK HL HY
          go_wp2_with fail
          go_loop [9] (fun ii => ii = .int .i64 0 ∨ ii = .int .i64 1) (fun ii => 1 - (intOf ii).toNat)
          case atStart => exact .inl rfl
          case round =>
            rcases hrel with rfl | rfl
            · go_wp2_with fail
              go_loop [11] (fun kk => ∃ k : Nat, k ≤ R ∧ kk = .int .i64 k) (fun kk => R - (intOf kk).toNat)
              case atStart => exact ⟨0, Nat.zero_le _, rfl⟩
              case round =>
                obtain ⟨k, hk, rfl⟩ := hrel
                by_cases hlt : k < R
                · have hd : decide ((k : Int) < (R : Int)) = true := by simp; omega
                  have hd2 : decide (k < R) = true := by simp; omega
                  have hk8 : (k : Int) < (r8 : Int) := by omega
                  obtain ⟨g, rfl, k1, k2, k3⟩ := HBD.out.1 k hlt
                  have hms : (k : Int) * 13 % 256 = ((mark1 0 k : Nat) : Int) := by unfold mark1; omega
                  go_wp2_with fail
                  go_round
                  case rel => exact ⟨k + 1, by omega, by go_num⟩
                  case measure => simp [intOf]; omega
                · obtain rfl : k = R := by omega
                  have hd : decide ((k : Int) < (k : Int)) = false := by simp
                  go_wp2_with fail
                  go_loop [12] (fun kk => ∃ q : Nat, q ≤ 8 ∧ kk = .int .i64 q) (fun kk => 8 - (intOf kk).toNat)
                  case atStart => exact ⟨0, by omega, rfl⟩
                  case round =>
                    obtain ⟨q, hq, rfl⟩ := hrel
                    by_cases hlt2 : q < 8
                    · have hd3 : decide ((q : Int) < 8) = true := by simp; omega
                      have hd4 : decide (q < 8) = true := by simp; omega
                      obtain ⟨k1, k2⟩ := HBD.out.2.1 q hlt2
                      obtain ⟨kq, hkq⟩ : ∃ kq, k + q = kq := ⟨_, rfl⟩
                      have hkqi : (k : Int) + (q : Int) = (kq : Int) := by omega
                      have hkq8 : (kq : Int) < (r8 : Int) := by omega
                      rw [hkq] at k1
                      have hms : (-97 + (q : Int) * 13) % 256 = ((mark2 0 q : Nat) : Int) := by unfold mark2; omega
                      go_wp2_with fail
                      go_round
                      case rel => exact ⟨q + 1, by omega, by go_num⟩
                      case measure => simp [intOf]; omega
                    · obtain rfl : q = 8 := by omega
                      have hd3 : decide (((8 : Nat) : Int) < 8) = false := by simp
                      go_wp2_with fail
                      go_round
                      case rel => exact .inr (by go_num)
                      case measure => simp [intOf]
            · go_wp2_with fail
              go_ret
              exact ⟨rfl, HBD.out.2.2⟩
end Go.Proofs.Ytlegdaoidjpokaa.B2
namespace Go.Proofs.Ytlegdaoidjpokaa.B2
open Go.RowKit
set_option maxRecDepth 100000
theorem own40 (w : World) : Calls Try.prog 31 #[.slice none 0 0] w fun e w' => e = .returned (.bool true) ∧ w = w' := by
  go_enter Try.func31, Try.ntmps31
  go_wp2
  go_loop [3] (fun i => i = .int .i64 0) (fun _ => 0)
  case atStart => rfl
  case round =>
    obtain rfl := hrel
    go_wp2
    go_loop [6] (fun i => i = .int .i64 0) (fun _ => 0)
    case atStart => rfl
    case round =>
      obtain rfl := hrel
      go_wp2
      go_loop [9] (fun i => i = .int .i64 0) (fun _ => 0)
      case atStart => rfl
      case round =>
        obtain rfl := hrel
        go_wp2
        go_ret
        exact ⟨rfl, rfl⟩
theorem own41 (w : World) : Calls Try.prog 32 #[.slice none 0 0] w fun e w' => e = .returned (.bool true) ∧ w = w' := by
  go_enter Try.func32, Try.ntmps32
  go_wp2
  go_loop [3] (fun i => i = .int .i64 0) (fun _ => 0)
  case atStart => rfl
  case round =>
    obtain rfl := hrel
    go_wp2
    go_loop [6] (fun i => i = .int .i64 0) (fun _ => 0)
    case atStart => rfl
    case round =>
      obtain rfl := hrel
      go_wp2
      go_loop [9] (fun i => i = .int .i64 0) (fun _ => 0)
      case atStart => rfl
      case round =>
        obtain rfl := hrel
        go_wp2
        go_ret
        exact ⟨rfl, rfl⟩
theorem own42 (w : World) : Calls Try.prog 33 #[.slice none 0 0] w fun e w' => e = .returned (.bool true) ∧ w = w' := by
  go_enter Try.func33, Try.ntmps33
  go_wp2
  go_loop [3] (fun i => i = .int .i64 0) (fun _ => 0)
  case atStart => rfl
  case round =>
    obtain rfl := hrel
    go_wp2
    go_loop [6] (fun i => i = .int .i64 0) (fun _ => 0)
    case atStart => rfl
    case round =>
      obtain rfl := hrel
      go_wp2
      go_loop [9] (fun i => i = .int .i64 0) (fun _ => 0)
      case atStart => rfl
      case round =>
        obtain rfl := hrel
        go_wp2
        go_ret
        exact ⟨rfl, rfl⟩
theorem own43 (w : World) : Calls Try.prog 34 #[.slice none 0 0] w fun e w' => e = .returned (.bool true) ∧ w = w' := by
  go_enter Try.func34, Try.ntmps34
  go_wp2
  go_loop [3] (fun i => i = .int .i64 0) (fun _ => 0)
  case atStart => rfl
  case round =>
    obtain rfl := hrel
    go_wp2
    go_loop [6] (fun i => i = .int .i64 0) (fun _ => 0)
    case atStart => rfl
    case round =>
      obtain rfl := hrel
      go_wp2
      go_loop [9] (fun i => i = .int .i64 0) (fun _ => 0)
      case atStart => rfl
      case round =>
        obtain rfl := hrel
        go_wp2
        go_ret
        exact ⟨rfl, rfl⟩
theorem own44 (w : World) : Calls Try.prog 35 #[.slice none 0 0] w fun e w' => e = .returned (.bool true) ∧ w = w' := by
  go_enter Try.func35, Try.ntmps35
  go_wp2
  go_loop [3] (fun i => i = .int .i64 0) (fun _ => 0)
  case atStart => rfl
  case round =>
    obtain rfl := hrel
    go_wp2
    go_loop [6] (fun i => i = .int .i64 0) (fun _ => 0)
    case atStart => rfl
    case round =>
      obtain rfl := hrel
      go_wp2
      go_loop [9] (fun i => i = .int .i64 0) (fun _ => 0)
      case atStart => rfl
      case round =>
        obtain rfl := hrel
        go_wp2
        go_ret
        exact ⟨rfl, rfl⟩
theorem own45 (w : World) : Calls Try.prog 36 #[.slice none 0 0] w fun e w' => e = .returned (.bool true) ∧ w = w' := by
  go_enter Try.func36, Try.ntmps36
  go_wp2
  go_loop [3] (fun i => i = .int .i64 0) (fun _ => 0)
  case atStart => rfl
  case round =>
    obtain rfl := hrel
    go_wp2
    go_loop [6] (fun i => i = .int .i64 0) (fun _ => 0)
    case atStart => rfl
    case round =>
      obtain rfl := hrel
      go_wp2
      go_loop [9] (fun i => i = .int .i64 0) (fun _ => 0)
      case atStart => rfl
      case round =>
        obtain rfl := hrel
        go_wp2
        go_ret
        exact ⟨rfl, rfl⟩
theorem own46 (w : World) : Calls Try.prog 37 #[.slice none 0 0] w fun e w' => e = .returned (.bool true) ∧ w = w' := by
  go_enter Try.func37, Try.ntmps37
  go_wp2
  go_loop [3] (fun i => i = .int .i64 0) (fun _ => 0)
  case atStart => rfl
  case round =>
    obtain rfl := hrel
    go_wp2
    go_loop [6] (fun i => i = .int .i64 0) (fun _ => 0)
    case atStart => rfl
    case round =>
      obtain rfl := hrel
      go_wp2
      go_loop [9] (fun i => i = .int .i64 0) (fun _ => 0)
      case atStart => rfl
      case round =>
        obtain rfl := hrel
        go_wp2
        go_ret
        exact ⟨rfl, rfl⟩
theorem own47 (w : World) : Calls Try.prog 38 #[.slice none 0 0] w fun e w' => e = .returned (.bool true) ∧ w = w' := by
  go_enter Try.func38, Try.ntmps38
  go_wp2
  go_loop [3] (fun i => i = .int .i64 0) (fun _ => 0)
  case atStart => rfl
  case round =>
    obtain rfl := hrel
    go_wp2
    go_loop [6] (fun i => i = .int .i64 0) (fun _ => 0)
    case atStart => rfl
    case round =>
      obtain rfl := hrel
      go_wp2
      go_loop [9] (fun i => i = .int .i64 0) (fun _ => 0)
      case atStart => rfl
      case round =>
        obtain rfl := hrel
        go_wp2
        go_ret
        exact ⟨rfl, rfl⟩
theorem own48 (w : World) : Calls Try.prog 39 #[.slice none 0 0] w fun e w' => e = .returned (.bool true) ∧ w = w' := by
  go_enter Try.func39, Try.ntmps39
  go_wp2
  go_loop [3] (fun i => i = .int .i64 0) (fun _ => 0)
  case atStart => rfl
  case round =>
    obtain rfl := hrel
    go_wp2
    go_loop [6] (fun i => i = .int .i64 0) (fun _ => 0)
    case atStart => rfl
    case round =>
      obtain rfl := hrel
      go_wp2
      go_loop [9] (fun i => i = .int .i64 0) (fun _ => 0)
      case atStart => rfl
      case round =>
        obtain rfl := hrel
        go_wp2
        go_ret
        exact ⟨rfl, rfl⟩
theorem own49 (w : World) : Calls Try.prog 40 #[.slice none 0 0] w fun e w' => e = .returned (.bool true) ∧ w = w' := by
  go_enter Try.func40, Try.ntmps40
  go_wp2
  go_loop [3] (fun i => i = .int .i64 0) (fun _ => 0)
  case atStart => rfl
  case round =>
    obtain rfl := hrel
    go_wp2
    go_loop [6] (fun i => i = .int .i64 0) (fun _ => 0)
    case atStart => rfl
    case round =>
      obtain rfl := hrel
      go_wp2
      go_loop [9] (fun i => i = .int .i64 0) (fun _ => 0)
      case atStart => rfl
      case round =>
        obtain rfl := hrel
        go_wp2
        go_ret
        exact ⟨rfl, rfl⟩
theorem own50 (w : World) : Calls Try.prog 41 #[.slice none 0 0] w fun e w' => e = .returned (.bool true) ∧ w = w' := by
  go_enter Try.func41, Try.ntmps41
  go_wp2
  go_loop [3] (fun i => i = .int .i64 0) (fun _ => 0)
  case atStart => rfl
  case round =>
    obtain rfl := hrel
    go_wp2
    go_loop [6] (fun i => i = .int .i64 0) (fun _ => 0)
    case atStart => rfl
    case round =>
      obtain rfl := hrel
      go_wp2
      go_loop [9] (fun i => i = .int .i64 0) (fun _ => 0)
      case atStart => rfl
      case round =>
        obtain rfl := hrel
        go_wp2
        go_ret
        exact ⟨rfl, rfl⟩
theorem own51 (w : World) : Calls Try.prog 42 #[.slice none 0 0] w fun e w' => e = .returned (.bool true) ∧ w = w' := by
  go_enter Try.func42, Try.ntmps42
  go_wp2
  go_loop [3] (fun i => i = .int .i64 0) (fun _ => 0)
  case atStart => rfl
  case round =>
    obtain rfl := hrel
    go_wp2
    go_loop [6] (fun i => i = .int .i64 0) (fun _ => 0)
    case atStart => rfl
    case round =>
      obtain rfl := hrel
      go_wp2
      go_loop [9] (fun i => i = .int .i64 0) (fun _ => 0)
      case atStart => rfl
      case round =>
        obtain rfl := hrel
        go_wp2
        go_ret
        exact ⟨rfl, rfl⟩
theorem own52 (w : World) : Calls Try.prog 43 #[.slice none 0 0] w fun e w' => e = .returned (.bool true) ∧ w = w' := by
  go_enter Try.func43, Try.ntmps43
  go_wp2
  go_loop [3] (fun i => i = .int .i64 0) (fun _ => 0)
  case atStart => rfl
  case round =>
    obtain rfl := hrel
    go_wp2
    go_loop [6] (fun i => i = .int .i64 0) (fun _ => 0)
    case atStart => rfl
    case round =>
      obtain rfl := hrel
      go_wp2
      go_loop [9] (fun i => i = .int .i64 0) (fun _ => 0)
      case atStart => rfl
      case round =>
        obtain rfl := hrel
        go_wp2
        go_ret
        exact ⟨rfl, rfl⟩
theorem own53 (w : World) : Calls Try.prog 44 #[.slice none 0 0] w fun e w' => e = .returned (.bool true) ∧ w = w' := by
  go_enter Try.func44, Try.ntmps44
  go_wp2
  go_loop [3] (fun i => i = .int .i64 0) (fun _ => 0)
  case atStart => rfl
  case round =>
    obtain rfl := hrel
    go_wp2
    go_loop [6] (fun i => i = .int .i64 0) (fun _ => 0)
    case atStart => rfl
    case round =>
      obtain rfl := hrel
      go_wp2
      go_loop [9] (fun i => i = .int .i64 0) (fun _ => 0)
      case atStart => rfl
      case round =>
        obtain rfl := hrel
        go_wp2
        go_ret
        exact ⟨rfl, rfl⟩
theorem own54 (w : World) : Calls Try.prog 45 #[.slice none 0 0] w fun e w' => e = .returned (.bool true) ∧ w = w' := by
  go_enter Try.func45, Try.ntmps45
  go_wp2
  go_loop [3] (fun i => i = .int .i64 0) (fun _ => 0)
  case atStart => rfl
  case round =>
    obtain rfl := hrel
    go_wp2
    go_loop [6] (fun i => i = .int .i64 0) (fun _ => 0)
    case atStart => rfl
    case round =>
      obtain rfl := hrel
      go_wp2
      go_loop [9] (fun i => i = .int .i64 0) (fun _ => 0)
      case atStart => rfl
      case round =>
        obtain rfl := hrel
        go_wp2
        go_ret
        exact ⟨rfl, rfl⟩
end Go.Proofs.Ytlegdaoidjpokaa.B2
namespace Go.Proofs.Ytlegdaoidjpokaa.B2
open Go.RowKit
set_option maxRecDepth 100000
theorem own55 (w : World) : Calls Try.prog 46 #[.slice none 0 0] w fun e w' => e = .returned (.bool true) ∧ w = w' := by
  go_enter Try.func46, Try.ntmps46
  go_wp2
  go_loop [3] (fun i => i = .int .i64 0) (fun _ => 0)
  case atStart => rfl
  case round =>
    obtain rfl := hrel
    go_wp2
    go_loop [6] (fun i => i = .int .i64 0) (fun _ => 0)
    case atStart => rfl
    case round =>
      obtain rfl := hrel
      go_wp2
      go_loop [9] (fun i => i = .int .i64 0) (fun _ => 0)
      case atStart => rfl
      case round =>
        obtain rfl := hrel
        go_wp2
        go_ret
        exact ⟨rfl, rfl⟩
theorem own56 (w : World) : Calls Try.prog 47 #[.slice none 0 0] w fun e w' => e = .returned (.bool true) ∧ w = w' := by
  go_enter Try.func47, Try.ntmps47
  go_wp2
  go_loop [3] (fun i => i = .int .i64 0) (fun _ => 0)
  case atStart => rfl
  case round =>
    obtain rfl := hrel
    go_wp2
    go_loop [6] (fun i => i = .int .i64 0) (fun _ => 0)
    case atStart => rfl
    case round =>
      obtain rfl := hrel
      go_wp2
      go_loop [9] (fun i => i = .int .i64 0) (fun _ => 0)
      case atStart => rfl
      case round =>
        obtain rfl := hrel
        go_wp2
        go_ret
        exact ⟨rfl, rfl⟩
theorem own57 (w : World) : Calls Try.prog 48 #[.slice none 0 0] w fun e w' => e = .returned (.bool true) ∧ w = w' := by
  go_enter Try.func48, Try.ntmps48
  go_wp2
  go_loop [3] (fun i => i = .int .i64 0) (fun _ => 0)
  case atStart => rfl
  case round =>
    obtain rfl := hrel
    go_wp2
    go_loop [6] (fun i => i = .int .i64 0) (fun _ => 0)
    case atStart => rfl
    case round =>
      obtain rfl := hrel
      go_wp2
      go_loop [9] (fun i => i = .int .i64 0) (fun _ => 0)
      case atStart => rfl
      case round =>
        obtain rfl := hrel
        go_wp2
        go_ret
        exact ⟨rfl, rfl⟩
theorem own58 (w : World) : Calls Try.prog 49 #[.slice none 0 0] w fun e w' => e = .returned (.bool true) ∧ w = w' := by
  go_enter Try.func49, Try.ntmps49
  go_wp2
  go_loop [3] (fun i => i = .int .i64 0) (fun _ => 0)
  case atStart => rfl
  case round =>
    obtain rfl := hrel
    go_wp2
    go_loop [6] (fun i => i = .int .i64 0) (fun _ => 0)
    case atStart => rfl
    case round =>
      obtain rfl := hrel
      go_wp2
      go_loop [9] (fun i => i = .int .i64 0) (fun _ => 0)
      case atStart => rfl
      case round =>
        obtain rfl := hrel
        go_wp2
        go_ret
        exact ⟨rfl, rfl⟩
theorem own59 (w : World) : Calls Try.prog 50 #[.slice none 0 0] w fun e w' => e = .returned (.bool true) ∧ w = w' := by
  go_enter Try.func50, Try.ntmps50
  go_wp2
  go_loop [3] (fun i => i = .int .i64 0) (fun _ => 0)
  case atStart => rfl
  case round =>
    obtain rfl := hrel
    go_wp2
    go_loop [6] (fun i => i = .int .i64 0) (fun _ => 0)
    case atStart => rfl
    case round =>
      obtain rfl := hrel
      go_wp2
      go_loop [9] (fun i => i = .int .i64 0) (fun _ => 0)
      case atStart => rfl
      case round =>
        obtain rfl := hrel
        go_wp2
        go_ret
        exact ⟨rfl, rfl⟩
theorem own60 (w : World) : Calls Try.prog 51 #[.slice none 0 0] w fun e w' => e = .returned (.bool true) ∧ w = w' := by
  go_enter Try.func51, Try.ntmps51
  go_wp2
  go_loop [3] (fun i => i = .int .i64 0) (fun _ => 0)
  case atStart => rfl
  case round =>
    obtain rfl := hrel
    go_wp2
    go_loop [6] (fun i => i = .int .i64 0) (fun _ => 0)
    case atStart => rfl
    case round =>
      obtain rfl := hrel
      go_wp2
      go_loop [9] (fun i => i = .int .i64 0) (fun _ => 0)
      case atStart => rfl
      case round =>
        obtain rfl := hrel
        go_wp2
        go_ret
        exact ⟨rfl, rfl⟩
theorem own61 (w : World) : Calls Try.prog 52 #[.slice none 0 0] w fun e w' => e = .returned (.bool true) ∧ w = w' := by
  go_enter Try.func52, Try.ntmps52
  go_wp2
  go_loop [3] (fun i => i = .int .i64 0) (fun _ => 0)
  case atStart => rfl
  case round =>
    obtain rfl := hrel
    go_wp2
    go_loop [6] (fun i => i = .int .i64 0) (fun _ => 0)
    case atStart => rfl
    case round =>
      obtain rfl := hrel
      go_wp2
      go_loop [9] (fun i => i = .int .i64 0) (fun _ => 0)
      case atStart => rfl
      case round =>
        obtain rfl := hrel
        go_wp2
        go_ret
        exact ⟨rfl, rfl⟩
theorem own62 (w : World) : Calls Try.prog 53 #[.slice none 0 0] w fun e w' => e = .returned (.bool true) ∧ w = w' := by
  go_enter Try.func53, Try.ntmps53
  go_wp2
  go_loop [3] (fun i => i = .int .i64 0) (fun _ => 0)
  case atStart => rfl
  case round =>
    obtain rfl := hrel
    go_wp2
    go_loop [6] (fun i => i = .int .i64 0) (fun _ => 0)
    case atStart => rfl
    case round =>
      obtain rfl := hrel
      go_wp2
      go_loop [9] (fun i => i = .int .i64 0) (fun _ => 0)
      case atStart => rfl
      case round =>
        obtain rfl := hrel
        go_wp2
        go_ret
        exact ⟨rfl, rfl⟩
theorem own63 (w : World) : Calls Try.prog 54 #[.slice none 0 0] w fun e w' => e = .returned (.bool true) ∧ w = w' := by
  go_enter Try.func54, Try.ntmps54
  go_wp2
  go_loop [3] (fun i => i = .int .i64 0) (fun _ => 0)
  case atStart => rfl
  case round =>
    obtain rfl := hrel
    go_wp2
    go_loop [6] (fun i => i = .int .i64 0) (fun _ => 0)
    case atStart => rfl
    case round =>
      obtain rfl := hrel
      go_wp2
      go_loop [9] (fun i => i = .int .i64 0) (fun _ => 0)
      case atStart => rfl
      case round =>
        obtain rfl := hrel
        go_wp2
        go_ret
        exact ⟨rfl, rfl⟩
theorem own64 (w : World) : Calls Try.prog 55 #[.slice none 0 0] w fun e w' => e = .returned (.bool true) ∧ w = w' := by
  go_enter Try.func55, Try.ntmps55
  go_wp2
  go_loop [3] (fun i => i = .int .i64 0) (fun _ => 0)
  case atStart => rfl
  case round =>
    obtain rfl := hrel
    go_wp2
    go_loop [6] (fun i => i = .int .i64 0) (fun _ => 0)
    case atStart => rfl
    case round =>
      obtain rfl := hrel
      go_wp2
      go_loop [9] (fun i => i = .int .i64 0) (fun _ => 0)
      case atStart => rfl
      case round =>
        obtain rfl := hrel
        go_wp2
        go_ret
        exact ⟨rfl, rfl⟩
theorem own65 (w : World) : Calls Try.prog 56 #[.slice none 0 0] w fun e w' => e = .returned (.bool true) ∧ w = w' := by
  go_enter Try.func56, Try.ntmps56
  go_wp2
  go_loop [3] (fun i => i = .int .i64 0) (fun _ => 0)
  case atStart => rfl
  case round =>
    obtain rfl := hrel
    go_wp2
    go_loop [6] (fun i => i = .int .i64 0) (fun _ => 0)
    case atStart => rfl
    case round =>
      obtain rfl := hrel
      go_wp2
      go_loop [9] (fun i => i = .int .i64 0) (fun _ => 0)
      case atStart => rfl
      case round =>
        obtain rfl := hrel
        go_wp2
        go_ret
        exact ⟨rfl, rfl⟩
theorem own66 (w : World) : Calls Try.prog 57 #[.slice none 0 0] w fun e w' => e = .returned (.bool true) ∧ w = w' := by
  go_enter Try.func57, Try.ntmps57
  go_wp2
  go_loop [3] (fun i => i = .int .i64 0) (fun _ => 0)
  case atStart => rfl
  case round =>
    obtain rfl := hrel
    go_wp2
    go_loop [6] (fun i => i = .int .i64 0) (fun _ => 0)
    case atStart => rfl
    case round =>
      obtain rfl := hrel
      go_wp2
      go_loop [9] (fun i => i = .int .i64 0) (fun _ => 0)
      case atStart => rfl
      case round =>
        obtain rfl := hrel
        go_wp2
        go_ret
        exact ⟨rfl, rfl⟩
theorem own67 (w : World) : Calls Try.prog 58 #[.slice none 0 0] w fun e w' => e = .returned (.bool true) ∧ w = w' := by
  go_enter Try.func58, Try.ntmps58
  go_wp2
  go_loop [3] (fun i => i = .int .i64 0) (fun _ => 0)
  case atStart => rfl
  case round =>
    obtain rfl := hrel
    go_wp2
    go_loop [6] (fun i => i = .int .i64 0) (fun _ => 0)
    case atStart => rfl
    case round =>
      obtain rfl := hrel
      go_wp2
      go_loop [9] (fun i => i = .int .i64 0) (fun _ => 0)
      case atStart => rfl
      case round =>
        obtain rfl := hrel
        go_wp2
        go_ret
        exact ⟨rfl, rfl⟩
theorem own69 (w : World) : Calls Try.prog 60 #[.slice none 0 0] w fun e w' => e = .returned (.bool true) ∧ w = w' := by
  go_enter Try.func60, Try.ntmps60
  go_wp2
  go_loop [3] (fun i => i = .int .i64 0) (fun _ => 0)
  case atStart => rfl
  case round =>
    obtain rfl := hrel
    go_wp2
    go_loop [6] (fun i => i = .int .i64 0) (fun _ => 0)
    case atStart => rfl
    case round =>
      obtain rfl := hrel
      go_wp2
      go_loop [9] (fun i => i = .int .i64 0) (fun _ => 0)
      case atStart => rfl
      case round =>
        obtain rfl := hrel
        go_wp2
        go_ret
        exact ⟨rfl, rfl⟩
theorem own70 (w : World) : Calls Try.prog 61 #[.slice none 0 0] w fun e w' => e = .returned (.bool true) ∧ w = w' := by
  go_enter Try.func61, Try.ntmps61
  go_wp2
  go_loop [3] (fun i => i = .int .i64 0) (fun _ => 0)
  case atStart => rfl
  case round =>
    obtain rfl := hrel
    go_wp2
    go_loop [6] (fun i => i = .int .i64 0) (fun _ => 0)
    case atStart => rfl
    case round =>
      obtain rfl := hrel
      go_wp2
      go_loop [9] (fun i => i = .int .i64 0) (fun _ => 0)
      case atStart => rfl
      case round =>
        obtain rfl := hrel
        go_wp2
        go_ret
        exact ⟨rfl, rfl⟩
end Go.Proofs.Ytlegdaoidjpokaa.B2
namespace Go.Proofs.Ytlegdaoidjpokaa.B2
open Go.RowKit
set_option linter.unusedVariables false
set_option linter.unusedSimpArgs false
theorem BookAt2.outer {u : Value} {w : World} {pb h n : Nat} {X : Nat → Value} (H : BookAt2 u w pb h n X) : ∃ a cap, w.heap[pb]? = some (.cells (bk2 u (.slice a n cap)) 65 (0, 0)) ∧ Outer w a h n X := by
  obtain ⟨v, h1, h2, rfl, h4⟩ := H
  rcases h2.2 with ⟨rfl, rfl⟩ | ⟨g, cap, cur, hv, hg⟩
  · exact ⟨none, 0, h1, fun h0 => by omega⟩
  · have hc := h2.cells (g := g) (by rw [hv]; rfl)
    have hl := (h2.lt g (by rw [hv]; rfl)).2
    subst hv
    refine ⟨_, cap, h1, fun _ => ⟨rfl, hl, fun i hi => ?_⟩⟩
    have := hc i (X i) (by simp [hi])
    rw [add_here] at this
    exact this
theorem bk2_cellL {w : World} {pb : Nat} {u v : Value} (h : w.heap[pb]? = some (.cells (bk2 u v) 65 (0, 0))) (k : Nat) (hk : k < 17) : w.cell? ⟨pb, k + 1, none⟩ = some (.slice none 0 0) := by
  rw [cell_of_row _ _ _ _ _ _ h]; exact bk2_low u v k hk
theorem bk2_cellH {w : World} {pb : Nat} {u v : Value} (h : w.heap[pb]? = some (.cells (bk2 u v) 65 (0, 0))) (k : Nat) (hk : k < 13) : w.cell? ⟨pb, k + 19, none⟩ = some (.slice none 0 0) := by
  rw [cell_of_row _ _ _ _ _ _ h]; exact bk2_high u v k hk
set_option maxRecDepth 100000 in
set_option maxHeartbeats 4000000 in
theorem own2_any (pb h n N hu cu R : Nat) (av : Option Addr) (cv : Nat) (ys0 : List Value) (TT : List Nat) (X : Nat → Value) (L : Nat → Nat) (w : World) (H : BookAt2 (.slice (some ⟨hu, 0, none⟩) 1 cu) w pb h n X) (hTT : ∀ j g, (X j).ownBlock = some g → g ∈ TT) (hpT : pb ∉ TT) (hhT : hu ∉ TT)
    (hgT : ∀ g, (Value.slice av R cv).ownBlock = some g → g ∉ TT ∧ g ≠ pb ∧ g ≠ hu) (hcu : w.cell? ⟨hu, 0, none⟩ = some (.slice av R cv)) (hown : w.ownsRow N 23 1 (.slice av R cv) R ys0) (hR : R ≤ 100000)
    (P : Places N w.heap.size h X) (hR2 : ∃ C, Lots w N X C ∧ ∀ j, (C j).length = L j) (hn : n ≤ 1000) (hL : ∀ j, L j ≤ 1000000) (hz : ∀ j, n ≤ j → L j = 0) :
    Calls Try.prog 16 #[.pointer (some ⟨pb, 0, none⟩)] w fun e w' => e = .returned (.bool true) ∧ Only (TT ++ (Value.slice av R cv).ownBlock.toList) w w' := by
  obtain ⟨a, cap, hb, hO⟩ := H.outer
  have hpl := (Array.getElem?_eq_some_iff.1 hb).1
  have c0 : w.cell? ⟨pb, 0, none⟩ = some (.slice a n cap) := by rw [cell_of_row _ _ _ _ _ _ hb]; rfl
  have HB := Lib.hid hb
  have HO := Lib.hid hO
  have HP := Lib.hid P
  have HR := Lib.hid hR2
  have HL := Lib.hid hL
  have HZ := Lib.hid hz
  have HT := Lib.hid (And.intro hTT (And.intro hpT (And.intro hhT hgT)))
  have HU := Lib.hid (And.intro hcu hown)
  clear H hb hO P hR2 hL hz hTT hpT hhT hgT hcu hown
  go_enter Try.func16, Try.ntmps16
  go_wp2_with fail
  refine (ownbytesT_any TT a h n cap N X L _ HT.out.1 HP.out HO.out HR.out hn HL.out HZ.out).mono ?_
  rintro e w1 ⟨rfl, hb1⟩
  have hbk : w1.heap[pb]? = some (.cells (bk2 (.slice (some ⟨hu, 0, none⟩) 1 cu) (.slice a n cap)) 65 (0, 0)) := (hb1.block pb hpl HT.out.2.1).trans HB.out
  have hpl1 := (Array.getElem?_eq_some_iff.1 hbk).1
  have B1 := Lib.hid hb1
  have BK := Lib.hid hbk
  clear hb1 hbk c0
  have c1 : w1.cell? ⟨pb, 1, none⟩ = some (.slice none 0 0) := bk2_cellL BK.out 0 (by decide)
  go_wp2_with fail
  refine (own40 _).mono ?_
  rintro e wx ⟨rfl, hww⟩
  subst hww
  clear c1
  have c2 : w1.cell? ⟨pb, 2, none⟩ = some (.slice none 0 0) := bk2_cellL BK.out 1 (by decide)
  go_wp2_with fail
  refine (own41 _).mono ?_
  rintro e wx ⟨rfl, hww⟩
  subst hww
  clear c2
  have c3 : w1.cell? ⟨pb, 3, none⟩ = some (.slice none 0 0) := bk2_cellL BK.out 2 (by decide)
  go_wp2_with fail
  refine (own42 _).mono ?_
  rintro e wx ⟨rfl, hww⟩
  subst hww
  clear c3
  have c4 : w1.cell? ⟨pb, 4, none⟩ = some (.slice none 0 0) := bk2_cellL BK.out 3 (by decide)
  go_wp2_with fail
  refine (own43 _).mono ?_
  rintro e wx ⟨rfl, hww⟩
  subst hww
  clear c4
  have c5 : w1.cell? ⟨pb, 5, none⟩ = some (.slice none 0 0) := bk2_cellL BK.out 4 (by decide)
  go_wp2_with fail
  refine (own44 _).mono ?_
  rintro e wx ⟨rfl, hww⟩
  subst hww
  clear c5
  have c6 : w1.cell? ⟨pb, 6, none⟩ = some (.slice none 0 0) := bk2_cellL BK.out 5 (by decide)
  go_wp2_with fail
  refine (own45 _).mono ?_
  rintro e wx ⟨rfl, hww⟩
  subst hww
  clear c6
  have c7 : w1.cell? ⟨pb, 7, none⟩ = some (.slice none 0 0) := bk2_cellL BK.out 6 (by decide)
  go_wp2_with fail
  refine (own46 _).mono ?_
  rintro e wx ⟨rfl, hww⟩
  subst hww
  clear c7
  have c8 : w1.cell? ⟨pb, 8, none⟩ = some (.slice none 0 0) := bk2_cellL BK.out 7 (by decide)
  go_wp2_with fail
  refine (own47 _).mono ?_
  rintro e wx ⟨rfl, hww⟩
  subst hww
  clear c8
  have c9 : w1.cell? ⟨pb, 9, none⟩ = some (.slice none 0 0) := bk2_cellL BK.out 8 (by decide)
  go_wp2_with fail
  refine (own48 _).mono ?_
  rintro e wx ⟨rfl, hww⟩
  subst hww
  clear c9
  have c10 : w1.cell? ⟨pb, 10, none⟩ = some (.slice none 0 0) := bk2_cellL BK.out 9 (by decide)
  go_wp2_with fail
  refine (own49 _).mono ?_
  rintro e wx ⟨rfl, hww⟩
  subst hww
  clear c10
  have c11 : w1.cell? ⟨pb, 11, none⟩ = some (.slice none 0 0) := bk2_cellL BK.out 10 (by decide)
  go_wp2_with fail
  refine (own50 _).mono ?_
  rintro e wx ⟨rfl, hww⟩
  subst hww
  clear c11
  have c12 : w1.cell? ⟨pb, 12, none⟩ = some (.slice none 0 0) := bk2_cellL BK.out 11 (by decide)
  go_wp2_with fail
  refine (own51 _).mono ?_
  rintro e wx ⟨rfl, hww⟩
  subst hww
  clear c12
  have c13 : w1.cell? ⟨pb, 13, none⟩ = some (.slice none 0 0) := bk2_cellL BK.out 12 (by decide)
  go_wp2_with fail
  refine (own52 _).mono ?_
  rintro e wx ⟨rfl, hww⟩
  subst hww
  clear c13
  have c14 : w1.cell? ⟨pb, 14, none⟩ = some (.slice none 0 0) := bk2_cellL BK.out 13 (by decide)
  go_wp2_with fail
  refine (own53 _).mono ?_
  rintro e wx ⟨rfl, hww⟩
  subst hww
  clear c14
  have c15 : w1.cell? ⟨pb, 15, none⟩ = some (.slice none 0 0) := bk2_cellL BK.out 14 (by decide)
  go_wp2_with fail
  refine (own54 _).mono ?_
  rintro e wx ⟨rfl, hww⟩
  subst hww
  clear c15
  have c16 : w1.cell? ⟨pb, 16, none⟩ = some (.slice none 0 0) := bk2_cellL BK.out 15 (by decide)
  go_wp2_with fail
  refine (own55 _).mono ?_
  rintro e wx ⟨rfl, hww⟩
  subst hww
  clear c16
  have c17 : w1.cell? ⟨pb, 17, none⟩ = some (.slice none 0 0) := bk2_cellL BK.out 16 (by decide)
  go_wp2_with fail
  refine (own56 _).mono ?_
  rintro e wx ⟨rfl, hww⟩
  subst hww
  clear c17
  have c18 : w1.cell? ⟨pb, 18, none⟩ = some (.slice (some ⟨hu, 0, none⟩) 1 cu) := by rw [cell_of_row _ _ _ _ _ _ BK.out]; exact bk2_rows _ _
  have CR := Lib.hid (ownrows_any hu cu N R av cv ys0 w1 (Only_cell B1.out HU.out.1 HT.out.2.2.1) (owns_only HU.out.2 B1.out (fun g hg => (HT.out.2.2.2 g hg).1)) (fun h => (HT.out.2.2.2 _ h).2.2 rfl) hR)
  go_wp2_with fail
  refine (CR.out).mono ?_
  rintro e w3 ⟨rfl, hb3⟩
  have hbk3 : w3.heap[pb]? = some (.cells (bk2 (.slice (some ⟨hu, 0, none⟩) 1 cu) (.slice a n cap)) 65 (0, 0)) := (hb3.block pb hpl1 (fun hm => (HT.out.2.2.2 pb (by simpa using hm)).2.1 rfl)).trans BK.out
  have hpl3 := (Array.getElem?_eq_some_iff.1 hbk3).1
  have B3 := Lib.hid (show Only (TT ++ (Value.slice av R cv).ownBlock.toList) w w3 from (B1.out.mono (fun x hx => List.mem_append_left _ hx)).trans hb3 (fun x hx => .inl (List.mem_append_right _ hx)))
  replace BK := Lib.hid hbk3
  clear c18 CR hb3 hbk3
  have c19 : w3.cell? ⟨pb, 19, none⟩ = some (.slice none 0 0) := bk2_cellH BK.out 0 (by decide)
  go_wp2_with fail
  refine (own58 _).mono ?_
  rintro e wx ⟨rfl, hww⟩
  subst hww
  clear c19
  have c20 : w3.cell? ⟨pb, 20, none⟩ = some (.slice none 0 0) := bk2_cellH BK.out 1 (by decide)
  go_wp2_with fail
  refine (own59 _).mono ?_
  rintro e wx ⟨rfl, hww⟩
  subst hww
  clear c20
  have c21 : w3.cell? ⟨pb, 21, none⟩ = some (.slice none 0 0) := bk2_cellH BK.out 2 (by decide)
  go_wp2_with fail
  refine (own60 _).mono ?_
  rintro e wx ⟨rfl, hww⟩
  subst hww
  clear c21
  have c22 : w3.cell? ⟨pb, 22, none⟩ = some (.slice none 0 0) := bk2_cellH BK.out 3 (by decide)
  go_wp2_with fail
  refine (own61 _).mono ?_
  rintro e wx ⟨rfl, hww⟩
  subst hww
  clear c22
  have c23 : w3.cell? ⟨pb, 23, none⟩ = some (.slice none 0 0) := bk2_cellH BK.out 4 (by decide)
  go_wp2_with fail
  refine (own62 _).mono ?_
  rintro e wx ⟨rfl, hww⟩
  subst hww
  clear c23
  have c24 : w3.cell? ⟨pb, 24, none⟩ = some (.slice none 0 0) := bk2_cellH BK.out 5 (by decide)
  go_wp2_with fail
  refine (own63 _).mono ?_
  rintro e wx ⟨rfl, hww⟩
  subst hww
  clear c24
  have c25 : w3.cell? ⟨pb, 25, none⟩ = some (.slice none 0 0) := bk2_cellH BK.out 6 (by decide)
  go_wp2_with fail
  refine (own64 _).mono ?_
  rintro e wx ⟨rfl, hww⟩
  subst hww
  clear c25
  have c26 : w3.cell? ⟨pb, 26, none⟩ = some (.slice none 0 0) := bk2_cellH BK.out 7 (by decide)
  go_wp2_with fail
  refine (own65 _).mono ?_
  rintro e wx ⟨rfl, hww⟩
  subst hww
  clear c26
  have c27 : w3.cell? ⟨pb, 27, none⟩ = some (.slice none 0 0) := bk2_cellH BK.out 8 (by decide)
  go_wp2_with fail
  refine (own66 _).mono ?_
  rintro e wx ⟨rfl, hww⟩
  subst hww
  clear c27
  have c28 : w3.cell? ⟨pb, 28, none⟩ = some (.slice none 0 0) := bk2_cellH BK.out 9 (by decide)
  go_wp2_with fail
  refine (own67 _).mono ?_
  rintro e wx ⟨rfl, hww⟩
  subst hww
  clear c28
  have c29 : w3.cell? ⟨pb, 29, none⟩ = some (.slice none 0 0) := bk2_cellH BK.out 10 (by decide)
  go_wp2_with fail
  refine (own68 _).mono ?_
  rintro e w2 ⟨rfl, hb2⟩
  have B2 := Lib.hid (B3.out.trans (Only.of_below hb2 []) (fun x hx => by simp at hx))
  replace BK := Lib.hid ((hb2.block pb hpl3).trans BK.out)
  clear hb2 c29
  have c30 : w2.cell? ⟨pb, 30, none⟩ = some (.slice none 0 0) := bk2_cellH BK.out 11 (by decide)
  go_wp2_with fail
  refine (own69 _).mono ?_
  rintro e wx ⟨rfl, hww⟩
  subst hww
  clear c30
  have c31 : w2.cell? ⟨pb, 31, none⟩ = some (.slice none 0 0) := bk2_cellH BK.out 12 (by decide)
  go_wp2_with fail
  refine (own70 _).mono ?_
  rintro e wx ⟨rfl, hww⟩
  subst hww
  clear c31
  go_wp2
  go_ret
  exact ⟨rfl, B2.out⟩
end Go.Proofs.Ytlegdaoidjpokaa.B2
namespace Go.Proofs.Ytlegdaoidjpokaa.B2
open Go.RowKit
set_option linter.unusedVariables false
set_option linter.unusedSimpArgs false
theorem info53' : (Try.prog.info? 25).map (fun i => (i.zero, i.size, i.bytes)) = some (some (.slice none 0 0), 1, 24) := by kernel_rfl
theorem bk_two (u : Value) : (bk (.slice none 0 0)).setIfInBounds 18 u = bk2 u (.slice none 0 0) := rfl
/-- while rows are put into the book -/
structure RowsAt (w wr : World) (u v : Value) (pb hu h j : Nat) (X : Nat → Value) : Prop where
  book : BookAt2 u wr pb h j X
  low : h = pb ∨ w.heap.size ≤ h
  only : Only [pb] w wr
  list : ∃ cur : Array Value, wr.heap[hu]? = some (.cells cur 25 (0, 0)) ∧ cur[0]? = some v
theorem RowsAt.next {w wr w' : World} {u v : Value} {pb hu h h' j : Nat} {X : Nat → Value} (H : RowsAt w wr u v pb hu h j X) (hp : pb ≠ hu) (hb : BookAt2 u w' pb h' (j + 1) X) (hl : h' = h ∨ wr.heap.size ≤ h') (ho : Only [pb, h] wr w') : RowsAt w w' u v pb hu h' (j + 1) X := by
  have hs := H.only.size
  refine ⟨hb, ?_, H.only.trans ho (fun x hx => ?_), ?_⟩
  · have := H.low; omega
  · rcases List.mem_cons.1 hx with h1 | h1
    · exact .inl (by simp [h1])
    · rcases H.low with h2 | h2
      · exact .inl (by simp at h1; simp [h1, h2])
      · exact .inr (by simp at h1; omega)
  · obtain ⟨cur, h1, h2⟩ := H.list
    have hne : hu ≠ h := by
      intro e
      subst e
      obtain ⟨v3, k1, k2, k3, k4⟩ := H.book
      cases e3 : v3.ownBlock with
      | none => rw [e3] at k3; exact hp k3.symm
      | some g =>
        rw [e3] at k3
        have k3 : hu = g := k3
        subst k3
        rcases k2.2 with ⟨hv, _⟩ | ⟨g2, c2, cur2, hv, _, hh, _⟩
        · rw [hv] at e3; cases e3
        · rw [hv] at e3
          injection e3 with e3
          have e3 : g2 = hu := e3
          subst e3
          rw [h1] at hh
          injection hh with hh
          injection hh with _ hh
          exact absurd hh (by decide)
    exact ⟨cur, (ho.block hu (Array.getElem?_eq_some_iff.1 h1).1 (by simp; exact ⟨fun e => hp e.symm, hne⟩)).trans h1, h2⟩
theorem OutR.at_ {w wr : World} {N pb : Nat} {v : Value} {rs : List (List Nat)} {X : Nat → Value} (H : OutR w N v rs X) {cs : Array Value} (hb : w.heap[pb]? = some (.cells cs 65 (0, 0))) (ho : Only [pb] w wr) (j : Nat) (hj : j < rs.length) : ∃ g c a m cap, v = .slice (some ⟨g, 0, none⟩) rs.length c ∧ wr.cell? ⟨g, j, none⟩ = some (.slice a m cap) ∧ X j = .slice a m cap := by
  obtain ⟨g, c, xa, xc, hv, hc, hx⟩ := H.cell j hj
  refine ⟨g, c, xa, _, xc, hv, Only_cell ho hc (fun hm => ?_), hx⟩
  have e : g = pb := by simpa using hm
  subst e
  rcases H.row.2 with ⟨h1, _⟩ | ⟨g2, c2, cur2, hv2, _, hh, _⟩
  · rw [hv] at h1; cases h1
  · rw [hv] at hv2
    cases hv2
    rw [hb] at hh
    injection hh with hh
    injection hh with _ hh
    exact absurd hh (by decide)
set_option maxRecDepth 100000 in
set_option maxHeartbeats 4000000 in
theorem bookrows_any (pb N : Nat) (v : Value) (rs : List (List Nat)) (X : Nat → Value) (w : World) (hb : w.heap[pb]? = some (.cells (bk (.slice none 0 0)) 65 (0, 0))) (H : OutR w N v rs X) (hR : rs.length ≤ 900) :
    Calls Try.prog 13 #[.pointer (some ⟨pb, 0, none⟩), v] w fun e w' => e = .returned (.tuple #[]) ∧ ∃ h hu cu, BookAt2 (.slice (some ⟨hu, 0, none⟩) 1 cu) w' pb h rs.length X ∧ w.heap.size ≤ hu ∧ hu < w'.heap.size ∧ w'.cell? ⟨hu, 0, none⟩ = some v ∧ (h = pb ∨ w.heap.size ≤ h) ∧ Only [pb] w w' := by
  obtain ⟨i2, hi2, hx0, hx1, hx2⟩ := info_parts info53'
  have HI := Lib.hid (And.intro hi2 (And.intro hx0 (And.intro hx1 hx2)))
  have HB := Lib.hid hb
  have HO := Lib.hid H
  have hpl := (Array.getElem?_eq_some_iff.1 hb).1
  obtain ⟨R, hRe⟩ : ∃ R, rs.length = R := ⟨_, rfl⟩
  have HRE := Lib.hid hRe
  obtain ⟨av, cv, rfl⟩ : ∃ a c, v = .slice a R c := by rw [← hRe]; exact H.shape
  have q18 : w.cell? ⟨pb, 18, none⟩ = some (.slice none 0 0) := by rw [cell_of_row _ _ _ _ _ _ hb]; rfl
  have f18 : w.frozen? ⟨pb, 18, none⟩ = false := frozen_of_row _ _ _ _ _ hb
  have HSRC := Lib.hid (one_any w (.slice av R cv) 25)
  have HONE := Lib.hid (show ∀ u ∈ ([.slice av R cv] : List Value), u.oneCell' = true by simp [Value.oneCell'])
  rw [hRe] at hR ⊢
  clear H hb hRe hi2 hx0 hx1 hx2
  go_enter Try.func13, Try.ntmps13
  go_wp2_with (at_builtin; refine wpList_append_own _ rfl (.tmp 9) (.tmp 11) 50 rfl w.heap.size 25 i2 (.slice none 0 0) 1 24 Try.underlying50 HI.out.1 HI.out.2.1 HI.out.2.2.1 HI.out.2.2.2 rfl (by decide) (.slice none 0 0) 0 [] rfl (World.ownsRow_nil _ _ _ _) ⟨w.heap.size, 0, none⟩ 1 1 [.slice av R cv] rfl rfl HSRC.out HONE.out (by decide) (by decide) (by simp) ?_; intro v2 w2 hown2 hgr2 _; have hb2 := ((Below.refl w.heap.size w).alloc (Nat.le_refl _) (.cells #[.slice av R cv] 25)).grown hgr2 (by simp) (fun k hk => by cases hk); have hL2 := Lib.hid (And.intro hown2 hb2); obtain ⟨hu, cu, rfl, hgl⟩ := long_one hown2; have q2 := cell_below q18 hb2; have hp2 := (hb2.block pb hpl).trans HB.out; have f2 : w2.frozen? ⟨pb, 18, none⟩ = false := frozen_of_row _ _ _ _ _ hp2; have HGL := Lib.hid hgl; have HP2 := Lib.hid hp2; clear hown2 hgr2 hb2 hgl q18 f18 hp2)
  have hhu := (hL2.out.1.lt hu rfl)
  have hpne : pb ≠ hu := by omega
  have HST := Lib.hid (show RowsAt w (w2.setCell ⟨pb, 18, none⟩ (.slice (some ⟨hu, 0, none⟩) 1 cu)) (.slice (some ⟨hu, 0, none⟩) 1 cu) (.slice av R cv) pb hu pb 0 X from by
    have ho : Only [pb] w2 (w2.setCell ⟨pb, 18, none⟩ (.slice (some ⟨hu, 0, none⟩) 1 cu)) := (Only.refl [pb] _).setCell (p := ⟨pb, 18, none⟩) (.inl (by simp)) _
    refine ⟨⟨.slice none 0 0, ?_, World.ownsRow_nil _ _ _ _, rfl, fun h => by cases h⟩, .inl rfl, (Only.of_below hL2.out.2 [pb]).trans ho (fun x hx => .inl hx), ?_⟩
    · rw [← bk_two]; exact heap_setCell_same _ _ _ _ _ _ HP2.out
    · rcases hL2.out.1.2 with ⟨hv, _⟩ | ⟨g2, c2, cur2, hv, _, hh, _, _, _, ht⟩
      · cases hv
      · cases hv
        refine ⟨cur2, (ho.block hu (Array.getElem?_eq_some_iff.1 hh).1 (by simp; omega)).trans hh, ?_⟩
        have h2 := congrArg (fun l => l[0]?) ht
        simp only [List.getElem?_take] at h2
        rw [← Array.getElem?_toList]
        simpa using h2)
  clear q2 f2 HP2 HGL
  generalize w2.setCell ⟨pb, 18, none⟩ (.slice (some ⟨hu, 0, none⟩) 1 cu) = W3 at *
  go_loopw [4] (fun ii wr => ∃ j h, j ≤ R ∧ ii = .int .i64 (j : Nat) ∧ Hid (RowsAt w wr (.slice (some ⟨hu, 0, none⟩) 1 cu) (.slice av R cv) pb hu h j X)) (fun ii _ => R - (intOf ii).toNat)
  case atStart => exact ⟨0, pb, Nat.zero_le _, rfl, HST⟩
  case round =>
    clear HST
    obtain ⟨j, h, hj, rfl, HS⟩ := hrel
    by_cases hlt : j < R
    · have hd : decide ((j : Int) < (R : Int)) = true := by simp; omega
      have hd2 : decide (j < R) = true := by simp; omega
      obtain ⟨g, c, a, m, cap, hv, q, hX⟩ := OutR.at_ HO.out HB.out HS.out.only j (by rw [HRE.out]; exact hlt)
      have hav : av = some ⟨g, 0, none⟩ := by injection hv
      subst hav
      have CB := Lib.hid (bookbytes2_any (.slice (some ⟨hu, 0, none⟩) 1 cu) pb h j m cap a X hX wr HS.out.book (by omega))
      clear hv hX
      go_wp2_with fail
      go_at_call 29
      refine CB.out.mono ?_
      rintro e w4 ⟨rfl, h', k1, k2, k3⟩
      have HN := Lib.hid (HS.out.next hpne k1 k2 k3)
      clear k1 k2 k3 CB q
      go_wp2_with fail
      go_roundw
      case rel => exact ⟨j + 1, h', by omega, by go_num, HN⟩
      case measure => simp [intOf]; omega
    · obtain rfl : j = R := by omega
      have hd : decide ((j : Int) < (j : Int)) = false := by simp
      go_wp2_with fail
      go_end0
      obtain ⟨cur, h1, h2⟩ := HS.out.list
      exact ⟨rfl, h, hu, cu, HS.out.book, hhu.1, (Array.getElem?_eq_some_iff.1 h1).1, (cell_of_row _ _ _ _ _ _ h1).trans h2, HS.out.low, HS.out.only⟩
end Go.Proofs.Ytlegdaoidjpokaa.B2
namespace Go.Proofs.Ytlegdaoidjpokaa
end Go.Proofs.Ytlegdaoidjpokaa
