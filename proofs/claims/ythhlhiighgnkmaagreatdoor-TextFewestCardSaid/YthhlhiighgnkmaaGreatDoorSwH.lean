/-
  WALKS: the digits and the exponent as text (Go's e form).
-/
import Derived.Test.YthhlhiighgnkmaaGreatDoorSwZ
import Derived.Deep.DeepAppendRoom
namespace Go.Proofs.YthhlhiighgnkmaaGreatDoor
set_option linter.unusedVariables false
set_option linter.unusedSimpArgs false
open Go.RowKit Go.PlainAid
/-- the library's buffer of 24 bytes, with these in it -/
def Buf (w : World) (g : Nat) (ds : List Nat) : Prop := w.ownsRow g 5 1 (.slice (some ⟨g, 0, none⟩) ds.length 24) ds.length (cellsOf ds)
theorem Buf.only {w w' : World} {g : Nat} {ds : List Nat} (h : Buf w g ds) (hb : w'.heap[g]? = w.heap[g]?) : Buf w' g ds := by
  obtain ⟨h1, h2⟩ := h
  refine ⟨h1, ?_⟩
  rcases h2 with ⟨h, _⟩ | ⟨g', cap, cur, hv, hg, hc, hr⟩
  · cases h
  · obtain ⟨rfl, rfl⟩ : g = g' ∧ 24 = cap := by simpa using hv
    exact .inr ⟨g, 24, cur, rfl, hg, by rw [hb]; exact hc, hr⟩
theorem room_next {w wr w2 : World} {g n : Nat} {ds es : List Nat} {x : Obj} (h : w2.ownsRow g 5 1 (.slice (some ⟨g, 0, none⟩) n 24) n (cellsOf ds ++ cellsOf es)) (hn : n = ds.length + es.length) (hg : (wr.alloc x).grownBy w2 (some g)) (hO : Hid (Only [g] w wr)) (hgl : Hid (g < w.heap.size)) :
    Hid (Buf w2 g (ds ++ es)) ∧ Hid (Only [g] w w2) ∧ Hid (∀ y, (w2.alloc y).ownsRow g 5 1 (.slice (some ⟨g, 0, none⟩) n 24) n (cellsOf (ds ++ es))) ∧ Hid (w2.ownsRow g 5 1 (.slice (some ⟨g, 0, none⟩) n 24) n (cellsOf (ds ++ es))) := by
  have ho : Only [g] w w2 := (hO.out.alloc x).grown hg (fun k hk => by simp at hk; subst hk; exact .inl (by simp))
  have hb : Buf w2 g (ds ++ es) := by
    unfold Buf
    rw [List.length_append, ← hn, cellsOf_append]; exact h
  rw [← cellsOf_append] at h
  refine ⟨Lib.hid hb, Lib.hid ho, Lib.hid (fun y => ?_), Lib.hid h⟩
  have hlt : g < w2.heap.size := Nat.lt_of_lt_of_le hgl.out ho.size
  have h2 := hb.only (w' := w2.alloc y) (Below.heap_alloc _ _ _ hlt)
  unfold Buf at h2
  rw [List.length_append, ← hn] at h2
  exact h2
theorem room_next' {w wr w2 : World} {g n : Nat} {ds es : List Nat} (h : w2.ownsRow g 5 1 (.slice (some ⟨g, 0, none⟩) n 24) n (cellsOf ds ++ cellsOf es)) (hn : n = ds.length + es.length) (hg : wr.grownBy w2 (some g)) (hO : Hid (Only [g] w wr)) (hgl : Hid (g < w.heap.size)) :
    Hid (Buf w2 g (ds ++ es)) ∧ Hid (Only [g] w w2) ∧ Hid (∀ y, (w2.alloc y).ownsRow g 5 1 (.slice (some ⟨g, 0, none⟩) n 24) n (cellsOf (ds ++ es))) ∧ Hid (w2.ownsRow g 5 1 (.slice (some ⟨g, 0, none⟩) n 24) n (cellsOf (ds ++ es))) := by
  have ho : Only [g] w w2 := hO.out.grown hg (fun k hk => by simp at hk; subst hk; exact .inl (by simp))
  have hb : Buf w2 g (ds ++ es) := by
    unfold Buf
    rw [List.length_append, ← hn, cellsOf_append]; exact h
  rw [← cellsOf_append] at h
  refine ⟨Lib.hid hb, Lib.hid ho, Lib.hid (fun y => ?_), Lib.hid h⟩
  have hlt : g < w2.heap.size := Nat.lt_of_lt_of_le hgl.out ho.size
  have h2 := hb.only (w' := w2.alloc y) (Below.heap_alloc _ _ _ hlt)
  unfold Buf at h2
  rw [List.length_append, ← hn] at h2
  exact h2
theorem addr_add (b o j : Nat) : (⟨b, o, none⟩ : Addr).add j = ⟨b, o + j, none⟩ := by
  unfold Addr.add; split <;> simp_all
/-- an exponent's digits, two at least -/
def expL (x : Nat) : List Nat := if x < 10 then [48, 48 + x] else if x < 100 then [48 + x / 10, 48 + x % 10] else [48 + x / 100, 48 + x / 10 % 10, 48 + x % 10]
/-- Go's e form -/
def eText (c : Nat) (tl : List Nat) (neg : Bool) (x : Nat) : List Nat := (if tl = [] then [c] else c :: 46 :: tl) ++ [101, if neg then 45 else 43] ++ expL x
set_option maxRecDepth 100000 in
set_option maxHeartbeats 4000000 in
theorem fmt_op1 (g b c x : Nat)  (dp : Int) (w : World) (hB : Buf w g []) (hgl : g < w.heap.size) (hbl : b < w.heap.size) (hne : b ≠ g) (hc : w.cell? ⟨b, 0, none⟩ = some (.int .u8 (c : Int)))  (hdp : dp - 1 = (x : Int)) (hx : x < 10) :
    Calls Tryz.prog 197 #[.slice (some ⟨g, 0, none⟩) 0 24, .bool false, .slice (some ⟨b, 0, none⟩) 32 32, .int .i64 dp, .int .i64 1, .int .i64 0, .int .u8 101, .bool true] w fun e w' => e = .returned (.slice (some ⟨g, 0, none⟩) (1 + 1 + 1 + 2) 24) ∧ Buf w' g ([c] ++ [101] ++ [43] ++ [48, 48 + x]) ∧ Only [g] w w' := by
  obtain ⟨i0, hi, hz0, hz1, hz2⟩ := info_parts info5
  have w0 := w
  have HG := Lib.hid hgl
  have HBL := Lib.hid hbl
  have HNE : Hid (b ∉ [g]) := Lib.hid (by simpa using hne)
  have HO0 := Lib.hid (Only.refl [g] w)
  have HA0 : Hid (∀ o, (w.alloc o).ownsRow g 5 1 (.slice (some ⟨g, 0, none⟩) 0 24) 0 (cellsOf [])) := Lib.hid (fun o => hB.only (Below.heap_alloc _ _ _ hgl))
  have hl1 : (x : Int) < 10 := by omega
  have v1 : IntKind.u8.wrap (x : Int) = (x : Int) := by rw [IntKind.wrap_u8]; omega
  have v2 : IntKind.u8.wrap ((x : Int) + 48) = ((48 + x : Nat) : Int) := by rw [IntKind.wrap_u8]; omega
  have s0 : IntKind.i64.wrap (dp - 1) = (x : Int) := by rw [hdp, IntKind.wrap_i64]; omega
  have s1 : (0 : Int) ≤ (x : Int) := by omega
  clear hB hgl hbl hne hdp w0 
  go_enter Tryz.func197, Tryz.ntmps197
  go_wp2_with (at_builtin; first
    | (refine wpList_append_own_spare _ rfl (.tmp 87) (.tmp 89) 87 rfl g 5 i0 1 Tryz.underlying87 hi hz1 g (0) 24 (cellsOf ([] : List Nat)) rfl (HA0.out _) ⟨w.heap.size, 0, none⟩ 1 1 (cellsOf [c]) rfl rfl (alloc_row _ [c]) (cellsOf_one _) (by omega) ?_; intro w1 hown2 hgr2; obtain ⟨HB1, HO1, HA1, HR1⟩ := room_next (ds := ([] : List Nat)) (es := [c]) hown2 rfl hgr2 HO0 HG; clear hown2 hgr2)
    | (refine wpList_append_own_spare _ rfl (.tmp 120) (.tmp 122) 87 rfl g 5 i0 1 Tryz.underlying87 hi hz1 g (1) 24 (cellsOf [c]) rfl (HA1.out _) ⟨w1.heap.size, 0, none⟩ 1 1 (cellsOf [101]) rfl rfl (alloc_row _ [101]) (cellsOf_one _) (by omega) ?_; intro w2 hown2 hgr2; obtain ⟨HB2, HO2, HA2, HR2⟩ := room_next (ds := [c]) (es := [101]) hown2 rfl hgr2 HO1 HG; clear hown2 hgr2)
    | (refine wpList_append_own_spare _ rfl (.tmp 132) (.tmp 134) 87 rfl g 5 i0 1 Tryz.underlying87 hi hz1 g (1 + 1) 24 (cellsOf ([c] ++ [101])) rfl (HA2.out _) ⟨w2.heap.size, 0, none⟩ 1 1 (cellsOf [43]) rfl rfl (alloc_row _ [43]) (cellsOf_one _) (by omega) ?_; intro w3 hown2 hgr2; obtain ⟨HB3, HO3, HA3, HR3⟩ := room_next (ds := ([c] ++ [101])) (es := [43]) hown2 rfl hgr2 HO2 HG; clear hown2 hgr2)
    | (refine wpList_append_own_spare _ rfl (.tmp 155) (.tmp 159) 87 rfl g 5 i0 1 Tryz.underlying87 hi hz1 g (1 + 1 + 1) 24 (cellsOf ([c] ++ [101] ++ [43])) rfl (HA3.out _) ⟨w3.heap.size, 0, none⟩ 2 2 (cellsOf [48, 48 + x]) rfl rfl (alloc_row _ [48, 48 + x]) (cellsOf_one _) (by omega) ?_; intro w4 hown2 hgr2; obtain ⟨HB4, HO4, HA4, HR4⟩ := room_next (ds := ([c] ++ [101] ++ [43])) (es := [48, 48 + x]) hown2 rfl hgr2 HO3 HG; clear hown2 hgr2))
  go_returns
  exact ⟨rfl, HB4.out, HO4.out⟩
set_option maxRecDepth 100000 in
set_option maxHeartbeats 4000000 in
theorem fmt_op2 (g b c x : Nat)  (dp : Int) (w : World) (hB : Buf w g []) (hgl : g < w.heap.size) (hbl : b < w.heap.size) (hne : b ≠ g) (hc : w.cell? ⟨b, 0, none⟩ = some (.int .u8 (c : Int)))  (hdp : dp - 1 = (x : Int)) (q r : Nat) (hq : x / 10 = q) (hr : x % 10 = r) (hx0 : 10 ≤ x) (hx : x < 100) :
    Calls Tryz.prog 197 #[.slice (some ⟨g, 0, none⟩) 0 24, .bool false, .slice (some ⟨b, 0, none⟩) 32 32, .int .i64 dp, .int .i64 1, .int .i64 0, .int .u8 101, .bool true] w fun e w' => e = .returned (.slice (some ⟨g, 0, none⟩) (1 + 1 + 1 + 2) 24) ∧ Buf w' g ([c] ++ [101] ++ [43] ++ [48 + q, 48 + r]) ∧ Only [g] w w' := by
  obtain ⟨i0, hi, hz0, hz1, hz2⟩ := info_parts info5
  have w0 := w
  have HG := Lib.hid hgl
  have HBL := Lib.hid hbl
  have HNE : Hid (b ∉ [g]) := Lib.hid (by simpa using hne)
  have HO0 := Lib.hid (Only.refl [g] w)
  have HA0 : Hid (∀ o, (w.alloc o).ownsRow g 5 1 (.slice (some ⟨g, 0, none⟩) 0 24) 0 (cellsOf [])) := Lib.hid (fun o => hB.only (Below.heap_alloc _ _ _ hgl))
  have hl1 : (10 : Int) ≤ (x : Int) := by omega
  have hl2 : (x : Int) < 100 := by omega
  have v0 : Int.tdiv (x : Int) 10 = (q : Int) := by rw [Int.tdiv_eq_ediv_of_nonneg (by omega)]; omega
  have v0' : (x : Int) / 10 = (q : Int) := by omega
  have v3' : (x : Int) % 10 = (r : Int) := by omega
  have v1 : IntKind.u8.wrap (q : Int) = (q : Int) := by rw [IntKind.wrap_u8]; omega
  have v2 : IntKind.u8.wrap ((q : Int) + 48) = ((48 + q : Nat) : Int) := by rw [IntKind.wrap_u8]; omega
  have v3 : Int.tmod (x : Int) 10 = (r : Int) := by rw [Int.tmod_eq_emod_of_nonneg (by omega)]; omega
  have v4 : IntKind.u8.wrap (r : Int) = (r : Int) := by rw [IntKind.wrap_u8]; omega
  have v5 : IntKind.u8.wrap ((r : Int) + 48) = ((48 + r : Nat) : Int) := by rw [IntKind.wrap_u8]; omega
  clear hq hr
  have s0 : IntKind.i64.wrap (dp - 1) = (x : Int) := by rw [hdp, IntKind.wrap_i64]; omega
  have s1 : (0 : Int) ≤ (x : Int) := by omega
  clear hB hgl hbl hne hdp w0 
  go_enter Tryz.func197, Tryz.ntmps197
  go_wp2_with (at_builtin; first
    | (refine wpList_append_own_spare _ rfl (.tmp 87) (.tmp 89) 87 rfl g 5 i0 1 Tryz.underlying87 hi hz1 g (0) 24 (cellsOf ([] : List Nat)) rfl (HA0.out _) ⟨w.heap.size, 0, none⟩ 1 1 (cellsOf [c]) rfl rfl (alloc_row _ [c]) (cellsOf_one _) (by omega) ?_; intro w1 hown2 hgr2; obtain ⟨HB1, HO1, HA1, HR1⟩ := room_next (ds := ([] : List Nat)) (es := [c]) hown2 rfl hgr2 HO0 HG; clear hown2 hgr2)
    | (refine wpList_append_own_spare _ rfl (.tmp 120) (.tmp 122) 87 rfl g 5 i0 1 Tryz.underlying87 hi hz1 g (1) 24 (cellsOf [c]) rfl (HA1.out _) ⟨w1.heap.size, 0, none⟩ 1 1 (cellsOf [101]) rfl rfl (alloc_row _ [101]) (cellsOf_one _) (by omega) ?_; intro w2 hown2 hgr2; obtain ⟨HB2, HO2, HA2, HR2⟩ := room_next (ds := [c]) (es := [101]) hown2 rfl hgr2 HO1 HG; clear hown2 hgr2)
    | (refine wpList_append_own_spare _ rfl (.tmp 132) (.tmp 134) 87 rfl g 5 i0 1 Tryz.underlying87 hi hz1 g (1 + 1) 24 (cellsOf ([c] ++ [101])) rfl (HA2.out _) ⟨w2.heap.size, 0, none⟩ 1 1 (cellsOf [43]) rfl rfl (alloc_row _ [43]) (cellsOf_one _) (by omega) ?_; intro w3 hown2 hgr2; obtain ⟨HB3, HO3, HA3, HR3⟩ := room_next (ds := ([c] ++ [101])) (es := [43]) hown2 rfl hgr2 HO2 HG; clear hown2 hgr2)
    | (refine wpList_append_own_spare _ rfl (.tmp 164) (.tmp 173) 87 rfl g 5 i0 1 Tryz.underlying87 hi hz1 g (1 + 1 + 1) 24 (cellsOf ([c] ++ [101] ++ [43])) rfl (HA3.out _) ⟨w3.heap.size, 0, none⟩ 2 2 (cellsOf [48 + q, 48 + r]) rfl rfl (alloc_row _ [48 + q, 48 + r]) (cellsOf_one _) (by omega) ?_; intro w4 hown2 hgr2; obtain ⟨HB4, HO4, HA4, HR4⟩ := room_next (ds := ([c] ++ [101] ++ [43])) (es := [48 + q, 48 + r]) hown2 rfl hgr2 HO3 HG; clear hown2 hgr2))
  go_returns
  exact ⟨rfl, HB4.out, HO4.out⟩
set_option maxRecDepth 100000 in
set_option maxHeartbeats 4000000 in
theorem fmt_op3 (g b c x : Nat)  (dp : Int) (w : World) (hB : Buf w g []) (hgl : g < w.heap.size) (hbl : b < w.heap.size) (hne : b ≠ g) (hc : w.cell? ⟨b, 0, none⟩ = some (.int .u8 (c : Int)))  (hdp : dp - 1 = (x : Int)) (q r r1 q3 : Nat) (hq : x / 10 = q) (hr : x % 10 = r) (hr1 : q % 10 = r1) (hq3 : x / 100 = q3) (hx0 : 100 ≤ x) (hx : x < 1000) :
    Calls Tryz.prog 197 #[.slice (some ⟨g, 0, none⟩) 0 24, .bool false, .slice (some ⟨b, 0, none⟩) 32 32, .int .i64 dp, .int .i64 1, .int .i64 0, .int .u8 101, .bool true] w fun e w' => e = .returned (.slice (some ⟨g, 0, none⟩) (1 + 1 + 1 + 3) 24) ∧ Buf w' g ([c] ++ [101] ++ [43] ++ [48 + q3, 48 + r1, 48 + r]) ∧ Only [g] w w' := by
  obtain ⟨i0, hi, hz0, hz1, hz2⟩ := info_parts info5
  have w0 := w
  have HG := Lib.hid hgl
  have HBL := Lib.hid hbl
  have HNE : Hid (b ∉ [g]) := Lib.hid (by simpa using hne)
  have HO0 := Lib.hid (Only.refl [g] w)
  have HA0 : Hid (∀ o, (w.alloc o).ownsRow g 5 1 (.slice (some ⟨g, 0, none⟩) 0 24) 0 (cellsOf [])) := Lib.hid (fun o => hB.only (Below.heap_alloc _ _ _ hgl))
  have hl1 : (10 : Int) ≤ (x : Int) := by omega
  have hl2 : (100 : Int) ≤ (x : Int) := by omega
  have v0 : Int.tdiv (x : Int) 10 = (q : Int) := by rw [Int.tdiv_eq_ediv_of_nonneg (by omega)]; omega
  have v0' : (x : Int) / 10 = (q : Int) := by omega
  have v3' : (x : Int) % 10 = (r : Int) := by omega
  have v1 : IntKind.u8.wrap (q : Int) = (q : Int) := by rw [IntKind.wrap_u8]; omega
  have v6 : Int.tmod (q : Int) 10 = (r1 : Int) := by rw [Int.tmod_eq_emod_of_nonneg (by omega)]; omega
  have v6' : (q : Int) % 10 = (r1 : Int) := by omega
  have v2 : IntKind.u8.wrap ((r1 : Int) + 48) = ((48 + r1 : Nat) : Int) := by rw [IntKind.wrap_u8]; omega
  have v3 : Int.tmod (x : Int) 10 = (r : Int) := by rw [Int.tmod_eq_emod_of_nonneg (by omega)]; omega
  have v4 : IntKind.u8.wrap (r : Int) = (r : Int) := by rw [IntKind.wrap_u8]; omega
  have v5 : IntKind.u8.wrap ((r : Int) + 48) = ((48 + r : Nat) : Int) := by rw [IntKind.wrap_u8]; omega
  have v7 : Int.tdiv (x : Int) 100 = (q3 : Int) := by rw [Int.tdiv_eq_ediv_of_nonneg (by omega)]; omega
  have v7' : (x : Int) / 100 = (q3 : Int) := by omega
  have v8 : IntKind.u8.wrap (q3 : Int) = (q3 : Int) := by rw [IntKind.wrap_u8]; omega
  have v9 : IntKind.u8.wrap ((q3 : Int) + 48) = ((48 + q3 : Nat) : Int) := by rw [IntKind.wrap_u8]; omega
  clear hq hr hr1 hq3
  have s0 : IntKind.i64.wrap (dp - 1) = (x : Int) := by rw [hdp, IntKind.wrap_i64]; omega
  have s1 : (0 : Int) ≤ (x : Int) := by omega
  clear hB hgl hbl hne hdp w0 
  go_enter Tryz.func197, Tryz.ntmps197
  go_wp2_with (at_builtin; first
    | (refine wpList_append_own_spare _ rfl (.tmp 87) (.tmp 89) 87 rfl g 5 i0 1 Tryz.underlying87 hi hz1 g (0) 24 (cellsOf ([] : List Nat)) rfl (HA0.out _) ⟨w.heap.size, 0, none⟩ 1 1 (cellsOf [c]) rfl rfl (alloc_row _ [c]) (cellsOf_one _) (by omega) ?_; intro w1 hown2 hgr2; obtain ⟨HB1, HO1, HA1, HR1⟩ := room_next (ds := ([] : List Nat)) (es := [c]) hown2 rfl hgr2 HO0 HG; clear hown2 hgr2)
    | (refine wpList_append_own_spare _ rfl (.tmp 120) (.tmp 122) 87 rfl g 5 i0 1 Tryz.underlying87 hi hz1 g (1) 24 (cellsOf [c]) rfl (HA1.out _) ⟨w1.heap.size, 0, none⟩ 1 1 (cellsOf [101]) rfl rfl (alloc_row _ [101]) (cellsOf_one _) (by omega) ?_; intro w2 hown2 hgr2; obtain ⟨HB2, HO2, HA2, HR2⟩ := room_next (ds := [c]) (es := [101]) hown2 rfl hgr2 HO1 HG; clear hown2 hgr2)
    | (refine wpList_append_own_spare _ rfl (.tmp 132) (.tmp 134) 87 rfl g 5 i0 1 Tryz.underlying87 hi hz1 g (1 + 1) 24 (cellsOf ([c] ++ [101])) rfl (HA2.out _) ⟨w2.heap.size, 0, none⟩ 1 1 (cellsOf [43]) rfl rfl (alloc_row _ [43]) (cellsOf_one _) (by omega) ?_; intro w3 hown2 hgr2; obtain ⟨HB3, HO3, HA3, HR3⟩ := room_next (ds := ([c] ++ [101])) (es := [43]) hown2 rfl hgr2 HO2 HG; clear hown2 hgr2)
    | (refine wpList_append_own_spare _ rfl (.tmp 136) (.tmp 150) 87 rfl g 5 i0 1 Tryz.underlying87 hi hz1 g (1 + 1 + 1) 24 (cellsOf ([c] ++ [101] ++ [43])) rfl (HA3.out _) ⟨w3.heap.size, 0, none⟩ 3 3 (cellsOf [48 + q3, 48 + r1, 48 + r]) rfl rfl (alloc_row _ [48 + q3, 48 + r1, 48 + r]) (cellsOf_one _) (by omega) ?_; intro w4 hown2 hgr2; obtain ⟨HB4, HO4, HA4, HR4⟩ := room_next (ds := ([c] ++ [101] ++ [43])) (es := [48 + q3, 48 + r1, 48 + r]) hown2 rfl hgr2 HO3 HG; clear hown2 hgr2))
  go_returns
  exact ⟨rfl, HB4.out, HO4.out⟩
set_option maxRecDepth 100000 in
set_option maxHeartbeats 4000000 in
theorem fmt_on1 (g b c x : Nat)  (dp : Int) (w : World) (hB : Buf w g []) (hgl : g < w.heap.size) (hbl : b < w.heap.size) (hne : b ≠ g) (hc : w.cell? ⟨b, 0, none⟩ = some (.int .u8 (c : Int)))  (hdp : dp - 1 = -(x : Int)) (hx1 : 1 ≤ x) (hx : x < 10) :
    Calls Tryz.prog 197 #[.slice (some ⟨g, 0, none⟩) 0 24, .bool false, .slice (some ⟨b, 0, none⟩) 32 32, .int .i64 dp, .int .i64 1, .int .i64 0, .int .u8 101, .bool true] w fun e w' => e = .returned (.slice (some ⟨g, 0, none⟩) (1 + 1 + 1 + 2) 24) ∧ Buf w' g ([c] ++ [101] ++ [45] ++ [48, 48 + x]) ∧ Only [g] w w' := by
  obtain ⟨i0, hi, hz0, hz1, hz2⟩ := info_parts info5
  have w0 := w
  have HG := Lib.hid hgl
  have HBL := Lib.hid hbl
  have HNE : Hid (b ∉ [g]) := Lib.hid (by simpa using hne)
  have HO0 := Lib.hid (Only.refl [g] w)
  have HA0 : Hid (∀ o, (w.alloc o).ownsRow g 5 1 (.slice (some ⟨g, 0, none⟩) 0 24) 0 (cellsOf [])) := Lib.hid (fun o => hB.only (Below.heap_alloc _ _ _ hgl))
  have hl1 : (x : Int) < 10 := by omega
  have v1 : IntKind.u8.wrap (x : Int) = (x : Int) := by rw [IntKind.wrap_u8]; omega
  have v2 : IntKind.u8.wrap ((x : Int) + 48) = ((48 + x : Nat) : Int) := by rw [IntKind.wrap_u8]; omega
  have s0 : IntKind.i64.wrap (dp - 1) = -(x : Int) := by rw [hdp, IntKind.wrap_i64]; omega
  have s1 : -(x : Int) < 0 := by omega
  have s2 : IntKind.i64.wrap (-(-(x : Int))) = (x : Int) := by rw [IntKind.wrap_i64]; omega
  clear hB hgl hbl hne hdp w0 
  go_enter Tryz.func197, Tryz.ntmps197
  go_wp2_with (at_builtin; first
    | (refine wpList_append_own_spare _ rfl (.tmp 87) (.tmp 89) 87 rfl g 5 i0 1 Tryz.underlying87 hi hz1 g (0) 24 (cellsOf ([] : List Nat)) rfl (HA0.out _) ⟨w.heap.size, 0, none⟩ 1 1 (cellsOf [c]) rfl rfl (alloc_row _ [c]) (cellsOf_one _) (by omega) ?_; intro w1 hown2 hgr2; obtain ⟨HB1, HO1, HA1, HR1⟩ := room_next (ds := ([] : List Nat)) (es := [c]) hown2 rfl hgr2 HO0 HG; clear hown2 hgr2)
    | (refine wpList_append_own_spare _ rfl (.tmp 120) (.tmp 122) 87 rfl g 5 i0 1 Tryz.underlying87 hi hz1 g (1) 24 (cellsOf [c]) rfl (HA1.out _) ⟨w1.heap.size, 0, none⟩ 1 1 (cellsOf [101]) rfl rfl (alloc_row _ [101]) (cellsOf_one _) (by omega) ?_; intro w2 hown2 hgr2; obtain ⟨HB2, HO2, HA2, HR2⟩ := room_next (ds := [c]) (es := [101]) hown2 rfl hgr2 HO1 HG; clear hown2 hgr2)
    | (refine wpList_append_own_spare _ rfl (.tmp 132) (.tmp 134) 87 rfl g 5 i0 1 Tryz.underlying87 hi hz1 g (1 + 1) 24 (cellsOf ([c] ++ [101])) rfl (HA2.out _) ⟨w2.heap.size, 0, none⟩ 1 1 (cellsOf [45]) rfl rfl (alloc_row _ [45]) (cellsOf_one _) (by omega) ?_; intro w3 hown2 hgr2; obtain ⟨HB3, HO3, HA3, HR3⟩ := room_next (ds := ([c] ++ [101])) (es := [45]) hown2 rfl hgr2 HO2 HG; clear hown2 hgr2)
    | (refine wpList_append_own_spare _ rfl (.tmp 155) (.tmp 159) 87 rfl g 5 i0 1 Tryz.underlying87 hi hz1 g (1 + 1 + 1) 24 (cellsOf ([c] ++ [101] ++ [45])) rfl (HA3.out _) ⟨w3.heap.size, 0, none⟩ 2 2 (cellsOf [48, 48 + x]) rfl rfl (alloc_row _ [48, 48 + x]) (cellsOf_one _) (by omega) ?_; intro w4 hown2 hgr2; obtain ⟨HB4, HO4, HA4, HR4⟩ := room_next (ds := ([c] ++ [101] ++ [45])) (es := [48, 48 + x]) hown2 rfl hgr2 HO3 HG; clear hown2 hgr2))
  go_returns
  exact ⟨rfl, HB4.out, HO4.out⟩
set_option maxRecDepth 100000 in
set_option maxHeartbeats 4000000 in
theorem fmt_on2 (g b c x : Nat)  (dp : Int) (w : World) (hB : Buf w g []) (hgl : g < w.heap.size) (hbl : b < w.heap.size) (hne : b ≠ g) (hc : w.cell? ⟨b, 0, none⟩ = some (.int .u8 (c : Int)))  (hdp : dp - 1 = -(x : Int)) (hx1 : 1 ≤ x) (q r : Nat) (hq : x / 10 = q) (hr : x % 10 = r) (hx0 : 10 ≤ x) (hx : x < 100) :
    Calls Tryz.prog 197 #[.slice (some ⟨g, 0, none⟩) 0 24, .bool false, .slice (some ⟨b, 0, none⟩) 32 32, .int .i64 dp, .int .i64 1, .int .i64 0, .int .u8 101, .bool true] w fun e w' => e = .returned (.slice (some ⟨g, 0, none⟩) (1 + 1 + 1 + 2) 24) ∧ Buf w' g ([c] ++ [101] ++ [45] ++ [48 + q, 48 + r]) ∧ Only [g] w w' := by
  obtain ⟨i0, hi, hz0, hz1, hz2⟩ := info_parts info5
  have w0 := w
  have HG := Lib.hid hgl
  have HBL := Lib.hid hbl
  have HNE : Hid (b ∉ [g]) := Lib.hid (by simpa using hne)
  have HO0 := Lib.hid (Only.refl [g] w)
  have HA0 : Hid (∀ o, (w.alloc o).ownsRow g 5 1 (.slice (some ⟨g, 0, none⟩) 0 24) 0 (cellsOf [])) := Lib.hid (fun o => hB.only (Below.heap_alloc _ _ _ hgl))
  have hl1 : (10 : Int) ≤ (x : Int) := by omega
  have hl2 : (x : Int) < 100 := by omega
  have v0 : Int.tdiv (x : Int) 10 = (q : Int) := by rw [Int.tdiv_eq_ediv_of_nonneg (by omega)]; omega
  have v0' : (x : Int) / 10 = (q : Int) := by omega
  have v3' : (x : Int) % 10 = (r : Int) := by omega
  have v1 : IntKind.u8.wrap (q : Int) = (q : Int) := by rw [IntKind.wrap_u8]; omega
  have v2 : IntKind.u8.wrap ((q : Int) + 48) = ((48 + q : Nat) : Int) := by rw [IntKind.wrap_u8]; omega
  have v3 : Int.tmod (x : Int) 10 = (r : Int) := by rw [Int.tmod_eq_emod_of_nonneg (by omega)]; omega
  have v4 : IntKind.u8.wrap (r : Int) = (r : Int) := by rw [IntKind.wrap_u8]; omega
  have v5 : IntKind.u8.wrap ((r : Int) + 48) = ((48 + r : Nat) : Int) := by rw [IntKind.wrap_u8]; omega
  clear hq hr
  have s0 : IntKind.i64.wrap (dp - 1) = -(x : Int) := by rw [hdp, IntKind.wrap_i64]; omega
  have s1 : -(x : Int) < 0 := by omega
  have s2 : IntKind.i64.wrap (-(-(x : Int))) = (x : Int) := by rw [IntKind.wrap_i64]; omega
  clear hB hgl hbl hne hdp w0 
  go_enter Tryz.func197, Tryz.ntmps197
  go_wp2_with (at_builtin; first
    | (refine wpList_append_own_spare _ rfl (.tmp 87) (.tmp 89) 87 rfl g 5 i0 1 Tryz.underlying87 hi hz1 g (0) 24 (cellsOf ([] : List Nat)) rfl (HA0.out _) ⟨w.heap.size, 0, none⟩ 1 1 (cellsOf [c]) rfl rfl (alloc_row _ [c]) (cellsOf_one _) (by omega) ?_; intro w1 hown2 hgr2; obtain ⟨HB1, HO1, HA1, HR1⟩ := room_next (ds := ([] : List Nat)) (es := [c]) hown2 rfl hgr2 HO0 HG; clear hown2 hgr2)
    | (refine wpList_append_own_spare _ rfl (.tmp 120) (.tmp 122) 87 rfl g 5 i0 1 Tryz.underlying87 hi hz1 g (1) 24 (cellsOf [c]) rfl (HA1.out _) ⟨w1.heap.size, 0, none⟩ 1 1 (cellsOf [101]) rfl rfl (alloc_row _ [101]) (cellsOf_one _) (by omega) ?_; intro w2 hown2 hgr2; obtain ⟨HB2, HO2, HA2, HR2⟩ := room_next (ds := [c]) (es := [101]) hown2 rfl hgr2 HO1 HG; clear hown2 hgr2)
    | (refine wpList_append_own_spare _ rfl (.tmp 132) (.tmp 134) 87 rfl g 5 i0 1 Tryz.underlying87 hi hz1 g (1 + 1) 24 (cellsOf ([c] ++ [101])) rfl (HA2.out _) ⟨w2.heap.size, 0, none⟩ 1 1 (cellsOf [45]) rfl rfl (alloc_row _ [45]) (cellsOf_one _) (by omega) ?_; intro w3 hown2 hgr2; obtain ⟨HB3, HO3, HA3, HR3⟩ := room_next (ds := ([c] ++ [101])) (es := [45]) hown2 rfl hgr2 HO2 HG; clear hown2 hgr2)
    | (refine wpList_append_own_spare _ rfl (.tmp 164) (.tmp 173) 87 rfl g 5 i0 1 Tryz.underlying87 hi hz1 g (1 + 1 + 1) 24 (cellsOf ([c] ++ [101] ++ [45])) rfl (HA3.out _) ⟨w3.heap.size, 0, none⟩ 2 2 (cellsOf [48 + q, 48 + r]) rfl rfl (alloc_row _ [48 + q, 48 + r]) (cellsOf_one _) (by omega) ?_; intro w4 hown2 hgr2; obtain ⟨HB4, HO4, HA4, HR4⟩ := room_next (ds := ([c] ++ [101] ++ [45])) (es := [48 + q, 48 + r]) hown2 rfl hgr2 HO3 HG; clear hown2 hgr2))
  go_returns
  exact ⟨rfl, HB4.out, HO4.out⟩
set_option maxRecDepth 100000 in
set_option maxHeartbeats 4000000 in
theorem fmt_on3 (g b c x : Nat)  (dp : Int) (w : World) (hB : Buf w g []) (hgl : g < w.heap.size) (hbl : b < w.heap.size) (hne : b ≠ g) (hc : w.cell? ⟨b, 0, none⟩ = some (.int .u8 (c : Int)))  (hdp : dp - 1 = -(x : Int)) (hx1 : 1 ≤ x) (q r r1 q3 : Nat) (hq : x / 10 = q) (hr : x % 10 = r) (hr1 : q % 10 = r1) (hq3 : x / 100 = q3) (hx0 : 100 ≤ x) (hx : x < 1000) :
    Calls Tryz.prog 197 #[.slice (some ⟨g, 0, none⟩) 0 24, .bool false, .slice (some ⟨b, 0, none⟩) 32 32, .int .i64 dp, .int .i64 1, .int .i64 0, .int .u8 101, .bool true] w fun e w' => e = .returned (.slice (some ⟨g, 0, none⟩) (1 + 1 + 1 + 3) 24) ∧ Buf w' g ([c] ++ [101] ++ [45] ++ [48 + q3, 48 + r1, 48 + r]) ∧ Only [g] w w' := by
  obtain ⟨i0, hi, hz0, hz1, hz2⟩ := info_parts info5
  have w0 := w
  have HG := Lib.hid hgl
  have HBL := Lib.hid hbl
  have HNE : Hid (b ∉ [g]) := Lib.hid (by simpa using hne)
  have HO0 := Lib.hid (Only.refl [g] w)
  have HA0 : Hid (∀ o, (w.alloc o).ownsRow g 5 1 (.slice (some ⟨g, 0, none⟩) 0 24) 0 (cellsOf [])) := Lib.hid (fun o => hB.only (Below.heap_alloc _ _ _ hgl))
  have hl1 : (10 : Int) ≤ (x : Int) := by omega
  have hl2 : (100 : Int) ≤ (x : Int) := by omega
  have v0 : Int.tdiv (x : Int) 10 = (q : Int) := by rw [Int.tdiv_eq_ediv_of_nonneg (by omega)]; omega
  have v0' : (x : Int) / 10 = (q : Int) := by omega
  have v3' : (x : Int) % 10 = (r : Int) := by omega
  have v1 : IntKind.u8.wrap (q : Int) = (q : Int) := by rw [IntKind.wrap_u8]; omega
  have v6 : Int.tmod (q : Int) 10 = (r1 : Int) := by rw [Int.tmod_eq_emod_of_nonneg (by omega)]; omega
  have v6' : (q : Int) % 10 = (r1 : Int) := by omega
  have v2 : IntKind.u8.wrap ((r1 : Int) + 48) = ((48 + r1 : Nat) : Int) := by rw [IntKind.wrap_u8]; omega
  have v3 : Int.tmod (x : Int) 10 = (r : Int) := by rw [Int.tmod_eq_emod_of_nonneg (by omega)]; omega
  have v4 : IntKind.u8.wrap (r : Int) = (r : Int) := by rw [IntKind.wrap_u8]; omega
  have v5 : IntKind.u8.wrap ((r : Int) + 48) = ((48 + r : Nat) : Int) := by rw [IntKind.wrap_u8]; omega
  have v7 : Int.tdiv (x : Int) 100 = (q3 : Int) := by rw [Int.tdiv_eq_ediv_of_nonneg (by omega)]; omega
  have v7' : (x : Int) / 100 = (q3 : Int) := by omega
  have v8 : IntKind.u8.wrap (q3 : Int) = (q3 : Int) := by rw [IntKind.wrap_u8]; omega
  have v9 : IntKind.u8.wrap ((q3 : Int) + 48) = ((48 + q3 : Nat) : Int) := by rw [IntKind.wrap_u8]; omega
  clear hq hr hr1 hq3
  have s0 : IntKind.i64.wrap (dp - 1) = -(x : Int) := by rw [hdp, IntKind.wrap_i64]; omega
  have s1 : -(x : Int) < 0 := by omega
  have s2 : IntKind.i64.wrap (-(-(x : Int))) = (x : Int) := by rw [IntKind.wrap_i64]; omega
  clear hB hgl hbl hne hdp w0 
  go_enter Tryz.func197, Tryz.ntmps197
  go_wp2_with (at_builtin; first
    | (refine wpList_append_own_spare _ rfl (.tmp 87) (.tmp 89) 87 rfl g 5 i0 1 Tryz.underlying87 hi hz1 g (0) 24 (cellsOf ([] : List Nat)) rfl (HA0.out _) ⟨w.heap.size, 0, none⟩ 1 1 (cellsOf [c]) rfl rfl (alloc_row _ [c]) (cellsOf_one _) (by omega) ?_; intro w1 hown2 hgr2; obtain ⟨HB1, HO1, HA1, HR1⟩ := room_next (ds := ([] : List Nat)) (es := [c]) hown2 rfl hgr2 HO0 HG; clear hown2 hgr2)
    | (refine wpList_append_own_spare _ rfl (.tmp 120) (.tmp 122) 87 rfl g 5 i0 1 Tryz.underlying87 hi hz1 g (1) 24 (cellsOf [c]) rfl (HA1.out _) ⟨w1.heap.size, 0, none⟩ 1 1 (cellsOf [101]) rfl rfl (alloc_row _ [101]) (cellsOf_one _) (by omega) ?_; intro w2 hown2 hgr2; obtain ⟨HB2, HO2, HA2, HR2⟩ := room_next (ds := [c]) (es := [101]) hown2 rfl hgr2 HO1 HG; clear hown2 hgr2)
    | (refine wpList_append_own_spare _ rfl (.tmp 132) (.tmp 134) 87 rfl g 5 i0 1 Tryz.underlying87 hi hz1 g (1 + 1) 24 (cellsOf ([c] ++ [101])) rfl (HA2.out _) ⟨w2.heap.size, 0, none⟩ 1 1 (cellsOf [45]) rfl rfl (alloc_row _ [45]) (cellsOf_one _) (by omega) ?_; intro w3 hown2 hgr2; obtain ⟨HB3, HO3, HA3, HR3⟩ := room_next (ds := ([c] ++ [101])) (es := [45]) hown2 rfl hgr2 HO2 HG; clear hown2 hgr2)
    | (refine wpList_append_own_spare _ rfl (.tmp 136) (.tmp 150) 87 rfl g 5 i0 1 Tryz.underlying87 hi hz1 g (1 + 1 + 1) 24 (cellsOf ([c] ++ [101] ++ [45])) rfl (HA3.out _) ⟨w3.heap.size, 0, none⟩ 3 3 (cellsOf [48 + q3, 48 + r1, 48 + r]) rfl rfl (alloc_row _ [48 + q3, 48 + r1, 48 + r]) (cellsOf_one _) (by omega) ?_; intro w4 hown2 hgr2; obtain ⟨HB4, HO4, HA4, HR4⟩ := room_next (ds := ([c] ++ [101] ++ [45])) (es := [48 + q3, 48 + r1, 48 + r]) hown2 rfl hgr2 HO3 HG; clear hown2 hgr2))
  go_returns
  exact ⟨rfl, HB4.out, HO4.out⟩
set_option maxRecDepth 100000 in
set_option maxHeartbeats 4000000 in
theorem fmt_tp1 (g b c x : Nat) (tl : List Nat) (t : Nat) (ht : tl.length = t) (ht1 : 1 ≤ t) (ht2 : t ≤ 17) (dp : Int) (w : World) (hB : Buf w g []) (hgl : g < w.heap.size) (hbl : b < w.heap.size) (hne : b ≠ g) (hc : w.cell? ⟨b, 0, none⟩ = some (.int .u8 (c : Int))) (hcs : ∀ j u, (cellsOf tl)[j]? = some u → w.cell? ⟨b, 1 + j, none⟩ = some u) (hdp : dp - 1 = (x : Int)) (hx : x < 10) :
    Calls Tryz.prog 197 #[.slice (some ⟨g, 0, none⟩) 0 24, .bool false, .slice (some ⟨b, 0, none⟩) 32 32, .int .i64 dp, .int .i64 ((t : Int) + 1), .int .i64 (t : Int), .int .u8 101, .bool true] w fun e w' => e = .returned (.slice (some ⟨g, 0, none⟩) (2 + t + 1 + 1 + 2) 24) ∧ Buf w' g ([c, 46] ++ tl ++ [101] ++ [43] ++ [48, 48 + x]) ∧ Only [g] w w' := by
  obtain ⟨i0, hi, hz0, hz1, hz2⟩ := info_parts info5
  have w0 := w
  have HG := Lib.hid hgl
  have HBL := Lib.hid hbl
  have HNE : Hid (b ∉ [g]) := Lib.hid (by simpa using hne)
  have HO0 := Lib.hid (Only.refl [g] w)
  have HA0 : Hid (∀ o, (w.alloc o).ownsRow g 5 1 (.slice (some ⟨g, 0, none⟩) 0 24) 0 (cellsOf [])) := Lib.hid (fun o => hB.only (Below.heap_alloc _ _ _ hgl))
  have HN : Hid (∀ w', Only [g] w w' → ∀ j u, (cellsOf tl)[j]? = some u → w'.cell? ((⟨b, 1, none⟩ : Addr).add j) = some u) := Lib.hid (fun w' ho j u hu => by rw [addr_add, ho.cell (p := ⟨b, 1 + j, none⟩) hbl (by simpa using hne)]; exact hcs j u hu)
  have HT := Lib.hid ht
  have hmin : min ((t : Int) + 1) ((t : Int) + 1) = (t : Int) + 1 := Int.min_self _
  have hmin2 : (if ((t : Int) + 1) < ((t : Int) + 1) then ((t : Int) + 1) else ((t : Int) + 1)) = (t : Int) + 1 := by split <;> rfl
  have hq1 : (0 : Int) < (t : Int) := by omega
  have hq2 : (1 : Int) < (t : Int) + 1 := by omega
  have hq3 : (((t + 1 : Nat) : Int) != 0) = true := by rw [bne_iff_ne]; omega
  have hq4 : (((t + 1 : Nat) : Int) == 0) = false := by rw [beq_eq_false_iff_ne]; omega
  have hq5 : IntKind.i64.wrap ((t : Int) + 1) = (t : Int) + 1 := by rw [IntKind.wrap_i64]; omega
  have hq6 : IntKind.i64.wrap ((t : Int) + 1 - ((t : Int) + 1)) = 0 := by rw [IntKind.wrap_i64]; omega
  have hq7 : (t : Int) + 1 ≤ 32 := by omega
  have hl1 : (x : Int) < 10 := by omega
  have v1 : IntKind.u8.wrap (x : Int) = (x : Int) := by rw [IntKind.wrap_u8]; omega
  have v2 : IntKind.u8.wrap ((x : Int) + 48) = ((48 + x : Nat) : Int) := by rw [IntKind.wrap_u8]; omega
  have s0 : IntKind.i64.wrap (dp - 1) = (x : Int) := by rw [hdp, IntKind.wrap_i64]; omega
  have s1 : (0 : Int) ≤ (x : Int) := by omega
  clear hB hgl hbl hne hdp w0 hcs ht
  go_enter Tryz.func197, Tryz.ntmps197
  go_wp2_with (at_builtin; first
    | (refine wpList_append_own_spare _ rfl (.tmp 87) (.tmp 89) 87 rfl g 5 i0 1 Tryz.underlying87 hi hz1 g (0) 24 (cellsOf ([] : List Nat)) rfl (HA0.out _) ⟨w.heap.size, 0, none⟩ 1 1 (cellsOf [c]) rfl rfl (alloc_row _ [c]) (cellsOf_one _) (by omega) ?_; intro w1 hown2 hgr2; obtain ⟨HB1, HO1, HA1, HR1⟩ := room_next (ds := ([] : List Nat)) (es := [c]) hown2 rfl hgr2 HO0 HG; clear hown2 hgr2)
    | (refine wpList_append_own_spare _ rfl (.tmp 93) (.tmp 94) 87 rfl g 5 i0 1 Tryz.underlying87 hi hz1 g (1) 24 (cellsOf [c]) rfl (HA1.out _) ⟨w1.heap.size, 0, none⟩ 1 1 (cellsOf [46]) rfl rfl (alloc_row _ [46]) (cellsOf_one _) (by omega) ?_; intro w2 hown2 hgr2; obtain ⟨HB2, HO2, HA2, HR2⟩ := room_next (ds := [c]) (es := [46]) hown2 rfl hgr2 HO1 HG; clear hown2 hgr2)
    | (refine wpList_append_own_spare _ rfl (.tmp 103) (.tmp 107) 87 rfl g 5 i0 1 Tryz.underlying87 hi hz1 g (2) 24 (cellsOf [c, 46]) rfl (HR2.out) ⟨b, 1, none⟩ t _ (cellsOf tl) rfl (by have h := HT.out; have h2 := cellsOf_length tl; omega) (HN.out _ HO2.out) (cellsOf_one _) (by omega) ?_; intro w3 hown2 hgr2; obtain ⟨HB3, HO3, HA3, HR3⟩ := room_next' (ds := [c, 46]) (es := tl) hown2 (by have h := HT.out; simp only [List.length_append, List.length_cons, List.length_nil] <;> omega) hgr2 HO2 HG; clear hown2 hgr2))
  refine wp_loop_rounds 1 ?_
  rw [rounds_succ]
  go_wp2_with (at_builtin; first
    | (refine wpList_append_own_spare _ rfl (.tmp 120) (.tmp 122) 87 rfl g 5 i0 1 Tryz.underlying87 hi hz1 g (2 + t) 24 (cellsOf ([c, 46] ++ tl)) rfl (HA3.out _) ⟨w3.heap.size, 0, none⟩ 1 1 (cellsOf [101]) rfl rfl (alloc_row _ [101]) (cellsOf_one _) (by omega) ?_; intro w4 hown2 hgr2; obtain ⟨HB4, HO4, HA4, HR4⟩ := room_next (ds := ([c, 46] ++ tl)) (es := [101]) hown2 (by have h := HT.out; simp only [List.length_append, List.length_cons, List.length_nil] <;> omega) hgr2 HO3 HG; clear hown2 hgr2)
    | (refine wpList_append_own_spare _ rfl (.tmp 132) (.tmp 134) 87 rfl g 5 i0 1 Tryz.underlying87 hi hz1 g (2 + t + 1) 24 (cellsOf ([c, 46] ++ tl ++ [101])) rfl (HA4.out _) ⟨w4.heap.size, 0, none⟩ 1 1 (cellsOf [43]) rfl rfl (alloc_row _ [43]) (cellsOf_one _) (by omega) ?_; intro w5 hown2 hgr2; obtain ⟨HB5, HO5, HA5, HR5⟩ := room_next (ds := ([c, 46] ++ tl ++ [101])) (es := [43]) hown2 (by have h := HT.out; simp only [List.length_append, List.length_cons, List.length_nil] <;> omega) hgr2 HO4 HG; clear hown2 hgr2)
    | (refine wpList_append_own_spare _ rfl (.tmp 155) (.tmp 159) 87 rfl g 5 i0 1 Tryz.underlying87 hi hz1 g (2 + t + 1 + 1) 24 (cellsOf ([c, 46] ++ tl ++ [101] ++ [43])) rfl (HA5.out _) ⟨w5.heap.size, 0, none⟩ 2 2 (cellsOf [48, 48 + x]) rfl rfl (alloc_row _ [48, 48 + x]) (cellsOf_one _) (by omega) ?_; intro w6 hown2 hgr2; obtain ⟨HB6, HO6, HA6, HR6⟩ := room_next (ds := ([c, 46] ++ tl ++ [101] ++ [43])) (es := [48, 48 + x]) hown2 (by have h := HT.out; simp only [List.length_append, List.length_cons, List.length_nil] <;> omega) hgr2 HO5 HG; clear hown2 hgr2))
  go_returns
  exact ⟨rfl, HB6.out, HO6.out⟩
set_option maxRecDepth 100000 in
set_option maxHeartbeats 4000000 in
theorem fmt_tp2 (g b c x : Nat) (tl : List Nat) (t : Nat) (ht : tl.length = t) (ht1 : 1 ≤ t) (ht2 : t ≤ 17) (dp : Int) (w : World) (hB : Buf w g []) (hgl : g < w.heap.size) (hbl : b < w.heap.size) (hne : b ≠ g) (hc : w.cell? ⟨b, 0, none⟩ = some (.int .u8 (c : Int))) (hcs : ∀ j u, (cellsOf tl)[j]? = some u → w.cell? ⟨b, 1 + j, none⟩ = some u) (hdp : dp - 1 = (x : Int)) (q r : Nat) (hq : x / 10 = q) (hr : x % 10 = r) (hx0 : 10 ≤ x) (hx : x < 100) :
    Calls Tryz.prog 197 #[.slice (some ⟨g, 0, none⟩) 0 24, .bool false, .slice (some ⟨b, 0, none⟩) 32 32, .int .i64 dp, .int .i64 ((t : Int) + 1), .int .i64 (t : Int), .int .u8 101, .bool true] w fun e w' => e = .returned (.slice (some ⟨g, 0, none⟩) (2 + t + 1 + 1 + 2) 24) ∧ Buf w' g ([c, 46] ++ tl ++ [101] ++ [43] ++ [48 + q, 48 + r]) ∧ Only [g] w w' := by
  obtain ⟨i0, hi, hz0, hz1, hz2⟩ := info_parts info5
  have w0 := w
  have HG := Lib.hid hgl
  have HBL := Lib.hid hbl
  have HNE : Hid (b ∉ [g]) := Lib.hid (by simpa using hne)
  have HO0 := Lib.hid (Only.refl [g] w)
  have HA0 : Hid (∀ o, (w.alloc o).ownsRow g 5 1 (.slice (some ⟨g, 0, none⟩) 0 24) 0 (cellsOf [])) := Lib.hid (fun o => hB.only (Below.heap_alloc _ _ _ hgl))
  have HN : Hid (∀ w', Only [g] w w' → ∀ j u, (cellsOf tl)[j]? = some u → w'.cell? ((⟨b, 1, none⟩ : Addr).add j) = some u) := Lib.hid (fun w' ho j u hu => by rw [addr_add, ho.cell (p := ⟨b, 1 + j, none⟩) hbl (by simpa using hne)]; exact hcs j u hu)
  have HT := Lib.hid ht
  have hmin : min ((t : Int) + 1) ((t : Int) + 1) = (t : Int) + 1 := Int.min_self _
  have hmin2 : (if ((t : Int) + 1) < ((t : Int) + 1) then ((t : Int) + 1) else ((t : Int) + 1)) = (t : Int) + 1 := by split <;> rfl
  have hq1 : (0 : Int) < (t : Int) := by omega
  have hq2 : (1 : Int) < (t : Int) + 1 := by omega
  have hq3 : (((t + 1 : Nat) : Int) != 0) = true := by rw [bne_iff_ne]; omega
  have hq4 : (((t + 1 : Nat) : Int) == 0) = false := by rw [beq_eq_false_iff_ne]; omega
  have hq5 : IntKind.i64.wrap ((t : Int) + 1) = (t : Int) + 1 := by rw [IntKind.wrap_i64]; omega
  have hq6 : IntKind.i64.wrap ((t : Int) + 1 - ((t : Int) + 1)) = 0 := by rw [IntKind.wrap_i64]; omega
  have hq7 : (t : Int) + 1 ≤ 32 := by omega
  have hl1 : (10 : Int) ≤ (x : Int) := by omega
  have hl2 : (x : Int) < 100 := by omega
  have v0 : Int.tdiv (x : Int) 10 = (q : Int) := by rw [Int.tdiv_eq_ediv_of_nonneg (by omega)]; omega
  have v0' : (x : Int) / 10 = (q : Int) := by omega
  have v3' : (x : Int) % 10 = (r : Int) := by omega
  have v1 : IntKind.u8.wrap (q : Int) = (q : Int) := by rw [IntKind.wrap_u8]; omega
  have v2 : IntKind.u8.wrap ((q : Int) + 48) = ((48 + q : Nat) : Int) := by rw [IntKind.wrap_u8]; omega
  have v3 : Int.tmod (x : Int) 10 = (r : Int) := by rw [Int.tmod_eq_emod_of_nonneg (by omega)]; omega
  have v4 : IntKind.u8.wrap (r : Int) = (r : Int) := by rw [IntKind.wrap_u8]; omega
  have v5 : IntKind.u8.wrap ((r : Int) + 48) = ((48 + r : Nat) : Int) := by rw [IntKind.wrap_u8]; omega
  clear hq hr
  have s0 : IntKind.i64.wrap (dp - 1) = (x : Int) := by rw [hdp, IntKind.wrap_i64]; omega
  have s1 : (0 : Int) ≤ (x : Int) := by omega
  clear hB hgl hbl hne hdp w0 hcs ht
  go_enter Tryz.func197, Tryz.ntmps197
  go_wp2_with (at_builtin; first
    | (refine wpList_append_own_spare _ rfl (.tmp 87) (.tmp 89) 87 rfl g 5 i0 1 Tryz.underlying87 hi hz1 g (0) 24 (cellsOf ([] : List Nat)) rfl (HA0.out _) ⟨w.heap.size, 0, none⟩ 1 1 (cellsOf [c]) rfl rfl (alloc_row _ [c]) (cellsOf_one _) (by omega) ?_; intro w1 hown2 hgr2; obtain ⟨HB1, HO1, HA1, HR1⟩ := room_next (ds := ([] : List Nat)) (es := [c]) hown2 rfl hgr2 HO0 HG; clear hown2 hgr2)
    | (refine wpList_append_own_spare _ rfl (.tmp 93) (.tmp 94) 87 rfl g 5 i0 1 Tryz.underlying87 hi hz1 g (1) 24 (cellsOf [c]) rfl (HA1.out _) ⟨w1.heap.size, 0, none⟩ 1 1 (cellsOf [46]) rfl rfl (alloc_row _ [46]) (cellsOf_one _) (by omega) ?_; intro w2 hown2 hgr2; obtain ⟨HB2, HO2, HA2, HR2⟩ := room_next (ds := [c]) (es := [46]) hown2 rfl hgr2 HO1 HG; clear hown2 hgr2)
    | (refine wpList_append_own_spare _ rfl (.tmp 103) (.tmp 107) 87 rfl g 5 i0 1 Tryz.underlying87 hi hz1 g (2) 24 (cellsOf [c, 46]) rfl (HR2.out) ⟨b, 1, none⟩ t _ (cellsOf tl) rfl (by have h := HT.out; have h2 := cellsOf_length tl; omega) (HN.out _ HO2.out) (cellsOf_one _) (by omega) ?_; intro w3 hown2 hgr2; obtain ⟨HB3, HO3, HA3, HR3⟩ := room_next' (ds := [c, 46]) (es := tl) hown2 (by have h := HT.out; simp only [List.length_append, List.length_cons, List.length_nil] <;> omega) hgr2 HO2 HG; clear hown2 hgr2))
  refine wp_loop_rounds 1 ?_
  rw [rounds_succ]
  go_wp2_with (at_builtin; first
    | (refine wpList_append_own_spare _ rfl (.tmp 120) (.tmp 122) 87 rfl g 5 i0 1 Tryz.underlying87 hi hz1 g (2 + t) 24 (cellsOf ([c, 46] ++ tl)) rfl (HA3.out _) ⟨w3.heap.size, 0, none⟩ 1 1 (cellsOf [101]) rfl rfl (alloc_row _ [101]) (cellsOf_one _) (by omega) ?_; intro w4 hown2 hgr2; obtain ⟨HB4, HO4, HA4, HR4⟩ := room_next (ds := ([c, 46] ++ tl)) (es := [101]) hown2 (by have h := HT.out; simp only [List.length_append, List.length_cons, List.length_nil] <;> omega) hgr2 HO3 HG; clear hown2 hgr2)
    | (refine wpList_append_own_spare _ rfl (.tmp 132) (.tmp 134) 87 rfl g 5 i0 1 Tryz.underlying87 hi hz1 g (2 + t + 1) 24 (cellsOf ([c, 46] ++ tl ++ [101])) rfl (HA4.out _) ⟨w4.heap.size, 0, none⟩ 1 1 (cellsOf [43]) rfl rfl (alloc_row _ [43]) (cellsOf_one _) (by omega) ?_; intro w5 hown2 hgr2; obtain ⟨HB5, HO5, HA5, HR5⟩ := room_next (ds := ([c, 46] ++ tl ++ [101])) (es := [43]) hown2 (by have h := HT.out; simp only [List.length_append, List.length_cons, List.length_nil] <;> omega) hgr2 HO4 HG; clear hown2 hgr2)
    | (refine wpList_append_own_spare _ rfl (.tmp 164) (.tmp 173) 87 rfl g 5 i0 1 Tryz.underlying87 hi hz1 g (2 + t + 1 + 1) 24 (cellsOf ([c, 46] ++ tl ++ [101] ++ [43])) rfl (HA5.out _) ⟨w5.heap.size, 0, none⟩ 2 2 (cellsOf [48 + q, 48 + r]) rfl rfl (alloc_row _ [48 + q, 48 + r]) (cellsOf_one _) (by omega) ?_; intro w6 hown2 hgr2; obtain ⟨HB6, HO6, HA6, HR6⟩ := room_next (ds := ([c, 46] ++ tl ++ [101] ++ [43])) (es := [48 + q, 48 + r]) hown2 (by have h := HT.out; simp only [List.length_append, List.length_cons, List.length_nil] <;> omega) hgr2 HO5 HG; clear hown2 hgr2))
  go_returns
  exact ⟨rfl, HB6.out, HO6.out⟩
set_option maxRecDepth 100000 in
set_option maxHeartbeats 4000000 in
theorem fmt_tp3 (g b c x : Nat) (tl : List Nat) (t : Nat) (ht : tl.length = t) (ht1 : 1 ≤ t) (ht2 : t ≤ 17) (dp : Int) (w : World) (hB : Buf w g []) (hgl : g < w.heap.size) (hbl : b < w.heap.size) (hne : b ≠ g) (hc : w.cell? ⟨b, 0, none⟩ = some (.int .u8 (c : Int))) (hcs : ∀ j u, (cellsOf tl)[j]? = some u → w.cell? ⟨b, 1 + j, none⟩ = some u) (hdp : dp - 1 = (x : Int)) (q r r1 q3 : Nat) (hq : x / 10 = q) (hr : x % 10 = r) (hr1 : q % 10 = r1) (hq3 : x / 100 = q3) (hx0 : 100 ≤ x) (hx : x < 1000) :
    Calls Tryz.prog 197 #[.slice (some ⟨g, 0, none⟩) 0 24, .bool false, .slice (some ⟨b, 0, none⟩) 32 32, .int .i64 dp, .int .i64 ((t : Int) + 1), .int .i64 (t : Int), .int .u8 101, .bool true] w fun e w' => e = .returned (.slice (some ⟨g, 0, none⟩) (2 + t + 1 + 1 + 3) 24) ∧ Buf w' g ([c, 46] ++ tl ++ [101] ++ [43] ++ [48 + q3, 48 + r1, 48 + r]) ∧ Only [g] w w' := by
  obtain ⟨i0, hi, hz0, hz1, hz2⟩ := info_parts info5
  have w0 := w
  have HG := Lib.hid hgl
  have HBL := Lib.hid hbl
  have HNE : Hid (b ∉ [g]) := Lib.hid (by simpa using hne)
  have HO0 := Lib.hid (Only.refl [g] w)
  have HA0 : Hid (∀ o, (w.alloc o).ownsRow g 5 1 (.slice (some ⟨g, 0, none⟩) 0 24) 0 (cellsOf [])) := Lib.hid (fun o => hB.only (Below.heap_alloc _ _ _ hgl))
  have HN : Hid (∀ w', Only [g] w w' → ∀ j u, (cellsOf tl)[j]? = some u → w'.cell? ((⟨b, 1, none⟩ : Addr).add j) = some u) := Lib.hid (fun w' ho j u hu => by rw [addr_add, ho.cell (p := ⟨b, 1 + j, none⟩) hbl (by simpa using hne)]; exact hcs j u hu)
  have HT := Lib.hid ht
  have hmin : min ((t : Int) + 1) ((t : Int) + 1) = (t : Int) + 1 := Int.min_self _
  have hmin2 : (if ((t : Int) + 1) < ((t : Int) + 1) then ((t : Int) + 1) else ((t : Int) + 1)) = (t : Int) + 1 := by split <;> rfl
  have hq1 : (0 : Int) < (t : Int) := by omega
  have hq2 : (1 : Int) < (t : Int) + 1 := by omega
  have hq3 : (((t + 1 : Nat) : Int) != 0) = true := by rw [bne_iff_ne]; omega
  have hq4 : (((t + 1 : Nat) : Int) == 0) = false := by rw [beq_eq_false_iff_ne]; omega
  have hq5 : IntKind.i64.wrap ((t : Int) + 1) = (t : Int) + 1 := by rw [IntKind.wrap_i64]; omega
  have hq6 : IntKind.i64.wrap ((t : Int) + 1 - ((t : Int) + 1)) = 0 := by rw [IntKind.wrap_i64]; omega
  have hq7 : (t : Int) + 1 ≤ 32 := by omega
  have hl1 : (10 : Int) ≤ (x : Int) := by omega
  have hl2 : (100 : Int) ≤ (x : Int) := by omega
  have v0 : Int.tdiv (x : Int) 10 = (q : Int) := by rw [Int.tdiv_eq_ediv_of_nonneg (by omega)]; omega
  have v0' : (x : Int) / 10 = (q : Int) := by omega
  have v3' : (x : Int) % 10 = (r : Int) := by omega
  have v1 : IntKind.u8.wrap (q : Int) = (q : Int) := by rw [IntKind.wrap_u8]; omega
  have v6 : Int.tmod (q : Int) 10 = (r1 : Int) := by rw [Int.tmod_eq_emod_of_nonneg (by omega)]; omega
  have v6' : (q : Int) % 10 = (r1 : Int) := by omega
  have v2 : IntKind.u8.wrap ((r1 : Int) + 48) = ((48 + r1 : Nat) : Int) := by rw [IntKind.wrap_u8]; omega
  have v3 : Int.tmod (x : Int) 10 = (r : Int) := by rw [Int.tmod_eq_emod_of_nonneg (by omega)]; omega
  have v4 : IntKind.u8.wrap (r : Int) = (r : Int) := by rw [IntKind.wrap_u8]; omega
  have v5 : IntKind.u8.wrap ((r : Int) + 48) = ((48 + r : Nat) : Int) := by rw [IntKind.wrap_u8]; omega
  have v7 : Int.tdiv (x : Int) 100 = (q3 : Int) := by rw [Int.tdiv_eq_ediv_of_nonneg (by omega)]; omega
  have v7' : (x : Int) / 100 = (q3 : Int) := by omega
  have v8 : IntKind.u8.wrap (q3 : Int) = (q3 : Int) := by rw [IntKind.wrap_u8]; omega
  have v9 : IntKind.u8.wrap ((q3 : Int) + 48) = ((48 + q3 : Nat) : Int) := by rw [IntKind.wrap_u8]; omega
  clear hq hr hr1 hq3
  have s0 : IntKind.i64.wrap (dp - 1) = (x : Int) := by rw [hdp, IntKind.wrap_i64]; omega
  have s1 : (0 : Int) ≤ (x : Int) := by omega
  clear hB hgl hbl hne hdp w0 hcs ht
  go_enter Tryz.func197, Tryz.ntmps197
  go_wp2_with (at_builtin; first
    | (refine wpList_append_own_spare _ rfl (.tmp 87) (.tmp 89) 87 rfl g 5 i0 1 Tryz.underlying87 hi hz1 g (0) 24 (cellsOf ([] : List Nat)) rfl (HA0.out _) ⟨w.heap.size, 0, none⟩ 1 1 (cellsOf [c]) rfl rfl (alloc_row _ [c]) (cellsOf_one _) (by omega) ?_; intro w1 hown2 hgr2; obtain ⟨HB1, HO1, HA1, HR1⟩ := room_next (ds := ([] : List Nat)) (es := [c]) hown2 rfl hgr2 HO0 HG; clear hown2 hgr2)
    | (refine wpList_append_own_spare _ rfl (.tmp 93) (.tmp 94) 87 rfl g 5 i0 1 Tryz.underlying87 hi hz1 g (1) 24 (cellsOf [c]) rfl (HA1.out _) ⟨w1.heap.size, 0, none⟩ 1 1 (cellsOf [46]) rfl rfl (alloc_row _ [46]) (cellsOf_one _) (by omega) ?_; intro w2 hown2 hgr2; obtain ⟨HB2, HO2, HA2, HR2⟩ := room_next (ds := [c]) (es := [46]) hown2 rfl hgr2 HO1 HG; clear hown2 hgr2)
    | (refine wpList_append_own_spare _ rfl (.tmp 103) (.tmp 107) 87 rfl g 5 i0 1 Tryz.underlying87 hi hz1 g (2) 24 (cellsOf [c, 46]) rfl (HR2.out) ⟨b, 1, none⟩ t _ (cellsOf tl) rfl (by have h := HT.out; have h2 := cellsOf_length tl; omega) (HN.out _ HO2.out) (cellsOf_one _) (by omega) ?_; intro w3 hown2 hgr2; obtain ⟨HB3, HO3, HA3, HR3⟩ := room_next' (ds := [c, 46]) (es := tl) hown2 (by have h := HT.out; simp only [List.length_append, List.length_cons, List.length_nil] <;> omega) hgr2 HO2 HG; clear hown2 hgr2))
  refine wp_loop_rounds 1 ?_
  rw [rounds_succ]
  go_wp2_with (at_builtin; first
    | (refine wpList_append_own_spare _ rfl (.tmp 120) (.tmp 122) 87 rfl g 5 i0 1 Tryz.underlying87 hi hz1 g (2 + t) 24 (cellsOf ([c, 46] ++ tl)) rfl (HA3.out _) ⟨w3.heap.size, 0, none⟩ 1 1 (cellsOf [101]) rfl rfl (alloc_row _ [101]) (cellsOf_one _) (by omega) ?_; intro w4 hown2 hgr2; obtain ⟨HB4, HO4, HA4, HR4⟩ := room_next (ds := ([c, 46] ++ tl)) (es := [101]) hown2 (by have h := HT.out; simp only [List.length_append, List.length_cons, List.length_nil] <;> omega) hgr2 HO3 HG; clear hown2 hgr2)
    | (refine wpList_append_own_spare _ rfl (.tmp 132) (.tmp 134) 87 rfl g 5 i0 1 Tryz.underlying87 hi hz1 g (2 + t + 1) 24 (cellsOf ([c, 46] ++ tl ++ [101])) rfl (HA4.out _) ⟨w4.heap.size, 0, none⟩ 1 1 (cellsOf [43]) rfl rfl (alloc_row _ [43]) (cellsOf_one _) (by omega) ?_; intro w5 hown2 hgr2; obtain ⟨HB5, HO5, HA5, HR5⟩ := room_next (ds := ([c, 46] ++ tl ++ [101])) (es := [43]) hown2 (by have h := HT.out; simp only [List.length_append, List.length_cons, List.length_nil] <;> omega) hgr2 HO4 HG; clear hown2 hgr2)
    | (refine wpList_append_own_spare _ rfl (.tmp 136) (.tmp 150) 87 rfl g 5 i0 1 Tryz.underlying87 hi hz1 g (2 + t + 1 + 1) 24 (cellsOf ([c, 46] ++ tl ++ [101] ++ [43])) rfl (HA5.out _) ⟨w5.heap.size, 0, none⟩ 3 3 (cellsOf [48 + q3, 48 + r1, 48 + r]) rfl rfl (alloc_row _ [48 + q3, 48 + r1, 48 + r]) (cellsOf_one _) (by omega) ?_; intro w6 hown2 hgr2; obtain ⟨HB6, HO6, HA6, HR6⟩ := room_next (ds := ([c, 46] ++ tl ++ [101] ++ [43])) (es := [48 + q3, 48 + r1, 48 + r]) hown2 (by have h := HT.out; simp only [List.length_append, List.length_cons, List.length_nil] <;> omega) hgr2 HO5 HG; clear hown2 hgr2))
  go_returns
  exact ⟨rfl, HB6.out, HO6.out⟩
set_option maxRecDepth 100000 in
set_option maxHeartbeats 4000000 in
theorem fmt_tn1 (g b c x : Nat) (tl : List Nat) (t : Nat) (ht : tl.length = t) (ht1 : 1 ≤ t) (ht2 : t ≤ 17) (dp : Int) (w : World) (hB : Buf w g []) (hgl : g < w.heap.size) (hbl : b < w.heap.size) (hne : b ≠ g) (hc : w.cell? ⟨b, 0, none⟩ = some (.int .u8 (c : Int))) (hcs : ∀ j u, (cellsOf tl)[j]? = some u → w.cell? ⟨b, 1 + j, none⟩ = some u) (hdp : dp - 1 = -(x : Int)) (hx1 : 1 ≤ x) (hx : x < 10) :
    Calls Tryz.prog 197 #[.slice (some ⟨g, 0, none⟩) 0 24, .bool false, .slice (some ⟨b, 0, none⟩) 32 32, .int .i64 dp, .int .i64 ((t : Int) + 1), .int .i64 (t : Int), .int .u8 101, .bool true] w fun e w' => e = .returned (.slice (some ⟨g, 0, none⟩) (2 + t + 1 + 1 + 2) 24) ∧ Buf w' g ([c, 46] ++ tl ++ [101] ++ [45] ++ [48, 48 + x]) ∧ Only [g] w w' := by
  obtain ⟨i0, hi, hz0, hz1, hz2⟩ := info_parts info5
  have w0 := w
  have HG := Lib.hid hgl
  have HBL := Lib.hid hbl
  have HNE : Hid (b ∉ [g]) := Lib.hid (by simpa using hne)
  have HO0 := Lib.hid (Only.refl [g] w)
  have HA0 : Hid (∀ o, (w.alloc o).ownsRow g 5 1 (.slice (some ⟨g, 0, none⟩) 0 24) 0 (cellsOf [])) := Lib.hid (fun o => hB.only (Below.heap_alloc _ _ _ hgl))
  have HN : Hid (∀ w', Only [g] w w' → ∀ j u, (cellsOf tl)[j]? = some u → w'.cell? ((⟨b, 1, none⟩ : Addr).add j) = some u) := Lib.hid (fun w' ho j u hu => by rw [addr_add, ho.cell (p := ⟨b, 1 + j, none⟩) hbl (by simpa using hne)]; exact hcs j u hu)
  have HT := Lib.hid ht
  have hmin : min ((t : Int) + 1) ((t : Int) + 1) = (t : Int) + 1 := Int.min_self _
  have hmin2 : (if ((t : Int) + 1) < ((t : Int) + 1) then ((t : Int) + 1) else ((t : Int) + 1)) = (t : Int) + 1 := by split <;> rfl
  have hq1 : (0 : Int) < (t : Int) := by omega
  have hq2 : (1 : Int) < (t : Int) + 1 := by omega
  have hq3 : (((t + 1 : Nat) : Int) != 0) = true := by rw [bne_iff_ne]; omega
  have hq4 : (((t + 1 : Nat) : Int) == 0) = false := by rw [beq_eq_false_iff_ne]; omega
  have hq5 : IntKind.i64.wrap ((t : Int) + 1) = (t : Int) + 1 := by rw [IntKind.wrap_i64]; omega
  have hq6 : IntKind.i64.wrap ((t : Int) + 1 - ((t : Int) + 1)) = 0 := by rw [IntKind.wrap_i64]; omega
  have hq7 : (t : Int) + 1 ≤ 32 := by omega
  have hl1 : (x : Int) < 10 := by omega
  have v1 : IntKind.u8.wrap (x : Int) = (x : Int) := by rw [IntKind.wrap_u8]; omega
  have v2 : IntKind.u8.wrap ((x : Int) + 48) = ((48 + x : Nat) : Int) := by rw [IntKind.wrap_u8]; omega
  have s0 : IntKind.i64.wrap (dp - 1) = -(x : Int) := by rw [hdp, IntKind.wrap_i64]; omega
  have s1 : -(x : Int) < 0 := by omega
  have s2 : IntKind.i64.wrap (-(-(x : Int))) = (x : Int) := by rw [IntKind.wrap_i64]; omega
  clear hB hgl hbl hne hdp w0 hcs ht
  go_enter Tryz.func197, Tryz.ntmps197
  go_wp2_with (at_builtin; first
    | (refine wpList_append_own_spare _ rfl (.tmp 87) (.tmp 89) 87 rfl g 5 i0 1 Tryz.underlying87 hi hz1 g (0) 24 (cellsOf ([] : List Nat)) rfl (HA0.out _) ⟨w.heap.size, 0, none⟩ 1 1 (cellsOf [c]) rfl rfl (alloc_row _ [c]) (cellsOf_one _) (by omega) ?_; intro w1 hown2 hgr2; obtain ⟨HB1, HO1, HA1, HR1⟩ := room_next (ds := ([] : List Nat)) (es := [c]) hown2 rfl hgr2 HO0 HG; clear hown2 hgr2)
    | (refine wpList_append_own_spare _ rfl (.tmp 93) (.tmp 94) 87 rfl g 5 i0 1 Tryz.underlying87 hi hz1 g (1) 24 (cellsOf [c]) rfl (HA1.out _) ⟨w1.heap.size, 0, none⟩ 1 1 (cellsOf [46]) rfl rfl (alloc_row _ [46]) (cellsOf_one _) (by omega) ?_; intro w2 hown2 hgr2; obtain ⟨HB2, HO2, HA2, HR2⟩ := room_next (ds := [c]) (es := [46]) hown2 rfl hgr2 HO1 HG; clear hown2 hgr2)
    | (refine wpList_append_own_spare _ rfl (.tmp 103) (.tmp 107) 87 rfl g 5 i0 1 Tryz.underlying87 hi hz1 g (2) 24 (cellsOf [c, 46]) rfl (HR2.out) ⟨b, 1, none⟩ t _ (cellsOf tl) rfl (by have h := HT.out; have h2 := cellsOf_length tl; omega) (HN.out _ HO2.out) (cellsOf_one _) (by omega) ?_; intro w3 hown2 hgr2; obtain ⟨HB3, HO3, HA3, HR3⟩ := room_next' (ds := [c, 46]) (es := tl) hown2 (by have h := HT.out; simp only [List.length_append, List.length_cons, List.length_nil] <;> omega) hgr2 HO2 HG; clear hown2 hgr2))
  refine wp_loop_rounds 1 ?_
  rw [rounds_succ]
  go_wp2_with (at_builtin; first
    | (refine wpList_append_own_spare _ rfl (.tmp 120) (.tmp 122) 87 rfl g 5 i0 1 Tryz.underlying87 hi hz1 g (2 + t) 24 (cellsOf ([c, 46] ++ tl)) rfl (HA3.out _) ⟨w3.heap.size, 0, none⟩ 1 1 (cellsOf [101]) rfl rfl (alloc_row _ [101]) (cellsOf_one _) (by omega) ?_; intro w4 hown2 hgr2; obtain ⟨HB4, HO4, HA4, HR4⟩ := room_next (ds := ([c, 46] ++ tl)) (es := [101]) hown2 (by have h := HT.out; simp only [List.length_append, List.length_cons, List.length_nil] <;> omega) hgr2 HO3 HG; clear hown2 hgr2)
    | (refine wpList_append_own_spare _ rfl (.tmp 132) (.tmp 134) 87 rfl g 5 i0 1 Tryz.underlying87 hi hz1 g (2 + t + 1) 24 (cellsOf ([c, 46] ++ tl ++ [101])) rfl (HA4.out _) ⟨w4.heap.size, 0, none⟩ 1 1 (cellsOf [45]) rfl rfl (alloc_row _ [45]) (cellsOf_one _) (by omega) ?_; intro w5 hown2 hgr2; obtain ⟨HB5, HO5, HA5, HR5⟩ := room_next (ds := ([c, 46] ++ tl ++ [101])) (es := [45]) hown2 (by have h := HT.out; simp only [List.length_append, List.length_cons, List.length_nil] <;> omega) hgr2 HO4 HG; clear hown2 hgr2)
    | (refine wpList_append_own_spare _ rfl (.tmp 155) (.tmp 159) 87 rfl g 5 i0 1 Tryz.underlying87 hi hz1 g (2 + t + 1 + 1) 24 (cellsOf ([c, 46] ++ tl ++ [101] ++ [45])) rfl (HA5.out _) ⟨w5.heap.size, 0, none⟩ 2 2 (cellsOf [48, 48 + x]) rfl rfl (alloc_row _ [48, 48 + x]) (cellsOf_one _) (by omega) ?_; intro w6 hown2 hgr2; obtain ⟨HB6, HO6, HA6, HR6⟩ := room_next (ds := ([c, 46] ++ tl ++ [101] ++ [45])) (es := [48, 48 + x]) hown2 (by have h := HT.out; simp only [List.length_append, List.length_cons, List.length_nil] <;> omega) hgr2 HO5 HG; clear hown2 hgr2))
  go_returns
  exact ⟨rfl, HB6.out, HO6.out⟩
set_option maxRecDepth 100000 in
set_option maxHeartbeats 4000000 in
theorem fmt_tn2 (g b c x : Nat) (tl : List Nat) (t : Nat) (ht : tl.length = t) (ht1 : 1 ≤ t) (ht2 : t ≤ 17) (dp : Int) (w : World) (hB : Buf w g []) (hgl : g < w.heap.size) (hbl : b < w.heap.size) (hne : b ≠ g) (hc : w.cell? ⟨b, 0, none⟩ = some (.int .u8 (c : Int))) (hcs : ∀ j u, (cellsOf tl)[j]? = some u → w.cell? ⟨b, 1 + j, none⟩ = some u) (hdp : dp - 1 = -(x : Int)) (hx1 : 1 ≤ x) (q r : Nat) (hq : x / 10 = q) (hr : x % 10 = r) (hx0 : 10 ≤ x) (hx : x < 100) :
    Calls Tryz.prog 197 #[.slice (some ⟨g, 0, none⟩) 0 24, .bool false, .slice (some ⟨b, 0, none⟩) 32 32, .int .i64 dp, .int .i64 ((t : Int) + 1), .int .i64 (t : Int), .int .u8 101, .bool true] w fun e w' => e = .returned (.slice (some ⟨g, 0, none⟩) (2 + t + 1 + 1 + 2) 24) ∧ Buf w' g ([c, 46] ++ tl ++ [101] ++ [45] ++ [48 + q, 48 + r]) ∧ Only [g] w w' := by
  obtain ⟨i0, hi, hz0, hz1, hz2⟩ := info_parts info5
  have w0 := w
  have HG := Lib.hid hgl
  have HBL := Lib.hid hbl
  have HNE : Hid (b ∉ [g]) := Lib.hid (by simpa using hne)
  have HO0 := Lib.hid (Only.refl [g] w)
  have HA0 : Hid (∀ o, (w.alloc o).ownsRow g 5 1 (.slice (some ⟨g, 0, none⟩) 0 24) 0 (cellsOf [])) := Lib.hid (fun o => hB.only (Below.heap_alloc _ _ _ hgl))
  have HN : Hid (∀ w', Only [g] w w' → ∀ j u, (cellsOf tl)[j]? = some u → w'.cell? ((⟨b, 1, none⟩ : Addr).add j) = some u) := Lib.hid (fun w' ho j u hu => by rw [addr_add, ho.cell (p := ⟨b, 1 + j, none⟩) hbl (by simpa using hne)]; exact hcs j u hu)
  have HT := Lib.hid ht
  have hmin : min ((t : Int) + 1) ((t : Int) + 1) = (t : Int) + 1 := Int.min_self _
  have hmin2 : (if ((t : Int) + 1) < ((t : Int) + 1) then ((t : Int) + 1) else ((t : Int) + 1)) = (t : Int) + 1 := by split <;> rfl
  have hq1 : (0 : Int) < (t : Int) := by omega
  have hq2 : (1 : Int) < (t : Int) + 1 := by omega
  have hq3 : (((t + 1 : Nat) : Int) != 0) = true := by rw [bne_iff_ne]; omega
  have hq4 : (((t + 1 : Nat) : Int) == 0) = false := by rw [beq_eq_false_iff_ne]; omega
  have hq5 : IntKind.i64.wrap ((t : Int) + 1) = (t : Int) + 1 := by rw [IntKind.wrap_i64]; omega
  have hq6 : IntKind.i64.wrap ((t : Int) + 1 - ((t : Int) + 1)) = 0 := by rw [IntKind.wrap_i64]; omega
  have hq7 : (t : Int) + 1 ≤ 32 := by omega
  have hl1 : (10 : Int) ≤ (x : Int) := by omega
  have hl2 : (x : Int) < 100 := by omega
  have v0 : Int.tdiv (x : Int) 10 = (q : Int) := by rw [Int.tdiv_eq_ediv_of_nonneg (by omega)]; omega
  have v0' : (x : Int) / 10 = (q : Int) := by omega
  have v3' : (x : Int) % 10 = (r : Int) := by omega
  have v1 : IntKind.u8.wrap (q : Int) = (q : Int) := by rw [IntKind.wrap_u8]; omega
  have v2 : IntKind.u8.wrap ((q : Int) + 48) = ((48 + q : Nat) : Int) := by rw [IntKind.wrap_u8]; omega
  have v3 : Int.tmod (x : Int) 10 = (r : Int) := by rw [Int.tmod_eq_emod_of_nonneg (by omega)]; omega
  have v4 : IntKind.u8.wrap (r : Int) = (r : Int) := by rw [IntKind.wrap_u8]; omega
  have v5 : IntKind.u8.wrap ((r : Int) + 48) = ((48 + r : Nat) : Int) := by rw [IntKind.wrap_u8]; omega
  clear hq hr
  have s0 : IntKind.i64.wrap (dp - 1) = -(x : Int) := by rw [hdp, IntKind.wrap_i64]; omega
  have s1 : -(x : Int) < 0 := by omega
  have s2 : IntKind.i64.wrap (-(-(x : Int))) = (x : Int) := by rw [IntKind.wrap_i64]; omega
  clear hB hgl hbl hne hdp w0 hcs ht
  go_enter Tryz.func197, Tryz.ntmps197
  go_wp2_with (at_builtin; first
    | (refine wpList_append_own_spare _ rfl (.tmp 87) (.tmp 89) 87 rfl g 5 i0 1 Tryz.underlying87 hi hz1 g (0) 24 (cellsOf ([] : List Nat)) rfl (HA0.out _) ⟨w.heap.size, 0, none⟩ 1 1 (cellsOf [c]) rfl rfl (alloc_row _ [c]) (cellsOf_one _) (by omega) ?_; intro w1 hown2 hgr2; obtain ⟨HB1, HO1, HA1, HR1⟩ := room_next (ds := ([] : List Nat)) (es := [c]) hown2 rfl hgr2 HO0 HG; clear hown2 hgr2)
    | (refine wpList_append_own_spare _ rfl (.tmp 93) (.tmp 94) 87 rfl g 5 i0 1 Tryz.underlying87 hi hz1 g (1) 24 (cellsOf [c]) rfl (HA1.out _) ⟨w1.heap.size, 0, none⟩ 1 1 (cellsOf [46]) rfl rfl (alloc_row _ [46]) (cellsOf_one _) (by omega) ?_; intro w2 hown2 hgr2; obtain ⟨HB2, HO2, HA2, HR2⟩ := room_next (ds := [c]) (es := [46]) hown2 rfl hgr2 HO1 HG; clear hown2 hgr2)
    | (refine wpList_append_own_spare _ rfl (.tmp 103) (.tmp 107) 87 rfl g 5 i0 1 Tryz.underlying87 hi hz1 g (2) 24 (cellsOf [c, 46]) rfl (HR2.out) ⟨b, 1, none⟩ t _ (cellsOf tl) rfl (by have h := HT.out; have h2 := cellsOf_length tl; omega) (HN.out _ HO2.out) (cellsOf_one _) (by omega) ?_; intro w3 hown2 hgr2; obtain ⟨HB3, HO3, HA3, HR3⟩ := room_next' (ds := [c, 46]) (es := tl) hown2 (by have h := HT.out; simp only [List.length_append, List.length_cons, List.length_nil] <;> omega) hgr2 HO2 HG; clear hown2 hgr2))
  refine wp_loop_rounds 1 ?_
  rw [rounds_succ]
  go_wp2_with (at_builtin; first
    | (refine wpList_append_own_spare _ rfl (.tmp 120) (.tmp 122) 87 rfl g 5 i0 1 Tryz.underlying87 hi hz1 g (2 + t) 24 (cellsOf ([c, 46] ++ tl)) rfl (HA3.out _) ⟨w3.heap.size, 0, none⟩ 1 1 (cellsOf [101]) rfl rfl (alloc_row _ [101]) (cellsOf_one _) (by omega) ?_; intro w4 hown2 hgr2; obtain ⟨HB4, HO4, HA4, HR4⟩ := room_next (ds := ([c, 46] ++ tl)) (es := [101]) hown2 (by have h := HT.out; simp only [List.length_append, List.length_cons, List.length_nil] <;> omega) hgr2 HO3 HG; clear hown2 hgr2)
    | (refine wpList_append_own_spare _ rfl (.tmp 132) (.tmp 134) 87 rfl g 5 i0 1 Tryz.underlying87 hi hz1 g (2 + t + 1) 24 (cellsOf ([c, 46] ++ tl ++ [101])) rfl (HA4.out _) ⟨w4.heap.size, 0, none⟩ 1 1 (cellsOf [45]) rfl rfl (alloc_row _ [45]) (cellsOf_one _) (by omega) ?_; intro w5 hown2 hgr2; obtain ⟨HB5, HO5, HA5, HR5⟩ := room_next (ds := ([c, 46] ++ tl ++ [101])) (es := [45]) hown2 (by have h := HT.out; simp only [List.length_append, List.length_cons, List.length_nil] <;> omega) hgr2 HO4 HG; clear hown2 hgr2)
    | (refine wpList_append_own_spare _ rfl (.tmp 164) (.tmp 173) 87 rfl g 5 i0 1 Tryz.underlying87 hi hz1 g (2 + t + 1 + 1) 24 (cellsOf ([c, 46] ++ tl ++ [101] ++ [45])) rfl (HA5.out _) ⟨w5.heap.size, 0, none⟩ 2 2 (cellsOf [48 + q, 48 + r]) rfl rfl (alloc_row _ [48 + q, 48 + r]) (cellsOf_one _) (by omega) ?_; intro w6 hown2 hgr2; obtain ⟨HB6, HO6, HA6, HR6⟩ := room_next (ds := ([c, 46] ++ tl ++ [101] ++ [45])) (es := [48 + q, 48 + r]) hown2 (by have h := HT.out; simp only [List.length_append, List.length_cons, List.length_nil] <;> omega) hgr2 HO5 HG; clear hown2 hgr2))
  go_returns
  exact ⟨rfl, HB6.out, HO6.out⟩
set_option maxRecDepth 100000 in
set_option maxHeartbeats 4000000 in
theorem fmt_tn3 (g b c x : Nat) (tl : List Nat) (t : Nat) (ht : tl.length = t) (ht1 : 1 ≤ t) (ht2 : t ≤ 17) (dp : Int) (w : World) (hB : Buf w g []) (hgl : g < w.heap.size) (hbl : b < w.heap.size) (hne : b ≠ g) (hc : w.cell? ⟨b, 0, none⟩ = some (.int .u8 (c : Int))) (hcs : ∀ j u, (cellsOf tl)[j]? = some u → w.cell? ⟨b, 1 + j, none⟩ = some u) (hdp : dp - 1 = -(x : Int)) (hx1 : 1 ≤ x) (q r r1 q3 : Nat) (hq : x / 10 = q) (hr : x % 10 = r) (hr1 : q % 10 = r1) (hq3 : x / 100 = q3) (hx0 : 100 ≤ x) (hx : x < 1000) :
    Calls Tryz.prog 197 #[.slice (some ⟨g, 0, none⟩) 0 24, .bool false, .slice (some ⟨b, 0, none⟩) 32 32, .int .i64 dp, .int .i64 ((t : Int) + 1), .int .i64 (t : Int), .int .u8 101, .bool true] w fun e w' => e = .returned (.slice (some ⟨g, 0, none⟩) (2 + t + 1 + 1 + 3) 24) ∧ Buf w' g ([c, 46] ++ tl ++ [101] ++ [45] ++ [48 + q3, 48 + r1, 48 + r]) ∧ Only [g] w w' := by
  obtain ⟨i0, hi, hz0, hz1, hz2⟩ := info_parts info5
  have w0 := w
  have HG := Lib.hid hgl
  have HBL := Lib.hid hbl
  have HNE : Hid (b ∉ [g]) := Lib.hid (by simpa using hne)
  have HO0 := Lib.hid (Only.refl [g] w)
  have HA0 : Hid (∀ o, (w.alloc o).ownsRow g 5 1 (.slice (some ⟨g, 0, none⟩) 0 24) 0 (cellsOf [])) := Lib.hid (fun o => hB.only (Below.heap_alloc _ _ _ hgl))
  have HN : Hid (∀ w', Only [g] w w' → ∀ j u, (cellsOf tl)[j]? = some u → w'.cell? ((⟨b, 1, none⟩ : Addr).add j) = some u) := Lib.hid (fun w' ho j u hu => by rw [addr_add, ho.cell (p := ⟨b, 1 + j, none⟩) hbl (by simpa using hne)]; exact hcs j u hu)
  have HT := Lib.hid ht
  have hmin : min ((t : Int) + 1) ((t : Int) + 1) = (t : Int) + 1 := Int.min_self _
  have hmin2 : (if ((t : Int) + 1) < ((t : Int) + 1) then ((t : Int) + 1) else ((t : Int) + 1)) = (t : Int) + 1 := by split <;> rfl
  have hq1 : (0 : Int) < (t : Int) := by omega
  have hq2 : (1 : Int) < (t : Int) + 1 := by omega
  have hq3 : (((t + 1 : Nat) : Int) != 0) = true := by rw [bne_iff_ne]; omega
  have hq4 : (((t + 1 : Nat) : Int) == 0) = false := by rw [beq_eq_false_iff_ne]; omega
  have hq5 : IntKind.i64.wrap ((t : Int) + 1) = (t : Int) + 1 := by rw [IntKind.wrap_i64]; omega
  have hq6 : IntKind.i64.wrap ((t : Int) + 1 - ((t : Int) + 1)) = 0 := by rw [IntKind.wrap_i64]; omega
  have hq7 : (t : Int) + 1 ≤ 32 := by omega
  have hl1 : (10 : Int) ≤ (x : Int) := by omega
  have hl2 : (100 : Int) ≤ (x : Int) := by omega
  have v0 : Int.tdiv (x : Int) 10 = (q : Int) := by rw [Int.tdiv_eq_ediv_of_nonneg (by omega)]; omega
  have v0' : (x : Int) / 10 = (q : Int) := by omega
  have v3' : (x : Int) % 10 = (r : Int) := by omega
  have v1 : IntKind.u8.wrap (q : Int) = (q : Int) := by rw [IntKind.wrap_u8]; omega
  have v6 : Int.tmod (q : Int) 10 = (r1 : Int) := by rw [Int.tmod_eq_emod_of_nonneg (by omega)]; omega
  have v6' : (q : Int) % 10 = (r1 : Int) := by omega
  have v2 : IntKind.u8.wrap ((r1 : Int) + 48) = ((48 + r1 : Nat) : Int) := by rw [IntKind.wrap_u8]; omega
  have v3 : Int.tmod (x : Int) 10 = (r : Int) := by rw [Int.tmod_eq_emod_of_nonneg (by omega)]; omega
  have v4 : IntKind.u8.wrap (r : Int) = (r : Int) := by rw [IntKind.wrap_u8]; omega
  have v5 : IntKind.u8.wrap ((r : Int) + 48) = ((48 + r : Nat) : Int) := by rw [IntKind.wrap_u8]; omega
  have v7 : Int.tdiv (x : Int) 100 = (q3 : Int) := by rw [Int.tdiv_eq_ediv_of_nonneg (by omega)]; omega
  have v7' : (x : Int) / 100 = (q3 : Int) := by omega
  have v8 : IntKind.u8.wrap (q3 : Int) = (q3 : Int) := by rw [IntKind.wrap_u8]; omega
  have v9 : IntKind.u8.wrap ((q3 : Int) + 48) = ((48 + q3 : Nat) : Int) := by rw [IntKind.wrap_u8]; omega
  clear hq hr hr1 hq3
  have s0 : IntKind.i64.wrap (dp - 1) = -(x : Int) := by rw [hdp, IntKind.wrap_i64]; omega
  have s1 : -(x : Int) < 0 := by omega
  have s2 : IntKind.i64.wrap (-(-(x : Int))) = (x : Int) := by rw [IntKind.wrap_i64]; omega
  clear hB hgl hbl hne hdp w0 hcs ht
  go_enter Tryz.func197, Tryz.ntmps197
  go_wp2_with (at_builtin; first
    | (refine wpList_append_own_spare _ rfl (.tmp 87) (.tmp 89) 87 rfl g 5 i0 1 Tryz.underlying87 hi hz1 g (0) 24 (cellsOf ([] : List Nat)) rfl (HA0.out _) ⟨w.heap.size, 0, none⟩ 1 1 (cellsOf [c]) rfl rfl (alloc_row _ [c]) (cellsOf_one _) (by omega) ?_; intro w1 hown2 hgr2; obtain ⟨HB1, HO1, HA1, HR1⟩ := room_next (ds := ([] : List Nat)) (es := [c]) hown2 rfl hgr2 HO0 HG; clear hown2 hgr2)
    | (refine wpList_append_own_spare _ rfl (.tmp 93) (.tmp 94) 87 rfl g 5 i0 1 Tryz.underlying87 hi hz1 g (1) 24 (cellsOf [c]) rfl (HA1.out _) ⟨w1.heap.size, 0, none⟩ 1 1 (cellsOf [46]) rfl rfl (alloc_row _ [46]) (cellsOf_one _) (by omega) ?_; intro w2 hown2 hgr2; obtain ⟨HB2, HO2, HA2, HR2⟩ := room_next (ds := [c]) (es := [46]) hown2 rfl hgr2 HO1 HG; clear hown2 hgr2)
    | (refine wpList_append_own_spare _ rfl (.tmp 103) (.tmp 107) 87 rfl g 5 i0 1 Tryz.underlying87 hi hz1 g (2) 24 (cellsOf [c, 46]) rfl (HR2.out) ⟨b, 1, none⟩ t _ (cellsOf tl) rfl (by have h := HT.out; have h2 := cellsOf_length tl; omega) (HN.out _ HO2.out) (cellsOf_one _) (by omega) ?_; intro w3 hown2 hgr2; obtain ⟨HB3, HO3, HA3, HR3⟩ := room_next' (ds := [c, 46]) (es := tl) hown2 (by have h := HT.out; simp only [List.length_append, List.length_cons, List.length_nil] <;> omega) hgr2 HO2 HG; clear hown2 hgr2))
  refine wp_loop_rounds 1 ?_
  rw [rounds_succ]
  go_wp2_with (at_builtin; first
    | (refine wpList_append_own_spare _ rfl (.tmp 120) (.tmp 122) 87 rfl g 5 i0 1 Tryz.underlying87 hi hz1 g (2 + t) 24 (cellsOf ([c, 46] ++ tl)) rfl (HA3.out _) ⟨w3.heap.size, 0, none⟩ 1 1 (cellsOf [101]) rfl rfl (alloc_row _ [101]) (cellsOf_one _) (by omega) ?_; intro w4 hown2 hgr2; obtain ⟨HB4, HO4, HA4, HR4⟩ := room_next (ds := ([c, 46] ++ tl)) (es := [101]) hown2 (by have h := HT.out; simp only [List.length_append, List.length_cons, List.length_nil] <;> omega) hgr2 HO3 HG; clear hown2 hgr2)
    | (refine wpList_append_own_spare _ rfl (.tmp 132) (.tmp 134) 87 rfl g 5 i0 1 Tryz.underlying87 hi hz1 g (2 + t + 1) 24 (cellsOf ([c, 46] ++ tl ++ [101])) rfl (HA4.out _) ⟨w4.heap.size, 0, none⟩ 1 1 (cellsOf [45]) rfl rfl (alloc_row _ [45]) (cellsOf_one _) (by omega) ?_; intro w5 hown2 hgr2; obtain ⟨HB5, HO5, HA5, HR5⟩ := room_next (ds := ([c, 46] ++ tl ++ [101])) (es := [45]) hown2 (by have h := HT.out; simp only [List.length_append, List.length_cons, List.length_nil] <;> omega) hgr2 HO4 HG; clear hown2 hgr2)
    | (refine wpList_append_own_spare _ rfl (.tmp 136) (.tmp 150) 87 rfl g 5 i0 1 Tryz.underlying87 hi hz1 g (2 + t + 1 + 1) 24 (cellsOf ([c, 46] ++ tl ++ [101] ++ [45])) rfl (HA5.out _) ⟨w5.heap.size, 0, none⟩ 3 3 (cellsOf [48 + q3, 48 + r1, 48 + r]) rfl rfl (alloc_row _ [48 + q3, 48 + r1, 48 + r]) (cellsOf_one _) (by omega) ?_; intro w6 hown2 hgr2; obtain ⟨HB6, HO6, HA6, HR6⟩ := room_next (ds := ([c, 46] ++ tl ++ [101] ++ [45])) (es := [48 + q3, 48 + r1, 48 + r]) hown2 (by have h := HT.out; simp only [List.length_append, List.length_cons, List.length_nil] <;> omega) hgr2 HO5 HG; clear hown2 hgr2))
  go_returns
  exact ⟨rfl, HB6.out, HO6.out⟩
end Go.Proofs.YthhlhiighgnkmaaGreatDoor
