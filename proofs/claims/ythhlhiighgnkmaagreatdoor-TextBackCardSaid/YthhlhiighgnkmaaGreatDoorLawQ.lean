/-
  WALKS: the law of quotes.
-/
import Derived.Test.YthhlhiighgnkmaaGreatDoorKno
namespace Go.Proofs.YthhlhiighgnkmaaGreatDoor
set_option linter.unusedVariables false
set_option linter.unusedSimpArgs false
open Go.RowKit Go.PlainAid
theorem strOf_append (a b : List Nat) : strOf a ++ strOf b = strOf (a ++ b) := by
  apply ByteArray.ext
  rw [ByteArray.data_append]
  unfold strOf
  simp
theorem quoteL_len (bs : List Nat) : (quoteL bs).length ≤ 4 * bs.length + 2 := by
  unfold quoteL
  have := flat_len bs
  rw [List.length_append, List.length_cons, List.length_singleton]
  omega
set_option maxRecDepth 100000 in
set_option maxHeartbeats 1000000 in
theorem law_quotes (m : Int) (a o cap : Nat) (s b : ByteArray) (w : World) (TT : TenTab w a o cap) (TS : ShTab w m) : Calls Tryz.prog 9 #[.string s, .string b] w (Gives w (.bool true)) := by
  by_cases h1 : 20000 < s.size
  · have d1 : decide ((s.size : Int) > 20000) = true := decide_eq_true (by omega)
    obtain ⟨L, hL⟩ : ∃ L, s.size = L := ⟨_, rfl⟩
    rw [hL] at d1 h1
    clear TT TS
    go_enter Tryz.func9, Tryz.ntmps9
    go_wp2
    go_ret
    exact ⟨rfl, Below.refl _ _⟩
  by_cases h2 : 20000 < b.size
  · have d1 : decide ((s.size : Int) > 20000) = false := decide_eq_false (by omega)
    have d2 : decide ((b.size : Int) > 20000) = true := decide_eq_true (by omega)
    obtain ⟨L, hL⟩ : ∃ L, s.size = L := ⟨_, rfl⟩
    obtain ⟨M, hM⟩ : ∃ L, b.size = L := ⟨_, rfl⟩
    rw [hL] at d1 h1
    rw [hM] at d2 h2
    clear TT TS
    go_enter Tryz.func9, Tryz.ntmps9
    go_wp2
    go_ret
    exact ⟨rfl, Below.refl _ _⟩
  have d1 : decide ((s.size : Int) > 20000) = false := decide_eq_false (by omega)
  have d2 : decide ((b.size : Int) > 20000) = false := decide_eq_false (by omega)
  have hBs := isB_bytesOf s
  have hBb := isB_bytesOf b
  have hls := bytesOf_length s
  have hlb := bytesOf_length b
  have hq := quoteL_len (bytesOf s)
  have hqs := strOf_size (quoteL (bytesOf s))
  have C1 := Lib.hid (fun w => quote_any (bytesOf s) hBs (by omega) w)
  have C2 := Lib.hid (fun w => rquote_any (bytesOf s) hBs (by omega) w)
  have C3 := Lib.hid (fun w => unquote_quote (bytesOf s) (bytesOf b) hBs hBb (by omega) (by omega) w)
  rw [← strOf_append, strOf_bytesOf, strOf_bytesOf] at C3
  rw [strOf_bytesOf] at C1 C2
  have CK := Lib.hid (fun w T1 T2 => known_any m a o cap w T1 T2)
  have HT := Lib.hid TT
  have HS := Lib.hid TS
  have hcat : (strOf (quoteL (bytesOf s))).size + b.size ≤ 9223372036854775807 := by omega
  obtain ⟨N, hN⟩ : ∃ N, (quoteL (bytesOf s)).length = N := ⟨_, rfl⟩
  rw [hN] at hqs C3
  obtain ⟨Q, hQ⟩ : ∃ Q, strOf (quoteL (bytesOf s)) = Q := ⟨_, rfl⟩
  rw [hQ] at hqs C1 C2 C3 hcat
  obtain ⟨L, hL⟩ : ∃ L, s.size = L := ⟨_, rfl⟩
  obtain ⟨M, hM⟩ : ∃ L, b.size = L := ⟨_, rfl⟩
  rw [hL] at d1 h1
  rw [hM] at d2 h2 hcat
  rw [hqs] at hcat
  clear hBs hBb hls hlb hq hQ hN TT TS
  go_enter Tryz.func9, Tryz.ntmps9
  go_wp2_with fail
  refine (C1.out _).mono ?_
  rintro e w1 ⟨rfl, hb⟩
  have B1 := Lib.hid hb
  clear hb
  go_wp2_with fail
  refine (C3.out _).mono ?_
  rintro e w2 ⟨rfl, hb⟩
  have B2 := Lib.hid (B1.out.trans (hb.mono B1.out.size))
  have T2 := Lib.hid (HT.out.stay B2.out)
  have S2 := Lib.hid (HS.out.below B2.out (by have := HS.out.size; omega))
  clear hb
  go_wp2_with fail
  refine (CK.out _ T2.out S2.out).mono ?_
  rintro e w3 ⟨rfl, hb⟩
  have B3 := Lib.hid (B2.out.trans (hb.mono B2.out.size))
  clear hb
  go_wp2_with fail
  refine (C2.out _).mono ?_
  rintro e w4 ⟨rfl, hb⟩
  have B4 := Lib.hid (B3.out.trans (hb.mono B3.out.size))
  clear hb
  go_wp2
  trace_state
  go_ret
  exact ⟨rfl, B4.out⟩
end Go.Proofs.YthhlhiighgnkmaaGreatDoor
