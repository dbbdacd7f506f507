/- A type's depth: the document's, walked. -/
import Derived.Test.YtkbplffckkjbfaaVt
import Derived.Test.YtkbplffckkjbfaaVr
import Derived.WalkKit
import Derived.WalkSpells
import Derived.WalkLawsBesides
namespace Go.Proofs.Ytkbplffckkjbfaa
open Go.RowKit
set_option linter.unusedSimpArgs false
set_option linter.unusedVariables false

set_option maxRecDepth 100000 in
set_option maxHeartbeats 1000000 in
theorem rdep8_n1 (t : ByteArray) (w : World) (hs : t.size ≤ 9223372036854775807) (h1 : (t.toList == [105, 110, 116]) = false) (h2 : (t.toList == [98, 111, 111, 108]) = false) (h3 : (t.toList == [116, 101, 120, 116]) = false) (hl : t.size ≤ 2) : Calls Try.prog 72 #[.string t] w fun r w' => r = .returned (.int .i64 0) ∧ w' = w := by
  go_enter Try.func72, Try.ntmps72
  go_wp2
  go_ret
  exact ⟨rfl, rfl⟩
set_option maxRecDepth 100000 in
set_option maxHeartbeats 1000000 in
theorem rdep8_n2 (t : ByteArray) (w : World) (hs : t.size ≤ 9223372036854775807) (h1 : (t.toList == [105, 110, 116]) = false) (h2 : (t.toList == [98, 111, 111, 108]) = false) (h3 : (t.toList == [116, 101, 120, 116]) = false) (hk : 2 < t.size) (hl : t.size ≤ 6) (hA : ¬ (t[0].toNat : Int) = 91) : Calls Try.prog 72 #[.string t] w fun r w' => r = .returned (.int .i64 0) ∧ w' = w := by
  go_enter Try.func72, Try.ntmps72
  go_wp2
  go_ret
  exact ⟨rfl, rfl⟩
set_option maxRecDepth 100000 in
set_option maxHeartbeats 1000000 in
theorem rdep8_n3 (t : ByteArray) (w : World) (hs : t.size ≤ 9223372036854775807) (h1 : (t.toList == [105, 110, 116]) = false) (h2 : (t.toList == [98, 111, 111, 108]) = false) (h3 : (t.toList == [116, 101, 120, 116]) = false) (hk : 2 < t.size) (hl : t.size ≤ 6) (hA : (t[0].toNat : Int) = 91) (hB : ¬ (t[t.size - 1].toNat : Int) = 93) : Calls Try.prog 72 #[.string t] w fun r w' => r = .returned (.int .i64 0) ∧ w' = w := by
  go_enter Try.func72, Try.ntmps72
  go_wp2
  go_ret
  exact ⟨rfl, rfl⟩
set_option maxRecDepth 100000 in
set_option maxHeartbeats 1000000 in
theorem rdep8_n4 (t : ByteArray) (w : World) (hs : t.size ≤ 9223372036854775807) (h1 : (t.toList == [105, 110, 116]) = false) (h2 : (t.toList == [98, 111, 111, 108]) = false) (h3 : (t.toList == [116, 101, 120, 116]) = false) (hk : 6 < t.size) (hl : t.size ≤ 7) (hA : (t[0].toNat : Int) = 91) (hB : ¬ (t[t.size - 1].toNat : Int) = 93) (hq : ((t.extract 0 5).toList == [123, 105, 110, 116, 58]) = false) : Calls Try.prog 72 #[.string t] w fun r w' => r = .returned (.int .i64 0) ∧ w' = w := by
  go_enter Try.func72, Try.ntmps72
  go_wp2
  go_ret
  exact ⟨rfl, rfl⟩
set_option maxRecDepth 100000 in
set_option maxHeartbeats 1000000 in
theorem rdep8_n5 (t : ByteArray) (w : World) (hs : t.size ≤ 9223372036854775807) (h1 : (t.toList == [105, 110, 116]) = false) (h2 : (t.toList == [98, 111, 111, 108]) = false) (h3 : (t.toList == [116, 101, 120, 116]) = false) (hl : 7 < t.size) (hA : (t[0].toNat : Int) = 91) (hB : ¬ (t[t.size - 1].toNat : Int) = 93) (hq : ((t.extract 0 5).toList == [123, 105, 110, 116, 58]) = false) (hr : ((t.extract 0 6).toList == [123, 116, 101, 120, 116, 58]) = false) : Calls Try.prog 72 #[.string t] w fun r w' => r = .returned (.int .i64 0) ∧ w' = w := by
  go_enter Try.func72, Try.ntmps72
  go_wp2
  go_ret
  exact ⟨rfl, rfl⟩
set_option maxRecDepth 100000 in
set_option maxHeartbeats 1000000 in
theorem rdep8_n6 (t : ByteArray) (w : World) (hs : t.size ≤ 9223372036854775807) (h1 : (t.toList == [105, 110, 116]) = false) (h2 : (t.toList == [98, 111, 111, 108]) = false) (h3 : (t.toList == [116, 101, 120, 116]) = false) (hk : 6 < t.size) (hl : t.size ≤ 7) (hA : ¬ (t[0].toNat : Int) = 91) (hq : ((t.extract 0 5).toList == [123, 105, 110, 116, 58]) = false) : Calls Try.prog 72 #[.string t] w fun r w' => r = .returned (.int .i64 0) ∧ w' = w := by
  go_enter Try.func72, Try.ntmps72
  go_wp2
  go_ret
  exact ⟨rfl, rfl⟩
set_option maxRecDepth 100000 in
set_option maxHeartbeats 1000000 in
theorem rdep8_n7 (t : ByteArray) (w : World) (hs : t.size ≤ 9223372036854775807) (h1 : (t.toList == [105, 110, 116]) = false) (h2 : (t.toList == [98, 111, 111, 108]) = false) (h3 : (t.toList == [116, 101, 120, 116]) = false) (hl : 7 < t.size) (hA : ¬ (t[0].toNat : Int) = 91) (hq : ((t.extract 0 5).toList == [123, 105, 110, 116, 58]) = false) (hr : ((t.extract 0 6).toList == [123, 116, 101, 120, 116, 58]) = false) : Calls Try.prog 72 #[.string t] w fun r w' => r = .returned (.int .i64 0) ∧ w' = w := by
  go_enter Try.func72, Try.ntmps72
  go_wp2
  go_ret
  exact ⟨rfl, rfl⟩
set_option maxRecDepth 100000 in
set_option maxHeartbeats 1000000 in
theorem rdep8_n8 (t : ByteArray) (w : World) (hs : t.size ≤ 9223372036854775807) (h1 : (t.toList == [105, 110, 116]) = false) (h2 : (t.toList == [98, 111, 111, 108]) = false) (h3 : (t.toList == [116, 101, 120, 116]) = false) (hl : 7 < t.size) (hA : ¬ (t[0].toNat : Int) = 91) (hq : ((t.extract 0 5).toList == [123, 105, 110, 116, 58]) = false) (hr : ((t.extract 0 6).toList == [123, 116, 101, 120, 116, 58]) = true) (hC : ¬ (t[t.size - 1].toNat : Int) = 125) : Calls Try.prog 72 #[.string t] w fun r w' => r = .returned (.int .i64 0) ∧ w' = w := by
  go_enter Try.func72, Try.ntmps72
  go_wp2
  go_ret
  exact ⟨rfl, rfl⟩
set_option maxRecDepth 100000 in
set_option maxHeartbeats 1000000 in
theorem rdep8_n9 (t : ByteArray) (w : World) (hs : t.size ≤ 9223372036854775807) (h1 : (t.toList == [105, 110, 116]) = false) (h2 : (t.toList == [98, 111, 111, 108]) = false) (h3 : (t.toList == [116, 101, 120, 116]) = false) (hk : 6 < t.size) (hl : t.size ≤ 7) (hA : ¬ (t[0].toNat : Int) = 91) (hq : ((t.extract 0 5).toList == [123, 105, 110, 116, 58]) = true) (hC : ¬ (t[t.size - 1].toNat : Int) = 125) : Calls Try.prog 72 #[.string t] w fun r w' => r = .returned (.int .i64 0) ∧ w' = w := by
  go_enter Try.func72, Try.ntmps72
  go_wp2
  go_ret
  exact ⟨rfl, rfl⟩
set_option maxRecDepth 100000 in
set_option maxHeartbeats 1000000 in
theorem rdep8_na (t : ByteArray) (w : World) (hs : t.size ≤ 9223372036854775807) (h1 : (t.toList == [105, 110, 116]) = false) (h2 : (t.toList == [98, 111, 111, 108]) = false) (h3 : (t.toList == [116, 101, 120, 116]) = false) (hl : 7 < t.size) (hA : ¬ (t[0].toNat : Int) = 91) (hq : ((t.extract 0 5).toList == [123, 105, 110, 116, 58]) = true) (hr : ((t.extract 0 6).toList == [123, 116, 101, 120, 116, 58]) = false) (hC : ¬ (t[t.size - 1].toNat : Int) = 125) : Calls Try.prog 72 #[.string t] w fun r w' => r = .returned (.int .i64 0) ∧ w' = w := by
  go_enter Try.func72, Try.ntmps72
  go_wp2
  go_ret
  exact ⟨rfl, rfl⟩
set_option maxRecDepth 100000 in
set_option maxHeartbeats 1000000 in
theorem rdep8_l (t : ByteArray) (w : World) (d : Nat) (hd : t.size ≤ 200 → d ≤ 300) (hs : t.size ≤ 9223372036854775807) (h1 : (t.toList == [105, 110, 116]) = false) (h2 : (t.toList == [98, 111, 111, 108]) = false) (h3 : (t.toList == [116, 101, 120, 116]) = false) (hl : 2 < t.size) (hA : (t[0].toNat : Int) = 91) (hB : (t[t.size - 1].toNat : Int) = 93) (hin : t.size ≤ 200 → Calls Try.prog 72 #[.string (t.extract 1 (t.size - 1))] w fun r w' => r = .returned (.int .i64 d) ∧ w' = w) : Calls Try.prog 72 #[.string t] w fun r w' => r = .returned (.int .i64 ((if 200 < t.size then 0 else if d = 0 then 0 else d + 1 : Nat) : Int)) ∧ w' = w := by
  by_cases hz : 200 < t.size
  · rw [if_pos hz]
    clear hin hd
    go_enter Try.func72, Try.ntmps72
    go_wp2
    go_ret
    exact ⟨rfl, rfl⟩
  · rw [if_neg hz]
    replace hin := hin (by omega)
    replace hd := hd (by omega)
    rcases Nat.eq_zero_or_pos d with h0 | h0
    · rw [if_pos h0]
      subst h0
      go_enter Try.func72, Try.ntmps72
      go_wp2_with fail
      refine hin.mono ?_
      rintro e w1 ⟨rfl, rfl⟩
      go_wp2
      go_ret
      exact ⟨rfl, rfl⟩
    · rw [if_neg (by omega)]
      go_enter Try.func72, Try.ntmps72
      go_wp2_with fail
      refine hin.mono ?_
      rintro e w1 ⟨rfl, rfl⟩
      go_wp2
      go_ret
      exact ⟨rfl, rfl⟩
set_option maxRecDepth 100000 in
set_option maxHeartbeats 1000000 in
theorem rdep8_i (t : ByteArray) (w : World) (d : Nat) (hd : t.size ≤ 200 → d ≤ 300) (hs : t.size ≤ 9223372036854775807) (h1 : (t.toList == [105, 110, 116]) = false) (h2 : (t.toList == [98, 111, 111, 108]) = false) (h3 : (t.toList == [116, 101, 120, 116]) = false) (hl : 6 < t.size) (hA : ¬ (t[0].toNat : Int) = 91) (hq : ((t.extract 0 5).toList == [123, 105, 110, 116, 58]) = true) (hC : (t[t.size - 1].toNat : Int) = 125) (hin : t.size ≤ 200 → Calls Try.prog 72 #[.string (t.extract 5 (t.size - 1))] w fun r w' => r = .returned (.int .i64 d) ∧ w' = w) : Calls Try.prog 72 #[.string t] w fun r w' => r = .returned (.int .i64 ((if 200 < t.size then 0 else if d = 0 then 0 else d + 1 : Nat) : Int)) ∧ w' = w := by
  by_cases hz : 200 < t.size
  · rw [if_pos hz]
    clear hin hd
    go_enter Try.func72, Try.ntmps72
    go_wp2
    go_ret
    exact ⟨rfl, rfl⟩
  · rw [if_neg hz]
    replace hin := hin (by omega)
    replace hd := hd (by omega)
    rcases Nat.eq_zero_or_pos d with h0 | h0
    · rw [if_pos h0]
      subst h0
      go_enter Try.func72, Try.ntmps72
      go_wp2_with fail
      refine hin.mono ?_
      rintro e w1 ⟨rfl, rfl⟩
      go_wp2
      go_ret
      exact ⟨rfl, rfl⟩
    · rw [if_neg (by omega)]
      go_enter Try.func72, Try.ntmps72
      go_wp2_with fail
      refine hin.mono ?_
      rintro e w1 ⟨rfl, rfl⟩
      go_wp2
      go_ret
      exact ⟨rfl, rfl⟩
set_option maxRecDepth 100000 in
set_option maxHeartbeats 1000000 in
theorem rdep8_t (t : ByteArray) (w : World) (d : Nat) (hd : t.size ≤ 200 → d ≤ 300) (hs : t.size ≤ 9223372036854775807) (h1 : (t.toList == [105, 110, 116]) = false) (h2 : (t.toList == [98, 111, 111, 108]) = false) (h3 : (t.toList == [116, 101, 120, 116]) = false) (hl : 7 < t.size) (hA : ¬ (t[0].toNat : Int) = 91) (hq : ((t.extract 0 5).toList == [123, 105, 110, 116, 58]) = false) (hr : ((t.extract 0 6).toList == [123, 116, 101, 120, 116, 58]) = true) (hC : (t[t.size - 1].toNat : Int) = 125) (hin : t.size ≤ 200 → Calls Try.prog 72 #[.string (t.extract 6 (t.size - 1))] w fun r w' => r = .returned (.int .i64 d) ∧ w' = w) : Calls Try.prog 72 #[.string t] w fun r w' => r = .returned (.int .i64 ((if 200 < t.size then 0 else if d = 0 then 0 else d + 1 : Nat) : Int)) ∧ w' = w := by
  by_cases hz : 200 < t.size
  · rw [if_pos hz]
    clear hin hd
    go_enter Try.func72, Try.ntmps72
    go_wp2
    go_ret
    exact ⟨rfl, rfl⟩
  · rw [if_neg hz]
    replace hin := hin (by omega)
    replace hd := hd (by omega)
    rcases Nat.eq_zero_or_pos d with h0 | h0
    · rw [if_pos h0]
      subst h0
      go_enter Try.func72, Try.ntmps72
      go_wp2_with fail
      refine hin.mono ?_
      rintro e w1 ⟨rfl, rfl⟩
      go_wp2
      go_ret
      exact ⟨rfl, rfl⟩
    · rw [if_neg (by omega)]
      go_enter Try.func72, Try.ntmps72
      go_wp2_with fail
      refine hin.mono ?_
      rintro e w1 ⟨rfl, rfl⟩
      go_wp2
      go_ret
      exact ⟨rfl, rfl⟩
end Go.Proofs.Ytkbplffckkjbfaa
