/- Types' kinds and parts: the program's. -/
import Derived.Test.YtkbplffckkjbfaaVy
import Derived.Test.YtkbplffckkjbfaaVs
import Derived.Test.YtkbplffckkjbfaaRev
import Derived.Deep.QuietTactic
import Derived.BigQuiet
namespace Go.Proofs.Ytkbplffckkjbfaa
open Go.RowKit
set_option linter.unusedVariables false
set_option linter.unusedSimpArgs false

theorem stype_l (l : List UInt8) (hl : l.length ≤ 9223372036854775807) (w : World) : Calls Try.prog 67 #[.string ⟨l.toArray⟩] w fun e w' => e = .returned (.bool (gType l)) ∧ w' = w := by
  have := stype_any ⟨l.toArray⟩ w (by show l.toArray.size ≤ maxLen; unfold maxLen; simpa using hl)
  simpa only [List.toList_toArray] using this
theorem rtype_l (l : List UInt8) (hl : l.length ≤ 9223372036854775807) (w : World) : Calls Try.prog 44 #[.string ⟨l.toArray⟩] w fun e w' => e = .returned (.bool (gType l)) ∧ w' = w := by
  have := rtype8_any ⟨l.toArray⟩ w (by show l.toArray.size ≤ 9223372036854775807; simpa using hl)
  simpa only [List.toList_toArray] using this
theorem tyT_first (T : Ty) : ∃ c r, tyT T = c :: r ∧ (kd T = 4 ↔ c = 91) ∧ (kd T = 5 ↔ c = 123) := by
  cases T with
  | int => exact ⟨_, _, rfl, by decide, by decide⟩
  | bool => exact ⟨_, _, rfl, by decide, by decide⟩
  | text => exact ⟨_, _, rfl, by decide, by decide⟩
  | list t => exact ⟨_, _, rfl, by simp [kd], by simp [kd]⟩
  | map k t => exact ⟨123, keyT k ++ [58] ++ tyT t ++ [125], by simp [tyT], by simp [kd], by simp [kd]⟩
set_option maxRecDepth 100000 in
set_option maxHeartbeats 1000000 in
theorem kindOf_any (l : List UInt8) (hl : l.length ≤ 9223372036854775807) (w : World) : Calls Try.prog 48 #[.string ⟨l.toArray⟩] w fun e w' => e = .returned (.int .i64 (kdOf l)) ∧ w' = w := by
  have hT := stype_l l hl w
  unfold gType at hT
  rcases h : tyOf l with _ | T
  · rw [h] at hT
    have hk : Hid (kdOf l = 0) := by show _ = _; unfold kdOf; rw [h]
    clear h
    go_enter Try.func48, Try.ntmps48
    go_wp2_with (go_at_call 67; refine hT.mono ?_; rintro e w' ⟨rfl, rfl⟩)
    go_ret
    exact ⟨ret_int hk.out.symm, rfl⟩
  · rw [h] at hT
    have hk : Hid (kdOf l = kd T) := by show _ = _; unfold kdOf; rw [h]
    obtain ⟨h1, h2⟩ := (tyOf_iff _ _).1 h
    have hlen := tyT_len T
    clear h
    subst h1
    rcases T with _ | _ | _ | t | ⟨k, t⟩
    · go_enter Try.func48, Try.ntmps48
      go_wp2_with (go_at_call 67; refine hT.mono ?_; rintro e w' ⟨rfl, rfl⟩)
      go_ret
      exact ⟨ret_int hk.out.symm, rfl⟩
    · go_enter Try.func48, Try.ntmps48
      go_wp2_with (go_at_call 67; refine hT.mono ?_; rintro e w' ⟨rfl, rfl⟩)
      go_ret
      exact ⟨ret_int hk.out.symm, rfl⟩
    · go_enter Try.func48, Try.ntmps48
      go_wp2_with (go_at_call 67; refine hT.mono ?_; rintro e w' ⟨rfl, rfl⟩)
      go_ret
      exact ⟨ret_int hk.out.symm, rfl⟩
    · have e : tyT (.list t) = 91 :: (tyT t ++ [93]) := rfl
      rw [e] at hT hlen hk ⊢
      generalize tyT t ++ [93] = r at *
      simp only [List.length_cons] at hlen hl
      go_enter Try.func48, Try.ntmps48
      go_wp2_with (go_at_call 67; refine hT.mono ?_; rintro e w' ⟨rfl, rfl⟩)
      go_ret
      exact ⟨ret_int hk.out.symm, rfl⟩
    · have e : tyT (.map k t) = 123 :: (keyT k ++ ([58] ++ tyT t ++ [125])) := by simp [tyT]
      rw [e] at hT hlen hk ⊢
      generalize keyT k ++ ([58] ++ tyT t ++ [125]) = r at *
      simp only [List.length_cons] at hlen hl
      go_enter Try.func48, Try.ntmps48
      go_wp2_with (go_at_call 67; refine hT.mono ?_; rintro e w' ⟨rfl, rfl⟩)
      go_ret
      exact ⟨ret_int hk.out.symm, rfl⟩
end Go.Proofs.Ytkbplffckkjbfaa
