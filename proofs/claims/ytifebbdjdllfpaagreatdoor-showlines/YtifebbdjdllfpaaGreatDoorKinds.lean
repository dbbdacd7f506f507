/- What the program's tests of one byte answer, and how many bytes of a kind a text begins with. -/
import Derived.Test.YtifebbdjdllfpaaGreatDoorBld
import Derived.Test.YtifebbdjdllfpaaGreatDoorLex
import Derived.Deep.QuietTactic
import Derived.BigQuiet
import Derived.Deep.RegionWith
namespace Go.Proofs.YtifebbdjdllfpaaGreatDoor
open Go.RowKit
set_option linter.unusedSimpArgs false
set_option linter.unusedVariables false

theorem ret_bool {a b : Bool} (h : a = b) : Ending.returned (.bool a) = .returned (.bool b) := by rw [h]
theorem ret_int {k : IntKind} {a b : Int} (h : a = b) : Ending.returned (.int k a) = .returned (.int k b) := by rw [h]

theorem byte_eq {c : UInt8} {n : Nat} (hn : n < 256) (h : (c.toNat : Int) = n) : c = UInt8.ofNat n := by
  apply UInt8.toNat_inj.1; rw [UInt8.toNat_ofNat']; omega

theorem isLetter_any (c : UInt8) (w : World) : Calls Tryz.prog 72 #[.int .u8 c.toNat] w fun e w' => e = .returned (.bool (Lx.isLetter c)) ∧ w' = w := by
  have e : Lx.isLetter c = decide ((97 ≤ (c.toNat : Int) ∧ (c.toNat : Int) ≤ 122) ∨ (c.toNat : Int) = 95) := by
    rw [Bool.eq_iff_iff]; simp [Lx.isLetter, UInt8.le_iff_toNat_le, ← UInt8.toNat_inj]; try omega
  rw [e]; clear e
  go_enter Tryz.func72, Tryz.ntmps72
  go_wp2
  all_goals
    go_ret
    exact ⟨ret_bool (by first | rfl | (rw [Bool.eq_iff_iff]; simp only [decide_eq_true_eq, Bool.or_eq_true, Bool.and_eq_true, bne_iff_ne, beq_iff_eq, ne_eq, true_iff, Bool.false_eq_true, false_iff, not_or, not_and]; done) | (rw [Bool.eq_iff_iff]; simp only [decide_eq_true_eq, Bool.or_eq_true, Bool.and_eq_true, bne_iff_ne, beq_iff_eq, ne_eq, true_iff, Bool.false_eq_true, false_iff, not_or, not_and]; omega)), rfl⟩
theorem isDigit_any (c : UInt8) (w : World) : Calls Tryz.prog 74 #[.int .u8 c.toNat] w fun e w' => e = .returned (.bool (Lx.isDigit c)) ∧ w' = w := by
  have e : Lx.isDigit c = decide (48 ≤ (c.toNat : Int) ∧ (c.toNat : Int) ≤ 57) := by
    rw [Bool.eq_iff_iff]; simp [Lx.isDigit, UInt8.le_iff_toNat_le, ← UInt8.toNat_inj]; try omega
  rw [e]; clear e
  go_enter Tryz.func74, Tryz.ntmps74
  go_wp2
  all_goals
    go_ret
    exact ⟨ret_bool (by first | rfl | (rw [Bool.eq_iff_iff]; simp only [decide_eq_true_eq, Bool.or_eq_true, Bool.and_eq_true, bne_iff_ne, beq_iff_eq, ne_eq, true_iff, Bool.false_eq_true, false_iff, not_or, not_and]; done) | (rw [Bool.eq_iff_iff]; simp only [decide_eq_true_eq, Bool.or_eq_true, Bool.and_eq_true, bne_iff_ne, beq_iff_eq, ne_eq, true_iff, Bool.false_eq_true, false_iff, not_or, not_and]; omega)), rfl⟩
theorem isBlank_any (c : UInt8) (w : World) : Calls Tryz.prog 69 #[.int .u8 c.toNat] w fun e w' => e = .returned (.bool (Lx.isBlank c)) ∧ w' = w := by
  have e : Lx.isBlank c = decide (((c.toNat : Int) = 32 ∨ (c.toNat : Int) = 10) ∨ (c.toNat : Int) = 9) := by
    rw [Bool.eq_iff_iff]; simp [Lx.isBlank, UInt8.le_iff_toNat_le, ← UInt8.toNat_inj]; try omega
  rw [e]; clear e
  go_enter Tryz.func69, Tryz.ntmps69
  go_wp2
  all_goals
    go_ret
    exact ⟨ret_bool (by first | rfl | (rw [Bool.eq_iff_iff]; simp only [decide_eq_true_eq, Bool.or_eq_true, Bool.and_eq_true, bne_iff_ne, beq_iff_eq, ne_eq, true_iff, Bool.false_eq_true, false_iff, not_or, not_and]; done) | (rw [Bool.eq_iff_iff]; simp only [decide_eq_true_eq, Bool.or_eq_true, Bool.and_eq_true, bne_iff_ne, beq_iff_eq, ne_eq, true_iff, Bool.false_eq_true, false_iff, not_or, not_and]; omega)), rfl⟩
theorem isInNote_any (c : UInt8) (w : World) : Calls Tryz.prog 71 #[.int .u8 c.toNat] w fun e w' => e = .returned (.bool (Lx.isInNote c)) ∧ w' = w := by
  have e : Lx.isInNote c = decide (¬ (c.toNat : Int) = 10) := by
    rw [Bool.eq_iff_iff]; simp [Lx.isInNote, UInt8.le_iff_toNat_le, ← UInt8.toNat_inj]; try omega
  rw [e]; clear e
  go_enter Tryz.func71, Tryz.ntmps71
  go_wp2
  all_goals
    go_ret
    exact ⟨ret_bool (by first | rfl | (rw [Bool.eq_iff_iff]; simp only [decide_eq_true_eq, Bool.or_eq_true, Bool.and_eq_true, bne_iff_ne, beq_iff_eq, ne_eq, true_iff, Bool.false_eq_true, false_iff, not_or, not_and]; done) | (rw [Bool.eq_iff_iff]; simp only [decide_eq_true_eq, Bool.or_eq_true, Bool.and_eq_true, bne_iff_ne, beq_iff_eq, ne_eq, true_iff, Bool.false_eq_true, false_iff, not_or, not_and]; omega)), rfl⟩
theorem isPlain_any (c : UInt8) (w : World) : Calls Tryz.prog 101 #[.int .u8 c.toNat] w fun e w' => e = .returned (.bool (Lx.isPlain c)) ∧ w' = w := by
  have e : Lx.isPlain c = decide (32 ≤ (c.toNat : Int) ∧ (c.toNat : Int) ≤ 126) := by
    rw [Bool.eq_iff_iff]; simp [Lx.isPlain, UInt8.le_iff_toNat_le, ← UInt8.toNat_inj]; try omega
  rw [e]; clear e
  go_enter Tryz.func101, Tryz.ntmps101
  go_wp2
  all_goals
    go_ret
    exact ⟨ret_bool (by first | rfl | (rw [Bool.eq_iff_iff]; simp only [decide_eq_true_eq, Bool.or_eq_true, Bool.and_eq_true, bne_iff_ne, beq_iff_eq, ne_eq, true_iff, Bool.false_eq_true, false_iff, not_or, not_and]; done) | (rw [Bool.eq_iff_iff]; simp only [decide_eq_true_eq, Bool.or_eq_true, Bool.and_eq_true, bne_iff_ne, beq_iff_eq, ne_eq, true_iff, Bool.false_eq_true, false_iff, not_or, not_and]; omega)), rfl⟩
theorem needs_any (c : UInt8) (w : World) : Calls Tryz.prog 122 #[.int .u8 c.toNat] w fun e w' => e = .returned (.bool (Lx.isEsc c)) ∧ w' = w := by
  have e : Lx.isEsc c = decide ((c.toNat : Int) = 34 ∨ (c.toNat : Int) = 92) := by
    rw [Bool.eq_iff_iff]; simp [Lx.isEsc, UInt8.le_iff_toNat_le, ← UInt8.toNat_inj]; try omega
  rw [e]; clear e
  go_enter Tryz.func122, Tryz.ntmps122
  go_wp2
  all_goals
    go_ret
    exact ⟨ret_bool (by first | rfl | (rw [Bool.eq_iff_iff]; simp only [decide_eq_true_eq, Bool.or_eq_true, Bool.and_eq_true, bne_iff_ne, beq_iff_eq, ne_eq, true_iff, Bool.false_eq_true, false_iff, not_or, not_and]; done) | (rw [Bool.eq_iff_iff]; simp only [decide_eq_true_eq, Bool.or_eq_true, Bool.and_eq_true, bne_iff_ne, beq_iff_eq, ne_eq, true_iff, Bool.false_eq_true, false_iff, not_or, not_and]; omega)), rfl⟩
theorem rletter_any (c : UInt8) (w : World) : Calls Tryz.prog 90 #[.int .u8 c.toNat] w fun e w' => e = .returned (.bool (Lx.isLetter c)) ∧ w' = w := by
  have e : Lx.isLetter c = decide ((97 ≤ (c.toNat : Int) ∧ (c.toNat : Int) ≤ 122) ∨ (c.toNat : Int) = 95) := by
    rw [Bool.eq_iff_iff]; simp [Lx.isLetter, UInt8.le_iff_toNat_le, ← UInt8.toNat_inj]; try omega
  rw [e]; clear e
  go_enter Tryz.func90, Tryz.ntmps90
  go_wp2
  all_goals
    go_ret
    exact ⟨ret_bool (by first | rfl | (rw [Bool.eq_iff_iff]; simp only [decide_eq_true_eq, Bool.or_eq_true, Bool.and_eq_true, bne_iff_ne, beq_iff_eq, ne_eq, true_iff, Bool.false_eq_true, false_iff, not_or, not_and]; done) | (rw [Bool.eq_iff_iff]; simp only [decide_eq_true_eq, Bool.or_eq_true, Bool.and_eq_true, bne_iff_ne, beq_iff_eq, ne_eq, true_iff, Bool.false_eq_true, false_iff, not_or, not_and]; omega)), rfl⟩
theorem rdigit_any (c : UInt8) (w : World) : Calls Tryz.prog 91 #[.int .u8 c.toNat] w fun e w' => e = .returned (.bool (Lx.isDigit c)) ∧ w' = w := by
  have e : Lx.isDigit c = decide (48 ≤ (c.toNat : Int) ∧ (c.toNat : Int) ≤ 57) := by
    rw [Bool.eq_iff_iff]; simp [Lx.isDigit, UInt8.le_iff_toNat_le, ← UInt8.toNat_inj]; try omega
  rw [e]; clear e
  go_enter Tryz.func91, Tryz.ntmps91
  go_wp2
  all_goals
    go_ret
    exact ⟨ret_bool (by first | rfl | (rw [Bool.eq_iff_iff]; simp only [decide_eq_true_eq, Bool.or_eq_true, Bool.and_eq_true, bne_iff_ne, beq_iff_eq, ne_eq, true_iff, Bool.false_eq_true, false_iff, not_or, not_and]; done) | (rw [Bool.eq_iff_iff]; simp only [decide_eq_true_eq, Bool.or_eq_true, Bool.and_eq_true, bne_iff_ne, beq_iff_eq, ne_eq, true_iff, Bool.false_eq_true, false_iff, not_or, not_and]; omega)), rfl⟩
theorem isPart_any (c : UInt8) (w : World) : Calls Tryz.prog 96 #[.int .u8 c.toNat] w fun e w' => e = .returned (.bool (Lx.isPart c)) ∧ w' = w := by
  unfold Lx.isPart
  rcases hl : Lx.isLetter c with _ | _
  all_goals
    go_enter Tryz.func96, Tryz.ntmps96
    go_wp2_with (first | (go_at_call 72; refine (isLetter_any _ _).mono ?_; rintro e w' ⟨rfl, rfl⟩) | (go_at_call 74; refine (isDigit_any _ _).mono ?_; rintro e w' ⟨rfl, rfl⟩))
    go_ret
    exact ⟨ret_bool (by simp), rfl⟩

/-- A function value that tests one byte: it answers by p, and does nothing else. -/
def Kind (K : Nat) (p : UInt8 → Bool) : Prop := ∀ (c : UInt8) (w : World), Calls Tryz.prog K #[.int .u8 c.toNat] w fun e w' => e = .returned (.bool (p c)) ∧ w' = w

set_option maxHeartbeats 1000000 in
theorem count_any (s : ByteArray) (K : Nat) (p : UInt8 → Bool) (w : World) (hs : s.size ≤ maxLen) (hK : Kind K p) (hr : ∀ (args : Array Value) (w : World), (callFunc K args).run Tryz.prog w = .ok (.enter K args) w) :
    Calls Tryz.prog 95 #[.string s, .func (.func K) #[] #[]] w fun e w' => e = .returned (.int .i64 ((s.data.toList.takeWhile p).length : Nat)) ∧ w' = w := by
  unfold maxLen at hs
  go_enter Tryz.func95, Tryz.ntmps95
  go_wp2
  go_loop [5] (fun i => ∃ k : Nat, k ≤ (s.data.toList.takeWhile p).length ∧ i = .int .i64 k) (fun i => s.size - (intOf i).toNat)
  case atStart => exact ⟨0, Nat.zero_le _, rfl⟩
  case round =>
    obtain ⟨k, hk, rfl⟩ := hrel
    have hle : (s.data.toList.takeWhile p).length ≤ s.size := by simpa using Lx.tw_le (p := p) s.data.toList
    by_cases hlt : k < s.size
    · by_cases hp : p s[k] = true
      · go_wp2_with (go_at_fn K; refine (hK _ _).mono ?_; rintro e w' ⟨rfl, rfl⟩)
        go_round
        case rel => exact ⟨k + 1, Lx.tw_step hk (by simpa using hlt) (show p (s.data.toList[k]'(by simpa using hlt)) = true from hp), by go_num⟩
        case measure => simp [intOf]; omega
      · have hp' : p s[k] = false := by simpa using hp
        go_wp2_with (go_at_fn K; refine (hK _ _).mono ?_; rintro e w' ⟨rfl, rfl⟩)
        go_ret
        exact ⟨ret_int (by rw [Lx.tw_stop hk (by simpa using hlt) (show p (s.data.toList[k]'(by simpa using hlt)) = false from hp')]), rfl⟩
    · go_wp2
      go_ret
      exact ⟨ret_int (by rw [Lx.tw_end hk (by simpa using hlt)]), rfl⟩
end Go.Proofs.YtifebbdjdllfpaaGreatDoor
