/- What a kind does not have: the program's. -/
import Derived.Test.YtkbplffckkjbfaaVn
namespace Go.Proofs.Ytkbplffckkjbfaa
open Go.RowKit
set_option linter.unusedVariables false
set_option linter.unusedSimpArgs false

theorem int_len0 (n : Nat) : ((n : Int) == 0) = (n == 0) := by rw [Bool.eq_iff_iff]; simp
set_option maxRecDepth 100000 in
set_option maxHeartbeats 2000000 in
theorem isBare_any {B : Nat → Prop} {v : V} {sl : Value} {w : World} (hv : IsW B w v sl) :
    Calls Try.prog 75 #[.agg #[.int .i64 v.k, .int .i64 v.n, .string ⟨v.t.toArray⟩, sl]] w fun r w' => r = .returned (.bool (bareB v)) ∧ Below w.heap.size w w' := by
  obtain ⟨ao, cap, rfl, hc1, hc2⟩ := hv.vs.slice
  obtain ⟨w0, hW, hb0, hsz, d0, d1, d2, d3⟩ := boxed w v (.slice ao v.l.length cap)
  clear hv
  by_cases k1 : v.k = 1
  · have q1 : (v.k == 1) = true := by simp [k1]
    have q2 : (v.k == 2) = false := by simp [k1]
    have q3 : (v.k == 3) = false := by simp [k1]
    have q4 : (v.k == 4) = false := by simp [k1]
    have q5 : (v.k == 5) = false := by simp [k1]
    clear k1
    go_enter Try.func75, Try.ntmps75
    go_wp2_with fail
    all_goals
      go_ret
      exact ⟨ret_bool (by simp_all [bareB, int_len0]), hb0⟩
  by_cases k2 : v.k = 2
  · have q1 : (v.k == 1) = false := by simp [k2]
    have q2 : (v.k == 2) = true := by simp [k2]
    have q3 : (v.k == 3) = false := by simp [k2]
    have q4 : (v.k == 4) = false := by simp [k2]
    have q5 : (v.k == 5) = false := by simp [k2]
    clear k2 k1
    go_enter Try.func75, Try.ntmps75
    go_wp2_with fail
    all_goals
      go_ret
      exact ⟨ret_bool (by simp_all [bareB, int_len0]), hb0⟩
  by_cases k3 : v.k = 3
  · have q1 : (v.k == 1) = false := by simp [k3]
    have q2 : (v.k == 2) = false := by simp [k3]
    have q3 : (v.k == 3) = true := by simp [k3]
    have q4 : (v.k == 4) = false := by simp [k3]
    have q5 : (v.k == 5) = false := by simp [k3]
    clear k3 k1 k2
    go_enter Try.func75, Try.ntmps75
    go_wp2_with fail
    all_goals
      go_ret
      exact ⟨ret_bool (by simp_all [bareB, int_len0]), hb0⟩
  by_cases k4 : v.k = 4
  · have q1 : (v.k == 1) = false := by simp [k4]
    have q2 : (v.k == 2) = false := by simp [k4]
    have q3 : (v.k == 3) = false := by simp [k4]
    have q4 : (v.k == 4) = true := by simp [k4]
    have q5 : (v.k == 5) = false := by simp [k4]
    clear k4 k1 k2 k3
    go_enter Try.func75, Try.ntmps75
    go_wp2_with fail
    all_goals
      go_ret
      exact ⟨ret_bool (by simp_all [bareB, int_len0]), hb0⟩
  by_cases k5 : v.k = 5
  · have q1 : (v.k == 1) = false := by simp [k5]
    have q2 : (v.k == 2) = false := by simp [k5]
    have q3 : (v.k == 3) = false := by simp [k5]
    have q4 : (v.k == 4) = false := by simp [k5]
    have q5 : (v.k == 5) = true := by simp [k5]
    clear k5 k1 k2 k3 k4
    go_enter Try.func75, Try.ntmps75
    go_wp2_with fail
    all_goals
      go_ret
      exact ⟨ret_bool (by simp_all [bareB, int_len0]), hb0⟩
  have q1 : (v.k == 1) = false := by simp [k1]
  have q2 : (v.k == 2) = false := by simp [k2]
  have q3 : (v.k == 3) = false := by simp [k3]
  have q4 : (v.k == 4) = false := by simp [k4]
  have q5 : (v.k == 5) = false := by simp [k5]
  clear k1 k2 k3 k4 k5
  go_enter Try.func75, Try.ntmps75
  go_wp2_with fail
  all_goals
    go_ret
    exact ⟨ret_bool (by simp_all [bareB, int_len0]), hb0⟩
end Go.Proofs.Ytkbplffckkjbfaa
